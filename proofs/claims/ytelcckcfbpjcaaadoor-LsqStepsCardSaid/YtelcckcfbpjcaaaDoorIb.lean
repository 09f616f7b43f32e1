/-
  LSQ's LAW LsqSteps: both queues alike.
-/
import Derived.Test.YtelcckcfbpjcaaaDoorJk
import Derived.Test.YtelcckcfbpjcaaaDoorJl
import Derived.Test.YtelcckcfbpjcaaaDoorJo
import Derived.Test.YtelcckcfbpjcaaaDoorJp
namespace Go.Proofs.YtelcckcfbpjcaaaDoor
open Go Go.RowKit
/-- an access and an entry are one -/
structure Alike (e : Ac) (r : Re) : Prop where
  n : r.n = e.n
  st : r.st = e.st
  pl : r.pl = e.placed
  a : r.a = e.a
  z : r.z = e.z
  hv : r.hv = e.hv
  d : r.d = e.d
  ld : r.ld = e.loaded
  f : ∀ b, b < e.fr.length → r.f b = e.fr.getD b 0
  rt : r.rt = e.rt
/-- what an access keeps -/
structure Ac.Ok (e : Ac) : Prop where
  fz : e.fr = [] ∨ e.fr.length = e.z
  ret : e.rt = true → e.st = true ∧ 0 < e.z ∧ e.hv = true
/-- what a queue keeps -/
structure QS.Inv (S : QS) : Prop where
  asc : ∀ i j, i < j → j < S.on.length → (S.at i).n < (S.at j).n
  pre : ∀ i j, i < j → j < S.on.length → (S.at j).rt = true → (S.at i).rt = true
  ok : ∀ i, i < S.on.length → (S.at i).Ok
  len : S.on.length ≤ S.size
  pos : 0 < S.size
structure Same (S : QS) (R : RS) : Prop where
  size : R.size = S.size
  len : R.on.length = S.on.length
  at' : ∀ i, i < S.on.length → Alike (S.at i) (R.at i)
theorem First.congr {f g : Nat → Bool} {n : Nat} {r : Int} (h : First f n r) (e : ∀ j, j < n → f j = g j) : First g n r := by
  rcases h with ⟨i, h1, h2, h3, h4⟩ | ⟨h1, h2⟩
  · exact Or.inl ⟨i, h1, by rw [← e i h1]; exact h2, fun j hj => by rw [← e j (by omega)]; exact h3 j hj, h4⟩
  · exact Or.inr ⟨fun j hj => by rw [← e j hj]; exact h1 j hj, h2⟩
theorem first_one {f : Nat → Bool} {n i : Nat} (hi : i < n) (h : f i = true) (ho : ∀ j, j < n → j ≠ i → f j = false) : First f n i :=
  Or.inl ⟨i, hi, h, fun j hj => ho j (by omega) (by omega), rfl⟩
theorem first_none {f : Nat → Bool} {n : Nat} (h : ∀ j, j < n → f j = false) : First f n (-1) := Or.inr ⟨h, rfl⟩
/-- a number stands once, or not at all -/
theorem QS.Inv.look {S : QS} (h : S.Inv) (seq : Int) : (∃ i, i < S.on.length ∧ (S.at i).n = seq ∧ ∀ j, j < S.on.length → j ≠ i → (S.at j).n ≠ seq) ∨ (∀ j, j < S.on.length → (S.at j).n ≠ seq) := by
  by_cases q : ∃ i, i < S.on.length ∧ (S.at i).n = seq
  · obtain ⟨i, hi, hn⟩ := q
    refine Or.inl ⟨i, hi, hn, fun j hj hne => ?_⟩
    rcases Nat.lt_or_ge j i with r | r
    · have := h.asc j i r hi
      omega
    · have := h.asc i j (by omega) hj
      omega
  · exact Or.inr fun j hj e => q ⟨j, hj, e⟩
theorem lastI_cut {f : Nat → Bool} (i : Nat) : ∀ n, i ≤ n → (∀ j, i ≤ j → j < n → f j = false) → lastI f n = lastI f i
  | 0, h, _ => by
    obtain rfl : i = 0 := by omega
    rfl
  | n + 1, h, e => by
    by_cases q : i = n + 1
    · rw [q]
    · have := lastI_cut i n (by omega) (fun j h1 h2 => e j h1 (by omega))
      rw [← this]
      show (if f n then (n : Int) else lastI f n) = lastI f n
      rw [e n (by omega) (by omega)]
      rfl
theorem any_congr {f g : Nat → Bool} {n : Nat} (h : ∀ k, k < n → f k = g k) : (List.range n).any f = (List.range n).any g := by
  by_cases q : ∃ k, k < n ∧ f k = true
  · obtain ⟨k, h1, h2⟩ := q
    rw [any_t h1 h2, any_t h1 (by rw [← h k h1]; exact h2)]
  · have hf : ∀ k, k < n → f k = false := fun k hk => by
      cases e : f k
      · rfl
      · exact absurd ⟨k, hk, e⟩ q
    rw [any_f hf, any_f (fun k hk => by rw [← h k hk]; exact hf k hk)]
theorem any_cut {f : Nat → Bool} {i n : Nat} (hi : i ≤ n) (h : ∀ j, i ≤ j → j < n → f j = false) : (List.range n).any f = (List.range i).any f := by
  by_cases q : ∃ k, k < i ∧ f k = true
  · obtain ⟨k, h1, h2⟩ := q
    rw [any_t (Nat.lt_of_lt_of_le h1 hi) h2, any_t h1 h2]
  · have hf : ∀ k, k < i → f k = false := fun k hk => by
      cases e : f k
      · rfl
      · exact absurd ⟨k, hk, e⟩ q
    rw [any_f hf, any_f (fun k hk => ?_)]
    rcases Nat.lt_or_ge k i with r | r
    · exact hf k r
    · exact h k r hk
section
variable {S : QS} {R : RS}
theorem Same.num (s : Same S R) (r : Int) (h : r = -1 ∨ (0 ≤ r ∧ r < S.on.length)) : R.num r = S.num r := by
  unfold RS.num QS.num
  split
  · rfl
  · exact (s.at' r.toNat (by omega)).n
theorem Same.young (s : Same S R) : R.young = S.young := by
  unfold RS.young QS.young QS.num
  rw [s.len]
  by_cases q : S.on.length = 0
  · rw [if_pos q, q, if_pos (by omega)]
  · rw [if_neg q, if_neg (by omega)]
    have e : ((S.on.length : Int) - 1).toNat = S.on.length - 1 := by omega
    rw [e]
    exact (s.at' _ (by omega)).n
theorem Same.act (s : Same S R) (j : Nat) (hj : j < S.on.length) : S.act j = R.act j := by
  unfold QS.act RS.act
  rw [(s.at' j hj).rt]
theorem Same.isN (s : Same S R) (seq : Int) (j : Nat) (hj : j < S.on.length) : R.isN seq j = decide ((S.at j).n = seq) := by
  unfold RS.isN
  rw [(s.at' j hj).n]
theorem Same.src (s : Same S R) (h : S.Inv) (i y : Nat) (hi : i < S.on.length) : S.of (S.at i).n y = lastI (R.src y) i := by
  unfold QS.of
  rw [lastI_cut i S.on.length (by omega) (fun j h1 h2 => ?_)]
  · refine lastI_congr i (fun j hj => ?_)
    have q := s.at' j (by omega)
    unfold QS.src RS.src
    rw [q.st, q.pl, q.a, q.z, decide_eq_true (h.asc j i hj hi)]
    unfold Ac.cov Ac.placed
    by_cases c : (S.at j).a ≤ y ∧ y < (S.at j).a + (S.at j).z
    · rw [decide_eq_true c, decide_eq_true (show 0 < (S.at j).z by omega)]
      simp
    · rw [decide_eq_false c]
      simp
  · unfold QS.src
    have : ¬ (S.at j).n < (S.at i).n := by
      by_cases e : i = j
      · subst e; omega
      · have := h.asc i j (by omega) h2
        omega
    rw [decide_eq_false this]
    simp
theorem Same.ofs (s : Same S R) (h : S.Inv) (i : Nat) (hi : i < S.on.length) : R.ofs i = S.ofs (S.at i) := by
  unfold RS.ofs QS.ofs
  rw [(s.at' i hi).z, (s.at' i hi).a]
  exact List.map_congr_left fun b _ => (s.src h i _ hi).symm
theorem Same.lack (s : Same S R) (r : Int) (h : r = -1 ∨ (0 ≤ r ∧ r < S.on.length)) : R.lack r = S.lack r := by
  unfold RS.lack QS.lack
  by_cases q : r = -1
  · rw [q]; rfl
  · rw [(s.at' r.toNat (by omega)).hv]
theorem Same.lacks (s : Same S R) (h : S.Inv) (i : Nat) (hi : i < S.on.length) : R.lacks i = S.lacks (S.at i) := by
  unfold RS.lacks QS.lacks
  rw [(s.at' i hi).z, s.ofs h i hi]
  exact any_congr fun b hb => s.lack _ (S.ofs_range _ b hb)
theorem Same.unks (s : Same S R) (h : S.Inv) (i : Nat) (hi : i < S.on.length) : R.unks i = S.unks (S.at i) := by
  unfold RS.unks QS.unks
  rw [any_cut (i := i) (n := S.on.length) (by omega) (fun j h1 h2 => ?_)]
  · refine any_congr fun j hj => ?_
    have q := s.at' j (by omega)
    unfold QS.unk RS.unk
    rw [q.st, q.pl, decide_eq_true (h.asc j i hj hi)]
    simp
  · unfold QS.unk
    have : ¬ (S.at j).n < (S.at i).n := by
      by_cases e : i = j
      · subst e; omega
      · have := h.asc i j (by omega) h2
        omega
    rw [decide_eq_false this]
    simp
theorem Same.gvN (s : Same S R) (e : Ac) (l : List Int) (hl : ∀ b, b < l.length → l.getD b 0 = -1 ∨ (0 ≤ l.getD b 0 ∧ l.getD b 0 < S.on.length)) : ∀ b, b ≤ l.length → R.gvN e.a l b = S.gvN e l b
  | 0, _ => rfl
  | b + 1, h => by
    unfold RS.gvN QS.gvN
    rw [s.gvN e l hl b (by omega)]
    by_cases q : l.getD b 0 = -1
    · rw [if_pos q, if_pos q]
    · rw [if_neg q, if_neg q]
      have r := s.at' (l.getD b 0).toNat (by have := hl b (by omega); omega)
      unfold RS.byteOf QS.byteOf
      rw [r.d, r.a]
theorem Same.found (s : Same S R) (h : S.Inv) (i : Nat) (hi : i < S.on.length) (bold : Bool) : R.found i bold = S.found (S.at i) bold := by
  unfold RS.found QS.found QS.waits
  rw [s.unks h i hi, s.lacks h i hi, s.ofs h i hi, (s.at' i hi).z, (s.at' i hi).a, Bool.or_comm]
  rw [s.gvN (S.at i) _ (fun b hb => S.ofs_range _ b (by rw [S.ofs_len] at hb; exact hb)) (S.at i).z (by rw [S.ofs_len]; exact Nat.le_refl _)]
theorem Alike.done {e : Ac} {r : Re} (k : Alike e r) : r.done = e.done := by
  unfold Re.done Ac.done
  rw [k.st, k.pl, k.hv, k.ld]
theorem Alike.spo {e : Ac} {r : Re} (k : Alike e r) (o : e.Ok) (y : Nat) : r.spo ((y : Int) - (y : Int) % 16) = (e.line y && e.mem) := by
  unfold Re.spo Ac.mem
  rw [k.ld, k.z]
  unfold Ac.loaded
  rcases o.fz with q | q
  · rw [q]
    simp
  · by_cases hz : 0 < e.z
    · rw [decide_eq_true (by omega), q, Bool.true_and]
      by_cases hl : e.a / 16 = y / 16
      · unfold Ac.line
        rw [decide_eq_true hl, Bool.true_and]
        refine any_congr fun b hb => ?_
        unfold Re.spo1
        rw [k.f b (by omega), k.a]
        have e1 : (e.a : Int) - (e.a : Int) % 16 = (y : Int) - (y : Int) % 16 := by omega
        rw [decide_eq_true e1, Bool.and_true]
        exact decide_eq_decide.2 eq_comm
      · unfold Ac.line
        rw [decide_eq_false hl, Bool.false_and]
        refine any_f fun b hb => ?_
        unfold Re.spo1
        rw [k.a]
        have e1 : ¬ (e.a : Int) - (e.a : Int) % 16 = (y : Int) - (y : Int) % 16 := by omega
        rw [decide_eq_false e1, Bool.and_false]
    · have hz0 : e.z = 0 := by omega
      have hf : e.fr.length = 0 := by omega
      rw [hf]
      simp
theorem Alike.early {e s : Ac} {r : Re} (k : Alike e r) (o : e.Ok) : r.bad s.a s.z s.n = e.early s := by
  unfold Re.bad Ac.early
  rw [k.ld, k.z]
  unfold Ac.loaded
  rcases o.fz with q | q
  · rw [q]
    simp
  · by_cases hz : 0 < e.z
    · rw [decide_eq_true (by omega), q, Bool.true_and]
      refine any_congr fun b hb => ?_
      unfold Re.bad1 Ac.early1 Ac.cov
      rw [k.f b (by omega), k.a]
      by_cases c1 : s.a ≤ e.a + b
      · by_cases c2 : e.a + b < s.a + s.z
        · rw [decide_eq_true c1, decide_eq_true c2, decide_eq_true (And.intro c1 c2)]
          simp
        · have c3 : ¬ (s.a ≤ e.a + b ∧ e.a + b < s.a + s.z) := fun q => c2 q.2
          rw [decide_eq_true c1, decide_eq_false c2, decide_eq_false c3]
          simp
      · have c3 : ¬ (s.a ≤ e.a + b ∧ e.a + b < s.a + s.z) := fun q => c1 q.1
        rw [decide_eq_false c1, decide_eq_false c3]
        simp
    · have hf : e.fr.length = 0 := by omega
      rw [hf]
      simp
/-- one entry of each is put in another's place -/
theorem Same.set (s : Same S R) (i : Nat) (hi : i < S.on.length) {y : Ac} {x : Re} (k : Alike y x) : Same (S.set i y) (R.set i x) := by
  refine ⟨s.size, by rw [RS.set_len, QS.set_len]; exact s.len, fun j hj => ?_⟩
  rw [QS.set_len] at hj
  by_cases e : j = i
  · subst e
    rw [S.at_set j y hi, R.at_set j x (by rw [s.len]; exact hi)]
    exact k
  · rw [S.at_set' i j y e, R.at_set' i j x e]
    exact s.at' j hj
theorem QS.Inv.set (h : S.Inv) (i : Nat) (hi : i < S.on.length) {y : Ac} (hn : y.n = (S.at i).n) (hr : y.rt = (S.at i).rt ∨ (y.rt = true ∧ ∀ j, j < i → (S.at j).rt = true)) (ok : y.Ok) : (S.set i y).Inv := by
  have hl := S.set_len i y
  refine ⟨fun a b hab hb => ?_, fun a b hab hb hrt => ?_, fun a ha => ?_, by rw [hl]; exact h.len, h.pos⟩
  · rw [hl] at hb
    have e : ∀ c, c < S.on.length → ((S.set i y).at c).n = (S.at c).n := fun c hc => by
      by_cases q : c = i
      · subst q; rw [S.at_set c y hi, hn]
      · rw [S.at_set' i c y q]
    rw [e a (by omega), e b hb]
    exact h.asc a b hab hb
  · rw [hl] at hb
    by_cases qb : b = i
    · subst qb
      rw [S.at_set b y hi] at hrt
      rw [S.at_set' b a y (by omega)]
      rcases hr with hr | hr
      · rw [hr] at hrt
        exact h.pre a b hab hb hrt
      · exact hr.2 a hab
    · rw [S.at_set' i b y qb] at hrt
      by_cases qa : a = i
      · subst qa
        rw [S.at_set a y hi]
        rcases hr with hr | hr
        · rw [hr]
          exact h.pre a b hab hb hrt
        · exact hr.1
      · rw [S.at_set' i a y qa]
        exact h.pre a b hab hb hrt
  · rw [hl] at ha
    by_cases q : a = i
    · subst q; rw [S.at_set a y hi]; exact ok
    · rw [S.at_set' i a y q]; exact h.ok a ha
theorem Same.push (s : Same S R) (seq : Int) (st : Bool) : Same ⟨S.size, S.on ++ [newA seq st]⟩ ⟨R.size, R.on ++ [newE seq st]⟩ := by
  refine ⟨s.size, by simp [s.len], fun j hj => ?_⟩
  have hj' : j < (S.on ++ [newA seq st]).length := hj
  rw [List.length_append, List.length_singleton] at hj'
  by_cases e : j = S.on.length
  · subst e
    have e2 := R.at_last (newE seq st)
    rw [s.len] at e2
    rw [S.at_last, e2]
    exact ⟨rfl, rfl, rfl, rfl, rfl, rfl, rfl, rfl, fun b hb => by simp [newA] at hb, rfl⟩
  · rw [S.at_push _ j (by omega), R.at_push _ j (by rw [s.len]; omega)]
    exact s.at' j (by omega)
theorem QS.Inv.push (h : S.Inv) (seq : Int) (st : Bool) (hy : ¬ seq ≤ S.young) (hf : S.on.length < S.size) : QS.Inv ⟨S.size, S.on ++ [newA seq st]⟩ := by
  have hl : (S.on ++ [newA seq st]).length = S.on.length + 1 := by simp
  have hb : ∀ j, j < S.on.length → (S.at j).n < seq := fun j hj => by
    have e : S.young = (S.at (S.on.length - 1)).n := by
      unfold QS.young QS.num
      rw [if_neg (by omega)]
      have e : ((S.on.length : Int) - 1).toNat = S.on.length - 1 := by omega
      rw [e]
    rw [e] at hy
    by_cases q : j = S.on.length - 1
    · subst q; omega
    · have := h.asc j (S.on.length - 1) (by omega) (by omega)
      omega
  refine ⟨fun a b hab hb' => ?_, fun a b hab hb' hrt => ?_, fun a ha => ?_, by show (S.on ++ [newA seq st]).length ≤ S.size; omega, h.pos⟩
  · have hb2 : b < (S.on ++ [newA seq st]).length := hb'
    rw [hl] at hb2
    rw [S.at_push _ a (by omega)]
    by_cases q : b = S.on.length
    · subst q
      rw [S.at_last]
      exact hb a (by omega)
    · rw [S.at_push _ b (by omega)]
      exact h.asc a b hab (by omega)
  · have hb2 : b < (S.on ++ [newA seq st]).length := hb'
    rw [hl] at hb2
    rw [S.at_push _ a (by omega)]
    by_cases q : b = S.on.length
    · subst q
      rw [S.at_last] at hrt
      simp [newA] at hrt
    · rw [S.at_push _ b (by omega)] at hrt
      exact h.pre a b hab (by omega) hrt
  · have ha2 : a < (S.on ++ [newA seq st]).length := ha
    rw [hl] at ha2
    by_cases q : a = S.on.length
    · subst q
      rw [S.at_last]
      exact ⟨Or.inl rfl, fun q => by simp [newA] at q⟩
    · rw [S.at_push _ a (by omega)]
      exact h.ok a (by omega)
/-- a part of a queue, in its order -/
theorem QS.Inv.part (h : S.Inv) {T : QS} (hs : T.size = S.size) (hl : T.on.length ≤ S.on.length) (f : Nat → Nat) (hf : ∀ j, j < T.on.length → f j < S.on.length) (mono : ∀ a b, a < b → b < T.on.length → f a < f b) (hn : ∀ j, j < T.on.length → (T.at j).n = (S.at (f j)).n ∧ (T.at j).rt = (S.at (f j)).rt ∧ (T.at j).Ok) : T.Inv := by
  refine ⟨fun a b hab hb => ?_, fun a b hab hb hrt => ?_, fun a ha => (hn a ha).2.2, by rw [hs]; exact Nat.le_trans hl h.len, by rw [hs]; exact h.pos⟩
  · rw [(hn a (by omega)).1, (hn b hb).1]
    exact h.asc _ _ (mono a b hab hb) (hf b hb)
  · rw [(hn b hb).2.1] at hrt
    rw [(hn a (by omega)).2.1]
    exact h.pre _ _ (mono a b hab hb) (hf b hb) hrt
theorem skip_mono {i a b : Nat} (h : a < b) : skip i a < skip i b := by
  unfold skip
  split <;> split <;> omega
theorem QS.Inv.del (h : S.Inv) (i : Nat) (hi : i < S.on.length) : (S.del i).Inv := by
  have hl := S.del_len i hi
  refine h.part (T := S.del i) rfl (by omega) (skip i) (fun j hj => skip_lt (by omega)) (fun a b q _ => skip_mono q) (fun j hj => ?_)
  rw [S.at_del]
  exact ⟨rfl, rfl, h.ok _ (skip_lt (by omega))⟩
theorem Same.del (s : Same S R) (i : Nat) (hi : i < S.on.length) : Same (S.del i) (R.del i) := by
  have hl := S.del_len i hi
  refine ⟨s.size, by rw [R.del_len i (by rw [s.len]; exact hi), hl, s.len], fun j hj => ?_⟩
  rw [S.at_del, R.at_del]
  exact s.at' _ (skip_lt (by omega))
theorem QS.Inv.cut (h : S.Inv) (i : Nat) (hi : i ≤ S.on.length) : (S.cut i).Inv := by
  have hl := S.cut_len i hi
  refine h.part (T := S.cut i) rfl (by omega) id (fun j hj => by show j < _; omega) (fun a b q _ => q) (fun j hj => ?_)
  rw [S.at_cut i j (by omega)]
  exact ⟨rfl, rfl, h.ok _ (by omega)⟩
theorem Same.cut (s : Same S R) (i : Nat) (hi : i ≤ S.on.length) : Same (S.cut i) (R.cut i) := by
  have hl := S.cut_len i hi
  refine ⟨s.size, by rw [R.cut_len i (by rw [s.len]; exact hi), hl], fun j hj => ?_⟩
  rw [S.at_cut i j (by omega), R.at_cut i j (by omega)]
  exact s.at' _ (by omega)
theorem QS.memT_lo (S : QS) (n : Int) (j : Nat) (h : j < S.on.length) : (S.memT n S.on.length).at j = (S.at j).wr n := by
  unfold QS.memT QS.at
  simp [List.getD_eq_getElem?_getD, h]
theorem Re.memB_f (e : Re) (n : Int) (b : Nat) : ∀ t, (e.memB n t).f b = if b < t ∧ e.f b = n ∧ e.ld = true then -1 else e.f b
  | 0 => by simp [Re.memB]
  | t + 1 => by
    have ih := Re.memB_f e n b t
    unfold Re.memB
    by_cases q : b = t
    · subst q
      have ih' : (e.memB n b).f b = e.f b := by rw [ih, if_neg (by omega)]
      rw [ih']
      by_cases c : e.f b = n ∧ e.ld = true
      · rw [if_pos c, if_pos ⟨by omega, c⟩]
        simp [Re.setf]
      · rw [if_neg c, if_neg (fun q => c q.2), ih']
    · have e1 : (b < t + 1 ∧ e.f b = n ∧ e.ld = true) ↔ (b < t ∧ e.f b = n ∧ e.ld = true) := by
        constructor
        · rintro ⟨h1, h2⟩; exact ⟨by omega, h2⟩
        · rintro ⟨h1, h2⟩; exact ⟨by omega, h2⟩
      simp only [e1]
      rw [← ih]
      split
      · simp [Re.setf, q]
      · rfl
theorem Re.memB_same (e : Re) (n : Int) : ∀ t, ∃ g, e.memB n t = { e with f := g }
  | 0 => ⟨e.f, rfl⟩
  | t + 1 => by
    obtain ⟨g, hg⟩ := Re.memB_same e n t
    unfold Re.memB
    rw [hg]
    split
    · exact ⟨_, rfl⟩
    · exact ⟨_, rfl⟩
theorem Alike.wr {e : Ac} {r : Re} (k : Alike e r) (n : Int) (h4 : e.fr.length ≤ 4) : Alike (e.wr n) (r.memB n 4) := by
  have hf := fun b => r.memB_f n b 4
  obtain ⟨g, hg⟩ := r.memB_same n 4
  rw [hg] at hf ⊢
  have hl : (e.wr n).fr = e.fr.map (toMem n) := rfl
  refine ⟨k.n, k.st, k.pl, k.a, k.z, k.hv, k.d, ?_, fun b hb => ?_, k.rt⟩
  · show r.ld = _
    rw [k.ld]
    unfold Ac.loaded
    rw [hl, List.length_map]
  · rw [hl, List.length_map] at hb
    have h1 := hf b
    have e1 : e.fr.getD b 0 = e.fr[b] := by simp [List.getD_eq_getElem?_getD, hb]
    have e2 : (e.wr n).fr.getD b 0 = toMem n (e.fr.getD b 0) := by
      rw [hl, e1]
      simp [List.getD_eq_getElem?_getD, hb]
    have hld : r.ld = true := by
      rw [k.ld]
      unfold Ac.loaded
      exact decide_eq_true (by omega)
    show g b = _
    have h2 : g b = if b < 4 ∧ r.f b = n ∧ r.ld = true then -1 else r.f b := h1
    rw [h2, e2, k.f b hb]
    unfold toMem
    by_cases c : e.fr.getD b 0 = n
    · rw [if_pos c, if_pos ⟨by omega, c, hld⟩]
    · rw [if_neg c, if_neg (fun q => c q.2.1)]
theorem QS.drained_len (S : QS) (h : 0 < S.on.length) : S.drained.on.length = S.on.length - 1 := by
  have hl := S.del_len 0 h
  unfold QS.drained
  rw [QS.memT_len _ _ _ (by omega), hl]
theorem QS.drained_at (S : QS) (h : 0 < S.on.length) (j : Nat) (hj : j < S.on.length - 1) : S.drained.at j = (S.at (j + 1)).wr (S.at 0).n := by
  have hl := S.del_len 0 h
  unfold QS.drained
  have e := QS.memT_lo (S.del 0) (S.at 0).n j (by omega)
  rw [hl] at e
  rw [e, S.at_del]
  rfl
theorem Same.drained (s : Same S R) (h : 0 < S.on.length) (h4 : ∀ i, i < S.on.length → (S.at i).fr.length ≤ 4) : Same S.drained R.drained := by
  have hR : 0 < R.on.length := by rw [s.len]; exact h
  have hl := S.drained_len h
  have hrl := R.del_len 0 hR
  have hln := s.len
  refine ⟨?_, ?_, fun j hj => ?_⟩
  · unfold RS.drained QS.drained
    have : ∀ t n, ((R.del 0).memT n t).size = R.size := fun t n => by
      induction t with
      | zero => rfl
      | succ t ih => exact ih
    rw [this]
    exact s.size
  · unfold RS.drained
    rw [RS.memT_len, hrl, hl, s.len]
  · rw [hl] at hj
    rw [S.drained_at h j hj]
    unfold RS.drained
    rw [RS.memT_lo _ _ j (by omega) _ (by omega) (by omega), R.at_del, (s.at' 0 h).n]
    exact (s.at' (j + 1) (by omega)).wr _ (h4 _ (by omega))
theorem QS.Inv.drained (h : S.Inv) (h0 : 0 < S.on.length) : S.drained.Inv := by
  have hl := S.drained_len h0
  refine h.part (T := S.drained) rfl (by omega) (fun j => j + 1) (fun j hj => by show j + 1 < _; omega) (fun a b q _ => by show a + 1 < b + 1; omega) (fun j hj => ?_)
  rw [S.drained_at h0 j (by omega)]
  have o := h.ok (j + 1) (by omega)
  refine ⟨rfl, rfl, ⟨?_, o.ret⟩⟩
  rcases o.fz with q | q
  · exact Or.inl (by show (S.at (j + 1)).fr.map _ = []; rw [q]; rfl)
  · exact Or.inr (by show ((S.at (j + 1)).fr.map _).length = _; rw [List.length_map]; exact q)
theorem RS.frT_f (R : RS) (i b : Nat) : ∀ t, b < t → (R.frT i t).f b = R.srcN i ((R.at i).a + b)
  | 0, h => by omega
  | t + 1, h => by
    unfold RS.frT
    by_cases q : b = t
    · subst q; simp [Re.setf]
    · simp only [Re.setf, if_neg q]
      exact RS.frT_f R i b t (by omega)
theorem RS.frT_eq (R : RS) (i : Nat) : ∀ t, ∃ g, R.frT i t = { R.at i with f := g }
  | 0 => ⟨_, rfl⟩
  | t + 1 => by
    obtain ⟨g, hg⟩ := RS.frT_eq R i t
    unfold RS.frT
    rw [hg]
    exact ⟨_, rfl⟩
theorem Same.take (s : Same S R) (h : S.Inv) (i : Nat) (hi : i < S.on.length) (hz : 0 < (S.at i).z) (h4 : (S.at i).z ≤ 4) (fb : Option Nat) (fc : Nat) : Alike ((S.at i).withF (S.nums (S.at i)) fb fc) { R.frT i 4 with ld := true } := by
  have k := s.at' i hi
  have hf := fun b => R.frT_f i b 4
  obtain ⟨g, hg⟩ := R.frT_eq i 4
  rw [hg] at hf ⊢
  refine ⟨k.n, k.st, k.pl, k.a, k.z, k.hv, k.d, ?_, fun b hb => ?_, k.rt⟩
  · show true = decide (0 < (S.nums (S.at i)).length)
    rw [S.nums_len, decide_eq_true hz]
  · have hb' : b < (S.nums (S.at i)).length := hb
    rw [S.nums_len] at hb'
    have h1 : g b = R.srcN i ((R.at i).a + b) := hf b (by omega)
    show g b = (S.nums (S.at i)).getD b 0
    rw [h1]
    unfold RS.srcN
    rw [k.a, ← s.src h i _ hi]
    have e1 : (S.nums (S.at i)).getD b 0 = S.num ((S.ofs (S.at i)).getD b 0) := by
      have hl := S.ofs_len (S.at i)
      unfold QS.nums
      simp [List.getD_eq_getElem?_getD, hl, hb']
    rw [e1, S.ofs_at _ b hb']
    refine s.num _ ?_
    have := S.ofs_range (S.at i) b hb'
    rw [S.ofs_at _ b hb'] at this
    exact this
/-- where a squash cuts -/
theorem QS.Inv.where' (h : S.Inv) (af : Int) : ∃ i, i ≤ S.on.length ∧ (∀ j, j < i → S.squ af j = false) ∧ ∀ j, i ≤ j → j < S.on.length → S.squ af j = true := by
  have mono : ∀ i j, i < j → j < S.on.length → S.squ af i = true → S.squ af j = true := fun i j hij hj q => by
    unfold QS.squ at q ⊢
    rw [Bool.and_eq_true, decide_eq_true_eq, Bool.not_eq_true'] at q ⊢
    refine ⟨by have := h.asc i j hij hj; omega, ?_⟩
    cases e : (S.at j).rt
    · rfl
    · rw [h.pre i j hij hj e] at q
      simp at q
  have : ∀ n, n ≤ S.on.length → ∃ i, i ≤ n ∧ (∀ j, j < i → S.squ af j = false) ∧ ∀ j, i ≤ j → j < n → S.squ af j = true := by
    intro n
    induction n with
    | zero => exact fun _ => ⟨0, Nat.le_refl _, fun j hj => by omega, fun j _ hj => by omega⟩
    | succ n ih =>
      intro hn
      obtain ⟨i, h1, h2, h3⟩ := ih (by omega)
      by_cases q : i = n
      · subst q
        cases e : S.squ af i
        · exact ⟨i + 1, Nat.le_refl _, fun j hj => by
            rcases Nat.lt_or_ge j i with r | r
            · exact h2 j r
            · obtain rfl : j = i := by omega
              exact e, fun j h4 h5 => by omega⟩
        · exact ⟨i, by omega, h2, fun j h4 h5 => by
            obtain rfl : j = i := by omega
            exact e⟩
      · refine ⟨i, by omega, h2, fun j h4 h5 => ?_⟩
        by_cases r : j = n
        · subst r
          exact mono i j (by omega) (by omega) (h3 i (Nat.le_refl _) (by omega))
        · exact h3 j h4 (by omega)
  exact this _ (Nat.le_refl _)
theorem Same.squ (s : Same S R) (af : Int) (j : Nat) (hj : j < S.on.length) : R.squ af j = S.squ af j := by
  unfold RS.squ QS.squ
  rw [(s.at' j hj).n, (s.at' j hj).rt]
theorem Same.top (s : Same S R) : R.top = S.top := by
  unfold RS.top QS.top
  rw [s.len]
  by_cases q : 0 < S.on.length
  · rw [(s.at' 0 q).rt]
  · rw [decide_eq_false q]
    rfl
end
end Go.Proofs.YtelcckcfbpjcaaaDoor
