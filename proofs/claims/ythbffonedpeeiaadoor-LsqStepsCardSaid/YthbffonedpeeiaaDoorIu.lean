import Derived.Test.YthbffonedpeeiaaDoorJj
import Derived.Test.YthbffonedpeeiaaDoorKc
import Derived.Test.YthbffonedpeeiaaDoorJk
import Derived.Test.YthbffonedpeeiaaDoorJl
import Derived.Test.YthbffonedpeeiaaDoorJo
import Derived.Test.YthbffonedpeeiaaDoorJp
import Derived.Test.YthbffonedpeeiaaDoorJm
/-
  LSQ's LAW LsqSteps: its own helpers: told, found, first.
-/
namespace Go.Proofs.YthbffonedpeeiaaDoor
open Go Go.RowKit
def handleAt (w : World) : Prop := w.cell? ⟨0, 0, none⟩ = some (.iface 129 (.agg #[.pointer (some ⟨1, 25, none⟩)]))
theorem ltold_nil (w : World) : Calls Tryd.prog 7 #[.nilIface, .int .i64 0] w fun e w' => e = .returned (.bool true) ∧ Below w.heap.size w w' := by
  go_enter Tryd.func7, Tryd.ntmps7
  go_wp2_with (go_at_call 24; refine (told_nil _).mono ?_; rintro e w1 ⟨rfl, hb⟩; have HB := Hid.in hb; clear hb)
  go_ret
  exact ⟨rfl, HB.out⟩
theorem ltold_err (k : Int) (w : World) (hg : handleAt w) : Calls Tryd.prog 7 #[errV k, .int .i64 k] w fun e w' => e = .returned (.bool true) ∧ Below w.heap.size w w' := by
  have HG := Hid.in hg
  clear hg
  unfold errV
  go_enter Tryd.func7, Tryd.ntmps7
  go_wp2_with (go_at_call 24; refine (told_err k _ HG.out).mono ?_; rintro e w1 ⟨rfl, hb⟩; have HB := Hid.in hb; clear hb)
  go_ret
  exact ⟨by simp, HB.out⟩
def errOf (er : Int) : Value := if er = 0 then .nilIface else errV er
theorem errOf_ne {er : Int} (h : er ≠ 0) : errOf er = errV er := by simp [errOf, h]
theorem ltold_of (er : Int) (w : World) (hg : handleAt w) : Calls Tryd.prog 7 #[errOf er, .int .i64 er] w fun e w' => e = .returned (.bool true) ∧ Below w.heap.size w w' := by
  unfold errOf
  split
  · rename_i e
    subst e
    exact ltold_nil w
  · exact ltold_err er w hg
theorem ptold_of (er : Int) (w : World) (hg : handleAt w) : Calls Tryd.prog 24 #[errOf er] w fun e w' => e = .returned (.int .i64 er) ∧ Below w.heap.size w w' := by
  unfold errOf
  split
  · rename_i e
    subst e
    exact told_nil w
  · exact told_err er w hg
set_option maxRecDepth 100000 in
set_option maxHeartbeats 1000000 in
theorem found_same (x : Bool) (y z : Int) (w : World) : Calls Tryd.prog 16 #[.agg #[.bool x, .int .i64 y, .int .u32 z], .agg #[.bool x, .int .i64 y, .int .u32 z]] w fun e w' => e = .returned (.bool true) ∧ Below w.heap.size w w' := by
  go_enter Tryd.func16, Tryd.ntmps16
  cases x
  · go_wp2
    go_ret
    exact ⟨rfl, ((Below.refl _ _).alloc (Nat.le_refl _) _).alloc (by simp) _⟩
  · go_wp2
    go_ret
    exact ⟨rfl, ((Below.refl _ _).alloc (Nat.le_refl _) _).alloc (by simp) _⟩
set_option maxRecDepth 100000 in
set_option maxHeartbeats 1000000 in
theorem lfirst_any (B p : Nat) (v : Value) (S : RS) (w : World) (k : Rm w B p v S) : Calls Tryd.prog 19 #[.pointer (some ⟨p, 0, none⟩)] w fun e w' => ∃ r, e = .returned (.int .i64 (S.num r)) ∧ First S.act S.on.length r ∧ w' = w := by
  obtain ⟨hp, -, c1, -⟩ := k.cells
  have hs := k.small.1
  obtain ⟨q, cap, hv, -, -⟩ := own_rrow k.l
  rw [hv] at c1
  have HK := Hid.in k
  have HV := Hid.in hv
  obtain ⟨m, hm⟩ : ∃ m, S.on.length = m := ⟨_, rfl⟩
  have HM := Hid.in hm
  rw [hm] at c1 hs ⊢
  clear k hv hm
  go_enter Tryd.func19, Tryd.ntmps19
  go_wp2
  go_loopw [3] (fun u wr => ∃ i : Nat, u = .int .i64 i ∧ i ≤ m ∧ (∀ j, j < i → S.act j = false) ∧ w = wr) (fun v _ => 33 - (intOf v).toNat)
  case atStart => exact ⟨0, rfl, by omega, fun j hj => by omega, rfl⟩
  case round =>
    obtain ⟨i, rfl, hi, hno, rfl⟩ := hrel
    have HN := Hid.in hno
    clear hno
    by_cases him : i < m
    · obtain ⟨g, cap', hv', -, -, -, hrow⟩ := HK.out.rows i (by rw [HM.out]; exact him)
      rw [HV.out] at hv'
      cases hv'
      obtain ⟨-, x2, -⟩ := hrow w (Below.refl _ _)
      obtain ⟨y0, -, -, -, -, -, -, -, y12⟩ := rrow_cells x2
      obtain ⟨x, hx⟩ : ∃ x, (S.at i).rt = x := ⟨_, rfl⟩
      rw [hx] at y12
      have HX := Hid.in hx
      obtain ⟨n, hn⟩ : ∃ n, (S.at i).n = n := ⟨_, rfl⟩
      rw [hn] at y0
      have HNN := Hid.in hn
      have hmul : (i : Int) * 13 = ((i * 13 : Nat) : Int) := by omega
      clear hrow x2 hx hn
      cases x
      · go_wp2
        go_ret
        refine ⟨i, ?_, Or.inl ⟨i, him, by unfold RS.act; rw [HX.out]; rfl, HN.out, rfl⟩, rfl⟩
        unfold RS.num
        rw [if_neg (by omega), Int.toNat_natCast, HNN.out]
        rfl
      · go_wp2
        go_roundw
        case rel =>
          refine ⟨i + 1, by simp, by omega, fun j hj => ?_, trivial⟩
          rcases Nat.lt_or_ge j i with q | q
          · exact HN.out j q
          · obtain rfl : j = i := by omega
            unfold RS.act
            rw [HX.out]
            rfl
        case measure =>
          simp [intOf]
          omega
    · obtain rfl : i = m := by omega
      go_wp2
      go_ret
      exact ⟨-1, rfl, Or.inr ⟨HN.out, rfl⟩, rfl⟩
end Go.Proofs.YthbffonedpeeiaaDoor
/-
  LSQ's LAW LsqSteps: both queues alike.
-/
namespace Go.Proofs.YthbffonedpeeiaaDoor
open Go Go.RowKit
/-- an access and an entry are one -/
structure Alike (e : Ac) (r : Re) : Prop where
  n : r.n = e.n
  st : r.st = e.st
  pl : r.pl = e.placed
  a : r.a = e.a
  z : r.z = e.z
  hv : r.hv = e.hv
  d : r.d = e.d
  ld : r.ld = e.loaded
  f : ∀ b, b < e.fr.length → r.f b = e.fr.getD b 0
  rt : r.rt = e.rt
/-- what an access keeps -/
structure Ac.Ok (e : Ac) : Prop where
  fz : e.fr = [] ∨ e.fr.length = e.z
  ret : e.rt = true → e.st = true ∧ 0 < e.z ∧ e.hv = true
/-- what a queue keeps -/
structure QS.Inv (S : QS) : Prop where
  asc : ∀ i j, i < j → j < S.on.length → (S.at i).n < (S.at j).n
  pre : ∀ i j, i < j → j < S.on.length → (S.at j).rt = true → (S.at i).rt = true
  ok : ∀ i, i < S.on.length → (S.at i).Ok
  len : S.on.length ≤ S.size
  pos : 0 < S.size
structure Same (S : QS) (R : RS) : Prop where
  size : R.size = S.size
  len : R.on.length = S.on.length
  at' : ∀ i, i < S.on.length → Alike (S.at i) (R.at i)
theorem First.congr {f g : Nat → Bool} {n : Nat} {r : Int} (h : First f n r) (e : ∀ j, j < n → f j = g j) : First g n r := by
  rcases h with ⟨i, h1, h2, h3, h4⟩ | ⟨h1, h2⟩
  · exact Or.inl ⟨i, h1, by rw [← e i h1]; exact h2, fun j hj => by rw [← e j (by omega)]; exact h3 j hj, h4⟩
  · exact Or.inr ⟨fun j hj => by rw [← e j hj]; exact h1 j hj, h2⟩
theorem first_one {f : Nat → Bool} {n i : Nat} (hi : i < n) (h : f i = true) (ho : ∀ j, j < n → j ≠ i → f j = false) : First f n i :=
  Or.inl ⟨i, hi, h, fun j hj => ho j (by omega) (by omega), rfl⟩
theorem first_none {f : Nat → Bool} {n : Nat} (h : ∀ j, j < n → f j = false) : First f n (-1) := Or.inr ⟨h, rfl⟩
/-- a number stands once, or not at all -/
theorem QS.Inv.look {S : QS} (h : S.Inv) (seq : Int) : (∃ i, i < S.on.length ∧ (S.at i).n = seq ∧ ∀ j, j < S.on.length → j ≠ i → (S.at j).n ≠ seq) ∨ (∀ j, j < S.on.length → (S.at j).n ≠ seq) := by
  by_cases q : ∃ i, i < S.on.length ∧ (S.at i).n = seq
  · obtain ⟨i, hi, hn⟩ := q
    refine Or.inl ⟨i, hi, hn, fun j hj hne => ?_⟩
    rcases Nat.lt_or_ge j i with r | r
    · have := h.asc j i r hi
      omega
    · have := h.asc i j (by omega) hj
      omega
  · exact Or.inr fun j hj e => q ⟨j, hj, e⟩
theorem lastI_cut {f : Nat → Bool} (i : Nat) : ∀ n, i ≤ n → (∀ j, i ≤ j → j < n → f j = false) → lastI f n = lastI f i
  | 0, h, _ => by
    obtain rfl : i = 0 := by omega
    rfl
  | n + 1, h, e => by
    by_cases q : i = n + 1
    · rw [q]
    · have := lastI_cut i n (by omega) (fun j h1 h2 => e j h1 (by omega))
      rw [← this]
      show (if f n then (n : Int) else lastI f n) = lastI f n
      rw [e n (by omega) (by omega)]
      rfl
theorem any_congr {f g : Nat → Bool} {n : Nat} (h : ∀ k, k < n → f k = g k) : (List.range n).any f = (List.range n).any g := by
  by_cases q : ∃ k, k < n ∧ f k = true
  · obtain ⟨k, h1, h2⟩ := q
    rw [any_t h1 h2, any_t h1 (by rw [← h k h1]; exact h2)]
  · have hf : ∀ k, k < n → f k = false := fun k hk => by
      cases e : f k
      · rfl
      · exact absurd ⟨k, hk, e⟩ q
    rw [any_f hf, any_f (fun k hk => by rw [← h k hk]; exact hf k hk)]
theorem any_cut {f : Nat → Bool} {i n : Nat} (hi : i ≤ n) (h : ∀ j, i ≤ j → j < n → f j = false) : (List.range n).any f = (List.range i).any f := by
  by_cases q : ∃ k, k < i ∧ f k = true
  · obtain ⟨k, h1, h2⟩ := q
    rw [any_t (Nat.lt_of_lt_of_le h1 hi) h2, any_t h1 h2]
  · have hf : ∀ k, k < i → f k = false := fun k hk => by
      cases e : f k
      · rfl
      · exact absurd ⟨k, hk, e⟩ q
    rw [any_f hf, any_f (fun k hk => ?_)]
    rcases Nat.lt_or_ge k i with r | r
    · exact hf k r
    · exact h k r hk
section
variable {S : QS} {R : RS}
theorem Same.num (s : Same S R) (r : Int) (h : r = -1 ∨ (0 ≤ r ∧ r < S.on.length)) : R.num r = S.num r := by
  unfold RS.num QS.num
  split
  · rfl
  · exact (s.at' r.toNat (by omega)).n
theorem Same.young (s : Same S R) : R.young = S.young := by
  unfold RS.young QS.young QS.num
  rw [s.len]
  by_cases q : S.on.length = 0
  · rw [if_pos q, q, if_pos (by omega)]
  · rw [if_neg q, if_neg (by omega)]
    have e : ((S.on.length : Int) - 1).toNat = S.on.length - 1 := by omega
    rw [e]
    exact (s.at' _ (by omega)).n
theorem Same.act (s : Same S R) (j : Nat) (hj : j < S.on.length) : S.act j = R.act j := by
  unfold QS.act RS.act
  rw [(s.at' j hj).rt]
theorem Same.isN (s : Same S R) (seq : Int) (j : Nat) (hj : j < S.on.length) : R.isN seq j = decide ((S.at j).n = seq) := by
  unfold RS.isN
  rw [(s.at' j hj).n]
theorem Same.src (s : Same S R) (h : S.Inv) (i y : Nat) (hi : i < S.on.length) : S.of (S.at i).n y = lastI (R.src y) i := by
  unfold QS.of
  rw [lastI_cut i S.on.length (by omega) (fun j h1 h2 => ?_)]
  · refine lastI_congr i (fun j hj => ?_)
    have q := s.at' j (by omega)
    unfold QS.src RS.src
    rw [q.st, q.pl, q.a, q.z, decide_eq_true (h.asc j i hj hi)]
    unfold Ac.cov Ac.placed
    by_cases c : (S.at j).a ≤ y ∧ y < (S.at j).a + (S.at j).z
    · rw [decide_eq_true c, decide_eq_true (show 0 < (S.at j).z by omega)]
      simp
    · rw [decide_eq_false c]
      simp
  · unfold QS.src
    have : ¬ (S.at j).n < (S.at i).n := by
      by_cases e : i = j
      · subst e; omega
      · have := h.asc i j (by omega) h2
        omega
    rw [decide_eq_false this]
    simp
theorem Same.ofs (s : Same S R) (h : S.Inv) (i : Nat) (hi : i < S.on.length) : R.ofs i = S.ofs (S.at i) := by
  unfold RS.ofs QS.ofs
  rw [(s.at' i hi).z, (s.at' i hi).a]
  exact List.map_congr_left fun b _ => (s.src h i _ hi).symm
theorem Same.lack (s : Same S R) (r : Int) (h : r = -1 ∨ (0 ≤ r ∧ r < S.on.length)) : R.lack r = S.lack r := by
  unfold RS.lack QS.lack
  by_cases q : r = -1
  · rw [q]; rfl
  · rw [(s.at' r.toNat (by omega)).hv]
theorem Same.lacks (s : Same S R) (h : S.Inv) (i : Nat) (hi : i < S.on.length) : R.lacks i = S.lacks (S.at i) := by
  unfold RS.lacks QS.lacks
  rw [(s.at' i hi).z, s.ofs h i hi]
  exact any_congr fun b hb => s.lack _ (S.ofs_range _ b hb)
theorem Same.unks (s : Same S R) (h : S.Inv) (i : Nat) (hi : i < S.on.length) : R.unks i = S.unks (S.at i) := by
  unfold RS.unks QS.unks
  rw [any_cut (i := i) (n := S.on.length) (by omega) (fun j h1 h2 => ?_)]
  · refine any_congr fun j hj => ?_
    have q := s.at' j (by omega)
    unfold QS.unk RS.unk
    rw [q.st, q.pl, decide_eq_true (h.asc j i hj hi)]
    simp
  · unfold QS.unk
    have : ¬ (S.at j).n < (S.at i).n := by
      by_cases e : i = j
      · subst e; omega
      · have := h.asc i j (by omega) h2
        omega
    rw [decide_eq_false this]
    simp
theorem Same.gvN (s : Same S R) (e : Ac) (l : List Int) (hl : ∀ b, b < l.length → l.getD b 0 = -1 ∨ (0 ≤ l.getD b 0 ∧ l.getD b 0 < S.on.length)) : ∀ b, b ≤ l.length → R.gvN e.a l b = S.gvN e l b
  | 0, _ => rfl
  | b + 1, h => by
    unfold RS.gvN QS.gvN
    rw [s.gvN e l hl b (by omega)]
    by_cases q : l.getD b 0 = -1
    · rw [if_pos q, if_pos q]
    · rw [if_neg q, if_neg q]
      have r := s.at' (l.getD b 0).toNat (by have := hl b (by omega); omega)
      unfold RS.byteOf QS.byteOf
      rw [r.d, r.a]
theorem Same.found (s : Same S R) (h : S.Inv) (i : Nat) (hi : i < S.on.length) (bold : Bool) : R.found i bold = S.found (S.at i) bold := by
  unfold RS.found QS.found QS.waits
  rw [s.unks h i hi, s.lacks h i hi, s.ofs h i hi, (s.at' i hi).z, (s.at' i hi).a, Bool.or_comm]
  rw [s.gvN (S.at i) _ (fun b hb => S.ofs_range _ b (by rw [S.ofs_len] at hb; exact hb)) (S.at i).z (by rw [S.ofs_len]; exact Nat.le_refl _)]
theorem Alike.done {e : Ac} {r : Re} (k : Alike e r) : r.done = e.done := by
  unfold Re.done Ac.done
  rw [k.st, k.pl, k.hv, k.ld]
theorem Alike.spo {e : Ac} {r : Re} (k : Alike e r) (o : e.Ok) (y : Nat) : r.spo ((y : Int) - (y : Int) % 16) = (e.line y && e.mem) := by
  unfold Re.spo Ac.mem
  rw [k.ld, k.z]
  unfold Ac.loaded
  rcases o.fz with q | q
  · rw [q]
    simp
  · by_cases hz : 0 < e.z
    · rw [decide_eq_true (by omega), q, Bool.true_and]
      by_cases hl : e.a / 16 = y / 16
      · unfold Ac.line
        rw [decide_eq_true hl, Bool.true_and]
        refine any_congr fun b hb => ?_
        unfold Re.spo1
        rw [k.f b (by omega), k.a]
        have e1 : (e.a : Int) - (e.a : Int) % 16 = (y : Int) - (y : Int) % 16 := by omega
        rw [decide_eq_true e1, Bool.and_true]
        exact decide_eq_decide.2 eq_comm
      · unfold Ac.line
        rw [decide_eq_false hl, Bool.false_and]
        refine any_f fun b hb => ?_
        unfold Re.spo1
        rw [k.a]
        have e1 : ¬ (e.a : Int) - (e.a : Int) % 16 = (y : Int) - (y : Int) % 16 := by omega
        rw [decide_eq_false e1, Bool.and_false]
    · have hz0 : e.z = 0 := by omega
      have hf : e.fr.length = 0 := by omega
      rw [hf]
      simp
theorem Alike.early {e s : Ac} {r : Re} (k : Alike e r) (o : e.Ok) : r.bad s.a s.z s.n = e.early s := by
  unfold Re.bad Ac.early
  rw [k.ld, k.z]
  unfold Ac.loaded
  rcases o.fz with q | q
  · rw [q]
    simp
  · by_cases hz : 0 < e.z
    · rw [decide_eq_true (by omega), q, Bool.true_and]
      refine any_congr fun b hb => ?_
      unfold Re.bad1 Ac.early1 Ac.cov
      rw [k.f b (by omega), k.a]
      by_cases c1 : s.a ≤ e.a + b
      · by_cases c2 : e.a + b < s.a + s.z
        · rw [decide_eq_true c1, decide_eq_true c2, decide_eq_true (And.intro c1 c2)]
          simp
        · have c3 : ¬ (s.a ≤ e.a + b ∧ e.a + b < s.a + s.z) := fun q => c2 q.2
          rw [decide_eq_true c1, decide_eq_false c2, decide_eq_false c3]
          simp
      · have c3 : ¬ (s.a ≤ e.a + b ∧ e.a + b < s.a + s.z) := fun q => c1 q.1
        rw [decide_eq_false c1, decide_eq_false c3]
        simp
    · have hf : e.fr.length = 0 := by omega
      rw [hf]
      simp
/-- one entry of each is put in another's place -/
theorem Same.set (s : Same S R) (i : Nat) (hi : i < S.on.length) {y : Ac} {x : Re} (k : Alike y x) : Same (S.set i y) (R.set i x) := by
  refine ⟨s.size, by rw [RS.set_len, QS.set_len]; exact s.len, fun j hj => ?_⟩
  rw [QS.set_len] at hj
  by_cases e : j = i
  · subst e
    rw [S.at_set j y hi, R.at_set j x (by rw [s.len]; exact hi)]
    exact k
  · rw [S.at_set' i j y e, R.at_set' i j x e]
    exact s.at' j hj
theorem QS.Inv.set (h : S.Inv) (i : Nat) (hi : i < S.on.length) {y : Ac} (hn : y.n = (S.at i).n) (hr : y.rt = (S.at i).rt ∨ (y.rt = true ∧ ∀ j, j < i → (S.at j).rt = true)) (ok : y.Ok) : (S.set i y).Inv := by
  have hl := S.set_len i y
  refine ⟨fun a b hab hb => ?_, fun a b hab hb hrt => ?_, fun a ha => ?_, by rw [hl]; exact h.len, h.pos⟩
  · rw [hl] at hb
    have e : ∀ c, c < S.on.length → ((S.set i y).at c).n = (S.at c).n := fun c hc => by
      by_cases q : c = i
      · subst q; rw [S.at_set c y hi, hn]
      · rw [S.at_set' i c y q]
    rw [e a (by omega), e b hb]
    exact h.asc a b hab hb
  · rw [hl] at hb
    by_cases qb : b = i
    · subst qb
      rw [S.at_set b y hi] at hrt
      rw [S.at_set' b a y (by omega)]
      rcases hr with hr | hr
      · rw [hr] at hrt
        exact h.pre a b hab hb hrt
      · exact hr.2 a hab
    · rw [S.at_set' i b y qb] at hrt
      by_cases qa : a = i
      · subst qa
        rw [S.at_set a y hi]
        rcases hr with hr | hr
        · rw [hr]
          exact h.pre a b hab hb hrt
        · exact hr.1
      · rw [S.at_set' i a y qa]
        exact h.pre a b hab hb hrt
  · rw [hl] at ha
    by_cases q : a = i
    · subst q; rw [S.at_set a y hi]; exact ok
    · rw [S.at_set' i a y q]; exact h.ok a ha
theorem Same.push (s : Same S R) (seq : Int) (st : Bool) : Same ⟨S.size, S.on ++ [newA seq st]⟩ ⟨R.size, R.on ++ [newE seq st]⟩ := by
  refine ⟨s.size, by simp [s.len], fun j hj => ?_⟩
  have hj' : j < (S.on ++ [newA seq st]).length := hj
  rw [List.length_append, List.length_singleton] at hj'
  by_cases e : j = S.on.length
  · subst e
    have e2 := R.at_last (newE seq st)
    rw [s.len] at e2
    rw [S.at_last, e2]
    exact ⟨rfl, rfl, rfl, rfl, rfl, rfl, rfl, rfl, fun b hb => by simp [newA] at hb, rfl⟩
  · rw [S.at_push _ j (by omega), R.at_push _ j (by rw [s.len]; omega)]
    exact s.at' j (by omega)
theorem QS.Inv.push (h : S.Inv) (seq : Int) (st : Bool) (hy : ¬ seq ≤ S.young) (hf : S.on.length < S.size) : QS.Inv ⟨S.size, S.on ++ [newA seq st]⟩ := by
  have hl : (S.on ++ [newA seq st]).length = S.on.length + 1 := by simp
  have hb : ∀ j, j < S.on.length → (S.at j).n < seq := fun j hj => by
    have e : S.young = (S.at (S.on.length - 1)).n := by
      unfold QS.young QS.num
      rw [if_neg (by omega)]
      have e : ((S.on.length : Int) - 1).toNat = S.on.length - 1 := by omega
      rw [e]
    rw [e] at hy
    by_cases q : j = S.on.length - 1
    · subst q; omega
    · have := h.asc j (S.on.length - 1) (by omega) (by omega)
      omega
  refine ⟨fun a b hab hb' => ?_, fun a b hab hb' hrt => ?_, fun a ha => ?_, by show (S.on ++ [newA seq st]).length ≤ S.size; omega, h.pos⟩
  · have hb2 : b < (S.on ++ [newA seq st]).length := hb'
    rw [hl] at hb2
    rw [S.at_push _ a (by omega)]
    by_cases q : b = S.on.length
    · subst q
      rw [S.at_last]
      exact hb a (by omega)
    · rw [S.at_push _ b (by omega)]
      exact h.asc a b hab (by omega)
  · have hb2 : b < (S.on ++ [newA seq st]).length := hb'
    rw [hl] at hb2
    rw [S.at_push _ a (by omega)]
    by_cases q : b = S.on.length
    · subst q
      rw [S.at_last] at hrt
      simp [newA] at hrt
    · rw [S.at_push _ b (by omega)] at hrt
      exact h.pre a b hab (by omega) hrt
  · have ha2 : a < (S.on ++ [newA seq st]).length := ha
    rw [hl] at ha2
    by_cases q : a = S.on.length
    · subst q
      rw [S.at_last]
      exact ⟨Or.inl rfl, fun q => by simp [newA] at q⟩
    · rw [S.at_push _ a (by omega)]
      exact h.ok a (by omega)
/-- a part of a queue, in its order -/
theorem QS.Inv.part (h : S.Inv) {T : QS} (hs : T.size = S.size) (hl : T.on.length ≤ S.on.length) (f : Nat → Nat) (hf : ∀ j, j < T.on.length → f j < S.on.length) (mono : ∀ a b, a < b → b < T.on.length → f a < f b) (hn : ∀ j, j < T.on.length → (T.at j).n = (S.at (f j)).n ∧ (T.at j).rt = (S.at (f j)).rt ∧ (T.at j).Ok) : T.Inv := by
  refine ⟨fun a b hab hb => ?_, fun a b hab hb hrt => ?_, fun a ha => (hn a ha).2.2, by rw [hs]; exact Nat.le_trans hl h.len, by rw [hs]; exact h.pos⟩
  · rw [(hn a (by omega)).1, (hn b hb).1]
    exact h.asc _ _ (mono a b hab hb) (hf b hb)
  · rw [(hn b hb).2.1] at hrt
    rw [(hn a (by omega)).2.1]
    exact h.pre _ _ (mono a b hab hb) (hf b hb) hrt
theorem skip_mono {i a b : Nat} (h : a < b) : skip i a < skip i b := by
  unfold skip
  split <;> split <;> omega
theorem QS.Inv.del (h : S.Inv) (i : Nat) (hi : i < S.on.length) : (S.del i).Inv := by
  have hl := S.del_len i hi
  refine h.part (T := S.del i) rfl (by omega) (skip i) (fun j hj => skip_lt (by omega)) (fun a b q _ => skip_mono q) (fun j hj => ?_)
  rw [S.at_del]
  exact ⟨rfl, rfl, h.ok _ (skip_lt (by omega))⟩
theorem Same.del (s : Same S R) (i : Nat) (hi : i < S.on.length) : Same (S.del i) (R.del i) := by
  have hl := S.del_len i hi
  refine ⟨s.size, by rw [R.del_len i (by rw [s.len]; exact hi), hl, s.len], fun j hj => ?_⟩
  rw [S.at_del, R.at_del]
  exact s.at' _ (skip_lt (by omega))
theorem QS.Inv.cut (h : S.Inv) (i : Nat) (hi : i ≤ S.on.length) : (S.cut i).Inv := by
  have hl := S.cut_len i hi
  refine h.part (T := S.cut i) rfl (by omega) id (fun j hj => by show j < _; omega) (fun a b q _ => q) (fun j hj => ?_)
  rw [S.at_cut i j (by omega)]
  exact ⟨rfl, rfl, h.ok _ (by omega)⟩
theorem Same.cut (s : Same S R) (i : Nat) (hi : i ≤ S.on.length) : Same (S.cut i) (R.cut i) := by
  have hl := S.cut_len i hi
  refine ⟨s.size, by rw [R.cut_len i (by rw [s.len]; exact hi), hl], fun j hj => ?_⟩
  rw [S.at_cut i j (by omega), R.at_cut i j (by omega)]
  exact s.at' _ (by omega)
theorem QS.memT_lo (S : QS) (n : Int) (j : Nat) (h : j < S.on.length) : (S.memT n S.on.length).at j = (S.at j).wr n := by
  unfold QS.memT QS.at
  simp [List.getD_eq_getElem?_getD, h]
theorem Re.memB_f (e : Re) (n : Int) (b : Nat) : ∀ t, (e.memB n t).f b = if b < t ∧ e.f b = n ∧ e.ld = true then -1 else e.f b
  | 0 => by simp [Re.memB]
  | t + 1 => by
    have ih := Re.memB_f e n b t
    unfold Re.memB
    by_cases q : b = t
    · subst q
      have ih' : (e.memB n b).f b = e.f b := by rw [ih, if_neg (by omega)]
      rw [ih']
      by_cases c : e.f b = n ∧ e.ld = true
      · rw [if_pos c, if_pos ⟨by omega, c⟩]
        simp [Re.setf]
      · rw [if_neg c, if_neg (fun q => c q.2), ih']
    · have e1 : (b < t + 1 ∧ e.f b = n ∧ e.ld = true) ↔ (b < t ∧ e.f b = n ∧ e.ld = true) := by
        constructor
        · rintro ⟨h1, h2⟩; exact ⟨by omega, h2⟩
        · rintro ⟨h1, h2⟩; exact ⟨by omega, h2⟩
      simp only [e1]
      rw [← ih]
      split
      · simp [Re.setf, q]
      · rfl
theorem Re.memB_same (e : Re) (n : Int) : ∀ t, ∃ g, e.memB n t = { e with f := g }
  | 0 => ⟨e.f, rfl⟩
  | t + 1 => by
    obtain ⟨g, hg⟩ := Re.memB_same e n t
    unfold Re.memB
    rw [hg]
    split
    · exact ⟨_, rfl⟩
    · exact ⟨_, rfl⟩
theorem Alike.wr {e : Ac} {r : Re} (k : Alike e r) (n : Int) (h4 : e.fr.length ≤ 4) : Alike (e.wr n) (r.memB n 4) := by
  have hf := fun b => r.memB_f n b 4
  obtain ⟨g, hg⟩ := r.memB_same n 4
  rw [hg] at hf ⊢
  have hl : (e.wr n).fr = e.fr.map (toMem n) := rfl
  refine ⟨k.n, k.st, k.pl, k.a, k.z, k.hv, k.d, ?_, fun b hb => ?_, k.rt⟩
  · show r.ld = _
    rw [k.ld]
    unfold Ac.loaded
    rw [hl, List.length_map]
  · rw [hl, List.length_map] at hb
    have h1 := hf b
    have e1 : e.fr.getD b 0 = e.fr[b] := by simp [List.getD_eq_getElem?_getD, hb]
    have e2 : (e.wr n).fr.getD b 0 = toMem n (e.fr.getD b 0) := by
      rw [hl, e1]
      simp [List.getD_eq_getElem?_getD, hb]
    have hld : r.ld = true := by
      rw [k.ld]
      unfold Ac.loaded
      exact decide_eq_true (by omega)
    show g b = _
    have h2 : g b = if b < 4 ∧ r.f b = n ∧ r.ld = true then -1 else r.f b := h1
    rw [h2, e2, k.f b hb]
    unfold toMem
    by_cases c : e.fr.getD b 0 = n
    · rw [if_pos c, if_pos ⟨by omega, c, hld⟩]
    · rw [if_neg c, if_neg (fun q => c q.2.1)]
theorem QS.drained_len (S : QS) (h : 0 < S.on.length) : S.drained.on.length = S.on.length - 1 := by
  have hl := S.del_len 0 h
  unfold QS.drained
  rw [QS.memT_len _ _ _ (by omega), hl]
theorem QS.drained_at (S : QS) (h : 0 < S.on.length) (j : Nat) (hj : j < S.on.length - 1) : S.drained.at j = (S.at (j + 1)).wr (S.at 0).n := by
  have hl := S.del_len 0 h
  unfold QS.drained
  have e := QS.memT_lo (S.del 0) (S.at 0).n j (by omega)
  rw [hl] at e
  rw [e, S.at_del]
  rfl
theorem Same.drained (s : Same S R) (h : 0 < S.on.length) (h4 : ∀ i, i < S.on.length → (S.at i).fr.length ≤ 4) : Same S.drained R.drained := by
  have hR : 0 < R.on.length := by rw [s.len]; exact h
  have hl := S.drained_len h
  have hrl := R.del_len 0 hR
  have hln := s.len
  refine ⟨?_, ?_, fun j hj => ?_⟩
  · unfold RS.drained QS.drained
    have : ∀ t n, ((R.del 0).memT n t).size = R.size := fun t n => by
      induction t with
      | zero => rfl
      | succ t ih => exact ih
    rw [this]
    exact s.size
  · unfold RS.drained
    rw [RS.memT_len, hrl, hl, s.len]
  · rw [hl] at hj
    rw [S.drained_at h j hj]
    unfold RS.drained
    rw [RS.memT_lo _ _ j (by omega) _ (by omega) (by omega), R.at_del, (s.at' 0 h).n]
    exact (s.at' (j + 1) (by omega)).wr _ (h4 _ (by omega))
theorem QS.Inv.drained (h : S.Inv) (h0 : 0 < S.on.length) : S.drained.Inv := by
  have hl := S.drained_len h0
  refine h.part (T := S.drained) rfl (by omega) (fun j => j + 1) (fun j hj => by show j + 1 < _; omega) (fun a b q _ => by show a + 1 < b + 1; omega) (fun j hj => ?_)
  rw [S.drained_at h0 j (by omega)]
  have o := h.ok (j + 1) (by omega)
  refine ⟨rfl, rfl, ⟨?_, o.ret⟩⟩
  rcases o.fz with q | q
  · exact Or.inl (by show (S.at (j + 1)).fr.map _ = []; rw [q]; rfl)
  · exact Or.inr (by show ((S.at (j + 1)).fr.map _).length = _; rw [List.length_map]; exact q)
theorem RS.frT_f (R : RS) (i b : Nat) : ∀ t, b < t → (R.frT i t).f b = R.srcN i ((R.at i).a + b)
  | 0, h => by omega
  | t + 1, h => by
    unfold RS.frT
    by_cases q : b = t
    · subst q; simp [Re.setf]
    · simp only [Re.setf, if_neg q]
      exact RS.frT_f R i b t (by omega)
theorem RS.frT_eq (R : RS) (i : Nat) : ∀ t, ∃ g, R.frT i t = { R.at i with f := g }
  | 0 => ⟨_, rfl⟩
  | t + 1 => by
    obtain ⟨g, hg⟩ := RS.frT_eq R i t
    unfold RS.frT
    rw [hg]
    exact ⟨_, rfl⟩
theorem Same.take (s : Same S R) (h : S.Inv) (i : Nat) (hi : i < S.on.length) (hz : 0 < (S.at i).z) (h4 : (S.at i).z ≤ 4) (fb : Option Nat) (fc : Nat) : Alike ((S.at i).withF (S.nums (S.at i)) fb fc) { R.frT i 4 with ld := true } := by
  have k := s.at' i hi
  have hf := fun b => R.frT_f i b 4
  obtain ⟨g, hg⟩ := R.frT_eq i 4
  rw [hg] at hf ⊢
  refine ⟨k.n, k.st, k.pl, k.a, k.z, k.hv, k.d, ?_, fun b hb => ?_, k.rt⟩
  · show true = decide (0 < (S.nums (S.at i)).length)
    rw [S.nums_len, decide_eq_true hz]
  · have hb' : b < (S.nums (S.at i)).length := hb
    rw [S.nums_len] at hb'
    have h1 : g b = R.srcN i ((R.at i).a + b) := hf b (by omega)
    show g b = (S.nums (S.at i)).getD b 0
    rw [h1]
    unfold RS.srcN
    rw [k.a, ← s.src h i _ hi]
    have e1 : (S.nums (S.at i)).getD b 0 = S.num ((S.ofs (S.at i)).getD b 0) := by
      have hl := S.ofs_len (S.at i)
      unfold QS.nums
      simp [List.getD_eq_getElem?_getD, hl, hb']
    rw [e1, S.ofs_at _ b hb']
    refine s.num _ ?_
    have := S.ofs_range (S.at i) b hb'
    rw [S.ofs_at _ b hb'] at this
    exact this
/-- where a squash cuts -/
theorem QS.Inv.where' (h : S.Inv) (af : Int) : ∃ i, i ≤ S.on.length ∧ (∀ j, j < i → S.squ af j = false) ∧ ∀ j, i ≤ j → j < S.on.length → S.squ af j = true := by
  have mono : ∀ i j, i < j → j < S.on.length → S.squ af i = true → S.squ af j = true := fun i j hij hj q => by
    unfold QS.squ at q ⊢
    rw [Bool.and_eq_true, decide_eq_true_eq, Bool.not_eq_true'] at q ⊢
    refine ⟨by have := h.asc i j hij hj; omega, ?_⟩
    cases e : (S.at j).rt
    · rfl
    · rw [h.pre i j hij hj e] at q
      simp at q
  have : ∀ n, n ≤ S.on.length → ∃ i, i ≤ n ∧ (∀ j, j < i → S.squ af j = false) ∧ ∀ j, i ≤ j → j < n → S.squ af j = true := by
    intro n
    induction n with
    | zero => exact fun _ => ⟨0, Nat.le_refl _, fun j hj => by omega, fun j _ hj => by omega⟩
    | succ n ih =>
      intro hn
      obtain ⟨i, h1, h2, h3⟩ := ih (by omega)
      by_cases q : i = n
      · subst q
        cases e : S.squ af i
        · exact ⟨i + 1, Nat.le_refl _, fun j hj => by
            rcases Nat.lt_or_ge j i with r | r
            · exact h2 j r
            · obtain rfl : j = i := by omega
              exact e, fun j h4 h5 => by omega⟩
        · exact ⟨i, by omega, h2, fun j h4 h5 => by
            obtain rfl : j = i := by omega
            exact e⟩
      · refine ⟨i, by omega, h2, fun j h4 h5 => ?_⟩
        by_cases r : j = n
        · subst r
          exact mono i j (by omega) (by omega) (h3 i (Nat.le_refl _) (by omega))
        · exact h3 j h4 (by omega)
  exact this _ (Nat.le_refl _)
theorem Same.squ (s : Same S R) (af : Int) (j : Nat) (hj : j < S.on.length) : R.squ af j = S.squ af j := by
  unfold RS.squ QS.squ
  rw [(s.at' j hj).n, (s.at' j hj).rt]
theorem Same.top (s : Same S R) : R.top = S.top := by
  unfold RS.top QS.top
  rw [s.len]
  by_cases q : 0 < S.on.length
  · rw [(s.at' 0 q).rt]
  · rw [decide_eq_false q]
    rfl
end
end Go.Proofs.YthbffonedpeeiaaDoor
/-
  LSQ's LAW LsqSteps: all its memory; each step, as two calls.
-/
namespace Go.Proofs.YthbffonedpeeiaaDoor
open Go Go.RowKit
structure Lz (w0 x : World) (p q : Nat) (v rv : Value) (S : QS) (R : RS) : Prop where
  qm : Qm x w0.heap.size p v S
  rm : Rm x w0.heap.size q rv R
  ap : ∀ j, rmine q rv j → ¬ qmine p v S j
  low : Below w0.heap.size w0 x
section
variable {w0 x y : World} {p q : Nat} {v v' rv rv' : Value} {S S' : QS} {R R' : RS}
theorem Lz.below (k : Lz w0 x p q v rv S R) (t : Below x.heap.size x y) : Lz w0 y p q v rv S R :=
  ⟨k.qm.below t, k.rm.below t, k.ap, k.low.trans (t.mono k.low.size)⟩
theorem Lz.onP (k : Lz w0 x p q v rv S R) (st : Step x y w0.heap.size p v S v' S') : Lz w0 y p q v' rv S' R :=
  ⟨st.q, k.rm.turned st.t k.ap, fun j hj e => (st.o j e).elim (k.ap j hj) (fun h => by have := (k.rm.low j hj).2; omega), k.low.trans (st.t.below k.low.size (fun j hj => (k.qm.low j hj).1))⟩
theorem Lz.onR (k : Lz w0 x p q v rv S R) (st : RStep x y w0.heap.size q rv rv' R') : Lz w0 y p q v rv' S R' :=
  ⟨k.qm.turned st.t (fun j hj e => k.ap j e hj), st.q, fun j hj e => (st.o j hj).elim (fun h => k.ap j h e) (fun h => by have := (k.qm.low j e).2; omega), k.low.trans (st.t.below k.low.size (fun j hj => (k.rm.low j hj).1))⟩
end
def Both (w0 : World) (p q : Nat) (S S' : QS) (R R' : RS) (x : World) (v rv : Value) (fp : FuncId) (ap : Array Value) (ep : Ending) (fr : FuncId) (ar : Array Value) (er : Ending) : Prop :=
  Calls Tryd.prog fp ap x (fun e y => e = ep ∧ ∃ v', Step x y w0.heap.size p v S v' S') ∧ ∀ y, Rm y w0.heap.size q rv R → Calls Tryd.prog fr ar y (fun e z => e = er ∧ ∃ rv', RStep y z w0.heap.size q rv rv' R')
theorem First.ex (f : Nat → Bool) : ∀ n, ∃ r, First f n r
  | 0 => ⟨-1, Or.inr ⟨fun j hj => by omega, rfl⟩⟩
  | n + 1 => by
    obtain ⟨r, h⟩ := First.ex f n
    rcases h with ⟨i, h1, h2, h3, h4⟩ | ⟨h1, h2⟩
    · exact ⟨r, Or.inl ⟨i, by omega, h2, h3, h4⟩⟩
    · cases e : f n
      · exact ⟨-1, Or.inr ⟨fun j hj => by
          rcases Nat.lt_or_ge j n with q | q
          · exact h1 j q
          · obtain rfl : j = n := by omega
            exact e, rfl⟩⟩
      · exact ⟨n, Or.inl ⟨n, by omega, e, h1, rfl⟩⟩
section
variable {w0 x : World} {p q : Nat} {v rv : Value} {S S' : QS} {R R' : RS} {fp fr : FuncId} {ap ar : Array Value} {ep er : Ending}
theorem Both.bad (k : Lz w0 x p q v rv S R) (hp : Calls Tryd.prog fp ap x fun e y => e = ep ∧ Below x.heap.size x y) (hr : ∀ y, Rm y w0.heap.size q rv R → Calls Tryd.prog fr ar y fun e z => e = er ∧ Below y.heap.size y z) : Both w0 p q S S R R x v rv fp ap ep fr ar er :=
  ⟨hp.mono fun _ _ a => ⟨a.1, v, Step.same k.qm a.2⟩, fun y k' => (hr y k').mono fun _ _ a => ⟨a.1, rv, RStep.same k' a.2⟩⟩
theorem below_of {x y : World} (h : y = x) : Below x.heap.size x y := by rw [h]; exact Below.refl _ _
theorem both_enter (k : Lz w0 x p q v rv S R) (H : Same S R) (I : S.Inv) (seq : Int) (hs : seq ≤ 9223372036854775807) (st : Bool) : ∃ (S' : QS) (R' : RS) (er : Int), Same S' R' ∧ S'.Inv ∧ Both w0 p q S S' R R' x v rv 8 #[.pointer (some ⟨p, 0, none⟩), .int .i64 seq, .bool st] (.returned (errOf er)) 9 #[.pointer (some ⟨q, 0, none⟩), .int .i64 seq, .bool st] (.returned (.int .i64 er)) := by
  by_cases h1 : seq < 0 ∨ seq ≤ S.young
  · exact ⟨S, R, 5, H, I, Both.bad k (enter_order _ p v S seq st x k.qm h1) fun y hy => renter_order _ q rv R seq st y hy (by rw [H.young]; exact h1)⟩
  · have h2 : ¬ (seq < 0 ∨ seq ≤ R.young) := by rw [H.young]; exact h1
    by_cases hf : S.on.length < S.size
    · refine ⟨_, _, 0, H.push seq st, I.push seq st (fun q => h1 (Or.inr q)) hf, ?_, fun y hy => ?_⟩
      · exact (enter_good _ p v S seq st x k.qm h1 hs hf).mono fun _ _ a => ⟨a.1, a.2⟩
      · exact (renter_good _ q rv R seq st y hy h2 hs (by rw [H.len, H.size]; exact hf)).mono fun _ _ a => ⟨a.1, a.2⟩
    · have := I.len
      exact ⟨S, R, 4, H, I, Both.bad k (enter_full _ p v S seq st x k.qm h1 (by omega)) fun y hy => renter_full _ q rv R seq st y hy h2 (by rw [H.len, H.size]; omega) (by rw [H.size]; exact I.pos)⟩
/-- where a number stands, in both -/
theorem look_both (H : Same S R) (I : S.Inv) (seq : Int) : (∃ i : Nat, i < S.on.length ∧ (S.at i).n = seq ∧ First (R.isN seq) R.on.length i ∧ ∀ f : Nat → Bool, (∀ j, j < S.on.length → f j = true → (S.at j).n = seq) → First f S.on.length (if f i then (i : Int) else -1)) ∨ (First (R.isN seq) R.on.length (-1) ∧ ∀ f : Nat → Bool, (∀ j, j < S.on.length → f j = true → (S.at j).n = seq) → First f S.on.length (-1)) := by
  rcases I.look seq with ⟨i, hi, hn, ho⟩ | ho
  · refine Or.inl ⟨i, hi, hn, ?_, fun f hf => ?_⟩
    · rw [H.len]
      refine first_one hi ?_ (fun j hj hne => ?_)
      · rw [H.isN seq i hi]
        exact decide_eq_true hn
      · rw [H.isN seq j hj]
        exact decide_eq_false (ho j hj hne)
    · have hz : ∀ j, j < S.on.length → j ≠ i → f j = false := fun j hj hne => by
        cases e : f j
        · rfl
        · exact absurd (hf j hj e) (ho j hj hne)
      cases e : f i
      · refine first_none fun j hj => ?_
        by_cases q : j = i
        · rw [q]; exact e
        · exact hz j hj q
      · exact first_one hi e hz
  · refine Or.inr ⟨?_, fun f hf => ?_⟩
    · rw [H.len]
      refine first_none fun j hj => ?_
      rw [H.isN seq j hj]
      exact decide_eq_false (ho j hj)
    · refine first_none fun j hj => ?_
      cases e : f j
      · rfl
      · exact absurd (hf j hj e) (ho j hj)
theorem pend_n (seq : Int) (j : Nat) (h : S.pend seq j = true) : (S.at j).n = seq := by
  unfold QS.pend at h
  rw [Bool.and_eq_true, decide_eq_true_eq] at h
  exact h.1
theorem plc_n (seq : Int) (j : Nat) (h : S.plc seq j = true) : (S.at j).n = seq := (plc_at h).1
theorem both_address (k : Lz w0 x p q v rv S R) (H : Same S R) (I : S.Inv) (seq : Int) (a : Nat) (z : Int) (ha : a < 4294967296) : ∃ (S' : QS) (R' : RS) (n er : Int), Same S' R' ∧ S'.Inv ∧ Both w0 p q S S' R R' x v rv 10 #[.pointer (some ⟨p, 0, none⟩), .int .i64 seq, .int .u32 a, .int .i64 z] (.returned (.tuple #[.int .i64 n, errOf er])) 11 #[.pointer (some ⟨q, 0, none⟩), .int .i64 seq, .int .i64 a, .int .i64 z] (.returned (.tuple #[.int .i64 n, .int .i64 er])) := by
  rcases look_both H I seq with ⟨i, hi, hn, hR, hS⟩ | ⟨hR, hS⟩
  · have hP := hS (S.pend seq) (fun j _ e => pend_n seq j e)
    have al := H.at' i hi
    by_cases hrt : (S.at i).rt = true
    · have e : S.pend seq i = false := by unfold QS.pend; rw [hrt]; simp
      rw [e] at hP
      refine ⟨S, R, -1, 7, H, I, Both.bad k (addr_state _ p v S seq (-1) z a x k.qm hP (fun q => q.1 rfl)) fun y hy => ?_⟩
      exact (raddr_state _ q rv R seq i z a y hy hR (fun q => by have := q.2.2; rw [Int.toNat_natCast, al.rt, hrt] at this; cases this)).mono fun _ _ b => ⟨b.1, below_of b.2⟩
    · have hrf : (S.at i).rt = false := by simpa using hrt
      have e : S.pend seq i = true := by unfold QS.pend; rw [hrf, hn]; simp
      rw [e] at hP
      have hP : First (S.pend seq) S.on.length i := hP
      by_cases hz : (S.at i).z = 0
      · have hpf : (R.at i).pl = false := by rw [al.pl]; unfold Ac.placed; rw [hz]; rfl
        by_cases hm : (z = 1 ∨ z = 2 ∨ z = 4) ∧ (a : Int) % z = 0
        · obtain ⟨zn, rfl⟩ : ∃ zn : Nat, z = zn := ⟨z.toNat, by omega⟩
          have hmn : (zn = 1 ∨ zn = 2 ∨ zn = 4) ∧ a % zn = 0 := ⟨by omega, by have := hm.2; omega⟩
          have hfr : (S.at i).fr = [] := List.eq_nil_of_length_eq_zero (by have := (k.qm.fit i hi).fz; omega)
          have oki := I.ok i hi
          have I' : (S.set i ((S.at i).put a zn)).Inv := I.set i hi rfl (Or.inl rfl) ⟨Or.inl hfr, fun q => by have q : (S.at i).rt = true := q; rw [hrf] at q; cases q⟩
          have al' : Alike ((S.at i).put a zn) ((R.at i).put a zn) := ⟨al.n, al.st, (decide_eq_true (show 0 < zn by omega)).symm, rfl, rfl, al.hv, al.d, al.ld, al.f, al.rt⟩
          have H' := H.set i hi al'
          have hRi : i < R.on.length := by rw [H.len]; exact hi
          have hRt : (R.at i).rt = false := by rw [al.rt]; exact hrf
          cases hst : (S.at i).st
          · refine ⟨_, _, -1, 0, H', I', ?_, fun y hy => ?_⟩
            · exact (addr_load _ p v S seq i a zn x k.qm hP hi hz hst ha hmn).mono fun _ _ b => ⟨b.1, v, b.2⟩
            · exact (raddr_load _ q rv R seq i a zn y hy hR hRi hpf hRt (by rw [al.st]; exact hst) ha hmn).mono fun _ _ b => ⟨b.1, rv, b.2⟩
          · obtain ⟨r, hr⟩ := First.ex ((S.set i ((S.at i).put a zn)).went ((S.at i).put a zn)) S.on.length
            have hl := S.set_len i ((S.at i).put a zn)
            have hr2 : First ((R.set i ((R.at i).put a zn)).bads i a zn seq) R.on.length r := by
              rw [H.len]
              refine hr.congr fun j hj => ?_
              have aj := H'.at' j (by omega)
              have okj := I'.ok j (by omega)
              unfold QS.went RS.bads
              have ea : ((R.set i ((R.at i).put a zn)).at j).bad a zn seq = ((S.set i ((S.at i).put a zn)).at j).early ((S.at i).put a zn) := by
                rw [← aj.early okj]
                show _ = Re.bad _ a zn (S.at i).n
                rw [hn]
              rw [ea]
              congr 1
              refine decide_eq_decide.2 ?_
              have hnj : ((S.set i ((S.at i).put a zn)).at j).n = (S.at j).n := by
                by_cases e : j = i
                · subst e; rw [S.at_set j _ hi]; rfl
                · rw [S.at_set' i j _ e]
              rw [hnj]
              show (S.at i).n < (S.at j).n ↔ i < j
              constructor
              · intro h
                rcases Nat.lt_or_ge i j with q | q
                · exact q
                · by_cases e : i = j
                  · subst e; omega
                  · have := I.asc j i (by omega) hi
                    omega
              · exact fun h => I.asc i j h hj
            refine ⟨_, _, (S.set i ((S.at i).put a zn)).num r, 0, H', I', ?_, fun y hy => ?_⟩
            · refine (addr_store _ p v S seq i a zn x k.qm hP hi hz hst ha hmn).mono fun _ _ b => ?_
              obtain ⟨r', b1, b2, b3⟩ := b
              obtain rfl := b1.uniq hr
              exact ⟨b2, v, b3⟩
            · refine (raddr_store _ q rv R seq i a zn y hy hR hRi hpf hRt (by rw [al.st]; exact hst) ha hmn).mono fun _ _ b => ?_
              obtain ⟨r', b1, b2, b3⟩ := b
              obtain rfl := b2.uniq hr2
              refine ⟨?_, rv, b3⟩
              rw [b1, H'.num r' (by rw [hl]; exact hr.range)]
        · refine ⟨S, R, -1, 3, H, I, Both.bad k (addr_range _ p v S seq z i a x k.qm hP hi hz ha hm) fun y hy => ?_⟩
          exact (raddr_range _ q rv R seq z i a y hy hR (by rw [H.len]; exact hi) hpf (by rw [al.rt]; exact hrf) hm).mono fun _ _ b => ⟨b.1, below_of b.2⟩
      · refine ⟨S, R, -1, 7, H, I, Both.bad k (addr_state _ p v S seq i z a x k.qm hP (fun q => hz (by have := q.2; rw [Int.toNat_natCast] at this; exact this))) fun y hy => ?_⟩
        refine (raddr_state _ q rv R seq i z a y hy hR (fun q => ?_)).mono fun _ _ b => ⟨b.1, below_of b.2⟩
        have := q.2.1
        rw [Int.toNat_natCast, al.pl] at this
        unfold Ac.placed at this
        rw [decide_eq_true (by omega)] at this
        cases this
  · have hP := hS (S.pend seq) (fun j _ e => pend_n seq j e)
    refine ⟨S, R, -1, 7, H, I, Both.bad k (addr_state _ p v S seq (-1) z a x k.qm hP (fun q => q.1 rfl)) fun y hy => ?_⟩
    exact (raddr_state _ q rv R seq (-1) z a y hy hR (fun q => q.1 rfl)).mono fun _ _ b => ⟨b.1, below_of b.2⟩
theorem both_value (k : Lz w0 x p q v rv S R) (H : Same S R) (I : S.Inv) (seq : Int) (d : Nat) (hd : d < 4294967296) : ∃ (S' : QS) (R' : RS) (er : Int), Same S' R' ∧ S'.Inv ∧ Both w0 p q S S' R R' x v rv 12 #[.pointer (some ⟨p, 0, none⟩), .int .i64 seq, .int .u32 d] (.returned (errOf er)) 13 #[.pointer (some ⟨q, 0, none⟩), .int .i64 seq, .int .u32 d] (.returned (.int .i64 er)) := by
  have bad : ∀ (r s : Int), First (S.pend seq) S.on.length r → ¬ S.mayV r → First (R.isN seq) R.on.length s → ¬ R.mayV s → ∃ (S' : QS) (R' : RS) (er : Int), Same S' R' ∧ S'.Inv ∧ Both w0 p q S S' R R' x v rv 12 #[.pointer (some ⟨p, 0, none⟩), .int .i64 seq, .int .u32 d] (.returned (errOf er)) 13 #[.pointer (some ⟨q, 0, none⟩), .int .i64 seq, .int .u32 d] (.returned (.int .i64 er)) := fun r s h1 h2 h3 h4 =>
    ⟨S, R, 7, H, I, Both.bad k (value_bad _ p v S seq r d x k.qm h1 h2) fun y hy => (rvalue_bad _ q rv R seq s d y hy h3 h4).mono fun _ _ b => ⟨b.1, below_of b.2⟩⟩
  rcases look_both H I seq with ⟨i, hi, hn, hR, hS⟩ | ⟨hR, hS⟩
  · have hP := hS (S.pend seq) (fun j _ e => pend_n seq j e)
    have al := H.at' i hi
    by_cases hrt : (S.at i).rt = true
    · have e : S.pend seq i = false := by unfold QS.pend; rw [hrt]; simp
      rw [e] at hP
      exact bad _ _ hP (fun q => q.1 rfl) hR (fun q => by have := q.2.2.2; rw [Int.toNat_natCast, al.rt, hrt] at this; cases this)
    · have hrf : (S.at i).rt = false := by simpa using hrt
      have e : S.pend seq i = true := by unfold QS.pend; rw [hrf, hn]; simp
      rw [e] at hP
      have hP : First (S.pend seq) S.on.length i := hP
      by_cases hv : (S.at i).st = true ∧ (S.at i).hv = false
      · refine ⟨_, _, 0, H.set i hi (y := { S.at i with d := d, hv := true }) (x := { R.at i with d := d, hv := true }) ⟨al.n, al.st, al.pl, al.a, al.z, rfl, rfl, al.ld, al.f, al.rt⟩, I.set i hi rfl (Or.inl rfl) ⟨(I.ok i hi).fz, fun q => by have q : (S.at i).rt = true := q; rw [hrf] at q; cases q⟩, ?_, fun y hy => ?_⟩
        · exact (value_good _ p v S seq i d x k.qm hP hi hv.1 hv.2 hd).mono fun _ _ b => ⟨b.1, v, b.2⟩
        · exact (rvalue_good _ q rv R seq i d y hy hR (by rw [H.len]; exact hi) (by rw [al.st]; exact hv.1) (by rw [al.hv]; exact hv.2) (by rw [al.rt]; exact hrf) hd).mono fun _ _ b => ⟨b.1, rv, b.2⟩
      · refine bad _ _ hP (fun q => hv ?_) hR (fun q => hv ?_)
        · have := q.2; rw [Int.toNat_natCast] at this; exact this
        · have := q.2; rw [Int.toNat_natCast, al.st, al.hv] at this; exact ⟨this.1, this.2.1⟩
  · have hP := hS (S.pend seq) (fun j _ e => pend_n seq j e)
    exact bad _ _ hP (fun q => q.1 rfl) hR (fun q => q.1 rfl)
theorem found_is (S : QS) (e : Ac) (bold : Bool) : ∃ (x : Bool) (y z : Int), S.found e bold = .agg #[.bool x, .int .i64 y, .int .u32 z] := by
  unfold QS.found
  split
  · exact ⟨_, _, _, rfl⟩
  · exact ⟨_, _, _, rfl⟩
theorem not_mayS {seq : Int} {i : Nat} (al : Alike (S.at i) (R.at i)) (hn : (S.at i).n = seq) (e : S.plc seq i = false) : ¬ R.mayS i := fun q => by
  have := q.2
  rw [Int.toNat_natCast, al.st, al.pl] at this
  unfold QS.plc at e
  rw [this.1, this.2, hn] at e
  simp at e
theorem both_search (k : Lz w0 x p q v rv S R) (H : Same S R) (I : S.Inv) (seq : Int) (bold : Bool) : ∃ (b : Bool) (m u er : Int), Both w0 p q S S R R x v rv 14 #[.pointer (some ⟨p, 0, none⟩), .int .i64 seq, .bool bold] (.returned (.tuple #[.agg #[.bool b, .int .i64 m, .int .u32 u], errOf er])) 15 #[.pointer (some ⟨q, 0, none⟩), .int .i64 seq, .bool bold] (.returned (.tuple #[.agg #[.bool b, .int .i64 m, .int .u32 u], .int .i64 er])) := by
  rcases look_both H I seq with ⟨i, hi, hn, hR, hS⟩ | ⟨hR, hS⟩
  · have hP := hS (S.plc seq) (fun j _ e => plc_n seq j e)
    have al := H.at' i hi
    cases e : S.plc seq i
    · rw [e] at hP
      exact ⟨false, 0, 0, 7, Both.bad k (search_bad _ p v S seq bold x k.qm hP) fun y hy => rsearch_bad _ q rv R seq i bold y hy hR (not_mayS al hn e)⟩
    · rw [e] at hP
      have hP : First (S.plc seq) S.on.length i := hP
      obtain ⟨-, hst, hz⟩ := plc_at e
      obtain ⟨b, m, u, hF⟩ := found_is S (S.at i) bold
      have h1 := search_good _ p v S seq bold i x k.qm hi hP
      rw [hF] at h1
      refine ⟨b, m, u, 0, Both.bad k h1 fun y hy => ?_⟩
      have h2 := rsearch_good _ q rv R seq bold i y hy (by rw [H.len]; exact hi) hR (by rw [al.st]; exact hst) (by rw [al.pl]; exact decide_eq_true hz) (by rw [al.a, al.z]; exact (k.qm.fit i hi).az)
      rw [H.found I i hi, hF] at h2
      exact h2
  · have hP := hS (S.plc seq) (fun j _ e => plc_n seq j e)
    exact ⟨false, 0, 0, 7, Both.bad k (search_bad _ p v S seq bold x k.qm hP) fun y hy => rsearch_bad _ q rv R seq (-1) bold y hy hR (fun q => q.1 rfl)⟩
theorem both_loaded (k : Lz w0 x p q v rv S R) (H : Same S R) (I : S.Inv) (seq : Int) : ∃ (er : Int), (er ≠ 0 ∧ Both w0 p q S S R R x v rv 17 #[.pointer (some ⟨p, 0, none⟩), .int .i64 seq] (.returned (errOf er)) 18 #[.pointer (some ⟨q, 0, none⟩), .int .i64 seq] (.returned (.int .i64 er))) ∨ (er = 0 ∧ Calls Tryd.prog 17 #[.pointer (some ⟨p, 0, none⟩), .int .i64 seq] x (fun e y => e = .returned (errOf er) ∧ ∃ S' v', Step x y w0.heap.size p v S v' S' ∧ S'.Inv ∧ ∃ R', Same S' R' ∧ ∀ y, Rm y w0.heap.size q rv R → Calls Tryd.prog 18 #[.pointer (some ⟨q, 0, none⟩), .int .i64 seq] y (fun e z => e = .returned (.int .i64 er) ∧ ∃ rv', RStep y z w0.heap.size q rv rv' R'))) := by
  rcases look_both H I seq with ⟨i, hi, hn, hR, hS⟩ | ⟨hR, hS⟩
  · have hP := hS (S.plc seq) (fun j _ e => plc_n seq j e)
    have al := H.at' i hi
    cases e : S.plc seq i
    · rw [e] at hP
      exact ⟨7, Or.inl ⟨by decide, Both.bad k (loaded_bad _ p v S seq (-1) x k.qm hP (Or.inl rfl)) fun y hy => rtake_no _ q rv R seq i y hy hR (not_mayS al hn e)⟩⟩
    · rw [e] at hP
      have hP : First (S.plc seq) S.on.length i := hP
      obtain ⟨-, hst, hz⟩ := plc_at e
      have hRi : i < R.on.length := by rw [H.len]; exact hi
      have r1 : (R.at i).st = false := by rw [al.st]; exact hst
      have r2 : (R.at i).pl = true := by rw [al.pl]; exact decide_eq_true hz
      have r3 : (R.at i).a + (R.at i).z ≤ 4294967296 := by rw [al.a, al.z]; exact (k.qm.fit i hi).az
      by_cases hld : (S.at i).loaded = true
      · exact ⟨7, Or.inl ⟨by decide, Both.bad k (loaded_bad _ p v S seq i x k.qm hP (Or.inr (by rw [Int.toNat_natCast]; exact hld))) fun y hy => rtake_bad _ q rv R seq i y hy hRi hR r1 r2 r3 (Or.inr (by rw [al.ld]; exact hld))⟩⟩
      · have hlf : (S.at i).loaded = false := by simpa using hld
        have hfr : (S.at i).fr = [] := by
          unfold Ac.loaded at hlf
          rw [decide_eq_false_iff_not] at hlf
          exact List.eq_nil_of_length_eq_zero (by omega)
        have h1 := loaded_any _ p v S seq i x k.qm hP hi hfr
        by_cases hk : S.lacks (S.at i) = true
        · rw [hk] at h1
          exact ⟨7, Or.inl ⟨by decide, Both.bad k h1 fun y hy => rtake_bad _ q rv R seq i y hy hRi hR r1 r2 r3 (Or.inl (by rw [H.lacks I i hi]; exact hk))⟩⟩
        · have hkf : S.lacks (S.at i) = false := by simpa using hk
          rw [hkf] at h1
          have hz4 : (S.at i).z ≤ 4 := by have := (k.qm.fit i hi).z; omega
          refine ⟨0, Or.inr ⟨rfl, h1.mono fun _ y b => ?_⟩⟩
          obtain ⟨b1, fb, fc, b2⟩ := (show _ ∧ _ from b)
          refine ⟨b1, _, v, b2, I.set i hi rfl (Or.inl rfl) ⟨Or.inr (by show (S.nums (S.at i)).length = (S.at i).z; rw [S.nums_len]), (I.ok i hi).ret⟩, _, H.set i hi (H.take I i hi hz hz4 fb fc), fun y hy => ?_⟩
          exact (rtake_good _ q rv R seq i y hy hRi hR r1 r2 r3 (by rw [H.lacks I i hi]; exact hkf) (by rw [al.ld]; exact hlf)).mono fun _ _ b => ⟨b.1, rv, b.2⟩
  · have hP := hS (S.plc seq) (fun j _ e => plc_n seq j e)
    exact ⟨7, Or.inl ⟨by decide, Both.bad k (loaded_bad _ p v S seq (-1) x k.qm hP (Or.inl rfl)) fun y hy => rtake_no _ q rv R seq (-1) y hy hR (fun q => q.1 rfl)⟩⟩
theorem both_retire (k : Lz w0 x p q v rv S R) (H : Same S R) (I : S.Inv) (seq : Int) : ∃ (S' : QS) (R' : RS) (er : Int), Same S' R' ∧ S'.Inv ∧ Both w0 p q S S' R R' x v rv 20 #[.pointer (some ⟨p, 0, none⟩), .int .i64 seq] (.returned (errOf er)) 21 #[.pointer (some ⟨q, 0, none⟩), .int .i64 seq] (.returned (.int .i64 er)) := by
  obtain ⟨r, hr⟩ := First.ex S.act S.on.length
  have hr2 : First R.act R.on.length r := by
    rw [H.len]
    exact hr.congr fun j hj => H.act j hj
  by_cases h1 : r = -1 ∨ (S.at r.toNat).n ≠ seq
  · refine ⟨S, R, 5, H, I, Both.bad k (retire_order _ p v S seq r x k.qm hr h1) fun y hy => ?_⟩
    refine (rretire_order _ q rv R seq r y hy hr2 ?_).mono fun _ _ b => ⟨b.1, below_of b.2⟩
    by_cases e : r = -1
    · exact Or.inl e
    · obtain ⟨i, hi, -, rfl⟩ := hr.some e
      exact h1.imp id (fun h => by rw [Int.toNat_natCast] at h ⊢; rw [(H.at' i hi).n]; exact h)
  · have h2 : r ≠ -1 := fun e => h1 (Or.inl e)
    obtain ⟨i, hi, -, rfl⟩ := hr.some h2
    have hn : (S.at i).n = seq := by
      by_cases e : (S.at i).n = seq
      · exact e
      · exact absurd (Or.inr (by rw [Int.toNat_natCast]; exact e)) h1
    have al := H.at' i hi
    have hRi : i < R.on.length := by rw [H.len]; exact hi
    have hRn : (R.at i).n = seq := by rw [al.n]; exact hn
    cases hd : (S.at i).done
    · exact ⟨S, R, 7, H, I, Both.bad k (retire_state _ p v S seq i x k.qm hr hi hn hd) fun y hy => rretire_state _ q rv R seq i y hy hr2 hRi hRn (by rw [al.done]; exact hd)⟩
    · cases hst : (S.at i).st
      · refine ⟨_, _, 0, H.del i hi, I.del i hi, ?_, fun y hy => ?_⟩
        · exact (retire_load _ p v S seq i x k.qm hr hi hn hd hst).mono fun _ _ b => ⟨b.1, b.2⟩
        · refine (rretire_load _ q rv R seq i y hy hr2 hRi hRn (by rw [al.st]; exact hst) ?_).mono fun _ _ b => ⟨b.1, b.2⟩
          rw [al.ld]
          unfold Ac.done at hd
          rw [hst] at hd
          exact hd
      · have hd2 := hd
        unfold Ac.done at hd2
        rw [hst, if_pos rfl, Bool.and_eq_true] at hd2
        have hz : 0 < (S.at i).z := by
          have := hd2.1
          unfold Ac.placed at this
          exact of_decide_eq_true this
        have hpre : ∀ j, j < i → (S.at j).rt = true := fun j hj => by
          rcases hr with ⟨i', a1, a2, a3, a4⟩ | ⟨a1, a2⟩
          · obtain rfl : i = i' := by omega
            have := a3 j hj
            unfold QS.act at this
            simpa using this
          · omega
        refine ⟨_, _, 0, H.set i hi (y := { S.at i with rt := true }) (x := { R.at i with rt := true }) ⟨al.n, al.st, al.pl, al.a, al.z, al.hv, al.d, al.ld, al.f, rfl⟩, I.set i hi rfl (Or.inr ⟨rfl, hpre⟩) ⟨(I.ok i hi).fz, fun _ => ⟨hst, hz, hd2.2⟩⟩, ?_, fun y hy => ?_⟩
        · exact (retire_store _ p v S seq i x k.qm hr hi hn hd hst).mono fun _ _ b => ⟨b.1, v, b.2⟩
        · exact (rretire_store _ q rv R seq i y hy hr2 hRi hRn (by rw [al.st]; exact hst) (by rw [al.pl]; exact hd2.1) (by rw [al.hv]; exact hd2.2)).mono fun _ _ b => ⟨b.1, rv, b.2⟩
theorem both_drain (k : Lz w0 x p q v rv S R) (H : Same S R) (I : S.Inv) : ∃ (S' : QS) (R' : RS) (b : Bool), Same S' R' ∧ S'.Inv ∧ Both w0 p q S S' R R' x v rv 22 #[.pointer (some ⟨p, 0, none⟩)] (.returned (errOf (if b then 0 else 7))) 23 #[.pointer (some ⟨q, 0, none⟩)] (.returned (.bool b)) := by
  cases h : S.top
  · exact ⟨S, R, false, H, I, Both.bad k (drain_bad _ p v S x k.qm h) fun y hy => (rdrain_bad _ q rv R y hy (by rw [H.top]; exact h)).mono fun _ _ b => ⟨b.1, below_of b.2⟩⟩
  · have h2 := h
    unfold QS.top at h2
    rw [Bool.and_eq_true, decide_eq_true_eq] at h2
    refine ⟨_, _, true, H.drained h2.1 (fun i hi => (k.qm.fit i hi).f), I.drained h2.1, ?_, fun y hy => ?_⟩
    · exact (drain_good _ p v S x k.qm h ((I.ok 0 h2.1).ret h2.2).2.1).mono fun _ _ b => ⟨b.1, b.2⟩
    · exact (rdrain_good _ q rv R y hy (by rw [H.top]; exact h)).mono fun _ _ b => ⟨b.1, b.2⟩
theorem both_spoil (k : Lz w0 x p q v rv S R) (H : Same S R) (I : S.Inv) (y : Nat) (hy : y < 4294967296) : ∃ n : Int, Both w0 p q S S R R x v rv 25 #[.pointer (some ⟨p, 0, none⟩), .int .u32 y] (.returned (.int .i64 n)) 26 #[.pointer (some ⟨q, 0, none⟩), .int .i64 y] (.returned (.int .i64 n)) := by
  obtain ⟨r, hr⟩ := First.ex (S.spo y) S.on.length
  have hr2 : First (fun i => (R.at i).spo ((y : Int) - (y : Int) % 16)) R.on.length r := by
    rw [H.len]
    exact hr.congr fun j hj => ((H.at' j hj).spo (I.ok j hj) y).symm
  refine ⟨S.num r, Both.bad k ?_ fun x' hx' => ?_⟩
  · refine (spoil_any _ p v S y x k.qm hy).mono fun _ _ b => ?_
    obtain ⟨r', b1, b2, b3⟩ := b
    obtain rfl := b2.uniq hr
    exact ⟨b1, b3⟩
  · refine (rspoil_any _ q rv R y x' hx' hy).mono fun _ _ b => ?_
    obtain ⟨r', b1, b2, b3⟩ := b
    obtain rfl := b2.uniq hr2
    exact ⟨by rw [b1, H.num r' hr.range], b3⟩
theorem both_squash (k : Lz w0 x p q v rv S R) (H : Same S R) (I : S.Inv) (af : Int) : ∃ (S' : QS) (R' : RS), Same S' R' ∧ S'.Inv ∧ Both w0 p q S S' R R' x v rv 27 #[.pointer (some ⟨p, 0, none⟩), .int .i64 af] (.returned (.tuple #[])) 28 #[.pointer (some ⟨q, 0, none⟩), .int .i64 af] (.returned (.tuple #[])) := by
  obtain ⟨i, hi, h1, h2⟩ := I.where' af
  refine ⟨_, _, H.cut i hi, I.cut i hi, squash_any _ p v S af i x k.qm hi h1 h2, fun y hy => ?_⟩
  refine rsquash_any _ q rv R af i y hy (by rw [H.len]; exact hi) (fun h0 => ?_) (fun j a1 a2 => ?_)
  · rw [H.squ af (i - 1) (by omega)]
    exact h1 _ (by omega)
  · rw [H.squ af j (by rw [← H.len]; exact a2)]
    exact h2 j a1 (by rw [← H.len]; exact a2)
end
end Go.Proofs.YthbffonedpeeiaaDoor
/-
  LSQ's LAW LsqSteps: oldest.
-/
namespace Go.Proofs.YthbffonedpeeiaaDoor
open Go Go.RowKit
theorem boxWr (w : World) (x y z : Value) : ∃ X, w.alloc (.cells #[x, y, z] 99) = X ∧ Below w.heap.size w X ∧ X.cell? ⟨w.heap.size, 0, none⟩ = some x ∧ X.cell? ⟨w.heap.size, 1, none⟩ = some y ∧ X.cell? ⟨w.heap.size, 2, none⟩ = some z ∧ X.heap.size = w.heap.size + 1 :=
  ⟨_, rfl, (Below.refl _ _).alloc (Nat.le_refl _) _, by rw [World.cell?_alloc_new]; rfl, by rw [World.cell?_alloc_new]; rfl, by rw [World.cell?_alloc_new]; rfl, by simp⟩
set_option maxRecDepth 100000 in
set_option maxHeartbeats 1000000 in
theorem loldest_no (B p q : Nat) (v rv : Value) (S : QS) (R : RS) (w : World) (k : Qm w B p v S) (kr : Rm w B q rv R) (H : Same S R) (ht : S.top = false) : Calls Tryd.prog 29 #[.pointer (some ⟨p, 0, none⟩), .pointer (some ⟨q, 0, none⟩)] w fun e w' => e = .returned (.bool true) ∧ Below w.heap.size w w' := by
  have HO := Hid.in (oldest_no B p v S w k ht)
  have HK := Hid.in k
  have HKR := Hid.in kr
  have hs := k.small.1
  have HLN := Hid.in H.len
  obtain ⟨m, hm⟩ : ∃ m, S.on.length = m := ⟨_, rfl⟩
  have HM := Hid.in hm
  by_cases h0 : m = 0
  · subst h0
    clear k kr H ht hm hs
    go_enter Tryd.func29, Tryd.ntmps29
    go_upto_region 2 with (first | (go_at_call 56; refine HO.out.mono ?_; rintro e w1 ⟨rfl, hb1⟩; have HB1 := Hid.in hb1; clear hb1))
    obtain ⟨X, hX, bX, x0, x1, x2, sX⟩ := boxWr w1 (.int .u32 0) (.int .i64 0) (.int .u32 0)
    rw [hX]
    have HBX := Hid.in (below2 HB1.out bX)
    obtain ⟨hq, -, c1, -⟩ := (HKR.out.below HBX.out).cells
    obtain ⟨g, cap, hv, -⟩ := own_rrow (HKR.out.below HBX.out).l
    rw [HLN.out, HM.out] at hv
    rw [hv] at c1
    have HNUM := Hid.in (len_any B p v S X (HK.out.below HBX.out))
    rw [HM.out] at HNUM
    clear hX bX hv
    go_wp2_with (first | (go_at_call 31; refine HNUM.out.mono ?_; rintro e w2 ⟨rfl, rfl⟩))
    go_ret
    exact ⟨rfl, HBX.out⟩
  · have hrt : (S.at 0).rt = false := by
      unfold QS.top at ht
      rw [hm, decide_eq_true (by omega)] at ht
      exact ht
    have HRR := Hid.in (kr.rows 0 (by rw [H.len, hm]; omega))
    have HRT : Hid ((R.at 0).rt = false) := by
      show (R.at 0).rt = false
      rw [(H.at' 0 (by rw [hm]; omega)).rt]
      exact hrt
    rw [hm] at hs
    have hpos : 0 < m := by omega
    clear k kr H ht hm hrt
    go_enter Tryd.func29, Tryd.ntmps29
    go_upto_region 2 with (first | (go_at_call 56; refine HO.out.mono ?_; rintro e w1 ⟨rfl, hb1⟩; have HB1 := Hid.in hb1; clear hb1))
    obtain ⟨X, hX, bX, x0, x1, x2, sX⟩ := boxWr w1 (.int .u32 0) (.int .i64 0) (.int .u32 0)
    rw [hX]
    have HBX := Hid.in (below2 HB1.out bX)
    obtain ⟨g, cap, hv, hqg, -, -, hrow⟩ := HRR.out
    obtain ⟨c1, r2, -, hg⟩ := hrow X HBX.out
    obtain ⟨-, -, -, -, -, -, -, -, y12⟩ := rrow_cells r2
    rw [HRT.out] at y12
    rw [Nat.zero_mul, Nat.zero_add] at y12
    rw [HLN.out, HM.out] at c1
    have hq : q < X.heap.size := (HKR.out.below HBX.out).cells.1
    have HNUM := Hid.in (len_any B p v S X (HK.out.below HBX.out))
    rw [HM.out] at HNUM
    clear hX bX hv hrow r2
    go_wp2_with (first | (go_at_call 31; refine HNUM.out.mono ?_; rintro e w2 ⟨rfl, rfl⟩))
    go_ret
    exact ⟨rfl, HBX.out⟩
end Go.Proofs.YthbffonedpeeiaaDoor
/-
  LSQ's LAW LsqSteps: oldest.
-/
namespace Go.Proofs.YthbffonedpeeiaaDoor
open Go Go.RowKit
set_option maxRecDepth 100000 in
set_option maxHeartbeats 3000000 in
theorem loldest_yes (B p q : Nat) (v rv : Value) (S : QS) (R : RS) (w : World) (k : Qm w B p v S) (kr : Rm w B q rv R) (H : Same S R) (ht : S.top = true) (hz : 0 < (S.at 0).z) : Calls Tryd.prog 29 #[.pointer (some ⟨p, 0, none⟩), .pointer (some ⟨q, 0, none⟩)] w fun e w' => e = .returned (.bool true) ∧ Below w.heap.size w w' := by
  have hO := oldest_yes B p v S w k ht hz
  have HK := Hid.in k
  have HKR := Hid.in kr
  have hs := k.small.1
  have HLN := Hid.in H.len
  unfold QS.top at ht
  rw [Bool.and_eq_true, decide_eq_true_eq] at ht
  have al := H.at' 0 ht.1
  have HRR := Hid.in (kr.rows 0 (by rw [H.len]; exact ht.1))
  have fit := k.fit 0 ht.1
  obtain ⟨e, he⟩ : ∃ e, R.at 0 = e := ⟨_, rfl⟩
  rw [he] at al HRR
  have HRT : Hid (e.rt = true) := al.rt.trans ht.2
  rw [← al.a, ← al.z, ← al.d] at hO
  have hez : e.z = 1 ∨ e.z = 2 ∨ e.z = 4 := by rw [al.z]; have := fit.z; omega
  have hed : e.d < 4294967296 := by rw [al.d]; exact fit.d
  have hea : e.a < 4294967296 := by rw [al.a]; exact fit.a
  obtain ⟨m, hm⟩ : ∃ m, S.on.length = m := ⟨_, rfl⟩
  have HM := Hid.in hm
  rw [hm] at hs
  have hpos : 0 < m := by have := ht.1; omega
  obtain ⟨ea, hea2⟩ : ∃ ea : Int, (e.a : Int) = ea := ⟨_, rfl⟩
  obtain ⟨ed, hed2⟩ : ∃ ed : Int, (e.d : Int) = ed := ⟨_, rfl⟩
  obtain ⟨dz, hdz⟩ : ∃ dz : Int, ((e.d % 256 ^ e.z : Nat) : Int) = dz := ⟨_, rfl⟩
  obtain ⟨ez, hez2⟩ : ∃ ez : Int, (e.z : Int) = ez := ⟨_, rfl⟩
  have hcase : (ez = 1 ∧ dz = ed % 256) ∨ (ez = 2 ∧ dz = ed % 65536) ∨ (ez = 4 ∧ dz = ed) := by
    rcases hez with q | q | q
    · refine Or.inl ⟨by omega, ?_⟩
      rw [q] at hdz
      omega
    · refine Or.inr (Or.inl ⟨by omega, ?_⟩)
      rw [q] at hdz
      omega
    · refine Or.inr (Or.inr ⟨by omega, ?_⟩)
      rw [q] at hdz
      omega
  have he0 : 0 ≤ ed := by omega
  have he1 : ed < 4294967296 := by omega
  have ha0 : 0 ≤ ea := by omega
  have ha1 : ea < 4294967296 := by omega
  rw [hea2, hez2, hdz] at hO
  have HO := Hid.in hO
  have HA := Hid.in hea2
  have HD := Hid.in hed2
  have HZ := Hid.in hez2
  clear k kr H ht hm hO al fit he hez hed hea hea2 hed2 hdz hez2 hz
  rcases hcase with ⟨rfl, rfl⟩ | ⟨rfl, rfl⟩ | ⟨rfl, rfl⟩
  all_goals
    go_enter Tryd.func29, Tryd.ntmps29
    go_upto_region 2 with (first | (go_at_call 56; refine HO.out.mono ?_; rintro e0 w1 ⟨rfl, hb1⟩; have HB1 := Hid.in hb1; clear hb1))
    obtain ⟨X, hX, bX, x0, x1, x2, sX⟩ := boxWr w1 (.int .u32 ea) (.int .i64 _) (.int .u32 _)
    rw [hX]
    have HSX := Hid.in sX
    clear sX
    have HBX := Hid.in (below2 HB1.out bX)
    obtain ⟨g, cap, hv, hqg, -, -, hrow⟩ := HRR.out
    have HRW := Hid.in hrow
    obtain ⟨c1, r2, -, hg⟩ := hrow X HBX.out
    obtain ⟨-, -, -, -, -, -, -, -, y12⟩ := rrow_cells r2
    rw [HRT.out] at y12
    rw [Nat.zero_mul, Nat.zero_add] at y12
    rw [Nat.zero_mul] at r2
    rw [HLN.out, HM.out] at c1
    have HR2 := Hid.in r2
    have hq : q < X.heap.size := (HKR.out.below HBX.out).cells.1
    have HNUM := Hid.in (len_any B p v S X (HK.out.below HBX.out))
    rw [HM.out] at HNUM
    clear hX bX hv hrow r2
    go_upto_region 7 with (first
      | (go_at_call 31; refine HNUM.out.mono ?_; rintro e1 w2 ⟨rfl, rfl⟩))
    go_upto_region 8 with (first
      | (refine ld_ent g 0 e HR2.out rfl _ rfl rfl ?_)
      | (refine st_ent e zre rfl w2.heap.size rfl rfl rfl _ _ rfl rfl rfl ?_))
    obtain ⟨Z, hZ, rZ, bZ, hsZ⟩ := rboxed e w2 89
    rw [hZ]
    obtain ⟨-, -, -, z3, z4, -, z6, -⟩ := rrow_cells0 rZ
    rw [HA.out] at z3
    rw [HZ.out] at z4
    rw [HD.out] at z6
    have x0 := (bZ.cell (p := ⟨w1.heap.size, 0, none⟩) (by show w1.heap.size < w2.heap.size; have := HSX.out; omega)).trans x0
    have x1 := (bZ.cell (p := ⟨w1.heap.size, 1, none⟩) (by show w1.heap.size < w2.heap.size; have := HSX.out; omega)).trans x1
    have x2 := (bZ.cell (p := ⟨w1.heap.size, 2, none⟩) (by show w1.heap.size < w2.heap.size; have := HSX.out; omega)).trans x2
    have HBZ := Hid.in (below2 HBX.out bZ)
    clear hZ rZ bZ c1 y12
    go_wp2
    go_ret
    exact ⟨rfl, HBZ.out⟩
end Go.Proofs.YthbffonedpeeiaaDoor
/-
  LSQ's LAW LsqSteps: the size refused; the start; the op's block; oldest.
-/
namespace Go.Proofs.YthbffonedpeeiaaDoor
open Go Go.RowKit
theorem loldest {w0 x : World} {p q : Nat} {v rv : Value} {S : QS} {R : RS} (k : Lz w0 x p q v rv S R) (H : Same S R) (I : S.Inv) : Calls Tryd.prog 29 #[.pointer (some ⟨p, 0, none⟩), .pointer (some ⟨q, 0, none⟩)] x fun e w' => e = .returned (.bool true) ∧ Below x.heap.size x w' := by
  cases h : S.top
  · exact loldest_no _ p q v rv S R x k.qm k.rm H h
  · have h2 := h
    unfold QS.top at h2
    rw [Bool.and_eq_true, decide_eq_true_eq] at h2
    exact loldest_yes _ p q v rv S R x k.qm k.rm H h ((I.ok 0 h2.1).ret h2.2).2.1
def OpsAt (w : World) (q : Option Addr) (m : Nat) (g : Nat → Nat → Int) : Prop := ∀ i, i < m → ∃ b o, q = some ⟨b, o, none⟩ ∧ b < w.heap.size ∧ w.cell? ⟨b, o + i * 4, none⟩ = some (.int .i64 (g i 0)) ∧ w.cell? ⟨b, o + i * 4 + 1, none⟩ = some (.int .i64 (g i 1)) ∧ w.cell? ⟨b, o + i * 4 + 2, none⟩ = some (.int .i64 (g i 2)) ∧ w.cell? ⟨b, o + i * 4 + 3, none⟩ = some (.int .i64 (g i 3))
set_option maxRecDepth 100000 in
set_option maxHeartbeats 4000000 in
theorem steps_bad (n : Int) (wp : Option Addr) (m cw : Nat) (w : World) (hn : ¬ (1 ≤ n ∧ n ≤ 32)) (hg : handleAt w) (hm : m ≤ 9223372036854775807) : Calls Tryd.prog 3 #[.int .i64 n, .slice wp m cw] w fun e w' => e = .returned (.bool true) ∧ Below w.heap.size w w' := by
  have HG := Hid.in hg
  have HN := Hid.in hn
  clear hg hn
  go_enter Tryd.func3, Tryd.ntmps3
  go_wp2_with (first
    | (go_at_call 5; refine (new_bad n _ HN.out).mono ?_; rintro e w1 ⟨rfl, hww⟩; have hww2 := hww.symm; clear hww; subst hww2)
    | (go_at_call 6; refine (rnew_bad n _ HN.out).mono ?_; rintro e w2 ⟨rfl, hww⟩; have hww2 := hww.symm; clear hww; subst hww2)
    | (go_at_call 7; refine (ltold_err 2 _ HG.out).mono ?_; rintro e w3 ⟨rfl, hb⟩; have HB := Hid.in hb; clear hb))
  go_loopw [9, 10, 11] (fun _ _ kv wr => kv = .int .i64 0 ∧ Below w.heap.size w wr) (fun _ _ _ _ => 0)
  case atStart => exact ⟨rfl, HB.out⟩
  case round =>
    obtain ⟨rfl, hbr⟩ := hrel
    have HBR := Hid.in hbr
    clear hbr
    by_cases h0 : m = 0
    · subst h0
      go_wp2
      go_ret
      exact ⟨rfl, HBR.out⟩
    · have h1 : (0 : Int) < (m : Int) := by omega
      go_wp2
      go_ret
      exact ⟨rfl, HBR.out⟩
theorem lz_start {w w1 w2 : World} {n p q : Nat} (k1 : Qm w1 w.heap.size p (.slice none 0 0) ⟨n, []⟩) (b1 : Below w.heap.size w w1) (hq : w1.heap.size = q) (k2 : Rm w2 w.heap.size q (.slice none 0 0) ⟨n, []⟩) (b2 : Below w1.heap.size w1 w2) : Lz w w2 p q (.slice none 0 0) (.slice none 0 0) ⟨n, []⟩ ⟨n, []⟩ := by
  refine ⟨k1.below b2, k2, fun j hj e => ?_, b1.trans (b2.mono b1.size)⟩
  have h1 := (k1.low j e).2
  rcases hj with rfl | hj
  · omega
  · simp [Value.ownBlock] at hj
theorem same_start (n : Nat) : Same ⟨n, []⟩ ⟨n, []⟩ := ⟨rfl, rfl, fun i hi => absurd hi (by simp)⟩
theorem inv_start (n : Nat) (h : 1 ≤ n) : QS.Inv ⟨n, []⟩ := ⟨fun i j _ hj => absurd hj (by simp), fun i j _ hj => absurd hj (by simp), fun i hi => absurd hi (by simp), by simp, h⟩
def ov4 (a b c d : Int) : Nat → Value
  | 0 => .int .i64 a
  | 1 => .int .i64 b
  | 2 => .int .i64 c
  | _ => .int .i64 d
theorem ov4_new (w : World) (a b c d : Int) : CellsAt 4 (w.alloc (.cells #[.int .i64 a, .int .i64 b, .int .i64 c, .int .i64 d] 33)) w.heap.size (ov4 a b c d) := by
  refine cells_new w fun i hi => ?_
  match i, hi with
  | 0, _ => rfl
  | 1, _ => rfl
  | 2, _ => rfl
  | 3, _ => rfl
theorem op_cells {x : World} {ob : Nat} {a b c d : Int} (h : CellsAt 4 x ob (ov4 a b c d)) : x.cell? ⟨ob, 2, none⟩ = some (.int .i64 c) ∧ x.cell? ⟨ob, 3, none⟩ = some (.int .i64 d) ∧ ob < x.heap.size :=
  ⟨h.cell 2 (by decide), h.cell 3 (by decide), h.here⟩
theorem op_cells0 {x : World} {ob : Nat} {a b c d : Int} (h : CellsAt 4 x ob (ov4 a b c d)) : x.cell? ⟨ob, 0, none⟩ = some (.int .i64 a) ∧ x.cell? ⟨ob, 1, none⟩ = some (.int .i64 b) ∧ x.cell? ⟨ob, 2, none⟩ = some (.int .i64 c) ∧ x.cell? ⟨ob, 3, none⟩ = some (.int .i64 d) ∧ ob < x.heap.size :=
  ⟨h.cell 0 (by decide), h.cell 1 (by decide), op_cells h⟩
end Go.Proofs.YthbffonedpeeiaaDoor
