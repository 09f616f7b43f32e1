import Derived.Test.YtemamhkhjijdlaaGreatDoorY03
import Derived.Test.YtemamhkhjijdlaaGreatDoorY04
import Derived.Test.YtemamhkhjijdlaaGreatDoorY09
/-
  CACHE's LAW CacheMemory: what lasts, in plain numbers.
-/
namespace Go.Proofs.YtemamhkhjijdlaaGreatDoor
open Go Go.RowKit
theorem cut_at (l : List Ln) (k : Nat) (h : k < l.length) : l = l.take k ++ l.getD k l0 :: l.drop (k + 1) := by
  have e : l.drop k = l.getD k l0 :: l.drop (k + 1) := by
    rw [List.drop_eq_getElem_cons h, List.getD_eq_getElem?_getD, List.getElem?_eq_getElem h]
    rfl
  rw [← e, List.take_append_drop]
theorem getD_mem (l : List Ln) (k : Nat) (h : k < l.length) : l.getD k l0 ∈ l := by
  rw [List.getD_eq_getElem?_getD, List.getElem?_eq_getElem h]
  exact List.getElem_mem h
theorem mem_rest (l : List Ln) (k : Nat) (e : Ln) (h : e ∈ rest l k) : e ∈ l := by
  rcases List.mem_append.1 h with h | h
  · exact List.mem_of_mem_take h
  · exact List.mem_of_mem_drop h
theorem mem_split (l : List Ln) (k : Nat) (e : Ln) (hk : k < l.length) (h : e ∈ l) : e ∈ rest l k ∨ e = l.getD k l0 := by
  rw [cut_at l k hk] at h
  rcases List.mem_append.1 h with h | h
  · exact Or.inl (List.mem_append.2 (Or.inl h))
  · rcases List.mem_cons.1 h with h | h
    · exact Or.inr h
    · exact Or.inl (List.mem_append.2 (Or.inr h))
abbrev Apart (l : List Ln) : Prop := l.Pairwise (fun x y => x.a ≠ y.a)
theorem apart_rest (l : List Ln) (k : Nat) (hk : k < l.length) (h : Apart l) : Apart (rest l k) ∧ ∀ e ∈ rest l k, e.a ≠ (l.getD k l0).a := by
  have h2 : Apart (l.take k ++ l.getD k l0 :: l.drop (k + 1)) := by rw [← cut_at l k hk]; exact h
  obtain ⟨a1, a2, a3⟩ := List.pairwise_append.1 h2
  obtain ⟨b1, b2⟩ := List.pairwise_cons.1 a2
  refine ⟨List.pairwise_append.2 ⟨a1, b2, fun x hx y hy => a3 x hx y (List.mem_cons_of_mem _ hy)⟩, fun e he => ?_⟩
  rcases List.mem_append.1 he with he | he
  · exact a3 e he _ List.mem_cons_self
  · exact (b1 e he).symm
theorem at_mem {l : List Ln} {a i : Nat} (h : At l a i) : l.getD i l0 ∈ l ∧ (l.getD i l0).a = lineOf a := ⟨getD_mem l i h.1, h.2.1⟩
theorem no_mem {l : List Ln} {a : Nat} (h : No l a) : ∀ e ∈ l, e.a ≠ lineOf a := by
  intro e he
  obtain ⟨j, hj, rfl⟩ := List.getElem_of_mem he
  have := h j hj
  rwa [List.getD_eq_getElem?_getD, List.getElem?_eq_getElem hj] at this
theorem no_of {l : List Ln} {a : Nat} (h : ∀ e ∈ l, e.a ≠ lineOf a) : No l a := fun j hj => h _ (getD_mem l j hj)
/-- memory behind a cache: what it should read as (f), what is written (m) -/
structure Inv (S : CS) (f m : Nat → Nat) : Prop where
  n : 1 ≤ S.n
  ways : 1 ≤ S.ways
  line : ∀ i, i < S.n → ∀ e ∈ S.set i, e.a % 16 = 0 ∧ e.a < 1024 ∧ S.of e.a = i ∧ (e.s = 2 ∨ e.s = 3) ∧ (∀ t, t < 16 → e.b t = f (e.a + t)) ∧ (e.s = 2 → ∀ t, t < 16 → m (e.a + t) = f (e.a + t))
  one : ∀ i, i < S.n → Apart (S.set i)
  out : ∀ x, x < 1024 → (∀ e ∈ S.set (S.of x), e.a ≠ lineOf x) → m x = f x
  fb : ∀ x, f x < 256
  mb : ∀ x, m x < 256
theorem of_line (S : CS) (x a : Nat) (h : lineOf x = lineOf a) : S.of x = S.of a := by
  unfold lineOf at h
  unfold CS.of
  have : x / 16 = a / 16 := by omega
  rw [this]
theorem of_lineOf (S : CS) (a : Nat) : S.of (lineOf a) = S.of a := of_line S _ _ (by unfold lineOf; omega)
theorem putN_a (e : Ln) (q d : Nat) : ∀ z, (e.putN q d z).a = e.a ∧ (e.putN q d z).s = e.s
  | 0 => ⟨rfl, rfl⟩
  | z + 1 => putN_a e q d z
theorem putN_b (e : Ln) (q d : Nat) : ∀ z t, (e.putN q d z).b t = if q ≤ t ∧ t < q + z then d / 256 ^ (t - q) % 256 else e.b t
  | 0, t => by rw [if_neg (by omega)]; rfl
  | z + 1, t => by
    show upd (e.putN q d z).b (q + z) (d / 256 ^ z % 256) t = _
    by_cases h : t = q + z
    · subst h
      rw [upd_same, if_pos (by omega), Nat.add_sub_cancel_left]
    · rw [upd_other _ _ _ _ h, putN_b e q d z t]
      by_cases h2 : q ≤ t ∧ t < q + z
      · rw [if_pos h2, if_pos (by omega)]
      · rw [if_neg h2, if_neg (by omega)]
def written (f : Nat → Nat) (a z d : Nat) : Nat → Nat := fun x => if a ≤ x ∧ x < a + z then d / 256 ^ (x - a) % 256 else f x
theorem Inv.wrote {S : CS} {f m : Nat → Nat} (h : Inv S f m) (a z d k : Nat) (hz : a % 16 + z ≤ 16) (hA : At (S.set (S.of a)) a k) : Inv (S.wrote (S.of a) k (a % 16) d z) (written f a z d) m := by
  obtain ⟨r, hr⟩ : ∃ r, S.of a = r := ⟨_, rfl⟩
  have hO := S.of_lt a h.n
  obtain ⟨m1, m2⟩ := at_mem hA
  rw [hr] at hA m1 m2 hO ⊢
  obtain ⟨a1, a2⟩ := apart_rest _ k hA.1 (h.one r hO)
  obtain ⟨L, hL⟩ : ∃ L, (S.set r).getD k l0 = L := ⟨_, rfl⟩
  rw [hL] at m1 m2 a2
  have hset : (S.wrote r k (a % 16) d z).set = upd S.set r (rest (S.set r) k ++ [L.wr (a % 16) d z]) := by
    show upd S.set r (rest (S.set r) k ++ [((S.set r).getD k l0).wr (a % 16) d z]) = _
    rw [hL]
  have wa : (L.wr (a % 16) d z).a = lineOf a ∧ (L.wr (a % 16) d z).s = 3 := by
    obtain ⟨p1, p2⟩ := putN_a (L.setS 3) (a % 16) d z
    exact ⟨p1.trans m2, p2⟩
  have same : ∀ x, lineOf x ≠ lineOf a → written f a z d x = f x := by
    intro x hx
    unfold written
    rw [if_neg]
    intro q
    apply hx
    unfold lineOf
    omega
  have other : ∀ e : Ln, e.a % 16 = 0 → e.a ≠ lineOf a → ∀ t, t < 16 → written f a z d (e.a + t) = f (e.a + t) := by
    intro e he hne t ht
    refine same _ (fun q => hne ?_)
    rw [← q]
    unfold lineOf
    omega
  have old : ∀ i, i < S.n → ∀ e ∈ S.set i, e.a ≠ lineOf a → e.a % 16 = 0 ∧ e.a < 1024 ∧ S.of e.a = i ∧ (e.s = 2 ∨ e.s = 3) ∧ (∀ t, t < 16 → e.b t = written f a z d (e.a + t)) ∧ (e.s = 2 → ∀ t, t < 16 → m (e.a + t) = written f a z d (e.a + t)) := by
    intro i hi e he hne
    obtain ⟨b1, b2, b3, b4, b5, b6⟩ := h.line i hi e he
    exact ⟨b1, b2, b3, b4, fun t ht => by rw [other e b1 hne t ht]; exact b5 t ht, fun hs t ht => by rw [other e b1 hne t ht]; exact b6 hs t ht⟩
  obtain ⟨c1, c2, c3, -, c5, -⟩ := h.line r hO L m1
  refine ⟨h.n, h.ways, fun i hi e he => ?_, fun i hi => ?_, fun x hx hn => ?_, fun x => ?_, h.mb⟩
  · rw [hset] at he
    by_cases q : i = r
    · subst q
      rw [upd_same] at he
      rcases List.mem_append.1 he with he | he
      · exact old i hi e (mem_rest _ _ _ he) (fun e2 => a2 e he (e2.trans m2.symm))
      · obtain rfl := List.mem_singleton.1 he
        refine ⟨by rw [wa.1, ← m2]; exact c1, by rw [wa.1, ← m2]; exact c2, ?_, Or.inr wa.2, fun t ht => ?_, fun hs => ?_⟩
        · rw [wa.1, ← m2]
          exact c3
        · rw [wa.1]
          show ((L.setS 3).putN (a % 16) d z).b t = _
          rw [putN_b]
          unfold written
          by_cases q : a % 16 ≤ t ∧ t < a % 16 + z
          · have e1 : lineOf a + t - a = t - a % 16 := by unfold lineOf; omega
            rw [if_pos q, if_pos (by unfold lineOf; omega), e1]
          · rw [if_neg q, if_neg (by unfold lineOf; omega), ← m2]
            exact c5 t ht
        · rw [wa.2] at hs
          omega
    · rw [upd_other _ _ _ _ q] at he
      refine old i hi e he (fun e2 => q ?_)
      have := (h.line i hi e he).2.2.1
      rw [← this, e2, of_lineOf, hr]
  · show Apart ((S.wrote r k (a % 16) d z).set i)
    rw [hset]
    by_cases q : i = r
    · subst q
      rw [upd_same]
      refine List.pairwise_append.2 ⟨a1, List.pairwise_singleton _ _, fun x hx y hy => ?_⟩
      rw [List.mem_singleton.1 hy, wa.1, ← m2]
      exact a2 x hx
    · rw [upd_other _ _ _ _ q]
      exact h.one i hi
  · have hn' : ∀ e ∈ upd S.set r (rest (S.set r) k ++ [L.wr (a % 16) d z]) (S.of x), e.a ≠ lineOf x := by
      rw [← hset]
      exact hn
    have hne : lineOf x ≠ lineOf a := by
      intro q
      have e1 : S.of x = r := (of_line S _ _ q).trans hr
      rw [e1, upd_same] at hn'
      exact hn' _ (List.mem_append.2 (Or.inr (List.mem_singleton.2 rfl))) (wa.1.trans q.symm)
    rw [same x hne]
    refine h.out x hx (fun e he => ?_)
    by_cases q : S.of x = r
    · rw [q] at he
      rw [q, upd_same] at hn'
      rcases mem_split _ k e hA.1 he with he | he
      · exact hn' e (List.mem_append.2 (Or.inl he))
      · rw [he, hL, m2]
        exact fun e => hne e.symm
    · rw [upd_other _ _ _ _ q] at hn'
      exact hn' e he
  · unfold written
    split
    · omega
    · exact h.fb x
def back (m : Nat → Nat) (e : Ln) : Nat → Nat := fun x => if e.s = 3 ∧ e.a ≤ x ∧ x < e.a + 16 then e.b (x - e.a) else m x
theorem Inv.fill {S : CS} {f m : Nat → Nat} (h : Inv S f m) (a : Nat) (h16 : a % 16 = 0) (ha : a < 1024) (hN : No (S.set (S.of a)) a) : Inv (S.fill a 2 (fun t => m (a + t))) f (back m (S.left a)) ∧ (S.full a = true → S.left a ∈ S.set (S.of a)) ∧ (S.full a = false → S.left a = l0) := by
  have hla : lineOf a = a := by unfold lineOf; omega
  have hno := no_mem hN
  rw [hla] at hno
  obtain ⟨r, hr⟩ : ∃ r, S.of a = r := ⟨_, rfl⟩
  have hO := S.of_lt a h.n
  have hlen : S.full a = true → 0 < (S.set (S.of a)).length := by
    intro q
    have : (S.set (S.of a)).length = S.ways := by simpa [CS.full] using q
    have := h.ways
    omega
  have l1 : S.full a = true → S.left a = (S.set (S.of a)).getD 0 l0 := fun q => by simp [CS.left, q]
  have l2 : S.full a = false → S.left a = l0 := fun q => by simp [CS.left, q]
  have lm : S.full a = true → S.left a ∈ S.set (S.of a) := fun q => by rw [l1 q]; exact getD_mem _ _ (hlen q)
  refine ⟨?_, lm, l2⟩
  have km : ∀ e ∈ S.kept a, e ∈ S.set (S.of a) := by
    intro e he
    unfold CS.kept at he
    by_cases q : S.full a = true
    · rw [if_pos q] at he
      exact mem_rest _ _ _ he
    · rw [if_neg q] at he
      exact he
  have ka : Apart (S.kept a) := by
    unfold CS.kept
    by_cases q : S.full a = true
    · rw [if_pos q]
      exact (apart_rest _ 0 (hlen q) (h.one _ hO)).1
    · rw [if_neg q]
      exact h.one _ hO
  have left3 : (S.left a).s = 3 → S.left a ∈ S.set (S.of a) := by
    intro q
    by_cases q2 : S.full a = true
    · exact lm q2
    · rw [l2 (by simpa using q2)] at q
      exact absurd q (by decide)
  have either : ∀ x, back m (S.left a) x = m x ∨ back m (S.left a) x = f x := by
    intro x
    unfold back
    by_cases q : (S.left a).s = 3 ∧ (S.left a).a ≤ x ∧ x < (S.left a).a + 16
    · rw [if_pos q]
      right
      have := (h.line _ hO _ (left3 q.1)).2.2.2.2.1 (x - (S.left a).a) (by omega)
      rw [this]
      congr 1
      omega
    · rw [if_neg q]
      exact Or.inl rfl
  have good : ∀ x, m x = f x → back m (S.left a) x = f x := fun x q => (either x).elim (fun e => e.trans q) id
  have fresh : ∀ t, t < 16 → m (a + t) = f (a + t) := by
    intro t ht
    have e1 : lineOf (a + t) = a := by unfold lineOf; omega
    have e2 : S.of (a + t) = S.of a := of_line S _ _ (by rw [e1, hla])
    exact h.out _ (by omega) (by rw [e1, e2]; exact hno)
  have hset : (S.fill a 2 (fun t => m (a + t))).set = upd S.set r (S.kept a ++ [⟨a, 2, fun t => m (a + t)⟩]) := by
    show upd S.set (S.of a) _ = _
    rw [hr]
  have old : ∀ i, i < S.n → ∀ e ∈ S.set i, e.a % 16 = 0 ∧ e.a < 1024 ∧ S.of e.a = i ∧ (e.s = 2 ∨ e.s = 3) ∧ (∀ t, t < 16 → e.b t = f (e.a + t)) ∧ (e.s = 2 → ∀ t, t < 16 → back m (S.left a) (e.a + t) = f (e.a + t)) := by
    intro i hi e he
    obtain ⟨b1, b2, b3, b4, b5, b6⟩ := h.line i hi e he
    exact ⟨b1, b2, b3, b4, b5, fun hs t ht => good _ (b6 hs t ht)⟩
  rw [hr] at hO km hno lm left3 hlen l1
  refine ⟨h.n, h.ways, fun i hi e he => ?_, fun i hi => ?_, fun x hx hn => ?_, h.fb, fun x => ?_⟩
  · rw [hset] at he
    by_cases q : i = r
    · subst q
      rw [upd_same] at he
      rcases List.mem_append.1 he with he | he
      · exact old i hi e (km e he)
      · obtain rfl := List.mem_singleton.1 he
        exact ⟨h16, ha, hr, Or.inl rfl, fresh, fun _ t ht => good _ (fresh t ht)⟩
    · rw [upd_other _ _ _ _ q] at he
      exact old i hi e he
  · show Apart ((S.fill a 2 (fun t => m (a + t))).set i)
    rw [hset]
    by_cases q : i = r
    · subst q
      rw [upd_same]
      refine List.pairwise_append.2 ⟨ka, List.pairwise_singleton _ _, fun x hx y hy => ?_⟩
      rw [List.mem_singleton.1 hy]
      exact hno x (km x hx)
    · rw [upd_other _ _ _ _ q]
      exact h.one i hi
  · have hn' : ∀ e ∈ upd S.set r (S.kept a ++ [⟨a, 2, fun t => m (a + t)⟩]) (S.of x), e.a ≠ lineOf x := by
      rw [← hset]
      exact hn
    by_cases q : S.of x = r
    · rw [q, upd_same] at hn'
      by_cases q2 : ∀ e ∈ S.set r, e.a ≠ lineOf x
      · exact good x (h.out x hx (by rw [q]; exact q2))
      · obtain ⟨e, he1, he2⟩ : ∃ e, e ∈ S.set r ∧ e.a = lineOf x := by
          apply Classical.byContradiction
          intro q3
          exact q2 (fun e he e2 => q3 ⟨e, he, e2⟩)
        have hk : e ∉ S.kept a := fun he => hn' e (List.mem_append.2 (Or.inl he)) he2
        have hfu : S.full a = true := by
          by_cases q3 : S.full a = true
          · exact q3
          · exact absurd (by unfold CS.kept; rw [if_neg q3, hr]; exact he1) hk
        have hel : e = S.left a := by
          rcases mem_split _ 0 e (hlen hfu) he1 with q4 | q4
          · exact absurd (by unfold CS.kept; rw [if_pos hfu, hr]; exact q4) hk
          · rw [l1 hfu]
            exact q4
        subst hel
        obtain ⟨b1, b2, b3, b4, b5, b6⟩ := h.line r hO _ he1
        have hxr : (S.left a).a ≤ x ∧ x < (S.left a).a + 16 := by rw [he2]; unfold lineOf; omega
        rcases b4 with b4 | b4
        · have := b6 b4 (x - (S.left a).a) (by omega)
          rw [show (S.left a).a + (x - (S.left a).a) = x by omega] at this
          exact good x this
        · unfold back
          rw [if_pos ⟨b4, hxr⟩, b5 _ (by omega)]
          congr 1
          omega
    · rw [upd_other _ _ _ _ q] at hn'
      exact good x (h.out x hx hn')
  · rcases either x with q | q
    · rw [q]
      exact h.mb x
    · rw [q]
      exact h.fb x
end Go.Proofs.YtemamhkhjijdlaaGreatDoor
/-
  BUS: note.
-/
namespace Go.Proofs.YtemamhkhjijdlaaGreatDoor
open Go Go.RowKit
section
variable {x : World} {B p rb rc mb mc nb ab kn ka : Nat} {P H C : Nat → Nat} {V : Nat → Nat → Value} {S : BS}
end
end Go.Proofs.YtemamhkhjijdlaaGreatDoor
/-
  BUS: note.
-/
namespace Go.Proofs.YtemamhkhjijdlaaGreatDoor
open Go Go.RowKit
section
variable {x y : World} {B p rb rc mb mc nb ab kn ka : Nat} {P H C : Nat → Nat} {V : Nat → Nat → Value} {S : BS}
theorem Bm.other {z : Nat} (k : Bm x B p rb rc mb mc nb ab kn ka P H C V S) (t : Turned (fun j => j = z) x y) (h5 : ¬ own5 p rb mb nb ab z) (hm : ∀ i, i < S.nc → ¬ mine (P i) (H i) (S.c i).n (V i) z) : Bm y B p rb rc mb mc nb ab kn ka P H C V S := by
  have n5 : ∀ j, own5 p rb mb nb ab j → ¬ j = z := fun j hj e => h5 (by rw [← e]; exact hj)
  exact ⟨t.cells k.c (n5 p (Or.inl rfl)), t.cells k.row (n5 rb (Or.inr (Or.inl rfl))), fun i hi => (k.ch i hi).off t (fun j hj e => hm i hi (by rw [← e]; exact hj)), t.cells k.m (n5 mb (Or.inr (Or.inr (Or.inl rfl)))), k.nw.turned t (n5 nb (Or.inr (Or.inr (Or.inr (Or.inl rfl))))), k.ak.turned t (n5 ab (Or.inr (Or.inr (Or.inr (Or.inr rfl))))), k.d0, k.d1, k.d2, k.lo, k.sz, k.rm, k.m8⟩
end
end Go.Proofs.YtemamhkhjijdlaaGreatDoor
/-
  BUS' LAW BusCoheres: what lasts, plainly: lines of a cache as a set.
-/
namespace Go.Proofs.YtemamhkhjijdlaaGreatDoor
open Go Go.RowKit
/-- a cache whose lines stand in their sets, each once -/
structure Stc (T : CS) : Prop where
  n : 1 ≤ T.n
  ways : 1 ≤ T.ways
  at' : ∀ q, q < T.n → ∀ e ∈ T.set q, T.of e.a = q ∧ e.a % 16 = 0
  one : ∀ q, q < T.n → Apart (T.set q)
def CS.L (T : CS) (e : Ln) : Prop := ∃ q, q < T.n ∧ e ∈ T.set q
theorem apart_uni {l : List Ln} (h : Apart l) {e e' : Ln} (a : e ∈ l) (b : e' ∈ l) (q : e.a = e'.a) : e = e' := by
  induction l with
  | nil => cases a
  | cons x l ih =>
    obtain ⟨h1, h2⟩ := List.pairwise_cons.1 h
    rcases List.mem_cons.1 a with a | a <;> rcases List.mem_cons.1 b with b | b
    · rw [a, b]
    · exact absurd (by rw [← a]; exact q) (h1 e' b)
    · exact absurd (by rw [← b]; exact q.symm) (h1 e a)
    · exact ih h2 a b
theorem Stc.uni {T : CS} (h : Stc T) {e e' : Ln} (a : T.L e) (b : T.L e') (q : e.a = e'.a) : e = e' := by
  obtain ⟨x, hx, mx⟩ := a
  obtain ⟨y, hy, my⟩ := b
  have e1 := (h.at' x hx e mx).1
  have e2 := (h.at' y hy e' my).1
  rw [q, e2] at e1
  subst e1
  exact apart_uni (h.one _ hy) mx my q
theorem Stc.put {T : CS} (h : Stc T) (q : Nat) (hq : q < T.n) (l : List Ln) (hl : ∀ e ∈ l, T.of e.a = q ∧ e.a % 16 = 0) (hp : Apart l) : Stc (T.put q l) ∧ ∀ e, (T.put q l).L e ↔ (e ∈ l ∨ (T.L e ∧ T.of e.a ≠ q)) := by
  have hs : ∀ j, (T.put q l).set j = if j = q then l else T.set j := fun j => by
    show upd T.set q l j = _
    by_cases e : j = q
    · rw [if_pos e, e, upd_same]
    · rw [if_neg e, upd_other _ _ _ _ e]
  refine ⟨⟨h.n, h.ways, fun j hj e he => ?_, fun j hj => ?_⟩, fun e => ⟨?_, ?_⟩⟩
  · rw [hs] at he
    by_cases x : j = q
    · rw [if_pos x] at he
      rw [x]
      exact hl e he
    · rw [if_neg x] at he
      exact h.at' j hj e he
  · rw [hs]
    by_cases x : j = q
    · rw [if_pos x]; exact hp
    · rw [if_neg x]; exact h.one j hj
  · rintro ⟨j, hj, he⟩
    rw [hs] at he
    by_cases x : j = q
    · rw [if_pos x] at he; exact Or.inl he
    · rw [if_neg x] at he
      exact Or.inr ⟨⟨j, hj, he⟩, by rw [(h.at' j hj e he).1]; exact x⟩
  · rintro (he | ⟨⟨j, hj, he⟩, x⟩)
    · exact ⟨q, hq, by rw [hs, if_pos rfl]; exact he⟩
    · rw [(h.at' j hj e he).1] at x
      exact ⟨j, hj, by rw [hs, if_neg x]; exact he⟩
theorem Stc.L_of {T : CS} (h : Stc T) {q : Nat} (hq : q < T.n) (e : Ln) : e ∈ T.set q ↔ (T.L e ∧ T.of e.a = q) :=
  ⟨fun he => ⟨⟨q, hq, he⟩, (h.at' q hq e he).1⟩, fun ⟨⟨j, hj, he⟩, x⟩ => by rw [(h.at' j hj e he).1] at x; rw [← x]; exact he⟩
theorem rest_iff {l : List Ln} (h : Apart l) {k : Nat} (hk : k < l.length) (e : Ln) : e ∈ rest l k ↔ (e ∈ l ∧ e.a ≠ (l.getD k l0).a) := by
  constructor
  · intro he
    exact ⟨mem_rest l k e he, (apart_rest l k hk h).2 e he⟩
  · rintro ⟨he, hn⟩
    rcases mem_split l k e hk he with q | q
    · exact q
    · exact absurd (by rw [q]) hn
theorem Stc.rem {T : CS} (h : Stc T) (q k : Nat) (hq : q < T.n) (hk : k < (T.set q).length) : Stc (T.put q (rest (T.set q) k)) ∧ ∀ e, (T.put q (rest (T.set q) k)).L e ↔ (T.L e ∧ e.a ≠ ((T.set q).getD k l0).a) := by
  have hr := rest_iff (h.one q hq) hk
  obtain ⟨a, b⟩ := h.put q hq (rest (T.set q) k) (fun e he => h.at' q hq e ((hr e).1 he).1) (apart_rest _ k hk (h.one q hq)).1
  refine ⟨a, fun e => ?_⟩
  rw [b e, hr e, h.L_of hq]
  have g := (h.L_of hq ((T.set q).getD k l0)).1 (getD_mem _ k hk)
  constructor
  · rintro (⟨⟨x, y⟩, z⟩ | ⟨x, y⟩)
    · exact ⟨x, z⟩
    · exact ⟨x, fun e' => y (by rw [e']; exact g.2)⟩
  · rintro ⟨x, y⟩
    by_cases z : T.of e.a = q
    · exact Or.inl ⟨⟨x, z⟩, y⟩
    · exact Or.inr ⟨x, z⟩
theorem Stc.wrote {T : CS} (h : Stc T) (q k : Nat) (hq : q < T.n) (hk : k < (T.set q).length) (x : Ln) (hx : x.a = ((T.set q).getD k l0).a) : Stc (T.put q (rest (T.set q) k ++ [x])) ∧ ∀ e, (T.put q (rest (T.set q) k ++ [x])).L e ↔ ((T.L e ∧ e.a ≠ x.a) ∨ e = x) := by
  have hr := rest_iff (h.one q hq) hk
  have g := (h.L_of hq ((T.set q).getD k l0)).1 (getD_mem _ k hk)
  have g2 := h.at' q hq _ (getD_mem _ k hk)
  have ap := apart_rest _ k hk (h.one q hq)
  obtain ⟨a, b⟩ := h.put q hq (rest (T.set q) k ++ [x]) (fun e he => by
    rcases List.mem_append.1 he with he | he
    · exact h.at' q hq e ((hr e).1 he).1
    · rw [List.mem_singleton.1 he, hx]
      exact g2) (List.pairwise_append.2 ⟨ap.1, List.pairwise_singleton _ _, fun e he y hy => by
      rw [List.mem_singleton.1 hy, hx]
      exact ap.2 e he⟩)
  refine ⟨a, fun e => ?_⟩
  rw [b e, List.mem_append, hr e, List.mem_singleton, h.L_of hq, hx]
  constructor
  · rintro ((⟨⟨u, y⟩, z⟩ | u) | ⟨u, y⟩)
    · exact Or.inl ⟨u, z⟩
    · exact Or.inr u
    · exact Or.inl ⟨u, fun e' => y (by rw [e']; exact g.2)⟩
  · rintro (⟨u, y⟩ | u)
    · by_cases z : T.of e.a = q
      · exact Or.inl (Or.inl ⟨⟨u, z⟩, y⟩)
      · exact Or.inr ⟨u, z⟩
    · exact Or.inl (Or.inr u)
theorem mem_setL (l : List Ln) (k : Nat) (hk : k < l.length) (x e : Ln) : e ∈ l.set k x ↔ (e ∈ rest l k ∨ e = x) := by
  have : l.set k x = l.take k ++ x :: l.drop (k + 1) := List.set_eq_take_append_cons_drop .. |>.trans (by rw [if_pos hk])
  rw [this, List.mem_append, List.mem_cons]
  show _ ↔ (e ∈ l.take k ++ l.drop (k + 1) ∨ _)
  rw [List.mem_append]
  constructor
  · rintro (u | u | u)
    · exact Or.inl (Or.inl u)
    · exact Or.inr u
    · exact Or.inl (Or.inr u)
  · rintro ((u | u) | u)
    · exact Or.inl u
    · exact Or.inr (Or.inr u)
    · exact Or.inr (Or.inl u)
theorem apart_setL (l : List Ln) (k : Nat) (hk : k < l.length) (x : Ln) (hx : x.a = (l.getD k l0).a) (h : Apart l) : Apart (l.set k x) := by
  have : l.set k x = l.take k ++ x :: l.drop (k + 1) := List.set_eq_take_append_cons_drop .. |>.trans (by rw [if_pos hk])
  rw [this]
  have h2 : Apart (l.take k ++ l.getD k l0 :: l.drop (k + 1)) := by rw [← cut_at l k hk]; exact h
  obtain ⟨a1, a2, a3⟩ := List.pairwise_append.1 h2
  obtain ⟨b1, b2⟩ := List.pairwise_cons.1 a2
  refine List.pairwise_append.2 ⟨a1, List.pairwise_cons.2 ⟨fun y hy => by rw [hx]; exact b1 y hy, b2⟩, fun y hy z hz => ?_⟩
  rcases List.mem_cons.1 hz with hz | hz
  · rw [hz, hx]; exact a3 y hy _ List.mem_cons_self
  · exact a3 y hy z (List.mem_cons_of_mem _ hz)
theorem Stc.low {T : CS} (h : Stc T) (q k : Nat) (hq : q < T.n) (hk : k < (T.set q).length) (x : Ln) (hx : x.a = ((T.set q).getD k l0).a) : Stc (T.put q ((T.set q).set k x)) ∧ ∀ e, (T.put q ((T.set q).set k x)).L e ↔ ((T.L e ∧ e.a ≠ x.a) ∨ e = x) := by
  have hr := rest_iff (h.one q hq) hk
  have hm := mem_setL (T.set q) k hk x
  have g := (h.L_of hq ((T.set q).getD k l0)).1 (getD_mem _ k hk)
  have g2 := h.at' q hq _ (getD_mem _ k hk)
  obtain ⟨a, b⟩ := h.put q hq ((T.set q).set k x) (fun e he => by
    rcases (hm e).1 he with he | he
    · exact h.at' q hq e ((hr e).1 he).1
    · rw [he, hx]
      exact g2) (apart_setL _ k hk x hx (h.one q hq))
  refine ⟨a, fun e => ?_⟩
  rw [b e, hm e, hr e, h.L_of hq, hx]
  constructor
  · rintro ((⟨⟨u, y⟩, z⟩ | u) | ⟨u, y⟩)
    · exact Or.inl ⟨u, z⟩
    · exact Or.inr u
    · exact Or.inl ⟨u, fun e' => y (by rw [e']; exact g.2)⟩
  · rintro (⟨u, y⟩ | u)
    · by_cases z : T.of e.a = q
      · exact Or.inl (Or.inl ⟨⟨u, z⟩, y⟩)
      · exact Or.inr ⟨u, z⟩
    · exact Or.inl (Or.inr u)
theorem lineOf_self {a : Nat} (h : a % 16 = 0) : lineOf a = a := by unfold lineOf; omega
theorem Stc.no {T : CS} (h : Stc T) (a : Nat) : No (T.set (T.of a)) a ↔ ∀ e, T.L e → e.a ≠ lineOf a := by
  have hq : T.of a < T.n := T.of_lt a h.n
  constructor
  · intro hn e he q
    refine no_mem hn e ((h.L_of hq e).2 ⟨he, ?_⟩) q
    rw [q, of_lineOf]
  · intro hn
    exact no_of fun e he => hn e ((h.L_of hq e).1 he).1
theorem Stc.has {T : CS} (h : Stc T) (a : Nat) {i : Nat} (hA : At (T.set (T.of a)) a i) : T.L ((T.set (T.of a)).getD i l0) ∧ ((T.set (T.of a)).getD i l0).a = lineOf a :=
  ⟨((h.L_of (T.of_lt a h.n) _).1 (at_mem hA).1).1, (at_mem hA).2⟩
theorem Stc.find {T : CS} (h : Stc T) (a : Nat) {e : Ln} (he : T.L e) (hea : e.a = lineOf a) : ∃ i, At (T.set (T.of a)) a i ∧ (T.set (T.of a)).getD i l0 = e := by
  rcases at_or_no (T.set (T.of a)) a with ⟨i, hi⟩ | hn
  · obtain ⟨u, v⟩ := h.has a hi
    exact ⟨i, hi, h.uni u he (by rw [v, hea])⟩
  · exact absurd hea ((h.no a).1 hn e he)
/-- a line's state -/
theorem Stc.st_is {T : CS} (h : Stc T) (a : Nat) {e : Ln} (he : T.L e) (hea : e.a = lineOf a) : T.st a = e.s := by
  obtain ⟨i, hi, rfl⟩ := h.find a he hea
  exact CS.st_at hi
theorem Stc.st_zero {T : CS} (h : Stc T) (a : Nat) (hn : ∀ e, T.L e → e.a ≠ lineOf a) : T.st a = 0 := CS.st_no ((h.no a).2 hn)
theorem Stc.st_some {T : CS} (h : Stc T) (a : Nat) (hs : T.st a ≠ 0) : ∃ i, At (T.set (T.of a)) a i ∧ T.L ((T.set (T.of a)).getD i l0) ∧ ((T.set (T.of a)).getD i l0).a = lineOf a ∧ T.st a = ((T.set (T.of a)).getD i l0).s := by
  rcases at_or_no (T.set (T.of a)) a with ⟨i, hi⟩ | hn
  · exact ⟨i, hi, (h.has a hi).1, (h.has a hi).2, CS.st_at hi⟩
  · exact absurd (CS.st_no hn) hs
theorem Stc.fill {T : CS} (h : Stc T) (a s : Nat) (b : Nat → Nat) (h16 : a % 16 = 0) (hN : No (T.set (T.of a)) a) : (Stc (T.fill a s b) ∧ ∀ e, (T.fill a s b).L e ↔ ((T.L e ∧ (T.full a = true → e.a ≠ (T.left a).a)) ∨ e = ⟨a, s, b⟩)) ∧ (T.full a = true → T.L (T.left a)) := by
  have hq : T.of a < T.n := T.of_lt a h.n
  have hno : ∀ e ∈ T.set (T.of a), e.a ≠ a := fun e he => by rw [← lineOf_self h16]; exact no_mem hN e he
  have hk : ∀ e, e ∈ T.kept a ↔ (e ∈ T.set (T.of a) ∧ (T.full a = true → e.a ≠ (T.left a).a)) := by
    intro e
    unfold CS.kept CS.left
    cases hf : T.full a
    · simp
    · have hlen : 0 < (T.set (T.of a)).length := by
        have := h.ways
        unfold CS.full at hf
        have := of_decide_eq_true hf
        omega
      simp only [if_pos]
      rw [rest_iff (h.one _ hq) hlen e]
      simp
  have hap : Apart (T.kept a) := by
    unfold CS.kept
    cases hf : T.full a
    · simpa using h.one _ hq
    · have hlen : 0 < (T.set (T.of a)).length := by
        have := h.ways
        unfold CS.full at hf
        have := of_decide_eq_true hf
        omega
      simpa using (apart_rest _ 0 hlen (h.one _ hq)).1
  refine ⟨?_, fun hf => ?_⟩
  · obtain ⟨x, y⟩ := h.put (T.of a) hq (T.kept a ++ [⟨a, s, b⟩]) (fun e he => by
      rcases List.mem_append.1 he with he | he
      · exact h.at' _ hq e ((hk e).1 he).1
      · rw [List.mem_singleton.1 he]
        exact ⟨rfl, h16⟩) (List.pairwise_append.2 ⟨hap, List.pairwise_singleton _ _, fun e he z hz => by
        rw [List.mem_singleton.1 hz]
        exact hno e ((hk e).1 he).1⟩)
    refine ⟨x, fun e => (y e).trans ?_⟩
    rw [List.mem_append, hk e, List.mem_singleton, h.L_of hq]
    constructor
    · rintro ((⟨⟨u, v⟩, z⟩ | u) | ⟨u, v⟩)
      · exact Or.inl ⟨u, z⟩
      · exact Or.inr u
      · refine Or.inl ⟨u, fun hf e' => v ?_⟩
        have hlen : 0 < (T.set (T.of a)).length := by
          have := h.ways
          unfold CS.full at hf
          have := of_decide_eq_true hf
          omega
        rw [e']
        unfold CS.left
        rw [if_pos hf]
        exact (h.at' _ hq _ (getD_mem _ 0 hlen)).1
    · rintro (⟨u, v⟩ | u)
      · by_cases z : T.of e.a = T.of a
        · exact Or.inl (Or.inl ⟨⟨u, z⟩, v⟩)
        · exact Or.inr ⟨u, z⟩
      · exact Or.inl (Or.inr u)
  · have hlen : 0 < (T.set (T.of a)).length := by
      have := h.ways
      have h2 := hf
      unfold CS.full at h2
      have := of_decide_eq_true h2
      omega
    unfold CS.left
    rw [if_pos hf]
    exact ((h.L_of hq _).1 (getD_mem _ 0 hlen)).1
end Go.Proofs.YtemamhkhjijdlaaGreatDoor
/-
  BUS' LAW BusCoheres: what lasts, plainly: the lines of all caches, memory, what is newer.
-/
namespace Go.Proofs.YtemamhkhjijdlaaGreatDoor
open Go Go.RowKit
/-- L: the lines of each cache; m: memory; nw: what is newer; f: what was written last -/
structure Se (L : Nat → Ln → Prop) (m : Nat → Nat) (nw : Int → Option (Nat → Nat)) (f : Nat → Nat) : Prop where
  line : ∀ i e, L i e → i < 2 ∧ e.a % 16 = 0 ∧ 65536 ≤ e.a ∧ e.a < 65792 ∧ 1 ≤ e.s ∧ e.s ≤ 3 ∧ (∀ t, t < 16 → e.b t = f (e.a - 65536 + t)) ∧ ∀ t, e.b t < 256
  uni : ∀ i e e', L i e → L i e' → e.a = e'.a → e = e'
  ex : ∀ i j e e', i ≠ j → L i e → L j e' → e.a = e'.a → e.s = 1
  out : ∀ o, o < 256 → m o = f o ∨ ∃ i e, L i e ∧ e.s = 3 ∧ e.a = 65536 + lineOf o
  n1 : ∀ i e, L i e → e.s = 3 → nw (e.a : Nat) = some e.b
  n2 : ∀ (a : Nat) b, nw a = some b → ∃ i e, L i e ∧ e.s = 3 ∧ e.a = a ∧ e.b = b
theorem Se.congr {L L' : Nat → Ln → Prop} {m : Nat → Nat} {nw : Int → Option (Nat → Nat)} {f : Nat → Nat} (h : Se L m nw f) (hL : ∀ i e, L' i e ↔ L i e) : Se L' m nw f := by
  obtain rfl : L' = L := funext fun i => funext fun e => propext (hL i e)
  exact h
/-- memory behind a line that was written back, if it was Modified -/
def wbm' (m : Nat → Nat) (e : Ln) : Nat → Nat := if e.s = 3 then wbm m e else m
def wbn (nw : Int → Option (Nat → Nat)) (e : Ln) : Int → Option (Nat → Nat) := if e.s = 3 then updO nw (e.a : Nat) none else nw
theorem Se.low {L L' : Nat → Ln → Prop} {m : Nat → Nat} {nw : Int → Option (Nat → Nat)} {f : Nat → Nat} (h : Se L m nw f) (i : Nat) (e0 : Ln) (h0 : L i e0) (s' : Nat) (hs : s' < e0.s) (hL : ∀ j e, L' j e ↔ ((L j e ∧ ¬ (j = i ∧ e.a = e0.a)) ∨ (s' = 1 ∧ j = i ∧ e = e0.setS 1))) : Se L' (wbm' m e0) (wbn nw e0) f := by
  obtain ⟨i2, a16, alo, ahi, s1, s3, hb, h8⟩ := h.line i e0 h0
  have same : ∀ j e, L' j e → ∃ e', L j e' ∧ e'.a = e.a ∧ e'.b = e.b ∧ (e.s = 1 ∨ (e = e' ∧ ¬ (j = i ∧ e.a = e0.a))) := by
    intro j e he
    rcases (hL j e).1 he with ⟨u, v⟩ | ⟨u, rfl, rfl⟩
    · exact ⟨e, u, rfl, rfl, Or.inr ⟨rfl, v⟩⟩
    · exact ⟨e0, h0, rfl, rfl, Or.inl rfl⟩
  refine ⟨fun j e he => ?_, fun j e e' he he' q => ?_, fun j j' e e' hj he he' q => ?_, fun o ho => ?_, fun j e he h3 => ?_, fun a b hab => ?_⟩
  · obtain ⟨e', l', q1, q2, q3⟩ := same j e he
    obtain ⟨u1, u2, u3, u4, u5, u6, u7, u8⟩ := h.line j e' l'
    rw [q1] at u2 u3 u4 u7
    rw [q2] at u7 u8
    refine ⟨u1, u2, u3, u4, ?_, ?_, u7, u8⟩
    · rcases q3 with q | q
      · omega
      · rw [q.1]; omega
    · rcases q3 with q | q
      · omega
      · rw [q.1]; omega
  · rcases (hL j e).1 he with ⟨u, v⟩ | ⟨u, u2, u3⟩ <;> rcases (hL j e').1 he' with ⟨x, y⟩ | ⟨x, x2, x3⟩
    · exact h.uni j e e' u x q
    · exact absurd ⟨x2, by rw [q, x3]; rfl⟩ v
    · exact absurd ⟨u2, by rw [← q, u3]; rfl⟩ y
    · rw [u3, x3]
  · obtain ⟨x, lx, x1, x2, x3⟩ := same j e he
    obtain ⟨y, ly, y1, y2, y3⟩ := same j' e' he'
    rcases x3 with x3 | x3
    · exact x3
    · rw [x3.1]
      exact h.ex j j' x y hj lx ly (by rw [x1, y1, q])
  · by_cases c : e0.s = 3 ∧ e0.a = 65536 + lineOf o
    · left
      unfold wbm'
      rw [if_pos c.1]
      unfold wbm
      have : e0.a - 65536 ≤ o ∧ o < e0.a - 65536 + 16 := by
        have := c.2
        unfold lineOf at this
        omega
      have e2 : e0.a - 65536 + (o - (e0.a - 65536)) = o := by omega
      rw [if_pos this, hb _ (by omega), e2]
    · have hm : wbm' m e0 o = m o := by
        unfold wbm'
        split
        · rename_i h3
          unfold wbm
          rw [if_neg]
          intro q
          refine c ⟨h3, ?_⟩
          unfold lineOf
          omega
        · rfl
      rw [hm]
      rcases h.out o ho with q | ⟨j, e, l, q1, q2⟩
      · exact Or.inl q
      · right
        refine ⟨j, e, (hL j e).2 (Or.inl ⟨l, ?_⟩), q1, q2⟩
        rintro ⟨rfl, q3⟩
        have := h.uni j e e0 l h0 q3
        subst this
        exact c ⟨q1, q2⟩
  · rcases (hL j e).1 he with ⟨u, v⟩ | ⟨u, u2, u3⟩
    · have := h.n1 j e u h3
      unfold wbn
      split
      · unfold updO
        rw [if_neg]
        · exact this
        · intro q
          have q : e.a = e0.a := by omega
          by_cases z : j = i
          · exact v ⟨z, q⟩
          · have := h.ex j i e e0 z u h0 q
            omega
      · exact this
    · rw [u3] at h3
      cases h3
  · have key : nw a = some b ∧ (e0.s = 3 → a ≠ e0.a) := by
      unfold wbn at hab
      split at hab
      · unfold updO at hab
        split at hab
        · cases hab
        · rename_i q
          exact ⟨hab, fun _ z => q (by rw [z])⟩
      · rename_i q
        exact ⟨hab, fun z => absurd z q⟩
    obtain ⟨j, e, l, q1, q2, q3⟩ := h.n2 a b key.1
    refine ⟨j, e, (hL j e).2 (Or.inl ⟨l, ?_⟩), q1, q2, q3⟩
    rintro ⟨rfl, q4⟩
    have := h.uni j e e0 l h0 q4
    subst this
    exact key.2 q1 q2.symm
theorem Se.new {L L' : Nat → Ln → Prop} {m : Nat → Nat} {nw : Int → Option (Nat → Nat)} {f : Nat → Nat} (h : Se L m nw f) (i a s : Nat) (b : Nat → Nat) (hi : i < 2) (h16 : a % 16 = 0) (hlo : 65536 ≤ a) (hhi : a < 65792) (hs : s = 1 ∨ s = 2) (hno : ∀ e, L i e → e.a ≠ a) (hot : ∀ j e, L j e → e.a = a → e.s = 1 ∧ s = 1) (hb : ∀ t, t < 16 → b t = m (a - 65536 + t)) (h8 : ∀ t, b t < 256) (hL : ∀ j e, L' j e ↔ (L j e ∨ (j = i ∧ e = ⟨a, s, b⟩))) : Se L' m nw f := by
  refine ⟨fun j e he => ?_, fun j e e' he he' q => ?_, fun j j' e e' hj he he' q => ?_, fun o ho => ?_, fun j e he h3 => ?_, fun a' b' hab => ?_⟩
  · rcases (hL j e).1 he with u | ⟨rfl, rfl⟩
    · exact h.line j e u
    · refine ⟨hi, h16, hlo, hhi, by show 1 ≤ s; omega, by show s ≤ 3; omega, fun t ht => ?_, h8⟩
      show b t = f (a - 65536 + t)
      rw [hb t ht]
      rcases h.out (a - 65536 + t) (by omega) with q | ⟨j', e', l', q1, q2⟩
      · exact q
      · have q3 : e'.a = a := by
          rw [q2]
          unfold lineOf
          omega
        have := (hot j' e' l' q3).1
        omega
  · rcases (hL j e).1 he with u | ⟨u1, u2⟩ <;> rcases (hL j e').1 he' with x | ⟨x1, x2⟩
    · exact h.uni j e e' u x q
    · exact absurd (by rw [q, x2]) (hno e (by rw [← x1]; exact u))
    · exact absurd (by rw [← q, u2]) (hno e' (by rw [← u1]; exact x))
    · rw [u2, x2]
  · rcases (hL j e).1 he with u | ⟨u1, u2⟩ <;> rcases (hL j' e').1 he' with x | ⟨x1, x2⟩
    · exact h.ex j j' e e' hj u x q
    · exact (hot j e u (by rw [q, x2])).1
    · rw [u2]
      exact (hot j' e' x (by rw [← q, u2])).2
    · exact absurd (u1.trans x1.symm) hj
  · rcases h.out o ho with q | ⟨j, e, l, q1, q2⟩
    · exact Or.inl q
    · exact Or.inr ⟨j, e, (hL j e).2 (Or.inl l), q1, q2⟩
  · rcases (hL j e).1 he with u | ⟨u1, u2⟩
    · exact h.n1 j e u h3
    · rw [u2] at h3
      have h3 : s = 3 := h3
      omega
  · obtain ⟨j, e, l, q⟩ := h.n2 a' b' hab
    exact ⟨j, e, (hL j e).2 (Or.inl l), q⟩
theorem wr_is (e : Ln) (q d z : Nat) : (e.wr q d z).a = e.a ∧ (e.wr q d z).s = 3 ∧ ∀ t, (e.wr q d z).b t = if q ≤ t ∧ t < q + z then d / 256 ^ (t - q) % 256 else e.b t := by
  unfold Ln.wr
  exact ⟨(putN_a _ q d z).1, (putN_a _ q d z).2, fun t => putN_b _ q d z t⟩
theorem Se.write {L L' : Nat → Ln → Prop} {m : Nat → Nat} {nw : Int → Option (Nat → Nat)} {f : Nat → Nat} (h : Se L m nw f) (i : Nat) (e0 : Ln) (h0 : L i e0) (h2 : 2 ≤ e0.s) (a z d : Nat) (ha : e0.a = lineOf a) (hz : a % 16 + z ≤ 16) (hL : ∀ j e, L' j e ↔ ((L j e ∧ ¬ (j = i ∧ e.a = e0.a)) ∨ (j = i ∧ e = e0.wr (a % 16) d z))) : Se L' m (updO nw (e0.a : Nat) (some (e0.wr (a % 16) d z).b)) (written f (a - 65536) z d) := by
  obtain ⟨i2, a16, alo, ahi, s1, s3, hb, h8⟩ := h.line i e0 h0
  obtain ⟨w1, w2, w3⟩ := wr_is e0 (a % 16) d z
  have hal : lineOf a = a - a % 16 := rfl
  have alone : ∀ j e, L j e → ¬ (j = i ∧ e.a = e0.a) → e.a ≠ e0.a := by
    intro j e l hn q
    by_cases x : j = i
    · exact hn ⟨x, q⟩
    · have := h.ex i j e0 e (fun z => x z.symm) h0 l q.symm
      omega
  refine ⟨fun j e he => ?_, fun j e e' he he' q => ?_, fun j j' e e' hj he he' q => ?_, fun o ho => ?_, fun j e he h3 => ?_, fun a' b' hab => ?_⟩
  · rcases (hL j e).1 he with ⟨u, v⟩ | ⟨rfl, rfl⟩
    · obtain ⟨u1, u2, u3, u4, u5, u6, u7, u8⟩ := h.line j e u
      refine ⟨u1, u2, u3, u4, u5, u6, fun t ht => ?_, u8⟩
      rw [u7 t ht]
      unfold written
      rw [if_neg]
      have := alone j e u v
      omega
    · refine ⟨i2, by rw [w1]; exact a16, by rw [w1]; exact alo, by rw [w1]; exact ahi, by omega, by omega, fun t ht => ?_, fun t => ?_⟩
      · rw [w1, w3 t]
        unfold written
        by_cases c : a % 16 ≤ t ∧ t < a % 16 + z
        · have e2 : e0.a - 65536 + t - (a - 65536) = t - a % 16 := by omega
          rw [if_pos c, if_pos (by omega), e2]
        · rw [if_neg c, if_neg (by omega)]
          exact hb t ht
      · rw [w3 t]
        split
        · exact Nat.mod_lt _ (by decide)
        · exact h8 t
  · rcases (hL j e).1 he with ⟨u, v⟩ | ⟨u1, u2⟩ <;> rcases (hL j e').1 he' with ⟨x, y⟩ | ⟨x1, x2⟩
    · exact h.uni j e e' u x q
    · exact absurd ⟨x1, by rw [q, x2, w1]⟩ v
    · exact absurd ⟨u1, by rw [← q, u2, w1]⟩ y
    · rw [u2, x2]
  · rcases (hL j e).1 he with ⟨u, v⟩ | ⟨u1, u2⟩ <;> rcases (hL j' e').1 he' with ⟨x, y⟩ | ⟨x1, x2⟩
    · exact h.ex j j' e e' hj u x q
    · exact absurd (by rw [q, x2, w1]) (alone j e u v)
    · exact absurd (by rw [← q, u2, w1]) (alone j' e' x y)
    · exact absurd (u1.trans x1.symm) hj
  · by_cases c : e0.a = 65536 + lineOf o
    · exact Or.inr ⟨i, _, (hL i _).2 (Or.inr ⟨rfl, rfl⟩), w2, by rw [w1]; exact c⟩
    · have hw : written f (a - 65536) z d o = f o := by
        unfold written
        rw [if_neg]
        intro q
        apply c
        unfold lineOf
        omega
      rw [hw]
      rcases h.out o ho with q | ⟨j, e, l, q1, q2⟩
      · exact Or.inl q
      · exact Or.inr ⟨j, e, (hL j e).2 (Or.inl ⟨l, fun q => c (by rw [← q.2, q2])⟩), q1, q2⟩
  · rcases (hL j e).1 he with ⟨u, v⟩ | ⟨u1, u2⟩
    · unfold updO
      rw [if_neg]
      · exact h.n1 j e u h3
      · have := alone j e u v
        omega
    · rw [u2, w1]
      unfold updO
      rw [if_pos rfl]
  · unfold updO at hab
    split at hab
    · rename_i q
      have q : a' = e0.a := by omega
      refine ⟨i, _, (hL i _).2 (Or.inr ⟨rfl, rfl⟩), w2, by rw [w1]; exact q.symm, ?_⟩
      exact Option.some.inj hab
    · rename_i q
      obtain ⟨j, e, l, q1, q2, q3⟩ := h.n2 a' b' hab
      exact ⟨j, e, (hL j e).2 (Or.inl ⟨l, fun z => q (by rw [← z.2, q2])⟩), q1, q2, q3⟩
end Go.Proofs.YtemamhkhjijdlaaGreatDoor
/-
  BUS: the bus as a whole, and what lies outside of it.
-/
namespace Go.Proofs.YtemamhkhjijdlaaGreatDoor
open Go Go.RowKit
/-- where the bus stands -/
structure Bn where
  B : Nat
  p : Nat
  rb : Nat
  rc : Nat
  mb : Nat
  mc : Nat
  nb : Nat
  ab : Nat
  P : Nat → Nat
  H : Nat → Nat
  C : Nat → Nat
abbrev Bn.M (g : Bn) (x : World) (kn ka : Nat) (V : Nat → Nat → Value) (S : BS) : Prop := Bm x g.B g.p g.rb g.rc g.mb g.mc g.nb g.ab kn ka g.P g.H g.C V S
/-- its blocks -/
def Bn.its (g : Bn) (V : Nat → Nat → Value) (S : BS) (z : Nat) : Prop := own5 g.p g.rb g.mb g.nb g.ab z ∨ ∃ i, i < S.nc ∧ mine (g.P i) (g.H i) (S.c i).n (V i) z
/-- F: blocks that are not the bus' -/
def Bu (x : World) (g : Bn) (F : Nat → Prop) (N : Nat) (S : BS) : Prop := ∃ V kn ka, g.M x kn ka V S ∧ kn ≤ N ∧ ka ≤ N ∧ ∀ z, F z → z < x.heap.size ∧ ¬ g.its V S z
section
variable {x y : World} {g : Bn} {F : Nat → Prop} {N kn ka : Nat} {V : Nat → Nat → Value} {S : BS}
theorem its_lt (k : g.M x kn ka V S) {z : Nat} (h : g.its V S z) : z < x.heap.size := by
  rcases h with h | ⟨i, hi, h⟩
  · exact k.at z h
  · exact (mine_lt (k.ch i hi) z h).1
theorem Bm.turn {Q : Nat → Prop} (k : g.M x kn ka V S) (t : Turned Q x y) (hq : ∀ z, Q z → ¬ g.its V S z) : g.M y kn ka V S := by
  have n5 : ∀ j, own5 g.p g.rb g.mb g.nb g.ab j → ¬ Q j := fun j hj e => hq j e (Or.inl hj)
  exact ⟨t.cells k.c (n5 _ (Or.inl rfl)), t.cells k.row (n5 _ (Or.inr (Or.inl rfl))), fun i hi => (k.ch i hi).off t (fun j hj e => hq j e (Or.inr ⟨i, hi, hj⟩)), t.cells k.m (n5 _ (Or.inr (Or.inr (Or.inl rfl)))), k.nw.turned t (n5 _ (Or.inr (Or.inr (Or.inr (Or.inl rfl))))), k.ak.turned t (n5 _ (Or.inr (Or.inr (Or.inr (Or.inr rfl))))), k.d0, k.d1, k.d2, k.lo, k.sz, k.rm, k.m8⟩
/-- something outside has changed, or is new -/
theorem Bu.turn {Q : Nat → Prop} (h : Bu x g F N S) (t : Turned Q x y) (hq : ∀ z, Q z → z < x.heap.size → F z) : Bu y g (fun j => F j ∨ (x.heap.size ≤ j ∧ j < y.heap.size)) N S := by
  obtain ⟨V, kn, ka, k, h1, h2, hF⟩ := h
  refine ⟨V, kn, ka, Bm.turn k t (fun z hz hi => (hF z (hq z hz (its_lt k hi))).2 hi), h1, h2, fun z hz => ?_⟩
  rcases hz with hz | hz
  · exact ⟨Nat.lt_of_lt_of_le (hF z hz).1 t.size, (hF z hz).2⟩
  · exact ⟨hz.2, fun hi => by have := its_lt k hi; omega⟩
theorem Bu.less {F' : Nat → Prop} (h : Bu x g F N S) (hF : ∀ z, F' z → F z) : Bu x g F' N S := by
  obtain ⟨V, kn, ka, k, h1, h2, h3⟩ := h
  exact ⟨V, kn, ka, k, h1, h2, fun z hz => h3 z (hF z hz)⟩
theorem Bu.fresh (h : Bu x g F N S) (t : Below x.heap.size x y) : Bu y g (fun j => F j ∨ (x.heap.size ≤ j ∧ j < y.heap.size)) N S := h.turn (Q := fun _ => False) (Turned.of_below t) (fun _ q => q.elim)
theorem Bu.below (h : Bu x g F N S) (t : Below x.heap.size x y) : Bu y g F N S := (h.fresh t).less (fun _ q => Or.inl q)
/-- the bus itself has changed -/
theorem Bu.step {Q : Nat → Prop} {N' kn' ka' : Nat} {V' : Nat → Nat → Value} {S' : BS} (hF : ∀ z, F z → z < x.heap.size ∧ ¬ g.its V S z) (k' : g.M y kn' ka' V' S') (h1 : kn' ≤ N') (h2 : ka' ≤ N') (hnc : S'.nc = S.nc) (hn : ∀ i, (S'.c i).n = (S.c i).n) (hv : ∀ i j q, i < S.nc → j < (S.c i).n → (V' i j).ownBlock = some q → (V i j).ownBlock = some q ∨ x.heap.size ≤ q) (t : Turned Q x y) (hQ : ∀ z, Q z → g.its V S z) : Bu y g F N' S' ∧ Turned (fun j => ¬ F j) x y := by
  refine ⟨⟨V', kn', ka', k', h1, h2, fun z hz => ⟨Nat.lt_of_lt_of_le (hF z hz).1 t.size, ?_⟩⟩, t.mono (fun z hz hf => (hF z hf).2 (hQ z hz))⟩
  rintro (h | ⟨i, hi, h⟩)
  · exact (hF z hz).2 (Or.inl h)
  · rcases h with h | h | ⟨j, hj, h⟩
    · exact (hF z hz).2 (Or.inr ⟨i, by omega, Or.inl h⟩)
    · exact (hF z hz).2 (Or.inr ⟨i, by omega, Or.inr (Or.inl h)⟩)
    · rcases hv i j z (by omega) (by rw [← hn i]; exact hj) h with q | q
      · exact (hF z hz).2 (Or.inr ⟨i, by omega, Or.inr (Or.inr ⟨j, by rw [← hn i]; exact hj, q⟩)⟩)
      · have := (hF z hz).1
        omega
theorem Bu.here (h : Bu x g F N S) {z : Nat} (hz : F z) : z < x.heap.size := by
  obtain ⟨V, kn, ka, k, h1, h2, h3⟩ := h
  exact (h3 z hz).1
theorem ubegin (h : Bu x g F N S) : Calls Tryz.prog 43 #[.pointer (some ⟨g.p, 0, none⟩)] x fun e w' => ((∃ i, i < S.nc ∧ (S.ak (S.nxt i : Nat)).isSome = true ∧ (∀ j, j < i → (S.ak (S.nxt j : Nat)).isSome = false) ∧ e = .returned (.bool true) ∧ Bu w' g F N { S with turn := S.nxt i, on := true, tk := 0 }) ∨ ((∀ j, j < S.nc → (S.ak (S.nxt j : Nat)).isSome = false) ∧ e = .returned (.bool false) ∧ Bu w' g F N S)) ∧ Turned (fun j => ¬ F j) x w' := by
  obtain ⟨V, kn, ka, k, h1, h2, h3⟩ := h
  refine (bbegin_any k).mono ?_
  rintro e w' ⟨hor, t⟩
  have hQ : ∀ z, z = g.p → g.its V S z := fun z hz => Or.inl (Or.inl hz)
  rcases hor with ⟨i, hi, a1, a2, rfl, k'⟩ | ⟨a1, rfl, k'⟩
  · have := Bu.step h3 k' h1 h2 rfl (fun _ => rfl) (fun _ _ _ _ _ q => Or.inl q) t hQ
    exact ⟨Or.inl ⟨i, hi, a1, a2, rfl, this.1⟩, this.2⟩
  · have := Bu.step h3 k' h1 h2 rfl (fun _ => rfl) (fun _ _ _ _ _ q => Or.inl q) t hQ
    exact ⟨Or.inr ⟨a1, rfl, this.1⟩, this.2⟩
/-- writeBack -/
def BS.wb (S : BS) (e : Ln) : BS := { S with mem := wbm' S.mem e, nw := wbn S.nw e }
open Classical in
noncomputable def CS.ix (T : CS) (a : Nat) : Nat := if h : ∃ i, At (T.set (T.of a)) a i then h.choose else 0
theorem CS.ix_is {T : CS} {a i : Nat} (h : At (T.set (T.of a)) a i) : T.ix a = i := by
  unfold CS.ix
  have hx : ∃ i, At (T.set (T.of a)) a i := ⟨i, h⟩
  rw [dif_pos hx]
  exact at_inj hx.choose_spec h
noncomputable def CS.ln (T : CS) (a : Nat) : Ln := (T.set (T.of a)).getD (T.ix a) l0
noncomputable def CS.lowTo (T : CS) (a to : Nat) : CS := T.put (T.of a) (if to = 0 then rest (T.set (T.of a)) (T.ix a) else (T.set (T.of a)).set (T.ix a) ((T.ln a).setS to))
theorem CS.st_ix {T : CS} {a : Nat} (h : T.st a ≠ 0) : At (T.set (T.of a)) a (T.ix a) ∧ T.st a = (T.ln a).s := by
  rcases at_or_no (T.set (T.of a)) a with ⟨i, hi⟩ | hn
  · have := CS.ix_is hi
    unfold CS.ln
    rw [this]
    exact ⟨hi, CS.st_at hi⟩
  · exact absurd (CS.st_no hn) h
end
end Go.Proofs.YtemamhkhjijdlaaGreatDoor
/-
  CORE: plain blocks, the bus, and what was there before, as components.
-/
namespace Go.Proofs.YtemamhkhjijdlaaGreatDoor
open Go Go.RowKit
/-- nothing -/
def NoC (_ : World) (_ : Nat → Prop) : Prop := True
theorem noC_comp : Comp NoC := ⟨fun _ _ _ _ _ _ _ => trivial, fun _ _ _ _ _ => trivial⟩
/-- a plain block -/
def CelC (b n : Nat) (f : Nat → Value) (x : World) (F : Nat → Prop) : Prop := CellsAt n x b f ∧ ∀ z, F z → z < x.heap.size ∧ z ≠ b
theorem celC_comp (b n : Nat) (f : Nat → Value) : Comp (CelC b n f) := by
  refine ⟨fun x y F Q h t hq => ?_, fun x F H h hG => ⟨h.1, fun z hz => h.2 z (hG z hz)⟩⟩
  obtain ⟨k, hF⟩ := h
  have b1 := k.here
  refine ⟨t.cells k (fun q => (hF _ (hq _ q b1)).2 rfl), fun z hz => ?_⟩
  rcases hz with hz | hz
  · exact ⟨Nat.lt_of_lt_of_le (hF z hz).1 t.size, (hF z hz).2⟩
  · exact ⟨hz.2, by omega⟩
/-- the bus -/
def BusC (g : Bn) (N : Nat) (S : BS) (x : World) (F : Nat → Prop) : Prop := Bu x g F N S
theorem busC_comp (g : Bn) (N : Nat) (S : BS) : Comp (BusC g N S) := ⟨fun _ _ _ _ h t hq => Bu.turn h t hq, fun _ _ _ h hG => Bu.less h hG⟩
/-- what was there before -/
def OldC (w0 : World) (x : World) (F : Nat → Prop) : Prop := Below w0.heap.size w0 x ∧ ∀ z, F z → w0.heap.size ≤ z ∧ z < x.heap.size
theorem oldC_comp (w0 : World) : Comp (OldC w0) := by
  refine ⟨fun x y F Q h t hq => ?_, fun x F H h hG => ⟨h.1, fun z hz => h.2 z (hG z hz)⟩⟩
  obtain ⟨k, hF⟩ := h
  have hs := k.size
  have hs' := t.size
  refine ⟨k.trans ⟨t.os, t.tape, t.output, t.size, fun j hj => t.block j (by omega) (fun q => by have := (hF j (hq j q (by omega))).1; omega)⟩, fun z hz => ?_⟩
  rcases hz with hz | hz
  · exact ⟨(hF z hz).1, Nat.lt_of_lt_of_le (hF z hz).2 t.size⟩
  · exact ⟨by omega, hz.2⟩
section
variable {C D : Nat → World → (Nat → Prop) → Prop} {x y : World}
/-- a cell is written -/
theorem Side.put {b n o : Nat} {v : Value} {f f' : Nat → Value} (k : Nat) (hC : ∀ j, Comp (C j)) (h : Side C x) (hk : C k = CelC b n f) (hk' : D k = CelC b n f') (he : ∀ j, j ≠ k → D j = C j) (ho : o < n) (hf : ∀ i, i < n → upd f o v i = f' i) : Side D (x.setCell ⟨b, o, none⟩ v) := by
  obtain ⟨own, h⟩ := h
  have hb := h k
  rw [hk] at hb
  have t : Turned (fun z => ¬ Othr own x k z) x (x.setCell ⟨b, o, none⟩ v) := (Turned.refl _ x).set (fun q => (hb.2 b q).2 rfl) o v
  refine ⟨nextO own x k, Side.went k hC h (by rw [hk']; exact celC_comp _ _ _) he ?_ t⟩
  rw [hk']
  exact ⟨(hb.1.set o ho v).ext hf, fun z hz => ⟨Nat.lt_of_lt_of_le (hb.2 z hz).1 t.size, (hb.2 z hz).2⟩⟩
/-- what a plain block holds -/
theorem Side.cells {b n : Nat} {f : Nat → Value} (k : Nat) (h : Side C x) (hk : C k = CelC b n f) : CellsAt n x b f := by
  obtain ⟨own, h⟩ := h
  have hb := h k
  rw [hk] at hb
  exact hb.1
/-- a new plain block -/
theorem Side.new {n b : Nat} {f : Nat → Value} {c : Array Value} {t : TypeId} (k : Nat) (hC : ∀ j, Comp (C j)) (h : Side C x) (hb : x.heap.size = b) (hk' : D k = CelC b n f) (he : ∀ j, j ≠ k → D j = C j) (hf : ∀ i, i < n → c[i]? = some (f i)) : Side D (x.alloc (.cells c t)) := by
  subst hb
  obtain ⟨own, h⟩ := h
  have t' : Turned (fun z => ¬ Othr own x k z) x (x.alloc (.cells c t)) := (Turned.refl _ x).alloc _
  refine ⟨nextO own x k, Side.went k hC h (by rw [hk']; exact celC_comp _ _ _) he ?_ t'⟩
  rw [hk']
  exact ⟨cells_new x hf, fun z hz => ⟨Nat.lt_of_lt_of_le hz.1 t'.size, by have := hz.1; omega⟩⟩
/-- a part that is new, with all its blocks -/
theorem Side.born (k : Nat) (hC : ∀ j, Comp (C j)) (h : Side C x) (b : Below x.heap.size x y) (hD : Comp (D k)) (hk : D k y (fun z => z < x.heap.size)) (he : ∀ j, j ≠ k → D j = C j) : Side D y := by
  obtain ⟨own, h⟩ := h
  refine ⟨nextO own x k, Side.went k hC h hD he (hD.less y _ _ hk (fun z hz => hz.1)) (Turned.of_below b)⟩
theorem Side.drew (hC : ∀ j, Comp (C j)) (h : Side C x) : Side C x.drew := Side.below 0 hC h (Below.refl _ _).drew
theorem Side.old {w0 : World} (k : Nat) (h : Side C x) (hk : C k = OldC w0) : Below w0.heap.size w0 x := by
  obtain ⟨own, h⟩ := h
  have hb := h k
  rw [hk] at hb
  exact hb.1
/-- two plain blocks are not one -/
theorem Side.ne {b n : Nat} {f : Nat → Value} {b' n' : Nat} {f' : Nat → Value} (k k' : Nat) (h : Side C x) (hn : k ≠ k') (hk : C k = CelC b n f) (hk' : C k' = CelC b' n' f') : b ≠ b' := by
  obtain ⟨own, h⟩ := h
  have h1 := h k
  have h2 := h k'
  rw [hk] at h1
  rw [hk'] at h2
  intro e
  subst e
  by_cases q : own b = k
  · exact (h2.2 b ⟨h1.1.here, by omega⟩).2 rfl
  · exact (h1.2 b ⟨h1.1.here, q⟩).2 rfl
end
end Go.Proofs.YtemamhkhjijdlaaGreatDoor
/-
  CORE: components within a component; the board with its record.
-/
namespace Go.Proofs.YtemamhkhjijdlaaGreatDoor
open Go Go.RowKit
/-- of component k: not its own -/
def Out (o : Nat → Nat) (x : World) (F : Nat → Prop) (k : Nat) : Nat → Prop := fun z => Othr o x k z ∨ F z
/-- components side by side, and F: what is none of theirs -/
def All (C : Nat → World → (Nat → Prop) → Prop) (x : World) (F : Nat → Prop) : Prop := ∃ o, (∀ k, C k x (Out o x F k)) ∧ ∀ z, F z → z < x.heap.size
section
variable {C D : Nat → World → (Nat → Prop) → Prop} {x y : World} {F : Nat → Prop}
theorem All.comp (hC : ∀ k, Comp (C k)) : Comp (All C) := by
  refine ⟨fun x y F Q h t hq => ?_, fun x F H h hG => ?_⟩
  · obtain ⟨o, h, hF⟩ := h
    refine ⟨o, fun k => (hC k).less y _ _ ((hC k).turn x y _ Q (h k) t (fun z hz hl => Or.inr (hq z hz hl))) (fun z hz => ?_), fun z hz => ?_⟩
    · rcases hz with hz | hz | hz
      · by_cases q : z < x.heap.size
        · exact Or.inl (Or.inl ⟨q, hz.2⟩)
        · exact Or.inr ⟨by omega, hz.1⟩
      · exact Or.inl (Or.inr hz)
      · exact Or.inr hz
    · rcases hz with hz | hz
      · exact Nat.lt_of_lt_of_le (hF z hz) t.size
      · exact hz.2
  · obtain ⟨o, h, hF⟩ := h
    refine ⟨o, fun k => (hC k).less x _ _ (h k) (fun z hz => ?_), fun z hz => hF z (hG z hz)⟩
    rcases hz with hz | hz
    · exact Or.inl hz
    · exact Or.inr (hG z hz)
theorem All.went {o : Nat → Nat} (i : Nat) (hC : ∀ k, Comp (C k)) (h : ∀ k, C k x (Out o x F k)) (hF : ∀ z, F z → z < x.heap.size) (hD : Comp (D i)) (he : ∀ k, k ≠ i → D k = C k) (hi : D i y (Out o x F i)) (t : Turned (fun z => ¬ Out o x F i z) x y) : All D y F ∧ Turned (fun z => ¬ F z) x y := by
  refine ⟨⟨nextO o x i, fun k => ?_, fun z hz => Nat.lt_of_lt_of_le (hF z hz) t.size⟩, t.mono (fun z hz hf => hz (Or.inr hf))⟩
  by_cases q : k = i
  · subst q
    refine hD.less y _ _ hi (fun z hz => ?_)
    rcases hz with hz | hz
    · exact Or.inl (apart_self hz)
    · exact Or.inr hz
  · rw [he k q]
    refine (hC k).less y _ _ ((hC k).turn x y _ _ (h k) t (fun z hz hl => ?_)) (fun z hz => ?_)
    · refine Or.inl ⟨hl, fun e => hz (Or.inl ⟨hl, ?_⟩)⟩
      rw [e]
      exact q
    · rcases hz with hz | hz
      · rcases apart_other hz with a | a
        · exact Or.inl (Or.inl a)
        · exact Or.inr a
      · exact Or.inl (Or.inr hz)
theorem All.put {b n o : Nat} {v : Value} {f f' : Nat → Value} (k : Nat) (hC : ∀ j, Comp (C j)) (h : All C x F) (hk : C k = CelC b n f) (hk' : D k = CelC b n f') (he : ∀ j, j ≠ k → D j = C j) (ho : o < n) (hf : ∀ i, i < n → upd f o v i = f' i) : All D (x.setCell ⟨b, o, none⟩ v) F ∧ Turned (fun z => ¬ F z) x (x.setCell ⟨b, o, none⟩ v) := by
  obtain ⟨own, h, hF⟩ := h
  have hb := h k
  rw [hk] at hb
  have t : Turned (fun z => ¬ Out own x F k z) x (x.setCell ⟨b, o, none⟩ v) := (Turned.refl _ x).set (fun q => (hb.2 b q).2 rfl) o v
  refine All.went k hC h hF (by rw [hk']; exact celC_comp _ _ _) he ?_ t
  rw [hk']
  exact ⟨(hb.1.set o ho v).ext hf, fun z hz => ⟨Nat.lt_of_lt_of_le (hb.2 z hz).1 t.size, (hb.2 z hz).2⟩⟩
/-- of a plain block something has changed, and nothing else -/
theorem All.swap {b n : Nat} {f f' : Nat → Value} (k : Nat) (hC : ∀ j, Comp (C j)) (h : All C x F) (hk : C k = CelC b n f) (hk' : D k = CelC b n f') (he : ∀ j, j ≠ k → D j = C j) (t : Turned (fun z => z = b) x y) (hc : CellsAt n y b f') : All D y F ∧ Turned (fun z => ¬ F z) x y := by
  obtain ⟨own, h, hF⟩ := h
  have hb := h k
  rw [hk] at hb
  have t' : Turned (fun z => ¬ Out own x F k z) x y := t.mono (fun z e q => (hb.2 z q).2 e)
  refine All.went k hC h hF (by rw [hk']; exact celC_comp _ _ _) he ?_ t'
  rw [hk']
  exact ⟨hc, fun z hz => ⟨Nat.lt_of_lt_of_le (hb.2 z hz).1 t.size, (hb.2 z hz).2⟩⟩
theorem All.cells {b n : Nat} {f : Nat → Value} (k : Nat) (h : All C x F) (hk : C k = CelC b n f) : CellsAt n x b f := by
  obtain ⟨own, h, -⟩ := h
  have hb := h k
  rw [hk] at hb
  exact hb.1
/-- a new plain block -/
theorem All.new {n b : Nat} {f : Nat → Value} (k : Nat) (hC : ∀ j, Comp (C j)) (h : All C x F) (hb : x.heap.size ≤ b) (t : Below x.heap.size x y) (hk' : D k = CelC b n f) (he : ∀ j, j ≠ k → D j = C j) (hf : CellsAt n y b f) : All D y F ∧ Turned (fun z => ¬ F z) x y := by
  obtain ⟨own, h, hF⟩ := h
  refine All.went k hC h hF (by rw [hk']; exact celC_comp _ _ _) he ?_ (Turned.of_below t)
  rw [hk']
  refine ⟨hf, fun z hz => ?_⟩
  have hz' : z < x.heap.size := by
    rcases hz with hz | hz
    · exact hz.1
    · exact hF z hz
  exact ⟨Nat.lt_of_lt_of_le hz' t.size, by omega⟩
theorem All.below (hC : ∀ j, Comp (C j)) (h : All C x F) (t : Below x.heap.size x y) : All C y F ∧ Turned (fun z => ¬ F z) x y :=
  ⟨(All.comp hC).less y _ _ ((All.comp hC).turn x y F (fun _ => False) h (Turned.of_below t) (fun _ q => q.elim)) (fun _ hz => Or.inl hz), Turned.of_below t⟩
theorem All.ne {b n : Nat} {f : Nat → Value} {b' n' : Nat} {f' : Nat → Value} (k k' : Nat) (h : All C x F) (hn : k ≠ k') (hk : C k = CelC b n f) (hk' : C k' = CelC b' n' f') : b ≠ b' := by
  obtain ⟨own, h, -⟩ := h
  have h1 := h k
  have h2 := h k'
  rw [hk] at h1
  rw [hk'] at h2
  intro e
  subst e
  by_cases q : own b = k
  · exact (h2.2 b (Or.inl ⟨h1.1.here, by omega⟩)).2 rfl
  · exact (h1.2 b (Or.inl ⟨h1.1.here, q⟩)).2 rfl
end
/-- a list in parts, of which there is one at most; k, k + 1: what holds it -/
def PartC (C : Nat → World → (Nat → Prop) → Prop) (k sz tot : Nat) (zero : Nat → Value) (v : Value) (l : List (Nat → Value)) : Prop := (l = [] ∧ v = .slice none 0 0) ∨ ∃ lb cap pb, v = .slice (some ⟨lb, 0, none⟩) 1 cap ∧ 0 < l.length ∧ C k = CelC lb 1 (fun _ => .slice (some ⟨pb, 0, none⟩) l.length 1024) ∧ C (k + 1) = CelC pb tot (fun o => l.getD (o / sz) zero (o % sz))
def zE : Nat → Value
  | 0 => .int .i32 0
  | 1 => .int .i32 0
  | 2 => .int .u32 0
  | _ => .int .u8 0
def zW : Nat → Value
  | 2 => .int .i64 0
  | 4 => .int .i64 0
  | _ => .int .u32 0
def evC (cyc seq pc core kind : Int) : Nat → Value
  | 0 => .int .i32 cyc
  | 1 => .int .i32 seq
  | 2 => .int .u32 pc
  | 3 => .int .u8 core
  | _ => .int .u8 kind
def whC (pc word rd val cause tval next : Int) : Nat → Value
  | 0 => .int .u32 pc
  | 1 => .int .u32 word
  | 2 => .int .i64 rd
  | 3 => .int .u32 val
  | 4 => .int .i64 cause
  | 5 => .int .u32 tval
  | _ => .int .u32 next
/-- what happened so far, plainly -/
structure Rec where
  evs : List (Nat → Value)
  whs : List (Nat → Value)
  cyc : Nat
def brdF (gp : Nat) (evl : Value) (ne : Nat) (whl : Value) (nw : Nat) (cyc : Nat) : Nat → Value
  | 0 => .pointer (some ⟨gp, 0, none⟩)
  | 1 => evl
  | 2 => .int .i64 ne
  | 3 => whl
  | 4 => .int .i64 nw
  | 5 => .int .u32 0
  | 6 => .int .i64 cyc
  | 7 => .slice none 0 0
  | _ => .int .u32 0
/-- the board, but for the bus -/
def BrdC (b gp : Nat) (R : Rec) (x : World) (F : Nat → Prop) : Prop := ∃ C evl whl, (∀ k, Comp (C k)) ∧ All C x F ∧ C 0 = CelC b 10 (brdF gp evl R.evs.length whl R.whs.length R.cyc) ∧ PartC C 1 5 5120 zE evl R.evs ∧ PartC C 3 7 7168 zW whl R.whs
theorem brdC_comp (b gp : Nat) (R : Rec) : Comp (BrdC b gp R) := by
  refine ⟨fun x y F Q h t hq => ?_, fun x F H h hG => ?_⟩
  · obtain ⟨C, evl, whl, hC, h, h0, h1, h2⟩ := h
    exact ⟨C, evl, whl, hC, (All.comp hC).turn x y F Q h t hq, h0, h1, h2⟩
  · obtain ⟨C, evl, whl, hC, h, h0, h1, h2⟩ := h
    exact ⟨C, evl, whl, hC, (All.comp hC).less x F H h hG, h0, h1, h2⟩
end Go.Proofs.YtemamhkhjijdlaaGreatDoor
/-
  BUS: Write, Read.
-/
namespace Go.Proofs.YtemamhkhjijdlaaGreatDoor
open Go Go.RowKit
section
variable {x : World} {g : Bn} {F : Nat → Prop} {N : Nat} {S : BS}
def BS.wrt (S : BS) (i a j d z : Nat) : BS := { S.cput i ((S.c i).wrote ((S.c i).of a) j (a % 16) d z) with nw := updO S.nw (lineOf a : Nat) (some (((((S.c i).set ((S.c i).of a)).getD j l0).wr (a % 16) d z).b)) }
end
end Go.Proofs.YtemamhkhjijdlaaGreatDoor
