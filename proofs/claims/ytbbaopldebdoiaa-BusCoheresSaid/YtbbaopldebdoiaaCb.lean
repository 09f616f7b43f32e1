/-
  A CACHE IN MEMORY; setOf, find, State.
-/
import Derived.Test.YtbbaopldebdoiaaCa
namespace Go.Proofs.Ytbbaopldebdoiaa
open Go Go.RowKit
structure CS where
  ways : Nat
  n : Nat
  set : Nat → List Ln
def CS.put (S : CS) (i : Nat) (l : List Ln) : CS := { S with set := upd S.set i l }
def cv (ways h n c : Nat) : Nat → Value
  | 0 => .int .i64 ways
  | _ => .slice (some ⟨h, 0, none⟩) n c
/-- the cache at p: its sets' rows are V, and stand in h -/
structure Ch (x : World) (B p h d : Nat) (V : Nat → Value) (S : CS) : Prop where
  c : CellsAt 2 x p (cv S.ways h S.n d)
  v : CellsAt S.n x h V
  l : ∀ i, i < S.n → x.ownsRow B 86 18 (V i) (S.set i).length (flatL (S.set i))
  ne : p ≠ h
  vp : ∀ i, i < S.n → (V i).ownBlock ≠ some p
  vh : ∀ i, i < S.n → (V i).ownBlock ≠ some h
  vv : ∀ i j k, i < S.n → j < S.n → i ≠ j → (V i).ownBlock = some k → (V j).ownBlock ≠ some k
  few : ∀ i, i < S.n → (S.set i).length ≤ S.ways
  small : S.ways ≤ 4 ∧ 1 ≤ S.ways ∧ 1 ≤ S.n ∧ S.n ≤ 16 ∧ S.n ≤ d ∧ d ≤ 16
  lo : B ≤ p ∧ B ≤ h
theorem Ch.turned {Q : Nat → Prop} {x y : World} {B p h c : Nat} {V : Nat → Value} {S : CS} (k : Ch x B p h c V S) (t : Turned Q x y) (hp : ¬ Q p) (hh : ¬ Q h) (hv : ∀ i j, i < S.n → (V i).ownBlock = some j → ¬ Q j) : Ch y B p h c V S :=
  ⟨t.cells k.c hp, t.cells k.v hh, fun i hi => own_turned (k.l i hi) t (fun j hj => hv i j hi hj), k.ne, k.vp, k.vh, k.vv, k.few, k.small, k.lo⟩
theorem Ch.below {x y : World} {B p h c : Nat} {V : Nat → Value} {S : CS} (k : Ch x B p h c V S) (t : Below x.heap.size x y) : Ch y B p h c V S :=
  k.turned (Q := fun _ => False) ⟨t.os, t.tape, t.output, t.size, fun i hi _ => t.block i hi⟩ (fun q => q) (fun q => q) (fun _ _ _ _ q => q)
theorem Ch.drew {x : World} {B p h c : Nat} {V : Nat → Value} {S : CS} (k : Ch x B p h c V S) : Ch x.drew B p h c V S := k.below (Below.refl _ _).drew
theorem Ch.cells {x : World} {B p h c : Nat} {V : Nat → Value} {S : CS} (k : Ch x B p h c V S) : p < x.heap.size ∧ x.cell? ⟨p, 0, none⟩ = some (.int .i64 S.ways) ∧ x.cell? ⟨p, 1, none⟩ = some (.slice (some ⟨h, 0, none⟩) S.n c) :=
  ⟨k.c.here, k.c.cell 0 (by omega), k.c.cell 1 (by omega)⟩
/-- a set's row has turned -/
theorem Ch.row {x y : World} {B p h c : Nat} {V : Nat → Value} {S : CS} (k : Ch x B p h c V S) (i : Nat) (hi : i < S.n) (m : List Ln) (t : Turned (fun k => (V i).ownBlock = some k) x y) (r : y.ownsRow B 86 18 (V i) m.length (flatL m)) (hm : m.length ≤ S.ways) : Ch y B p h c V (S.put i m) := by
  refine ⟨t.cells k.c (k.vp i hi), t.cells k.v (k.vh i hi), fun j hj => ?_, k.ne, k.vp, k.vh, k.vv, fun j hj => ?_, k.small, k.lo⟩
  · show y.ownsRow B _ 18 (V j) (upd S.set i m j).length (flatL (upd S.set i m j))
    by_cases e : j = i
    · subst e
      rw [upd_same]
      exact r
    · rw [upd_other _ _ _ _ e]
      exact own_turned (k.l j hj) t (fun q hq hq' => k.vv j i q hj hi e hq hq')
  · show (upd S.set i m j).length ≤ S.ways
    by_cases e : j = i
    · subst e
      rw [upd_same]
      exact hm
    · rw [upd_other _ _ _ _ e]
      exact k.few j hj
/-- a set's row is another one now -/
theorem Ch.rowTo {x y : World} {B p h c : Nat} {V : Nat → Value} {S : CS} (k : Ch x B p h c V S) (i : Nat) (hi : i < S.n) (m : List Ln) (v : Value) (t : Turned (fun k => (V i).ownBlock = some k) x y) (r : y.ownsRow B 86 18 v m.length (flatL m)) (hm : m.length ≤ S.ways) (hv : ∀ k, v.ownBlock = some k → (V i).ownBlock = some k ∨ x.heap.size ≤ k) : Ch (y.setCell ⟨h, i, none⟩ v) B p h c (upd V i v) (S.put i m) := by
  have hp := k.c.here
  have hh := k.v.here
  have np : v.ownBlock ≠ some p := fun q => by
    rcases hv p q with q | q
    · exact k.vp i hi q
    · omega
  have nh : v.ownBlock ≠ some h := fun q => by
    rcases hv h q with q | q
    · exact k.vh i hi q
    · omega
  have nv : ∀ j, j < S.n → j ≠ i → ∀ q, v.ownBlock = some q → (V j).ownBlock ≠ some q := fun j hj e q hq hq' => by
    rcases hv q hq with h1 | h1
    · exact k.vv j i q hj hi e hq' h1
    · have := (own_base (k.l j hj) q hq').2
      omega
  refine ⟨(t.cells k.c (k.vp i hi)).setOther _ _ k.ne, (t.cells k.v (k.vh i hi)).set i hi v, fun j hj => ?_, k.ne, fun j hj => ?_, fun j hj => ?_, fun a b q ha hb hab hq => ?_, fun j hj => ?_, k.small, k.lo⟩
  · show World.ownsRow _ B _ 18 (upd V i v j) (upd S.set i m j).length (flatL (upd S.set i m j))
    by_cases e : j = i
    · subst e
      rw [upd_same, upd_same]
      exact own_turned r ((Turned.refl (fun k => k = h) y).set (b := h) rfl _ _) (fun q hq e => nh (by rw [hq, e]))
    · rw [upd_other _ _ _ _ e, upd_other _ _ _ _ e]
      exact own_turned (own_turned (k.l j hj) t (fun q hq hq' => k.vv j i q hj hi e hq hq')) ((Turned.refl (fun k => k = h) y).set (b := h) rfl _ _) (fun q hq e => k.vh j hj (by rw [hq, e]))
  · by_cases e : j = i
    · subst e
      rw [upd_same]
      exact np
    · rw [upd_other _ _ _ _ e]
      exact k.vp j hj
  · by_cases e : j = i
    · subst e
      rw [upd_same]
      exact nh
    · rw [upd_other _ _ _ _ e]
      exact k.vh j hj
  · by_cases ea : a = i
    · subst ea
      rw [upd_same] at hq
      rw [upd_other _ _ _ _ (Ne.symm hab)]
      exact nv b hb (Ne.symm hab) q hq
    · rw [upd_other _ _ _ _ ea] at hq
      by_cases eb : b = i
      · subst eb
        rw [upd_same]
        exact fun q' => nv a ha ea q q' hq
      · rw [upd_other _ _ _ _ eb]
        exact k.vv a b q ha hb hab hq
  · show (upd S.set i m j).length ≤ S.ways
    by_cases e : j = i
    · subst e
      rw [upd_same]
      exact hm
    · rw [upd_other _ _ _ _ e]
      exact k.few j hj
/-- the set to which an address belongs -/
def CS.of (S : CS) (a : Nat) : Nat := a / 16 % S.n
theorem CS.of_lt (S : CS) (a : Nat) (h : 1 ≤ S.n) : S.of a < S.n := Nat.mod_lt _ h
def lineOf (a : Nat) : Nat := a - a % 16
set_option maxRecDepth 100000 in
set_option maxHeartbeats 1000000 in
theorem setOf_any (B p h c : Nat) (V : Nat → Value) (S : CS) (a : Nat) (w : World) (k : Ch w B p h c V S) (ha : a < 4294967296) : Calls Try.prog 28 #[.pointer (some ⟨p, 0, none⟩), .int .u32 a] w fun e w' => e = .returned (.pointer (some ⟨h, S.of a, none⟩)) ∧ Below w.heap.size w w' := by
  obtain ⟨hp, c0, c1⟩ := k.cells
  obtain ⟨s1, s2, s3, s4, s5, s6⟩ := k.small
  have hlt := S.of_lt a s3
  have hm : ((a : Int) / 16) % (S.n : Int) = (S.of a : Int) := by unfold CS.of; rw [Int.natCast_emod, Int.natCast_ediv]; rfl
  obtain ⟨n, hn⟩ : ∃ n, S.n = n := ⟨_, rfl⟩
  obtain ⟨r, hr⟩ : ∃ r, S.of a = r := ⟨_, rfl⟩
  rw [hr] at hlt hm ⊢
  rw [hn] at c1 s3 s4 hlt hm
  clear k hr hn
  go_enter Try.func28, Try.ntmps28
  go_wp2
  go_quiet (fail)
  go_wp2
  go_ret
  exact ⟨rfl, below_drewN w _⟩
/-- where a line is: nothing ahead of it has its address -/
def At (l : List Ln) (a i : Nat) : Prop := i < l.length ∧ (l.getD i l0).a = lineOf a ∧ ∀ j, j < i → (l.getD j l0).a ≠ lineOf a
def No (l : List Ln) (a : Nat) : Prop := ∀ j, j < l.length → (l.getD j l0).a ≠ lineOf a
theorem at_or_no (l : List Ln) (a : Nat) : (∃ i, At l a i) ∨ No l a := by
  by_cases h : ∃ j, j < l.length ∧ (l.getD j l0).a = lineOf a
  · left
    obtain ⟨j, hj⟩ := h
    induction j using Nat.strongRecOn with
    | ind j ih =>
      by_cases q : ∃ i, i < j ∧ (l.getD i l0).a = lineOf a
      · obtain ⟨i, h1, h2⟩ := q
        exact ih i h1 ⟨by omega, h2⟩
      · exact ⟨j, hj.1, hj.2, fun i hi e => q ⟨i, hi, e⟩⟩
  · right
    exact fun j hj e => h ⟨j, hj, e⟩
set_option maxRecDepth 100000 in
set_option maxHeartbeats 1000000 in
theorem find_any (B : Nat) (v : Value) (l : List Ln) (a : Nat) (w : World) (k : w.ownsRow B 86 18 v l.length (flatL l)) (hl : l.length ≤ 4) (ha : a < 4294967296) : Calls Try.prog 29 #[v, .int .u32 a] w fun e w' => ((∃ i, At l a i ∧ e = .returned (.int .i64 i)) ∨ No l a ∧ e = .returned (.int .i64 (-1))) ∧ w' = w := by
  obtain ⟨q, cap, rfl, hcap, hel⟩ := own_lines k
  obtain ⟨m, hm⟩ : ∃ m, l.length = m := ⟨_, rfl⟩
  have HE := Hid.in hel
  have HM := Hid.in hm
  rw [hm] at hl ⊢
  clear hel k hcap hm
  go_enter Try.func29, Try.ntmps29
  go_wp2
  go_loopw [8] (fun u wr => ∃ i : Nat, u = .int .i64 i ∧ i ≤ m ∧ (∀ j, j < i → (l.getD j l0).a ≠ lineOf a) ∧ w = wr) (fun v _ => 5 - (intOf v).toNat)
  case atStart => exact ⟨0, rfl, by omega, fun j hj => by omega, rfl⟩
  case round =>
    obtain ⟨i, rfl, hi, hno, rfl⟩ := hrel
    have HN := Hid.in hno
    clear hno
    by_cases him : i < m
    · obtain ⟨g, rfl, -, hg, -, -, d0, -, -⟩ := HE.out i (by rw [HM.out]; exact him)
      obtain ⟨x, hx⟩ : ∃ x, (l.getD i l0).a = x := ⟨_, rfl⟩
      have HX := Hid.in hx
      rw [hx] at d0
      have hsub : (a : Int) - (a : Int) % 16 = (lineOf a : Nat) := by unfold lineOf; omega
      obtain ⟨y, hy⟩ : ∃ y, lineOf a = y := ⟨_, rfl⟩
      rw [hy] at hsub
      have HY := Hid.in hy
      have hle : y ≤ a := by rw [← hy]; unfold lineOf; omega
      clear hx hy
      by_cases he : x = y
      · subst he
        go_wp2
        go_ret
        exact ⟨Or.inl ⟨i, ⟨by rw [HM.out]; exact him, by rw [HX.out, HY.out], HN.out⟩, rfl⟩, rfl⟩
      · have he2 : ¬ (x : Int) = y := by omega
        go_wp2
        go_roundw
        case rel =>
          refine ⟨i + 1, by simp, by omega, fun j hj => ?_, trivial⟩
          rcases Nat.lt_or_ge j i with q | q
          · exact HN.out j q
          · obtain rfl : j = i := by omega
            rw [HX.out, HY.out]
            exact he
        case measure => simp [intOf]; omega
    · have hme : i = m := by omega
      have HMI := Hid.in hme
      clear hme
      go_wp2
      go_ret
      refine ⟨Or.inr ⟨fun j hj => HN.out j (by rw [HMI.out, ← HM.out]; exact hj), rfl⟩, rfl⟩
theorem at_inj {l : List Ln} {a i j : Nat} (x : At l a i) (y : At l a j) : i = j := by
  obtain ⟨a1, a2, a3⟩ := x
  obtain ⟨b1, b2, b3⟩ := y
  rcases Nat.lt_trichotomy i j with q | q | q
  · exact absurd a2 (b3 i q)
  · exact q
  · exact absurd b2 (a3 j q)
theorem find_at (B : Nat) (v : Value) (l : List Ln) (a i : Nat) (w : World) (k : w.ownsRow B 86 18 v l.length (flatL l)) (hl : l.length ≤ 4) (ha : a < 4294967296) (hA : At l a i) : Calls Try.prog 29 #[v, .int .u32 a] w fun e w' => e = .returned (.int .i64 i) ∧ w' = w := by
  refine (find_any B v l a w k hl ha).mono ?_
  rintro e w2 ⟨⟨j, hj, rfl⟩ | ⟨hj, rfl⟩, rfl⟩
  · rw [at_inj hA hj]
    exact ⟨rfl, rfl⟩
  · exact absurd hA.2.1 (hj i hA.1)
theorem find_no (B : Nat) (v : Value) (l : List Ln) (a : Nat) (w : World) (k : w.ownsRow B 86 18 v l.length (flatL l)) (hl : l.length ≤ 4) (ha : a < 4294967296) (hA : No l a) : Calls Try.prog 29 #[v, .int .u32 a] w fun e w' => e = .returned (.int .i64 (-1)) ∧ w' = w := by
  refine (find_any B v l a w k hl ha).mono ?_
  rintro e w2 ⟨⟨j, hj, rfl⟩ | ⟨hj, rfl⟩, rfl⟩
  · exact absurd hj.2.1 (hA j hj.1)
  · exact ⟨rfl, rfl⟩
theorem Ch.four {x : World} {B p h c : Nat} {V : Nat → Value} {S : CS} (k : Ch x B p h c V S) (i : Nat) (hi : i < S.n) : (S.set i).length ≤ 4 := Nat.le_trans (k.few i hi) k.small.1
end Go.Proofs.Ytbbaopldebdoiaa
