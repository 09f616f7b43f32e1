import Derived.Test.YtlogdmnhngbkaaaDoorY00
import Derived.Laws.BitsAllLaws
/-
  A CACHE IN MEMORY; setOf, find, State.
-/
namespace Go.Proofs.YtlogdmnhngbkaaaDoor
open Go Go.RowKit
structure CS where
  ways : Nat
  n : Nat
  set : Nat → List Ln
def CS.put (S : CS) (i : Nat) (l : List Ln) : CS := { S with set := upd S.set i l }
def cv (ways h n c : Nat) : Nat → Value
  | 0 => .int .i64 ways
  | _ => .slice (some ⟨h, 0, none⟩) n c
/-- the cache at p: its sets' rows are V, and stand in h -/
structure Ch (x : World) (B p h d : Nat) (V : Nat → Value) (S : CS) : Prop where
  c : CellsAt 2 x p (cv S.ways h S.n d)
  v : CellsAt S.n x h V
  l : ∀ i, i < S.n → x.ownsRow B 114 18 (V i) (S.set i).length (flatL (S.set i))
  ne : p ≠ h
  vp : ∀ i, i < S.n → (V i).ownBlock ≠ some p
  vh : ∀ i, i < S.n → (V i).ownBlock ≠ some h
  vv : ∀ i j k, i < S.n → j < S.n → i ≠ j → (V i).ownBlock = some k → (V j).ownBlock ≠ some k
  few : ∀ i, i < S.n → (S.set i).length ≤ S.ways
  small : S.ways ≤ 4 ∧ 1 ≤ S.ways ∧ 1 ≤ S.n ∧ S.n ≤ 16 ∧ S.n ≤ d ∧ d ≤ 16
  lo : B ≤ p ∧ B ≤ h
theorem Ch.turned {Q : Nat → Prop} {x y : World} {B p h c : Nat} {V : Nat → Value} {S : CS} (k : Ch x B p h c V S) (t : Turned Q x y) (hp : ¬ Q p) (hh : ¬ Q h) (hv : ∀ i j, i < S.n → (V i).ownBlock = some j → ¬ Q j) : Ch y B p h c V S :=
  ⟨t.cells k.c hp, t.cells k.v hh, fun i hi => own_turned (k.l i hi) t (fun j hj => hv i j hi hj), k.ne, k.vp, k.vh, k.vv, k.few, k.small, k.lo⟩
theorem Ch.below {x y : World} {B p h c : Nat} {V : Nat → Value} {S : CS} (k : Ch x B p h c V S) (t : Below x.heap.size x y) : Ch y B p h c V S :=
  k.turned (Q := fun _ => False) ⟨t.os, t.tape, t.output, t.size, fun i hi _ => t.block i hi⟩ (fun q => q) (fun q => q) (fun _ _ _ _ q => q)
theorem Ch.drew {x : World} {B p h c : Nat} {V : Nat → Value} {S : CS} (k : Ch x B p h c V S) : Ch x.drew B p h c V S := k.below (Below.refl _ _).drew
theorem Ch.cells {x : World} {B p h c : Nat} {V : Nat → Value} {S : CS} (k : Ch x B p h c V S) : p < x.heap.size ∧ x.cell? ⟨p, 0, none⟩ = some (.int .i64 S.ways) ∧ x.cell? ⟨p, 1, none⟩ = some (.slice (some ⟨h, 0, none⟩) S.n c) :=
  ⟨k.c.here, k.c.cell 0 (by omega), k.c.cell 1 (by omega)⟩
/-- a set's row has turned -/
theorem Ch.row {x y : World} {B p h c : Nat} {V : Nat → Value} {S : CS} (k : Ch x B p h c V S) (i : Nat) (hi : i < S.n) (m : List Ln) (t : Turned (fun k => (V i).ownBlock = some k) x y) (r : y.ownsRow B 114 18 (V i) m.length (flatL m)) (hm : m.length ≤ S.ways) : Ch y B p h c V (S.put i m) := by
  refine ⟨t.cells k.c (k.vp i hi), t.cells k.v (k.vh i hi), fun j hj => ?_, k.ne, k.vp, k.vh, k.vv, fun j hj => ?_, k.small, k.lo⟩
  · show y.ownsRow B _ 18 (V j) (upd S.set i m j).length (flatL (upd S.set i m j))
    by_cases e : j = i
    · subst e
      rw [upd_same]
      exact r
    · rw [upd_other _ _ _ _ e]
      exact own_turned (k.l j hj) t (fun q hq hq' => k.vv j i q hj hi e hq hq')
  · show (upd S.set i m j).length ≤ S.ways
    by_cases e : j = i
    · subst e
      rw [upd_same]
      exact hm
    · rw [upd_other _ _ _ _ e]
      exact k.few j hj
/-- a set's row is another one now -/
theorem Ch.rowTo {x y : World} {B p h c : Nat} {V : Nat → Value} {S : CS} (k : Ch x B p h c V S) (i : Nat) (hi : i < S.n) (m : List Ln) (v : Value) (t : Turned (fun k => (V i).ownBlock = some k) x y) (r : y.ownsRow B 114 18 v m.length (flatL m)) (hm : m.length ≤ S.ways) (hv : ∀ k, v.ownBlock = some k → (V i).ownBlock = some k ∨ x.heap.size ≤ k) : Ch (y.setCell ⟨h, i, none⟩ v) B p h c (upd V i v) (S.put i m) := by
  have hp := k.c.here
  have hh := k.v.here
  have np : v.ownBlock ≠ some p := fun q => by
    rcases hv p q with q | q
    · exact k.vp i hi q
    · omega
  have nh : v.ownBlock ≠ some h := fun q => by
    rcases hv h q with q | q
    · exact k.vh i hi q
    · omega
  have nv : ∀ j, j < S.n → j ≠ i → ∀ q, v.ownBlock = some q → (V j).ownBlock ≠ some q := fun j hj e q hq hq' => by
    rcases hv q hq with h1 | h1
    · exact k.vv j i q hj hi e hq' h1
    · have := (own_base (k.l j hj) q hq').2
      omega
  refine ⟨(t.cells k.c (k.vp i hi)).setOther _ _ k.ne, (t.cells k.v (k.vh i hi)).set i hi v, fun j hj => ?_, k.ne, fun j hj => ?_, fun j hj => ?_, fun a b q ha hb hab hq => ?_, fun j hj => ?_, k.small, k.lo⟩
  · show World.ownsRow _ B _ 18 (upd V i v j) (upd S.set i m j).length (flatL (upd S.set i m j))
    by_cases e : j = i
    · subst e
      rw [upd_same, upd_same]
      exact own_turned r ((Turned.refl (fun k => k = h) y).set (b := h) rfl _ _) (fun q hq e => nh (by rw [hq, e]))
    · rw [upd_other _ _ _ _ e, upd_other _ _ _ _ e]
      exact own_turned (own_turned (k.l j hj) t (fun q hq hq' => k.vv j i q hj hi e hq hq')) ((Turned.refl (fun k => k = h) y).set (b := h) rfl _ _) (fun q hq e => k.vh j hj (by rw [hq, e]))
  · by_cases e : j = i
    · subst e
      rw [upd_same]
      exact np
    · rw [upd_other _ _ _ _ e]
      exact k.vp j hj
  · by_cases e : j = i
    · subst e
      rw [upd_same]
      exact nh
    · rw [upd_other _ _ _ _ e]
      exact k.vh j hj
  · by_cases ea : a = i
    · subst ea
      rw [upd_same] at hq
      rw [upd_other _ _ _ _ (Ne.symm hab)]
      exact nv b hb (Ne.symm hab) q hq
    · rw [upd_other _ _ _ _ ea] at hq
      by_cases eb : b = i
      · subst eb
        rw [upd_same]
        exact fun q' => nv a ha ea q q' hq
      · rw [upd_other _ _ _ _ eb]
        exact k.vv a b q ha hb hab hq
  · show (upd S.set i m j).length ≤ S.ways
    by_cases e : j = i
    · subst e
      rw [upd_same]
      exact hm
    · rw [upd_other _ _ _ _ e]
      exact k.few j hj
/-- the set to which an address belongs -/
def CS.of (S : CS) (a : Nat) : Nat := a / 16 % S.n
theorem CS.of_lt (S : CS) (a : Nat) (h : 1 ≤ S.n) : S.of a < S.n := Nat.mod_lt _ h
def lineOf (a : Nat) : Nat := a - a % 16
set_option maxRecDepth 100000 in
set_option maxHeartbeats 1000000 in
theorem setOf_any (B p h c : Nat) (V : Nat → Value) (S : CS) (a : Nat) (w : World) (k : Ch w B p h c V S) (ha : a < 4294967296) : Calls Tryd.prog 54 #[.pointer (some ⟨p, 0, none⟩), .int .u32 a] w fun e w' => e = .returned (.pointer (some ⟨h, S.of a, none⟩)) ∧ Below w.heap.size w w' := by
  obtain ⟨hp, c0, c1⟩ := k.cells
  obtain ⟨s1, s2, s3, s4, s5, s6⟩ := k.small
  have hlt := S.of_lt a s3
  have hm : ((a : Int) / 16) % (S.n : Int) = (S.of a : Int) := by unfold CS.of; rw [Int.natCast_emod, Int.natCast_ediv]; rfl
  obtain ⟨n, hn⟩ : ∃ n, S.n = n := ⟨_, rfl⟩
  obtain ⟨r, hr⟩ : ∃ r, S.of a = r := ⟨_, rfl⟩
  rw [hr] at hlt hm ⊢
  rw [hn] at c1 s3 s4 hlt hm
  clear k hr hn
  go_enter Tryd.func54, Tryd.ntmps54
  go_wp2
  go_quiet (fail)
  go_wp2
  go_ret
  exact ⟨rfl, below_drewN w _⟩
/-- where a line is: nothing ahead of it has its address -/
def At (l : List Ln) (a i : Nat) : Prop := i < l.length ∧ (l.getD i l0).a = lineOf a ∧ ∀ j, j < i → (l.getD j l0).a ≠ lineOf a
def No (l : List Ln) (a : Nat) : Prop := ∀ j, j < l.length → (l.getD j l0).a ≠ lineOf a
theorem at_or_no (l : List Ln) (a : Nat) : (∃ i, At l a i) ∨ No l a := by
  by_cases h : ∃ j, j < l.length ∧ (l.getD j l0).a = lineOf a
  · left
    obtain ⟨j, hj⟩ := h
    induction j using Nat.strongRecOn with
    | ind j ih =>
      by_cases q : ∃ i, i < j ∧ (l.getD i l0).a = lineOf a
      · obtain ⟨i, h1, h2⟩ := q
        exact ih i h1 ⟨by omega, h2⟩
      · exact ⟨j, hj.1, hj.2, fun i hi e => q ⟨i, hi, e⟩⟩
  · right
    exact fun j hj e => h ⟨j, hj, e⟩
set_option maxRecDepth 100000 in
set_option maxHeartbeats 1000000 in
theorem find_any (B : Nat) (v : Value) (l : List Ln) (a : Nat) (w : World) (k : w.ownsRow B 114 18 v l.length (flatL l)) (hl : l.length ≤ 4) (ha : a < 4294967296) : Calls Tryd.prog 55 #[v, .int .u32 a] w fun e w' => ((∃ i, At l a i ∧ e = .returned (.int .i64 i)) ∨ No l a ∧ e = .returned (.int .i64 (-1))) ∧ w' = w := by
  obtain ⟨q, cap, rfl, hcap, hel⟩ := own_lines k
  obtain ⟨m, hm⟩ : ∃ m, l.length = m := ⟨_, rfl⟩
  have HE := Hid.in hel
  have HM := Hid.in hm
  rw [hm] at hl ⊢
  clear hel k hcap hm
  go_enter Tryd.func55, Tryd.ntmps55
  go_wp2
  go_loopw [8] (fun u wr => ∃ i : Nat, u = .int .i64 i ∧ i ≤ m ∧ (∀ j, j < i → (l.getD j l0).a ≠ lineOf a) ∧ w = wr) (fun v _ => 5 - (intOf v).toNat)
  case atStart => exact ⟨0, rfl, by omega, fun j hj => by omega, rfl⟩
  case round =>
    obtain ⟨i, rfl, hi, hno, rfl⟩ := hrel
    have HN := Hid.in hno
    clear hno
    by_cases him : i < m
    · obtain ⟨g, rfl, -, hg, -, -, d0, -, -⟩ := HE.out i (by rw [HM.out]; exact him)
      obtain ⟨x, hx⟩ : ∃ x, (l.getD i l0).a = x := ⟨_, rfl⟩
      have HX := Hid.in hx
      rw [hx] at d0
      have hsub : (a : Int) - (a : Int) % 16 = (lineOf a : Nat) := by unfold lineOf; omega
      obtain ⟨y, hy⟩ : ∃ y, lineOf a = y := ⟨_, rfl⟩
      rw [hy] at hsub
      have HY := Hid.in hy
      have hle : y ≤ a := by rw [← hy]; unfold lineOf; omega
      clear hx hy
      by_cases he : x = y
      · subst he
        go_wp2
        go_ret
        exact ⟨Or.inl ⟨i, ⟨by rw [HM.out]; exact him, by rw [HX.out, HY.out], HN.out⟩, rfl⟩, rfl⟩
      · have he2 : ¬ (x : Int) = y := by omega
        go_wp2
        go_roundw
        case rel =>
          refine ⟨i + 1, by simp, by omega, fun j hj => ?_, trivial⟩
          rcases Nat.lt_or_ge j i with q | q
          · exact HN.out j q
          · obtain rfl : j = i := by omega
            rw [HX.out, HY.out]
            exact he
        case measure => simp [intOf]; omega
    · have hme : i = m := by omega
      have HMI := Hid.in hme
      clear hme
      go_wp2
      go_ret
      refine ⟨Or.inr ⟨fun j hj => HN.out j (by rw [HMI.out, ← HM.out]; exact hj), rfl⟩, rfl⟩
theorem at_inj {l : List Ln} {a i j : Nat} (x : At l a i) (y : At l a j) : i = j := by
  obtain ⟨a1, a2, a3⟩ := x
  obtain ⟨b1, b2, b3⟩ := y
  rcases Nat.lt_trichotomy i j with q | q | q
  · exact absurd a2 (b3 i q)
  · exact q
  · exact absurd b2 (a3 j q)
theorem find_at (B : Nat) (v : Value) (l : List Ln) (a i : Nat) (w : World) (k : w.ownsRow B 114 18 v l.length (flatL l)) (hl : l.length ≤ 4) (ha : a < 4294967296) (hA : At l a i) : Calls Tryd.prog 55 #[v, .int .u32 a] w fun e w' => e = .returned (.int .i64 i) ∧ w' = w := by
  refine (find_any B v l a w k hl ha).mono ?_
  rintro e w2 ⟨⟨j, hj, rfl⟩ | ⟨hj, rfl⟩, rfl⟩
  · rw [at_inj hA hj]
    exact ⟨rfl, rfl⟩
  · exact absurd hA.2.1 (hj i hA.1)
theorem find_no (B : Nat) (v : Value) (l : List Ln) (a : Nat) (w : World) (k : w.ownsRow B 114 18 v l.length (flatL l)) (hl : l.length ≤ 4) (ha : a < 4294967296) (hA : No l a) : Calls Tryd.prog 55 #[v, .int .u32 a] w fun e w' => e = .returned (.int .i64 (-1)) ∧ w' = w := by
  refine (find_any B v l a w k hl ha).mono ?_
  rintro e w2 ⟨⟨j, hj, rfl⟩ | ⟨hj, rfl⟩, rfl⟩
  · exact absurd hj.2.1 (hA j hj.1)
  · exact ⟨rfl, rfl⟩
theorem Ch.four {x : World} {B p h c : Nat} {V : Nat → Value} {S : CS} (k : Ch x B p h c V S) (i : Nat) (hi : i < S.n) : (S.set i).length ≤ 4 := Nat.le_trans (k.few i hi) k.small.1
end Go.Proofs.YtlogdmnhngbkaaaDoor
/-
  CACHE: State, isLine, mayStand, part, number, put.
-/
namespace Go.Proofs.YtlogdmnhngbkaaaDoor
open Go Go.RowKit
set_option maxRecDepth 100000 in
set_option maxHeartbeats 1000000 in
theorem state_at (B p h c : Nat) (V : Nat → Value) (S : CS) (a i : Nat) (w : World) (k : Ch w B p h c V S) (ha : a < 4294967296) (hA : At (S.set (S.of a)) a i) : Calls Tryd.prog 36 #[.pointer (some ⟨p, 0, none⟩), .int .u32 a] w fun e w' => e = .returned (.int .i64 (((S.set (S.of a)).getD i l0).s : Nat)) ∧ Below w.heap.size w w' := by
  have HK := Hid.in k
  have hp := k.c.here
  have hO := S.of_lt a k.small.2.2.1
  have HO := Hid.in hO
  obtain ⟨q, cap, hv, hcap, hel⟩ := own_lines (k.l _ hO)
  obtain ⟨g, rfl, -, hg, -, -, -, d1, -⟩ := hel i hA.1
  have HD := Hid.in (And.intro hg d1)
  have HV := Hid.in hv
  have hil := hA.1
  have h4 := k.four _ hO
  obtain ⟨m, hm⟩ : ∃ m, (S.set (S.of a)).length = m := ⟨_, rfl⟩
  have HM := Hid.in hm
  rw [hm] at hil h4
  obtain ⟨r, hr⟩ : ∃ r, S.of a = r := ⟨_, rfl⟩
  have HR := Hid.in hr
  have HA := Hid.in hA
  obtain ⟨s, hs⟩ : ∃ s, ((S.set (S.of a)).getD i l0).s = s := ⟨_, rfl⟩
  have HS := Hid.in hs
  rw [hs]
  clear hA k hO hel hcap hv hm d1 hg hr hs
  go_enter Tryd.func36, Tryd.ntmps36
  go_wp2_with (first
    | (go_at_call 55
       have HT := HX.out
       rw [← HM.out, ← HV.out]
       refine (find_at B _ (S.set (S.of a)) a i _ (HT.l _ HO.out) (HT.four _ HO.out) ha HA.out).mono ?_
       rintro e w2 ⟨rfl, rfl⟩
       have d1 := (HB.out.cell (p := ⟨g, i * 18 + 1, none⟩) HD.out.1).trans HD.out.2
       rw [HS.out] at d1
       rw [HV.out, HM.out]
       clear HT)
    | (go_at_call 54
       refine (setOf_any B p h c V S a _ HK.out ha).mono ?_
       rintro e w1 ⟨rfl, hb⟩
       have k1 := HK.out.below hb
       have HX := Hid.in k1
       have ch := k1.v.cell _ HO.out
       have hh1 := k1.v.here
       have HB := Hid.in hb
       rw [HR.out] at ch ⊢
       rw [← HR.out, HV.out, HM.out, HR.out] at ch
       clear k1 hb))
  go_ret
  exact ⟨rfl, HB.out⟩
set_option maxRecDepth 100000 in
set_option maxHeartbeats 1000000 in
theorem state_no (B p h c : Nat) (V : Nat → Value) (S : CS) (a : Nat) (w : World) (k : Ch w B p h c V S) (ha : a < 4294967296) (hA : No (S.set (S.of a)) a) : Calls Tryd.prog 36 #[.pointer (some ⟨p, 0, none⟩), .int .u32 a] w fun e w' => e = .returned (.int .i64 0) ∧ Below w.heap.size w w' := by
  have HK := Hid.in k
  have hp := k.c.here
  have hO := S.of_lt a k.small.2.2.1
  have HO := Hid.in hO
  have HA := Hid.in hA
  obtain ⟨q, cap, hv, hcap, hel⟩ := own_lines (k.l _ hO)
  have HV := Hid.in hv
  obtain ⟨m, hm⟩ : ∃ m, (S.set (S.of a)).length = m := ⟨_, rfl⟩
  have HM := Hid.in hm
  obtain ⟨r, hr⟩ : ∃ r, S.of a = r := ⟨_, rfl⟩
  have HR := Hid.in hr
  clear hA k hO hel hcap hv hm hr
  go_enter Tryd.func36, Tryd.ntmps36
  go_wp2_with (first
    | (go_at_call 55
       have HT := HX.out
       rw [← HM.out, ← HV.out]
       refine (find_no B _ (S.set (S.of a)) a _ (HT.l _ HO.out) (HT.four _ HO.out) ha HA.out).mono ?_
       rintro e w2 ⟨rfl, rfl⟩
       rw [HV.out, HM.out]
       clear HT)
    | (go_at_call 54
       refine (setOf_any B p h c V S a _ HK.out ha).mono ?_
       rintro e w1 ⟨rfl, hb⟩
       have k1 := HK.out.below hb
       have HX := Hid.in k1
       have ch := k1.v.cell _ HO.out
       have hh1 := k1.v.here
       have HB := Hid.in hb
       rw [HR.out] at ch ⊢
       rw [← HR.out, HV.out, HM.out, HR.out] at ch
       clear k1 hb))
  go_ret
  exact ⟨rfl, HB.out⟩
theorem isLine_any (a : Nat) (w : World) (ha : a < 4294967296) : Calls Tryd.prog 69 #[.int .u32 a] w fun e w' => e = .returned (.bool (decide (a % 16 = 0))) ∧ w' = w := by
  by_cases h : a % 16 = 0
  · have h1 : (a : Int) % 16 = 0 := by omega
    go_enter Tryd.func69, Tryd.ntmps69
    go_wp2
    go_ret
    exact ⟨by simp [h, h1], rfl⟩
  · have h1 : ¬ (a : Int) % 16 = 0 := by omega
    go_enter Tryd.func69, Tryd.ntmps69
    go_wp2
    go_ret
    exact ⟨by simp [h, h1], rfl⟩
/-- may so many bytes stand there? -/
def fits (a : Nat) (z : Int) : Bool := decide (z = 1) || decide (z = 2 ∧ a % 2 = 0) || decide (z = 4 ∧ a % 4 = 0)
set_option maxRecDepth 100000 in
set_option maxHeartbeats 1000000 in
theorem mayStand_any (a : Nat) (z : Int) (w : World) (ha : a < 4294967296) : Calls Tryd.prog 56 #[.int .u32 a, .int .i64 z] w fun e w' => e = .returned (.bool (fits a z)) ∧ w' = w := by
  have hu : undef = Value.tuple #[] := rfl
  by_cases h1 : z = 1
  · subst h1
    have e1 : fits a 1 = true := rfl
    rw [e1]
    go_enter Tryd.func56, Tryd.ntmps56
    go_wp2
    go_ret
    exact ⟨by simp, rfl⟩
  · by_cases h2 : z = 2
    · subst h2
      have e1 : fits a 2 = decide (a % 2 = 0) := by simp [fits]
      rw [e1]
      go_enter Tryd.func56, Tryd.ntmps56
      go_wp2
      go_ret
      refine ⟨?_, rfl⟩
      by_cases q : a % 2 = 0
      · have : (a : Int) % 2 = 0 := by omega
        simp [q, this]
      · have : ¬ (a : Int) % 2 = 0 := by omega
        simp [q, this]
    · by_cases h4 : z = 4
      · subst h4
        have e1 : fits a 4 = decide (a % 4 = 0) := by simp [fits]
        rw [e1]
        go_enter Tryd.func56, Tryd.ntmps56
        go_wp2
        go_ret
        refine ⟨?_, rfl⟩
        by_cases q : a % 4 = 0
        · have : (a : Int) % 4 = 0 := by omega
          simp [q, this]
        · have : ¬ (a : Int) % 4 = 0 := by omega
          simp [q, this]
      · have e1 : fits a z = false := by simp [fits, h1, h2, h4]
        rw [e1]
        have d1 : (z == 1) = false := by simp [h1]
        have d2 : (z == 2) = false := by simp [h2]
        have d4 : (z == 4) = false := by simp [h4]
        go_enter Tryd.func56, Tryd.ntmps56
        go_wp2
        go_ret
        exact ⟨rfl, rfl⟩
theorem run_sliceAt_array_lhm {P : Program} (w : World) (t : TypeId) (a : Addr) (ht : P.underlying t = some (.array (P.arrayLen t) (P.elem t))) (kl kh km : IntKind) (l h m : Int) (h0 : 0 ≤ l) (h1 : l ≤ h) (h2 : h ≤ m) (h3 : m ≤ P.arrayLen t) :
    (Instr.sliceAt t (.pointer (some a)) (some (.int kl l)) (some (.int kh h)) (some (.int km m))).run P w =
      ((sizeOf (P.elem t)).run P w).andThen fun s w => .ok (slicedAt a l.toNat h.toNat m.toNat s) w := by
  have eh : (h.toNat : Int) = h := Int.toNat_of_nonneg (by omega)
  have em : (m.toNat : Int) = m := Int.toNat_of_nonneg (by omega)
  simp [Instr.sliceAt, Instr.sureAddr, slicedAt, run_underlying ht, Instr.sliceBounds, run_sliceBound, *, (by omega : 0 ≤ h), (by omega : 0 ≤ m)]
theorem part_slice (g o r z : Nat) (w : World) (hz : r + z ≤ 16) (hz0 : 0 < z) : (Instr.sliceAt 98 (.pointer (some ⟨g, o, none⟩)) (some (.int .i64 r)) (some (.int .i64 (r + z : Int))) (some (.int .i64 (r + z : Int)))).run Tryd.prog w = .ok (.slice (some ⟨g, o + r, none⟩) z z) w := by
  have hal : Tryd.prog.arrayLen 98 = 16 := by kernel_rfl
  have hel : Tryd.prog.elem 98 = 5 := by kernel_rfl
  rw [run_sliceAt_array_lhm w _ _ (by rw [hal, hel]; exact Tryd.underlying98) _ _ _ _ _ _ (by omega) (by omega) (by omega) (by rw [hal]; omega), hel]
  have hsz : (sizeOf 5).run Tryd.prog w = .ok 1 w := by
    obtain ⟨i, hi, h2⟩ : ∃ i, Tryd.prog.info? 5 = some i ∧ i.size = 1 := by
      have h : (Tryd.prog.info? 5).map (·.size) = some 1 := by kernel_rfl
      cases q : Tryd.prog.info? 5 with
      | none => rw [q] at h; simp at h
      | some i => rw [q] at h; exact ⟨i, rfl, by simpa using h⟩
    simp [sizeOf, typeInfo, hi, h2]
  rw [hsz]
  have e1 : ((r : Int) + z).toNat = r + z := by omega
  have e2 : (r : Int).toNat = r := by omega
  simp [Result.andThen, slicedAt, e1, e2, Addr.add_mid]
  omega
theorem part_any (g o a z : Nat) (w : World) (ha : a < 4294967296) (hz : a % 16 + z ≤ 16) (hz0 : 0 < z) : Calls Tryd.prog 58 #[.pointer (some ⟨g, o, none⟩), .int .u32 a, .int .i64 z] w fun e w' => e = .returned (.slice (some ⟨g, o + 2 + a % 16, none⟩) z z) ∧ w' = w := by
  obtain ⟨r, hr⟩ : ∃ r, a % 16 = r := ⟨_, rfl⟩
  have hr2 : (a : Int) % 16 = r := by omega
  rw [hr] at hz ⊢
  have hsl := part_slice g (o + 2) r z w hz hz0
  clear hr
  go_enter Tryd.func58, Tryd.ntmps58
  go_wp2
  go_ret
  exact ⟨rfl, rfl⟩
end Go.Proofs.YtlogdmnhngbkaaaDoor
/-
  CACHE: number, put: bytes as numbers, the low one first.
-/
namespace Go.Proofs.YtlogdmnhngbkaaaDoor
open Go Go.RowKit
def leN (b : Nat → Nat) : Nat → Nat
  | 0 => 0
  | k + 1 => leN b k + b k * 256 ^ k
theorem leN_lt (b : Nat → Nat) : ∀ k, (∀ t, t < k → b t < 256) → leN b k < 256 ^ k
  | 0, _ => by simp [leN]
  | k + 1, h => by
    have h1 := leN_lt b k (fun t ht => h t (by omega))
    have h2 : b k * 256 ^ k ≤ 255 * 256 ^ k := Nat.mul_le_mul_right _ (by have := h k (by omega); omega)
    have h3 : 256 ^ (k + 1) = 256 * 256 ^ k := by rw [Nat.pow_succ, Nat.mul_comm]
    show leN b k + b k * 256 ^ k < _
    omega
theorem leN_congr (b c : Nat → Nat) : ∀ k, (∀ t, t < k → b t = c t) → leN b k = leN c k
  | 0, _ => rfl
  | k + 1, h => by simp only [leN, leN_congr b c k (fun t ht => h t (by omega)), h k (by omega)]
theorem or_step (x y k : Nat) (hx : x < 256 ^ k) (hy : y < 256) (hk : k < 4) : bits .or .u32 (x : Int) ((y : Int) * 2 ^ (8 * k) % 4294967296) = ((x + y * 256 ^ k : Nat) : Int) := by
  have e : (2 : Nat) ^ (8 * k) = 256 ^ k := by rw [Nat.pow_mul]
  have hp : 256 ^ k ≤ 16777216 := by
    have : 256 ^ k ≤ 256 ^ 3 := Nat.pow_le_pow_right (by omega) (by omega)
    omega
  have h1 : y * 256 ^ k < 4294967296 := by
    have : y * 256 ^ k ≤ 255 * 256 ^ k := Nat.mul_le_mul_right _ (by omega)
    omega
  have e1 : (y : Int) * 2 ^ (8 * k) % 4294967296 = ((y * 256 ^ k : Nat) : Int) := by
    have : (y : Int) * 2 ^ (8 * k) = ((y * 256 ^ k : Nat) : Int) := by
      rw [← e]
      simp
    rw [this]
    omega
  rw [e1, u32_or_nat _ _ (by omega) h1, Nat.or_comm, nat_join (8 * k) _ _ (by rw [e]; exact Nat.mul_mod_left _ _) (by rw [e]; exact hx), Nat.add_comm]
set_option maxRecDepth 100000 in
set_option maxHeartbeats 1000000 in
theorem number_any (g o z : Nat) (b : Nat → Nat) (w : World) (_hg : g < w.heap.size) (hz : z ≤ 4) (hb : ∀ t, t < z → b t < 256) (hc : ∀ t, t < z → w.cell? ⟨g, o + t, none⟩ = some (.int .u8 (b t))) : Calls Tryd.prog 57 #[.slice (some ⟨g, o, none⟩) z z] w fun e w' => e = .returned (.int .u32 (leN b z : Nat)) ∧ w' = w := by
  have HC := Hid.in hc
  have HB := Hid.in hb
  clear hc hb
  go_enter Tryd.func57, Tryd.ntmps57
  go_wp2
  go_loopw [3, 8] (fun u v wr => ∃ j : Nat, v = .int .i64 j ∧ j ≤ z ∧ u = .int .u32 (leN b j : Nat) ∧ w = wr) (fun _ v _ => 5 - (intOf v).toNat)
  case atStart => exact ⟨0, rfl, Nat.zero_le _, rfl, rfl⟩
  case round =>
    obtain ⟨j, rfl, hj, rfl, rfl⟩ := hrel
    by_cases hjz : j < z
    · have c1 := HC.out j hjz
      have hb1 := HB.out j hjz
      have hlt := leN_lt b j (fun t ht => HB.out t (by omega))
      obtain ⟨x, hx⟩ : ∃ x, leN b j = x := ⟨_, rfl⟩
      obtain ⟨y, hy⟩ : ∃ y, b j = y := ⟨_, rfl⟩
      have HX := Hid.in hx
      have HY := Hid.in hy
      rw [hx] at hlt
      rw [hx]
      rw [hy] at c1 hb1
      have hor := Hid.in (or_step x y j hlt hb1 (by omega))
      have hj4 : j < 4 := by omega
      clear hlt hx hy
      go_wp2
      go_roundw
      case rel =>
        refine ⟨j + 1, by simp, by omega, ?_, trivial⟩
        rw [hor.out]
        show _ = Value.int .u32 ((leN b j + b j * 256 ^ j : Nat) : Int)
        rw [HX.out, HY.out]
      case measure => simp [intOf]; omega
    · obtain rfl : j = z := by omega
      go_wp2
      go_ret
      exact ⟨rfl, rfl⟩
def Ln.putN (e : Ln) (q d : Nat) : Nat → Ln
  | 0 => e
  | j + 1 => (e.putN q d j).setB (q + j) (d / 256 ^ j % 256)
theorem getD_setL (l : List Ln) (i : Nat) (y : Ln) (hi : i < l.length) : (l.set i y).getD i l0 = y := by
  simp [List.getD_eq_getElem?_getD, hi]
set_option maxRecDepth 100000 in
set_option maxHeartbeats 1000000 in
theorem put_any (B g r q z d cap : Nat) (l : List Ln) (w : World) (k : w.ownsRow B 114 18 (.slice (some ⟨g, 0, none⟩) l.length cap) l.length (flatL l)) (hr : r < l.length) (hq : q + z ≤ 16) (hz : z ≤ 4) (_hd : d < 4294967296) : Calls Tryd.prog 63 #[.slice (some ⟨g, r * 18 + 2 + q, none⟩) z z, .int .u32 d] w fun e w' => e = .returned (.tuple #[]) ∧ w'.ownsRow B 114 18 (.slice (some ⟨g, 0, none⟩) l.length cap) l.length (flatL (l.set r ((l.getD r l0).putN q d z))) ∧ Turned (fun k => k = g) w w' := by
  have HR := Hid.in hr
  have HK := Hid.in k
  obtain ⟨L, hL⟩ : ∃ L : Nat → List Ln, L = fun j => l.set r ((l.getD r l0).putN q d j) := ⟨_, rfl⟩
  have HL0 : Hid (L 0 = l) := by
    show L 0 = l
    rw [hL]
    show l.set r (l.getD r l0) = l
    apply List.ext_getElem?
    intro j
    by_cases e : r = j
    · subst e
      rw [List.getElem?_set_self hr, List.getD_eq_getElem?_getD, List.getElem?_eq_getElem hr]
      rfl
    · rw [List.getElem?_set_ne e]
  have HL1 : Hid (∀ j, j < z → (flatL (L j)).set (r * 18 + 2 + (q + j)) (.int .u8 (d / 256 ^ j % 256 : Nat)) = flatL (L (j + 1))) := by
    intro j hj
    rw [hL]
    show (flatL (l.set r ((l.getD r l0).putN q d j))).set _ _ = flatL (l.set r ((l.getD r l0).putN q d (j + 1)))
    rw [flatL_setB _ r (q + j) _ (by simpa using hr) (by omega), getD_setL _ _ _ hr, List.set_set]
    rfl
  have HLn : Hid (∀ j, (L j).length = l.length) := by
    intro j
    rw [hL]
    simp
  have HLz : Hid (L z = l.set r ((l.getD r l0).putN q d z)) := by
    show L z = _
    rw [hL]
  clear hL k hr
  go_enter Tryd.func63, Tryd.ntmps63
  go_wp2
  go_loopw [7] (fun v wr => ∃ j : Nat, v = .int .i64 j ∧ j ≤ z ∧ wr.ownsRow B 114 18 (.slice (some ⟨g, 0, none⟩) l.length cap) l.length (flatL (L j)) ∧ Turned (fun k => k = g) w wr) (fun v _ => 5 - (intOf v).toNat)
  case atStart => exact ⟨0, rfl, Nat.zero_le _, by rw [HL0.out]; exact HK.out, Turned.refl _ _⟩
  case round =>
    obtain ⟨j, rfl, hj, hk, ht⟩ := hrel
    have HW := Hid.in hk
    have HT := Hid.in ht
    by_cases hjz : j < z
    · have hk2 := hk
      rw [← HLn.out j] at hk2
      obtain ⟨q', cap', hv, -, hel⟩ := own_lines hk2
      obtain ⟨g', hg1, -, hg2, hrg, -, -, -, hfr⟩ := hel r (by rw [HLn.out]; exact HR.out)
      have hgg : g' = g := by
        rw [hg1] at hv
        simp only [Value.slice.injEq, Option.some.injEq, Addr.mk.injEq] at hv
        exact hv.1.1.symm
      rw [hgg] at hrg hg2 hfr
      have c1 := hrg (2 + (q + j)) _ (Ln.at2 _ (q + j) (by omega))
      rw [← Nat.add_assoc, ← Nat.add_assoc] at c1
      obtain ⟨y, hy⟩ : ∃ y, ((L j).getD r l0).b (q + j) = y := ⟨_, rfl⟩
      rw [hy] at c1
      have f1 := hfr (r * 18 + 2 + q + j)
      have hj4 : j < 4 := by omega
      clear hk hk2 ht hel hv hg1 hrg hfr hgg hy
      go_wp2
      go_roundw
      case rel =>
        have ev : (d : Int) / 2 ^ (8 * j) % 256 = ((d / 256 ^ j % 256 : Nat) : Int) := by
          have e : (2 : Nat) ^ (8 * j) = 256 ^ j := by rw [Nat.pow_mul]
          rw [← e]
          simp
        refine ⟨j + 1, by simp, by omega, ?_, HT.out.set rfl _ _⟩
        rw [ev, ← HL1.out j hjz, Nat.add_assoc (r * 18 + 2)]
        exact own_set HW.out _ _
      case measure => simp [intOf]; omega
    · obtain rfl : j = z := by omega
      clear hk ht
      go_wp2
      refine bodyPost_end (results_none Tryd.results63 _ _ _) rfl ?_
      exact ⟨rfl, by rw [← HLz.out]; exact HW.out, HT.out⟩
end Go.Proofs.YtlogdmnhngbkaaaDoor
