/-
  THE WALKS OF THE PROGRAM's SMALL FUNCTIONS.
-/
import Derived.Test.YtnlagbiikpbjdaaGreatDoorBase
namespace Go.Proofs.YtnlagbiikpbjdaaGreatDoor
open Go Go.RowKit
theorem class_any (f : Nat) (hf : f < 15) (w : World) (hL : Laid w) : Calls Tryz.prog 75 #[.int .i64 f] w fun e w' => e = .returned (.int .i64 (lyClass f)) ∧ w' = w := by
  have h8 := hL.l8 f hf
  clear hL
  go_enter Tryz.func75, Tryz.ntmps75
  go_wp2
  go_ret
  exact ⟨rfl, rfl⟩
def rf (f : Nat) : Bool := lyRs1 f && !(f == 14)
theorem readsFirst_any (f : Nat) (hf : f < 15) (w : World) (hL : Laid w) : Calls Tryz.prog 130 #[.int .i64 f] w fun e w' => e = .returned (.bool (rf f)) ∧ w' = w := by
  have h8 := hL.l3 f hf
  clear hL
  cases h1 : lyRs1 f
  · rw [h1] at h8
    have e : rf f = false := by unfold rf; rw [h1]; rfl
    rw [e]; clear e h1
    go_enter Tryz.func130, Tryz.ntmps130
    go_wp2
    go_ret
    exact ⟨rfl, rfl⟩
  · rw [h1] at h8
    have e : rf f = !(f == 14) := by unfold rf; rw [h1]; rfl
    rw [e]; clear e h1
    by_cases h14 : f = 14
    · subst h14
      go_enter Tryz.func130, Tryz.ntmps130
      go_wp2
      go_ret
      exact ⟨rfl, rfl⟩
    · have h15 : ((f : Int) != 14) = true := by simp; omega
      have h16 : (f == 14) = false := by simp; omega
      rw [h16]; clear h14 h16
      go_enter Tryz.func130, Tryz.ntmps130
      go_wp2
      go_ret
      exact ⟨rfl, rfl⟩
theorem readsSecond_any (f : Nat) (hf : f < 15) (w : World) (hL : Laid w) : Calls Tryz.prog 131 #[.int .i64 f] w fun e w' => e = .returned (.bool (lyRs2 f)) ∧ w' = w := by
  have h8 := hL.l4 f hf
  clear hL
  go_enter Tryz.func131, Tryz.ntmps131
  go_wp2
  go_ret
  exact ⟨rfl, rfl⟩
theorem writes_any (f : Nat) (hf : f < 15) (w : World) (hL : Laid w) : Calls Tryz.prog 83 #[.int .i64 f] w fun e w' => e = .returned (.bool (lyRd f)) ∧ w' = w := by
  have h8 := hL.l2 f hf
  clear hL
  go_enter Tryz.func83, Tryz.ntmps83
  go_wp2
  go_ret
  exact ⟨rfl, rfl⟩
theorem fixed_any (f : Nat) (hf : f < 15) (w : World) (hL : Laid w) : Calls Tryz.prog 124 #[.int .i64 f] w fun e w' => e = .returned (.int .u32 (lyFixed f)) ∧ w' = w := by
  have h8 := hL.l0 f hf
  clear hL
  go_enter Tryz.func124, Tryz.ntmps124
  go_wp2
  go_ret
  exact ⟨rfl, rfl⟩
theorem gPlace_any (f : Nat) (hf : f < 15) (w : World) (hL : Laid w) : Calls Tryz.prog 160 #[.int .i64 f] w fun e w' => e = .returned (.int .u8 (lyG f)) ∧ w' = w := by
  have h8 := hL.l1 f hf
  clear hL
  go_enter Tryz.func160, Tryz.ntmps160
  go_wp2
  go_ret
  exact ⟨rfl, rfl⟩
/-- an operation's row, as a value -/
def shapeV (k : Nat) : Value := .agg #[.int .i64 (fmtAt k), .int .u32 (codeAt k), .int .u32 (fAt k), .int .u32 (gAt k)]
def opN (op : Int) : Nat := if op ≤ 0 ∨ 67 < op then 0 else op.toNat
theorem shapeV_none : shapeV 0 = .agg #[.int .i64 0, .int .u32 0, .int .u32 0, .int .u32 0] := rfl
theorem shapeOf_none (op : Int) (w : World) (h : op ≤ 0 ∨ 67 < op) : Calls Tryz.prog 74 #[.int .i64 op] w fun e w' => e = .returned (shapeV 0) ∧ Below w.heap.size w w' := by
  rw [shapeV_none]
  by_cases h1 : op ≤ 0
  · clear h
    go_enter Tryz.func74, Tryz.ntmps74
    go_wp2
    exact bodyPost_ret (v := .agg #[.int .i64 0, .int .u32 0, .int .u32 0, .int .u32 0]) (by simp [results, Tryz.results74, go_sem]) rfl ⟨rfl, (Below.refl _ _).alloc (Nat.le_refl _) _⟩
  · have h2 : 67 < op := by omega
    clear h
    go_enter Tryz.func74, Tryz.ntmps74
    go_wp2
    exact bodyPost_ret (v := .agg #[.int .i64 0, .int .u32 0, .int .u32 0, .int .u32 0]) (by simp [results, Tryz.results74, go_sem]) rfl ⟨rfl, (Below.refl _ _).alloc (Nat.le_refl _) _⟩
theorem shapeOf_base (k : Nat) (w : World) (hL : Laid w) (h1 : 1 ≤ k) (h2 : k < 46) : Calls Tryz.prog 74 #[.int .i64 k] w fun e w' => e = .returned (shapeV k) ∧ Below w.heap.size w w' := by
  unfold shapeV
  have c0 := hL.b0 k h2
  have c1 := hL.b1 k h2
  have c2 := hL.b2 k h2
  have c3 := hL.b3 k h2
  have z0 : 1 < w.heap.size := hL.zb
  have z1 : 2 < w.heap.size := hL.zo
  clear hL
  go_enter Tryz.func74, Tryz.ntmps74
  go_wp2
  exact bodyPost_ret (v := .agg #[.int .i64 (fmtAt k), .int .u32 (codeAt k), .int .u32 (fAt k), .int .u32 (gAt k)]) (by simp [results, Tryz.results74, go_sem]) rfl ⟨rfl, (Below.refl _ _).alloc (Nat.le_refl _) _⟩
theorem shapeOf_other (k : Nat) (w : World) (hL : Laid w) (h2 : k < 22) : Calls Tryz.prog 74 #[.int .i64 (46 + k : Nat)] w fun e w' => e = .returned (shapeV (46 + k)) ∧ Below w.heap.size w w' := by
  unfold shapeV
  have c0 := hL.o0 k h2
  have c1 := hL.o1 k h2
  have c2 := hL.o2 k h2
  have c3 := hL.o3 k h2
  have z0 : 1 < w.heap.size := hL.zb
  have z1 : 2 < w.heap.size := hL.zo
  clear hL
  go_enter Tryz.func74, Tryz.ntmps74
  go_wp2
  exact bodyPost_ret (v := .agg #[.int .i64 (fmtAt (46 + k)), .int .u32 (codeAt (46 + k)), .int .u32 (fAt (46 + k)), .int .u32 (gAt (46 + k))]) (by simp [results, Tryz.results74, go_sem]) rfl ⟨rfl, (Below.refl _ _).alloc (Nat.le_refl _) _⟩
theorem shapeOf_any (op : Int) (w : World) (hL : Laid w) : Calls Tryz.prog 74 #[.int .i64 op] w fun e w' => e = .returned (shapeV (opN op)) ∧ Below w.heap.size w w' := by
  by_cases h : op ≤ 0 ∨ 67 < op
  · rw [show opN op = 0 by unfold opN; rw [if_pos h]]
    exact shapeOf_none op w h
  · rw [show opN op = op.toNat by unfold opN; rw [if_neg h]]
    obtain ⟨k, rfl⟩ : ∃ k : Nat, op = k := ⟨op.toNat, by omega⟩
    rw [Int.toNat_natCast]
    by_cases h2 : k < 46
    · exact shapeOf_base k w hL (by omega) h2
    · obtain ⟨j, rfl⟩ : ∃ j : Nat, k = 46 + j := ⟨k - 46, by omega⟩
      exact shapeOf_other j w hL (by omega)
def classOf (k : Nat) : Int := if k = 4 then 3 else if fmtAt k = 8 ∧ gAt k = 1 then 1 else lyClass (fmtAt k)
end Go.Proofs.YtnlagbiikpbjdaaGreatDoor
