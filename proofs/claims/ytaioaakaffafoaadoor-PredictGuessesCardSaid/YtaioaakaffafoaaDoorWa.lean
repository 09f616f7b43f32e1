/-
  THE WALKS OF THE PROGRAM's SMALL FUNCTIONS.
-/
import Derived.Test.YtaioaakaffafoaaDoorBase
namespace Go.Proofs.YtaioaakaffafoaaDoor
open Go Go.RowKit
theorem class_any (f : Nat) (hf : f < 15) (w : World) (hL : Laid w) : Calls Tryd.prog 45 #[.int .i64 f] w fun e w' => e = .returned (.int .i64 (lyClass f)) ∧ w' = w := by
  have h8 := hL.l8 f hf
  clear hL
  go_enter Tryd.func45, Tryd.ntmps45
  go_wp2
  go_ret
  exact ⟨rfl, rfl⟩
def rf (f : Nat) : Bool := lyRs1 f && !(f == 14)
/-- an operation's row, as a value -/
def shapeV (k : Nat) : Value := .agg #[.int .i64 (fmtAt k), .int .u32 (codeAt k), .int .u32 (fAt k), .int .u32 (gAt k)]
def opN (op : Int) : Nat := if op ≤ 0 ∨ 67 < op then 0 else op.toNat
theorem shapeV_none : shapeV 0 = .agg #[.int .i64 0, .int .u32 0, .int .u32 0, .int .u32 0] := rfl
theorem shapeOf_none (op : Int) (w : World) (h : op ≤ 0 ∨ 67 < op) : Calls Tryd.prog 44 #[.int .i64 op] w fun e w' => e = .returned (shapeV 0) ∧ Below w.heap.size w w' := by
  rw [shapeV_none]
  by_cases h1 : op ≤ 0
  · clear h
    go_enter Tryd.func44, Tryd.ntmps44
    go_wp2
    exact bodyPost_ret (v := .agg #[.int .i64 0, .int .u32 0, .int .u32 0, .int .u32 0]) (by simp [results, Tryd.results44, go_sem]) rfl ⟨rfl, (Below.refl _ _).alloc (Nat.le_refl _) _⟩
  · have h2 : 67 < op := by omega
    clear h
    go_enter Tryd.func44, Tryd.ntmps44
    go_wp2
    exact bodyPost_ret (v := .agg #[.int .i64 0, .int .u32 0, .int .u32 0, .int .u32 0]) (by simp [results, Tryd.results44, go_sem]) rfl ⟨rfl, (Below.refl _ _).alloc (Nat.le_refl _) _⟩
theorem shapeOf_base (k : Nat) (w : World) (hL : Laid w) (h1 : 1 ≤ k) (h2 : k < 46) : Calls Tryd.prog 44 #[.int .i64 k] w fun e w' => e = .returned (shapeV k) ∧ Below w.heap.size w w' := by
  unfold shapeV
  have c0 := hL.b0 k h2
  have c1 := hL.b1 k h2
  have c2 := hL.b2 k h2
  have c3 := hL.b3 k h2
  have z0 : 1 < w.heap.size := hL.zb
  have z1 : 2 < w.heap.size := hL.zo
  clear hL
  go_enter Tryd.func44, Tryd.ntmps44
  go_wp2
  exact bodyPost_ret (v := .agg #[.int .i64 (fmtAt k), .int .u32 (codeAt k), .int .u32 (fAt k), .int .u32 (gAt k)]) (by simp [results, Tryd.results44, go_sem]) rfl ⟨rfl, (Below.refl _ _).alloc (Nat.le_refl _) _⟩
theorem shapeOf_other (k : Nat) (w : World) (hL : Laid w) (h2 : k < 22) : Calls Tryd.prog 44 #[.int .i64 (46 + k : Nat)] w fun e w' => e = .returned (shapeV (46 + k)) ∧ Below w.heap.size w w' := by
  unfold shapeV
  have c0 := hL.o0 k h2
  have c1 := hL.o1 k h2
  have c2 := hL.o2 k h2
  have c3 := hL.o3 k h2
  have z0 : 1 < w.heap.size := hL.zb
  have z1 : 2 < w.heap.size := hL.zo
  clear hL
  go_enter Tryd.func44, Tryd.ntmps44
  go_wp2
  exact bodyPost_ret (v := .agg #[.int .i64 (fmtAt (46 + k)), .int .u32 (codeAt (46 + k)), .int .u32 (fAt (46 + k)), .int .u32 (gAt (46 + k))]) (by simp [results, Tryd.results44, go_sem]) rfl ⟨rfl, (Below.refl _ _).alloc (Nat.le_refl _) _⟩
theorem shapeOf_any (op : Int) (w : World) (hL : Laid w) : Calls Tryd.prog 44 #[.int .i64 op] w fun e w' => e = .returned (shapeV (opN op)) ∧ Below w.heap.size w w' := by
  by_cases h : op ≤ 0 ∨ 67 < op
  · rw [show opN op = 0 by unfold opN; rw [if_pos h]]
    exact shapeOf_none op w h
  · rw [show opN op = op.toNat by unfold opN; rw [if_neg h]]
    obtain ⟨k, rfl⟩ : ∃ k : Nat, op = k := ⟨op.toNat, by omega⟩
    rw [Int.toNat_natCast]
    by_cases h2 : k < 46
    · exact shapeOf_base k w hL (by omega) h2
    · obtain ⟨j, rfl⟩ : ∃ j : Nat, k = 46 + j := ⟨k - 46, by omega⟩
      exact shapeOf_other j w hL (by omega)
def classOf (k : Nat) : Int := if k = 4 then 3 else if fmtAt k = 8 ∧ gAt k = 1 then 1 else lyClass (fmtAt k)
end Go.Proofs.YtaioaakaffafoaaDoor
