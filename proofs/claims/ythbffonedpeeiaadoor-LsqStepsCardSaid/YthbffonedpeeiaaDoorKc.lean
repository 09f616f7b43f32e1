/-
  WHAT THE LAW'S OWN HELPERS ANSWER: Told, retired, regs.
-/
import Derived.Test.YthbffonedpeeiaaDoorKb
namespace Go.Proofs.YthbffonedpeeiaaDoor
open Go Go.RowKit
theorem told_nil (w : World) : Calls Tryd.prog 24 #[.nilIface] w fun e w' => e = .returned (.int .i64 0) ∧ Below w.heap.size w w' := by
  go_enter Tryd.func24, Tryd.ntmps24
  go_wp2
  go_ret
  exact ⟨rfl, by first | exact Below.refl _ _ | exact (Below.refl _ _).alloc (Nat.le_refl _) _⟩
set_option maxHeartbeats 1000000 in
theorem told_err (k : Int) (w : World) (hg : w.cell? ⟨0, 0, none⟩ = some (.iface 129 (.agg #[.pointer (some ⟨1, 25, none⟩)]))) : Calls Tryd.prog 24 #[.iface 56 (.int .i64 k)] w fun e w' => e = .returned (.int .i64 k) ∧ Below w.heap.size w w' := by
  have h0 : 0 < w.heap.size := cell_here hg
  have hg1 : (w.alloc (.cells #[.int .i64 0] 56)).cell? ⟨0, 0, none⟩ = some (.iface 129 (.agg #[.pointer (some ⟨1, 25, none⟩)])) := (alloc_old h0).trans hg
  have HG := Hid.in hg1
  clear hg hg1
  go_enter Tryd.func24, Tryd.ntmps24
  go_wp2_with (go_at_call 58; refine (as_hit k ⟨w.heap.size, 0, none⟩ (.int .i64 0) _ HG.out (by first | simp | exact World.cell?_alloc_new w _ _ 0) (World.frozen?_alloc_at _ _ _ 0 rfl)).mono ?_; rintro e w1 ⟨rfl, hw1⟩; have c1 : w1.cell? ⟨w.heap.size, 0, none⟩ = some (.int .i64 k) := (by rw [hw1]; exact World.cell?_setCell_same _ _ _ ((alloc_old (by simp <;> omega)).trans ((alloc_old (by simp <;> omega)).trans ((alloc_old (by simp <;> omega)).trans ((alloc_old (by simp)).trans (World.cell?_alloc_new w _ _ 0)))))); have bl : Below w.heap.size w w1 := (by rw [hw1]; exact (((((((Below.refl _ _).alloc (Nat.le_refl _) _).alloc (by simp) _).alloc (by simp <;> omega) _).alloc (by simp <;> omega) _).alloc (by simp <;> omega) _).setCell (by exact Nat.le_refl _) _)); clear hw1)
  go_ret
  exact ⟨rfl, bl⟩
end Go.Proofs.YthbffonedpeeiaaDoor
