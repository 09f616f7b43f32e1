/-
  PREDICT: marks; the program's predictor goes back.
-/
import Derived.Test.YtaioaakaffafoaaDoorDd
namespace Go.Proofs.YtaioaakaffafoaaDoor
open Go Go.RowKit
theorem next_any (G : PG) (S : PS) (op rd rs1 rs2 imm pc : Int) (taken : Bool) (w : World) (h : Pr w G S) (hpc : 0 ≤ pc ∧ pc < 4294967296) : Calls Tryd.prog 24 #[.pointer (some ⟨G.p, 0, none⟩), .int .u32 pc, .agg #[.int .i64 op, .int .i64 rd, .int .i64 rs1, .int .i64 rs2, .int .i64 imm], .bool taken] w fun e w' => e = .returned (.int .u32 (nextV G S op rd rs1 imm pc taken)) ∧ Below w.heap.size w w' := by
  unfold nextV
  cases ht : (taken || op == 3)
  · cases hr : retB op rd rs1
    · cases hf : farB op rd rs1
      · exact next_none G S op rd rs1 rs2 imm pc taken w h ht hr hf
      · exact next_far G S op rd rs1 rs2 imm pc taken w h hpc ht hr hf
    · exact next_ret G S op rd rs1 rs2 imm pc taken w h ht hr
  · exact next_jump G op rd rs1 rs2 imm pc taken w ht
theorem within_is (x a b : Int) (c : Bool) (h : (decide (a ≤ x) && decide (x ≤ b)) = c) (w : World) : Calls Tryd.prog 32 #[.int .i64 x, .int .i64 a, .int .i64 b] w fun e w' => e = .returned (.bool c) ∧ w' = w := by
  subst h; exact within_any x a b w
def ownB (G : PG) (mh mt : Int) : Bool := (decide (0 ≤ mh) && decide (mh ≤ (G.mask : Int))) && (decide (0 ≤ mt) && decide (mt ≤ (G.ns : Int) - 1))
set_option maxHeartbeats 2000000 in
theorem owns_any (G : PG) (S : PS) (mh mt mv : Int) (w : World) (h : Pr w G S) : Calls Tryd.prog 28 #[.pointer (some ⟨G.p, 0, none⟩), .agg #[.int .i64 mh, .int .i64 mt, .int .u32 mv]] w fun e w' => e = .returned (.bool (ownB G mh mt)) ∧ Below w.heap.size w w' := by
  have c2 : w.cell? ⟨G.p, 2, none⟩ = some (.int .i64 G.mask) := h.cells.cell 2 (by decide)
  have c4 : w.cell? ⟨G.p, 4, none⟩ = some (.slice (some ⟨G.gs, 0, none⟩) G.ns G.ns) := h.cells.cell 4 (by decide)
  have h3 := h.cells.here
  obtain ⟨s1, s2, s3, s4, s5⟩ := h.size
  unfold ownB
  generalize ha : (decide (0 ≤ mh) && decide (mh ≤ (G.mask : Int))) = a
  generalize hb : (decide (0 ≤ mt) && decide (mt ≤ (G.ns : Int) - 1)) = b
  have HA := Hid.in ha
  have HB := Hid.in hb
  clear h ha hb
  cases a
  · have hu : undef = Value.tuple #[] := rfl
    go_enter Tryd.func28, Tryd.ntmps28
    go_wp2
    go_quiet (first | (go_at_call 32; with_reducible exact Calls.quiet_of_same (within_is mh 0 _ _ HA.out _)) | (go_at_call 32; with_reducible exact Calls.quiet_of_same (within_is mt 0 _ _ HB.out _)))
    go_wp2
    go_ret
    exact ⟨rfl, below_drewN ((Below.refl _ _).alloc (Nat.le_refl _) _) _⟩
  · cases b
    all_goals
      go_enter Tryd.func28, Tryd.ntmps28
      go_wp2
      go_quiet (first | (go_at_call 32; with_reducible exact Calls.quiet_of_same (within_is mh 0 _ _ HA.out _)) | (go_at_call 32; with_reducible exact Calls.quiet_of_same (within_is mt 0 _ _ HB.out _)))
      go_wp2
      go_ret
      exact ⟨rfl, below_drewN ((Below.refl _ _).alloc (Nat.le_refl _) _) _⟩
end Go.Proofs.YtaioaakaffafoaaDoor
