/-
  THE LAW OF 'alu' THAT SPEAKS OF MEMORY, OUT OF WHAT THE PROGRAM's THREE FUNCTIONS ANSWER.
-/
import Derived.Test.YtcepcjodhmjghabDoorTd
namespace Go.Proofs.YtcepcjodhmjghabDoor
open Go Go.RowKit
/-- what is asked of the program's functions; I: what they lean on -/
structure MemOk (I : World → Prop) : Prop where
  keep : ∀ {w w' : World}, I w → Below w.heap.size w w' → I w'
  size : ∀ (op : Int) (w : World), I w → Calls Tryd.prog 4 #[.int .i64 op] w fun e w' => e = .returned (.int .i64 (szI op)) ∧ Below w.heap.size w w'
  widen : ∀ (op r : Int) (w : World), I w → 0 ≤ r ∧ r < 4294967296 → Calls Tryd.prog 5 #[.int .i64 op, .int .u32 r] w fun e w' => e = .returned (.int .u32 (wdI op r)) ∧ Below w.heap.size w w'
  swap : ∀ (op o b : Int) (w : World), I w → 0 ≤ o ∧ o < 4294967296 → 0 ≤ b ∧ b < 4294967296 → Calls Tryd.prog 6 #[.int .i64 op, .int .u32 o, .int .u32 b] w fun e w' => e = .returned (.int .u32 (swI op o b)) ∧ Below w.heap.size w w'
set_option maxHeartbeats 1000000 in
theorem aluMemory_calls {I : World → Prop} (H : MemOk I) (op a b : Int) (w : World) (hI : I w) (ha : 0 ≤ a ∧ a < 4294967296) (hb : 0 ≤ b ∧ b < 4294967296) : Calls Tryd.prog 3 #[.int .i64 op, .int .u32 a, .int .u32 b] w fun e w' => e = .returned (.bool true) ∧ Below w.heap.size w w' := by
  obtain ⟨x, hx⟩ : ∃ x, szI op = x := ⟨_, rfl⟩
  obtain ⟨y, hy⟩ : ∃ y, wdI op a = y := ⟨_, rfl⟩
  obtain ⟨z, hz⟩ : ∃ z, swI op a b = z := ⟨_, rfl⟩
  go_enter Tryd.func3, Tryd.ntmps3
  go_wp2_with (first
    | (go_at_call 4; refine (H.size _ _ (by assumption)).mono ?_; rintro e w1 ⟨rfl, hb1⟩; have hI1 := H.keep hI hb1; rw [hx])
    | (go_at_call 5; refine (H.widen _ _ _ (by assumption) ha).mono ?_; rintro e w2 ⟨rfl, hb2⟩; have hI2 := H.keep hI1 hb2; rw [hy])
    | (go_at_call 6; refine (H.swap _ _ _ _ (by assumption) ha hb).mono ?_; rintro e w3 ⟨rfl, hb3⟩; rw [hz])
    | (go_at_call 7; refine (size_any _ _).mono ?_; rintro e w4 ⟨rfl, hb4⟩; rw [hx])
    | (go_at_call 8; refine (widen_any _ _ _ ha).mono ?_; rintro e w5 ⟨rfl, hb5⟩; rw [hy])
    | (go_at_call 9; refine (swap_any _ _ _ _).mono ?_; rintro e w6 ⟨rfl, hb6⟩; rw [hz]))
  go_ret
  exact ⟨rfl, below2 (below2 (below2 (below2 (below2 hb1 hb2) hb3) hb4) hb5) hb6⟩
end Go.Proofs.YtcepcjodhmjghabDoor
