/-
  WHAT THE LAW OF MEMORY ASKS OF THE PROGRAM STANDS.
-/
import Derived.Test.YtcepcjodhmjghabDoorTg
import Derived.Test.YtcepcjodhmjghabDoorQb
namespace Go.Proofs.YtcepcjodhmjghabDoor
open Go Go.RowKit
theorem u32_of {n : Int} (h : (Lit.int .u32 n).wf = true) : 0 ≤ n ∧ n < 4294967296 := by have := bounds_u32 h; omega
theorem memOk : MemOk Laid :=
  ⟨fun h hb => h.below hb, fun op w h => p_size op w h, fun op r w h _ => p_widen op r w h, fun op o b w _ _ _ => p_swap op o b w⟩
end Go.Proofs.YtcepcjodhmjghabDoor
