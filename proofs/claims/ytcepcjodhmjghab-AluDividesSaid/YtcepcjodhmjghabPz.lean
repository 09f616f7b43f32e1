/-
  WHAT THE LAWS OF Exec AND Taken ASK OF THE PROGRAM STANDS.
-/
import Derived.Test.YtcepcjodhmjghabTf
import Derived.Test.YtcepcjodhmjghabPc
namespace Go.Proofs.Ytcepcjodhmjghab
open Go Go.RowKit
theorem u32_of {n : Int} (h : (Lit.int .u32 n).wf = true) : 0 ≤ n ∧ n < 4294967296 := by have := bounds_u32 h; omega
theorem exOk : ExOk (fun _ => True) :=
  ⟨fun _ _ => trivial, fun op a b w _ ha hb => p_exec op a b w ha hb, fun op a b w _ _ _ => p_taken op a b w⟩
end Go.Proofs.Ytcepcjodhmjghab
