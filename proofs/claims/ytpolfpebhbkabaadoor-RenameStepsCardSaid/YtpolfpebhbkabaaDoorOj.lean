/-
  RENAME's LAW RenameSteps: whatever is handed in.
-/
import Derived.Test.YtpolfpebhbkabaaDoorOh
import Derived.Test.YtpolfpebhbkabaaDoorOi
namespace Go.Proofs.YtpolfpebhbkabaaDoor
open Go Go.RowKit
theorem steps_any (n : Int) (sp : Option Addr) (m1 c1 : Nat) (f : Nat → Nat → Int) (w : World) (hL : laidMetH Tryd.prog laid1 w) (hO : Ops w sp m1 f) (hm1 : m1 ≤ 9223372036854775807) : Calls Tryd.prog 6 #[.int .i64 n, .slice sp m1 c1] w fun e w' => e = .returned (.bool true) ∧ Below w.heap.size w w' := by
  by_cases h : 34 ≤ n ∧ n ≤ 128
  · obtain ⟨k, rfl⟩ : ∃ k : Nat, n = (k : Int) := ⟨n.toNat, by omega⟩
    exact steps_good k sp m1 c1 f w (by omega) (by omega) hO hm1 (handle_of_laid hL)
  · exact steps_bad n sp m1 c1 w h (handle_of_laid hL)
end Go.Proofs.YtpolfpebhbkabaaDoor
