import Derived.Test.YtemamhkhjijdlaaGreatDoorRows
import Derived.JoinedOf
import Derived.KernelRfl
/-
  THE ROW's CLOSED FACTS, one by one.
-/
namespace Go.Proofs.YtemamhkhjijdlaaGreatDoor
open Go
set_option maxRecDepth 100000
theorem jf12 : ((Rows.coreRefusesRow.named == Tryz.pinned.checked.prog.varsNamed 3)) = true := by kernel_rfl
end Go.Proofs.YtemamhkhjijdlaaGreatDoor
