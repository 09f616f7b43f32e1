import Derived.Test.YtemamhkhjijdlaaGreatDoorRows
import Derived.JoinedOf
import Derived.KernelRfl
/-
  THE ROW's CLOSED FACTS, one by one.
-/
namespace Go.Proofs.YtemamhkhjijdlaaGreatDoor
open Go
set_option maxRecDepth 100000
theorem jf10 : ((Rows.coreRefusesRow.unfollowed == Tryz.pinned.checked.prog.unfollowed 3)) = true := by kernel_rfl
theorem jf11 : ((Rows.coreRefusesRow.recurses == Tryz.pinned.checked.prog.recurses 3)) = true := by kernel_rfl
end Go.Proofs.YtemamhkhjijdlaaGreatDoor
