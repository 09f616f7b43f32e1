/-
  DERIVED. GIVEN WITH THE SEED: THE PROGRAM's TIES (one call each: nine closed facts by the kernel) AND EACH ROW's TIE, after the 31st guide's Derived/Test/Toyas{Tie, Card}.lean. No idea stands in it: it is a product of the set-up. Laid BY PROGRAM, IN A SANDBOX (cutbox-door.mjs). By AI agents, Wed Nov 11 2026. No macro, syntax, notation, axiom, sorry.
-/
import Derived.Test.YtemamhkhjijdlaaGreatDoorRows
import Derived.LaidByTextLater
import Derived.SevenTiedAt
import Derived.LaidSub
import Derived.LaidOnce
namespace Go.Proofs.YtemamhkhjijdlaaGreatDoor
open Go
set_option maxRecDepth 100000
theorem seatTie1 : Tryz.prog.laidByTextLater [("errors.errorType", Rows.laid_errors_errorType), ("oocore/isa.layouts", Rows.laid_oocore_isa_layouts), ("oocore/isa.baseShapes", Rows.laid_oocore_isa_baseShapes), ("oocore/isa.otherShapes", Rows.laid_oocore_isa_otherShapes)] [.handle, .data, .data, .data] true :=
  Program.laidByTextLater_by_one 113 8 185 (by kernel_rfl) (by kernel_rfl) (by kernel_rfl) (by kernel_rfl) (by kernel_rfl) (by kernel_rfl) (fun _ _ => by kernel_rfl)
theorem noOwnUnsafe : Tryz.pinned.checked.prog.headLifts.contains "ownunsafe" = false := by kernel_rfl
theorem tie : Tryz.prog.laidByTextLater [("errors.errorType", Rows.laid_errors_errorType), ("oocore/isa.layouts", Rows.laid_oocore_isa_layouts), ("oocore/isa.baseShapes", Rows.laid_oocore_isa_baseShapes), ("oocore/isa.otherShapes", Rows.laid_oocore_isa_otherShapes)] [.handle, .data, .data, .data] true :=
  Program.laidByTextLater.sub seatTie1 ["errors.errorType", "oocore/isa.layouts", "oocore/isa.baseShapes", "oocore/isa.otherShapes"] (by kernel_rfl) (by kernel_rfl)
theorem coreRefuses_row_tie : Rows.coreRefusesRow.laidByTextAt .later Tryz.pinned [.handle, .data, .data, .data] true :=
  OpenClaim.laidByTextAt_later rfl rfl tie noOwnUnsafe
theorem coreRefusesUpto_row_tie : Rows.coreRefusesUptoRow.laidByTextAt .later Tryz.pinned [.handle, .data, .data, .data] true :=
  OpenClaim.laidByTextAt_later rfl rfl tie noOwnUnsafe
end Go.Proofs.YtemamhkhjijdlaaGreatDoor
