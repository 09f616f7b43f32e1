/-
  DERIVED. GIVEN WITH THE SEED: THE PROGRAM's TIES (one call each: nine closed facts by the kernel) AND EACH ROW's TIE, after the 31st guide's Derived/Test/Toyas{Tie, Card}.lean. No idea stands in it: it is a product of the set-up. Laid BY PROGRAM, IN A SANDBOX (cutbox-door.mjs). By AI agents, Wed Nov 11 2026. No macro, syntax, notation, axiom, sorry.
-/
import Derived.Test.YtaioaakaffafoaaDoorRows
import Derived.LaidByTextLater
import Derived.SevenTiedAt
import Derived.LaidSub
import Derived.LaidOnce
namespace Go.Proofs.YtaioaakaffafoaaDoor
open Go
set_option maxRecDepth 100000
theorem seatTie1 : Tryd.prog.laidByTextLater [("errors.errorType", Rows.laid_errors_errorType), ("oocore/isa.layouts", Rows.laid_oocore_isa_layouts), ("oocore/isa.baseShapes", Rows.laid_oocore_isa_baseShapes), ("oocore/isa.otherShapes", Rows.laid_oocore_isa_otherShapes)] [.handle, .data, .data, .data] true :=
  Program.laidByTextLater_by_one 113 8 185 (by kernel_rfl) (by kernel_rfl) (by kernel_rfl) (by kernel_rfl) (by kernel_rfl) (by kernel_rfl) (fun _ _ => by kernel_rfl)
theorem seatTie2 : Tryd.prog.laidByTextLater [("oocore/isa.layouts", Rows.laid_oocore_isa_layouts), ("oocore/isa.baseShapes", Rows.laid_oocore_isa_baseShapes), ("oocore/isa.otherShapes", Rows.laid_oocore_isa_otherShapes)] [.data, .data, .data] true :=
  Program.laidByTextLater_by_one 113 8 185 (by kernel_rfl) (by kernel_rfl) (by kernel_rfl) (by kernel_rfl) (by kernel_rfl) (by kernel_rfl) (fun _ _ => by kernel_rfl)
theorem noOwnUnsafe : Tryd.pinned.checked.prog.headLifts.contains "ownunsafe" = false := by kernel_rfl
theorem tie : Tryd.prog.laidByTextLater [("errors.errorType", Rows.laid_errors_errorType), ("oocore/isa.layouts", Rows.laid_oocore_isa_layouts), ("oocore/isa.baseShapes", Rows.laid_oocore_isa_baseShapes), ("oocore/isa.otherShapes", Rows.laid_oocore_isa_otherShapes)] [.handle, .data, .data, .data] true :=
  Program.laidByTextLater.sub seatTie1 ["errors.errorType", "oocore/isa.layouts", "oocore/isa.baseShapes", "oocore/isa.otherShapes"] (by kernel_rfl) (by kernel_rfl)
theorem predictGuesses_row_tie : Rows.predictGuessesRow.laidByTextAt .later Tryd.pinned [.handle, .data, .data, .data] true :=
  OpenClaim.laidByTextAt_later rfl rfl tie noOwnUnsafe
theorem tie2 : Tryd.prog.laidByTextLater [("oocore/isa.layouts", Rows.laid_oocore_isa_layouts), ("oocore/isa.baseShapes", Rows.laid_oocore_isa_baseShapes), ("oocore/isa.otherShapes", Rows.laid_oocore_isa_otherShapes)] [.data, .data, .data] true :=
  Program.laidByTextLater.sub seatTie2 ["oocore/isa.layouts", "oocore/isa.baseShapes", "oocore/isa.otherShapes"] (by kernel_rfl) (by kernel_rfl)
theorem predictLearns_row_tie : Rows.predictLearnsRow.laidByTextAt .later Tryd.pinned [.data, .data, .data] true :=
  OpenClaim.laidByTextAt_later rfl rfl tie2 noOwnUnsafe
theorem predictReturns_row_tie : Rows.predictReturnsRow.laidByTextAt .later Tryd.pinned [.data, .data, .data] true :=
  OpenClaim.laidByTextAt_later rfl rfl tie2 noOwnUnsafe
theorem predictGuessesUpto_row_tie : Rows.predictGuessesUptoRow.laidByTextAt .later Tryd.pinned [.handle, .data, .data, .data] true :=
  OpenClaim.laidByTextAt_later rfl rfl tie noOwnUnsafe
theorem predictLearnsUpto_row_tie : Rows.predictLearnsUptoRow.laidByTextAt .later Tryd.pinned [.data, .data, .data] true :=
  OpenClaim.laidByTextAt_later rfl rfl tie2 noOwnUnsafe
theorem predictReturnsUpto_row_tie : Rows.predictReturnsUptoRow.laidByTextAt .later Tryd.pinned [.data, .data, .data] true :=
  OpenClaim.laidByTextAt_later rfl rfl tie2 noOwnUnsafe
end Go.Proofs.YtaioaakaffafoaaDoor
