/-
  DERIVED. GIVEN WITH THE SEED: THE CARDS: each row of YtaioaakaffafoaaDoorRows.lean that lists a variable, with what it lists TIED to the program's text (the seventh form; the later family's looks); each row that meets fmt, with fmt's text TOLD by the authors' own Lean function (tested against real Go, not proved from fmt's source: count such statements apart). THE CARD IS WHAT COUNTS. Prove the row's statement (the work); the ties are given (YtaioaakaffafoaaDoorTie.lean); close each card by the builder's one call (the guide's Derived/Test/ToyasCard.lean, 'card_holds'). Laid BY PROGRAM, IN A SANDBOX (cutbox-door.mjs). By AI agents, Wed Nov 11 2026. No macro, syntax, notation, axiom, sorry.
-/
import Derived.Test.YtaioaakaffafoaaDoorRows
import GoSem.ClaimSeven
namespace Go.Proofs.YtaioaakaffafoaaDoor
namespace Rows

/-- THE TIED CARD OF 'oocorelaw5.PredictGuesses'. -/
def predictGuessesCard : Claim7 := { stood := { row := predictGuessesRow, standIns := [], harness := (true, "34b72bab455bb36f0c3f994f06e513cd4bc7a186a310cbb4f9e4d8bee4e85aba"), looks := true }, kinds := [], alts := [], laidByText := true, laidKinds := [.handle, .data, .data, .data], laidTests := true, laidLooks := .later }
def PredictGuessesCardSaid : Prop := Claim7.holds Tryd.pinned (.plain (OpenSpec.ofChange predictGuessesSpec)) predictGuessesCard

/-- THE TIED CARD OF 'oocorelaw5.PredictLearns'. -/
def predictLearnsCard : Claim7 := { stood := { row := predictLearnsRow, standIns := [], harness := (true, "34b72bab455bb36f0c3f994f06e513cd4bc7a186a310cbb4f9e4d8bee4e85aba"), looks := true }, kinds := [], alts := [], laidByText := true, laidKinds := [.data, .data, .data], laidTests := true, laidLooks := .later }
def PredictLearnsCardSaid : Prop := Claim7.holds Tryd.pinned (.plain (OpenSpec.ofChange predictLearnsSpec)) predictLearnsCard

/-- THE TIED CARD OF 'oocorelaw5.PredictReturns'. -/
def predictReturnsCard : Claim7 := { stood := { row := predictReturnsRow, standIns := [], harness := (true, "34b72bab455bb36f0c3f994f06e513cd4bc7a186a310cbb4f9e4d8bee4e85aba"), looks := true }, kinds := [], alts := [], laidByText := true, laidKinds := [.data, .data, .data], laidTests := true, laidLooks := .later }
def PredictReturnsCardSaid : Prop := Claim7.holds Tryd.pinned (.plain (OpenSpec.ofChange predictReturnsSpec)) predictReturnsCard

/-- THE SECOND FORM's CARD OF 'oocorelaw5.PredictGuesses'. -/
def predictGuessesUptoCard : Claim7 := { stood := { row := predictGuessesUptoRow, standIns := [], harness := (true, "34b72bab455bb36f0c3f994f06e513cd4bc7a186a310cbb4f9e4d8bee4e85aba"), looks := true }, kinds := [], alts := [], laidByText := true, laidKinds := [.handle, .data, .data, .data], laidTests := true, laidLooks := .later }
def PredictGuessesUptoCardSaid : Prop := Claim7.holds Tryd.pinned (.plain (OpenSpec.upto predictGuessesSpec)) predictGuessesUptoCard

/-- THE SECOND FORM's CARD OF 'oocorelaw5.PredictLearns'. -/
def predictLearnsUptoCard : Claim7 := { stood := { row := predictLearnsUptoRow, standIns := [], harness := (true, "34b72bab455bb36f0c3f994f06e513cd4bc7a186a310cbb4f9e4d8bee4e85aba"), looks := true }, kinds := [], alts := [], laidByText := true, laidKinds := [.data, .data, .data], laidTests := true, laidLooks := .later }
def PredictLearnsUptoCardSaid : Prop := Claim7.holds Tryd.pinned (.plain (OpenSpec.upto predictLearnsSpec)) predictLearnsUptoCard

/-- THE SECOND FORM's CARD OF 'oocorelaw5.PredictReturns'. -/
def predictReturnsUptoCard : Claim7 := { stood := { row := predictReturnsUptoRow, standIns := [], harness := (true, "34b72bab455bb36f0c3f994f06e513cd4bc7a186a310cbb4f9e4d8bee4e85aba"), looks := true }, kinds := [], alts := [], laidByText := true, laidKinds := [.data, .data, .data], laidTests := true, laidLooks := .later }
def PredictReturnsUptoCardSaid : Prop := Claim7.holds Tryd.pinned (.plain (OpenSpec.upto predictReturnsSpec)) predictReturnsUptoCard
end Rows
end Go.Proofs.YtaioaakaffafoaaDoor
