/-
  DERIVED. GIVEN WITH THE SEED: THE CARDS: each row of YtcepcjodhmjghabDoorRows.lean that lists a variable, with what it lists TIED to the program's text (the seventh form; the later family's looks); each row that meets fmt, with fmt's text TOLD by the authors' own Lean function (tested against real Go, not proved from fmt's source: count such statements apart). THE CARD IS WHAT COUNTS. Prove the row's statement (the work); the ties are given (YtcepcjodhmjghabDoorTie.lean); close each card by the builder's one call (the guide's Derived/Test/ToyasCard.lean, 'card_holds'). Laid BY PROGRAM, IN A SANDBOX (cutbox-door.mjs). By AI agents, Wed Nov 11 2026. No macro, syntax, notation, axiom, sorry.
-/
import Derived.Test.YtcepcjodhmjghabDoorRows
import GoSem.ClaimSeven
namespace Go.Proofs.YtcepcjodhmjghabDoor
namespace Rows

/-- THE TIED CARD OF 'oocorelaw3.AluMemory'. -/
def aluMemoryCard : Claim7 := { stood := { row := aluMemoryRow, standIns := [], harness := (true, "6e6726f4f85d1bb11a93b2f0156d7863b1cdd63e93b9588cbce707e1d7445a81"), looks := false }, kinds := [], alts := [], laidByText := true, laidKinds := [.data, .data, .data], laidTests := true, laidLooks := .later }
def AluMemoryCardSaid : Prop := Claim7.holds Tryd.pinned (.plain (OpenSpec.ofChange aluMemorySpec)) aluMemoryCard

/-- THE SECOND FORM's CARD OF 'oocorelaw3.AluMemory'. -/
def aluMemoryUptoCard : Claim7 := { stood := { row := aluMemoryUptoRow, standIns := [], harness := (true, "6e6726f4f85d1bb11a93b2f0156d7863b1cdd63e93b9588cbce707e1d7445a81"), looks := false }, kinds := [], alts := [], laidByText := true, laidKinds := [.data, .data, .data], laidTests := true, laidLooks := .later }
def AluMemoryUptoCardSaid : Prop := Claim7.holds Tryd.pinned (.plain (OpenSpec.upto aluMemorySpec)) aluMemoryUptoCard
end Rows
end Go.Proofs.YtcepcjodhmjghabDoor
