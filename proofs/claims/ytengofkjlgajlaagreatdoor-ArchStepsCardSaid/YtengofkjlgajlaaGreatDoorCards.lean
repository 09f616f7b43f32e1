/-
  DERIVED. GIVEN WITH THE SEED: THE CARDS: each row of YtengofkjlgajlaaGreatDoorRows.lean that lists a variable, with what it lists TIED to the program's text (the seventh form; the later family's looks); each row that meets fmt, with fmt's text TOLD by the authors' own Lean function (tested against real Go, not proved from fmt's source: count such statements apart). THE CARD IS WHAT COUNTS. Prove the row's statement (the work); the ties are given (YtengofkjlgajlaaGreatDoorTie.lean); close each card by the builder's one call (the guide's Derived/Test/ToyasCard.lean, 'card_holds'). Laid BY PROGRAM, IN A SANDBOX (cutbox-door.mjs). By AI agents, Wed Nov 11 2026. No macro, syntax, notation, axiom, sorry.
-/
import Derived.Test.YtengofkjlgajlaaGreatDoorRows
import GoSem.ClaimSeven
namespace Go.Proofs.YtengofkjlgajlaaGreatDoor
namespace Rows

/-- THE TIED CARD OF 'oocorelaw4.ArchSteps'. -/
def archStepsCard : Claim7 := { stood := { row := archStepsRow, standIns := [], harness := (true, "f52f0a3674927c072825b2a5210099d46feb07d8edf058f2a2d410c58a3a1cec"), looks := true }, kinds := [], alts := [], laidByText := true, laidKinds := [.handle, .data, .data, .data], laidTests := true, laidLooks := .later }
def ArchStepsCardSaid : Prop := Claim7.holds Tryz.pinned (.plain (OpenSpec.ofChange archStepsSpec)) archStepsCard

/-- THE TIED CARD OF 'oocorelaw4.ArchAsks'. -/
def archAsksCard : Claim7 := { stood := { row := archAsksRow, standIns := [], harness := (true, "f52f0a3674927c072825b2a5210099d46feb07d8edf058f2a2d410c58a3a1cec"), looks := true }, kinds := [], alts := [], laidByText := true, laidKinds := [.handle, .data, .data, .data], laidTests := true, laidLooks := .later }
def ArchAsksCardSaid : Prop := Claim7.holds Tryz.pinned (.plain (OpenSpec.ofChange archAsksSpec)) archAsksCard

/-- THE SECOND FORM's CARD OF 'oocorelaw4.ArchSteps'. -/
def archStepsUptoCard : Claim7 := { stood := { row := archStepsUptoRow, standIns := [], harness := (true, "f52f0a3674927c072825b2a5210099d46feb07d8edf058f2a2d410c58a3a1cec"), looks := true }, kinds := [], alts := [], laidByText := true, laidKinds := [.handle, .data, .data, .data], laidTests := true, laidLooks := .later }
def ArchStepsUptoCardSaid : Prop := Claim7.holds Tryz.pinned (.plain (OpenSpec.upto archStepsSpec)) archStepsUptoCard

/-- THE SECOND FORM's CARD OF 'oocorelaw4.ArchAsks'. -/
def archAsksUptoCard : Claim7 := { stood := { row := archAsksUptoRow, standIns := [], harness := (true, "f52f0a3674927c072825b2a5210099d46feb07d8edf058f2a2d410c58a3a1cec"), looks := true }, kinds := [], alts := [], laidByText := true, laidKinds := [.handle, .data, .data, .data], laidTests := true, laidLooks := .later }
def ArchAsksUptoCardSaid : Prop := Claim7.holds Tryz.pinned (.plain (OpenSpec.upto archAsksSpec)) archAsksUptoCard
end Rows
end Go.Proofs.YtengofkjlgajlaaGreatDoor
