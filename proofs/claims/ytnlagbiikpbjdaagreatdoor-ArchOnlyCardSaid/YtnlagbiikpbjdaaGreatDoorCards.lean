/-
  DERIVED. GIVEN WITH THE SEED: THE CARDS: each row of YtnlagbiikpbjdaaGreatDoorRows.lean that lists a variable, with what it lists TIED to the program's text (the seventh form; the later family's looks); each row that meets fmt, with fmt's text TOLD by the authors' own Lean function (tested against real Go, not proved from fmt's source: count such statements apart). THE CARD IS WHAT COUNTS. Prove the row's statement (the work); the ties are given (YtnlagbiikpbjdaaGreatDoorTie.lean); close each card by the builder's one call (the guide's Derived/Test/ToyasCard.lean, 'card_holds'). Laid BY PROGRAM, IN A SANDBOX (cutbox-door.mjs). By AI agents, Wed Nov 11 2026. No macro, syntax, notation, axiom, sorry.
-/
import Derived.Test.YtnlagbiikpbjdaaGreatDoorRows
import GoSem.ClaimSeven
namespace Go.Proofs.YtnlagbiikpbjdaaGreatDoor
namespace Rows

/-- THE TIED CARD OF 'oocorelaw4.ArchSteps'. -/
def archStepsCard : Claim7 := { stood := { row := archStepsRow, standIns := [], harness := (true, "bca5e8ebffba62f8f78bd07151a10259ad1ef9c64dfa2ad685353fb6e25f49b6"), looks := true }, kinds := [], alts := [], laidByText := true, laidKinds := [.handle, .data, .data, .data], laidTests := true, laidLooks := .later }
def ArchStepsCardSaid : Prop := Claim7.holds Tryz.pinned (.plain (OpenSpec.ofChange archStepsSpec)) archStepsCard

/-- THE TIED CARD OF 'oocorelaw4.ArchOnly'. -/
def archOnlyCard : Claim7 := { stood := { row := archOnlyRow, standIns := [], harness := (true, "bca5e8ebffba62f8f78bd07151a10259ad1ef9c64dfa2ad685353fb6e25f49b6"), looks := true }, kinds := [], alts := [], laidByText := true, laidKinds := [.data, .data, .data], laidTests := true, laidLooks := .later }
def ArchOnlyCardSaid : Prop := Claim7.holds Tryz.pinned (.plain (OpenSpec.ofChange archOnlySpec)) archOnlyCard

/-- THE SECOND FORM's CARD OF 'oocorelaw4.ArchSteps'. -/
def archStepsUptoCard : Claim7 := { stood := { row := archStepsUptoRow, standIns := [], harness := (true, "bca5e8ebffba62f8f78bd07151a10259ad1ef9c64dfa2ad685353fb6e25f49b6"), looks := true }, kinds := [], alts := [], laidByText := true, laidKinds := [.handle, .data, .data, .data], laidTests := true, laidLooks := .later }
def ArchStepsUptoCardSaid : Prop := Claim7.holds Tryz.pinned (.plain (OpenSpec.upto archStepsSpec)) archStepsUptoCard

/-- THE SECOND FORM's CARD OF 'oocorelaw4.ArchOnly'. -/
def archOnlyUptoCard : Claim7 := { stood := { row := archOnlyUptoRow, standIns := [], harness := (true, "bca5e8ebffba62f8f78bd07151a10259ad1ef9c64dfa2ad685353fb6e25f49b6"), looks := true }, kinds := [], alts := [], laidByText := true, laidKinds := [.data, .data, .data], laidTests := true, laidLooks := .later }
def ArchOnlyUptoCardSaid : Prop := Claim7.holds Tryz.pinned (.plain (OpenSpec.upto archOnlySpec)) archOnlyUptoCard
end Rows
end Go.Proofs.YtnlagbiikpbjdaaGreatDoor
