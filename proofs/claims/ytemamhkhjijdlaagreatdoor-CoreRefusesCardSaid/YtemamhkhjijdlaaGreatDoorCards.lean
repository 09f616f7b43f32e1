/-
  DERIVED. GIVEN WITH THE SEED: THE CARDS: each row of YtemamhkhjijdlaaGreatDoorRows.lean that lists a variable, with what it lists TIED to the program's text (the seventh form; the later family's looks); each row that meets fmt, with fmt's text TOLD by the authors' own Lean function (tested against real Go, not proved from fmt's source: count such statements apart). THE CARD IS WHAT COUNTS. Prove the row's statement (the work); the ties are given (YtemamhkhjijdlaaGreatDoorTie.lean); close each card by the builder's one call (the guide's Derived/Test/ToyasCard.lean, 'card_holds'). Laid BY PROGRAM, IN A SANDBOX (cutbox-door.mjs). By AI agents, Wed Nov 11 2026. No macro, syntax, notation, axiom, sorry.
-/
import Derived.Test.YtemamhkhjijdlaaGreatDoorRows
import GoSem.ClaimSeven
namespace Go.Proofs.YtemamhkhjijdlaaGreatDoor
namespace Rows

/-- THE TIED CARD OF 'oocorelaw11.CoreRefuses'. -/
def coreRefusesCard : Claim7 := { stood := { row := coreRefusesRow, standIns := [], harness := (true, "1f36282ef86578938ebc9c87cd86d19861c91bfccdf7203af614199d28bddb42"), looks := true }, kinds := [], alts := [], laidByText := true, laidKinds := [.handle, .data, .data, .data], laidTests := true, laidLooks := .later }
def CoreRefusesCardSaid : Prop := Claim7.holds Tryz.pinned (.plain (OpenSpec.ofChange coreRefusesSpec)) coreRefusesCard

/-- THE SECOND FORM's CARD OF 'oocorelaw11.CoreRefuses'. -/
def coreRefusesUptoCard : Claim7 := { stood := { row := coreRefusesUptoRow, standIns := [], harness := (true, "1f36282ef86578938ebc9c87cd86d19861c91bfccdf7203af614199d28bddb42"), looks := true }, kinds := [], alts := [], laidByText := true, laidKinds := [.handle, .data, .data, .data], laidTests := true, laidLooks := .later }
def CoreRefusesUptoCardSaid : Prop := Claim7.holds Tryz.pinned (.plain (OpenSpec.upto coreRefusesSpec)) coreRefusesUptoCard
end Rows
end Go.Proofs.YtemamhkhjijdlaaGreatDoor
