import Derived.Test.YtengofkjlgajlaaGreatDoorAca
import Derived.Deep.RegionHeld3
import Derived.RegionTactic
import Derived.StillTailTactics
import Derived.OwnWalk
/-
  THE MACHINE: what it does with what is asked.
-/
namespace Go.Proofs.YtengofkjlgajlaaGreatDoor
open Go Go.RowKit
/-- what is asked may be done: in data, or (of a store) at the device -/
def Good (op ad : Int) (sz len : Nat) : Prop := (∃ at', ad = ((65536 + at' : Nat) : Int) ∧ at' + sz ≤ len) ∨ (clR op = 5 ∧ 131072 ≤ ad)
/-- whose blocks may turn -/
def Mine (p : Nat) (dv ov : Value) (j : Nat) : Prop := j = p ∨ dv.ownBlock = some j ∨ ov.ownBlock = some j
theorem Turned.set {Q : Nat → Prop} {x y : World} (h : Turned Q x y) {b : Nat} (hb : Q b) (o : Nat) (v : Value) : Turned Q x (y.setCell ⟨b, o, none⟩ v) :=
  h.trans ((Turned.of_only ((Only.refl b y).set o v)).mono (fun i e => by rw [e]; exact hb))
section
variable {w0 w : World} {B p hq cg n cap len ol : Nat} {dv ov : Value} {S : HS} {f : Nat → Int}
theorem Mw.at (k : Mw w0 w B p hq cg n cap dv ov S len ol f) : p < w.heap.size ∧ hq < w.heap.size ∧ cg < w.heap.size ∧ ∀ db, Bytes w db len → db < w.heap.size := by
  obtain ⟨res, c⟩ := k.c
  exact ⟨c.here, k.h.here, k.code.here, fun db h => h.here⟩
theorem Mw.data (k : Mw w0 w B p hq cg n cap dv ov S len ol f) (hl : 0 < len) : ∃ db dc, dv = .slice (some ⟨db, 0, none⟩) len dc ∧ len ≤ dc ∧ Bytes w db len ∧ (db ≠ p ∧ db ≠ hq ∧ db ≠ cg ∧ ov.ownBlock ≠ some db ∧ B ≤ db) ∧ w.cell? ⟨p, 1, none⟩ = some (.slice (some ⟨db, 0, none⟩) len dc) := by
  obtain ⟨res, c⟩ := k.c
  rcases k.d with h | ⟨db, dc, h1, h2, h3, h4⟩
  · have := h.1
    omega
  · exact ⟨db, dc, h1, h2, h3, h4, by rw [← h1]; exact c.cell 1 (by decide)⟩
end
end Go.Proofs.YtengofkjlgajlaaGreatDoor
/-
  THE MACHINE: atomic operations; whatever is asked.
-/
namespace Go.Proofs.YtengofkjlgajlaaGreatDoor
open Go Go.RowKit
end Go.Proofs.YtengofkjlgajlaaGreatDoor
/-
  THE MACHINE: its hart; whatever is asked; a step.
-/
namespace Go.Proofs.YtengofkjlgajlaaGreatDoor
open Go Go.RowKit
/-- what is asked: nothing, or what may be done -/
def Asked (op ad : Int) (sz len : Nat) : Prop := (¬ clR op = 4 ∧ ¬ clR op = 5 ∧ ¬ clR op = 6) ∨ ((0 < sz ∧ sz ≤ 4) ∧ Good op ad sz len)
end Go.Proofs.YtengofkjlgajlaaGreatDoor
