import Derived.Test.YtengofkjlgajlaaGreatDoorGy1
/-
  ARCH's LAW ArchAsks: where there is no hart.
-/
namespace Go.Proofs.YtengofkjlgajlaaGreatDoor
open Go Go.RowKit
end Go.Proofs.YtengofkjlgajlaaGreatDoor
/-
  ARCH's LAW ArchAsks: both harts side by side in memory.
-/
namespace Go.Proofs.YtengofkjlgajlaaGreatDoor
open Go Go.RowKit
/-- both harts in the world wr, w being the world of the call: the program's at p (its copy of the code at g) in the state S, the answer's at b in the state R -/
structure Both (w wr : World) (p b g cap cb co n cp : Nat) (f : Nat → Int) (S R : HS) : Prop where
  ph : PH wr p (.slice (some ⟨g, 0, none⟩) n cap) S
  rh : RH wr b R
  cg : CodeAt wr g 0 n f
  cc : CodeAt wr cb co n f
  gr : Below w.heap.size w wr
  p0 : w.heap.size ≤ p
  b0 : w.heap.size ≤ b
  g0 : w.heap.size ≤ g
  c0 : cb < w.heap.size
  pb : p ≠ b
  pg : p ≠ g
  bg : b ≠ g
theorem CodeAt.only {q : Nat} {x y : World} {cb co n : Nat} {f : Nat → Int} (h : CodeAt x cb co n f) (k : Only q x y) (ne : cb ≠ q) : CodeAt y cb co n f :=
  ⟨Nat.lt_of_lt_of_le h.here k.size, fun i hi => k.to_cell h.here ne (h.cell i hi), h.word⟩
theorem Both.below {w x y : World} {p b g cap cb co n cp : Nat} {f : Nat → Int} {S R : HS} (h : Both w x p b g cap cb co n cp f S R) (k : Below x.heap.size x y) : Both w y p b g cap cb co n cp f S R :=
  ⟨h.ph.below k, h.rh.below k, h.cg.below k, h.cc.below k, h.gr.trans (k.mono h.gr.size), h.p0, h.b0, h.g0, h.c0, h.pb, h.pg, h.bg⟩
theorem Both.onP {w x y : World} {p b g cap cb co n cp : Nat} {f : Nat → Int} {S R T : HS} (h : Both w x p b g cap cb co n cp f S R) (k : Only p x y) (q : PH y p (.slice (some ⟨g, 0, none⟩) n cap) T) : Both w y p b g cap cb co n cp f T R :=
  ⟨q, k.cells h.rh (fun e => h.pb e.symm), h.cg.only k (fun e => h.pg e.symm), h.cc.only k (by have := h.c0; have := h.p0; omega), h.gr.trans (k.below h.gr.size h.p0), h.p0, h.b0, h.g0, h.c0, h.pb, h.pg, h.bg⟩
/-- what is so at the head of every step -/
structure Step (w wr : World) (p b g cap cb co n cp : Nat) (f : Nat → Int) (S : HS) : Prop where
  both : Both w wr p b g cap cb co n cp f S S
  code : S.code = .slice (some ⟨cb, co, none⟩) n cp
  fit : S.Fit
  size : S.size % 16 = 0
theorem Step.next {w wr y : World} {p b g cap cb co n cp : Nat} {f : Nat → Int} {S T : HS} (h : Step w wr p b g cap cb co n cp f S) (q : Both w y p b g cap cb co n cp f T T) (k : S.Kept T) (hf : T.Fit) : Step w y p b g cap cb co n cp f T :=
  ⟨q, k.1.trans h.code, hf, by rw [k.2.1]; exact h.size⟩
end Go.Proofs.YtengofkjlgajlaaGreatDoor
/-
  ARCH's LAW ArchAsks: shapes of answers; interrupts, by whether they come.
-/
namespace Go.Proofs.YtengofkjlgajlaaGreatDoor
open Go Go.RowKit
theorem instrR_is (S : HS) (d : Dec) (word v : Int) (held : Bool) : IsRet (S.instrR d word v held) := by
  unfold HS.instrR
  repeat' split
  all_goals first | exact doneR_is _ _ _ _ _ | exact jumpR_is _ _ _ _ | exact sysR_is _ _ _ _ _ _ _ | exact memR_is _ _ _ _ _ _ _ _
theorem doR_is (S : HS) (D : Int → Dec) (n : Nat) (f : Nat → Int) (v : Int) (held : Bool) : IsRet (S.doR D n f v held) := by
  unfold HS.doR
  repeat' split
  all_goals first | exact instrR_is _ _ _ _ _ | exact trapR_is _ _ _ _ | exact ⟨_, _, _, _, _, _, _, rfl⟩
end Go.Proofs.YtengofkjlgajlaaGreatDoor
