/-
  BLOCKS IN MEMORY, AND WHAT TURNS THEM.
-/
import Derived.Test.YthbffonedpeeiaaDoorBase
import Derived.RegionTactic
import Derived.ChangeAlike
namespace Go.Proofs.YthbffonedpeeiaaDoor
open Go Go.RowKit
def upd {α : Type} (c : Nat → α) (o : Nat) (v : α) : Nat → α := fun i => if i = o then v else c i
theorem upd_same {α : Type} (c : Nat → α) (o : Nat) (v : α) : upd c o v o = v := if_pos rfl
theorem upd_other {α : Type} (c : Nat → α) (o : Nat) (v : α) (i : Nat) (h : i ≠ o) : upd c o v i = c i := if_neg h
/-- a block whose first n cells read so, and may be written -/
structure CellsAt (n : Nat) (w : World) (b : Nat) (c : Nat → Value) : Prop where
  here : b < w.heap.size
  cell : ∀ o, o < n → w.cell? ⟨b, o, none⟩ = some (c o)
  free : ∀ o, w.frozen? ⟨b, o, none⟩ = false
theorem CellsAt.set {n : Nat} {w : World} {b : Nat} {c : Nat → Value} (h : CellsAt n w b c) (o : Nat) (ho : o < n) (v : Value) : CellsAt n (w.setCell ⟨b, o, none⟩ v) b (upd c o v) := by
  refine ⟨by simpa [World.setCell] using h.here, fun i hi => ?_, fun i => ?_⟩
  · unfold upd
    by_cases e : i = o
    · subst e
      rw [if_pos rfl]
      exact World.cell?_setCell_same _ _ _ (h.cell i hi)
    · rw [if_neg e, World.cell?_setCell_other _ _ _ _ (by intro q; exact e (congrArg Addr.off q).symm)]
      exact h.cell i hi
  · rw [World.frozen?_setCell]; exact h.free i
theorem CellsAt.setOther {n : Nat} {w : World} {b q : Nat} {c : Nat → Value} (h : CellsAt n w b c) (o : Nat) (v : Value) (ne : b ≠ q) : CellsAt n (w.setCell ⟨q, o, none⟩ v) b c := by
  refine ⟨by simpa [World.setCell] using h.here, fun i hi => ?_, fun i => ?_⟩
  · rw [World.cell?_setCell_other _ _ _ _ (by intro q; exact ne (congrArg Addr.block q).symm)]
    exact h.cell i hi
  · rw [World.frozen?_setCell]; exact h.free i
theorem CellsAt.below {n : Nat} {w w' : World} {b : Nat} {c : Nat → Value} (h : CellsAt n w b c) (hb : Below w.heap.size w w') : CellsAt n w' b c :=
  ⟨Nat.lt_of_lt_of_le h.here hb.size, fun i hi => (hb.cell (p := ⟨b, i, none⟩) h.here).trans (h.cell i hi), fun i => (hb.frozen (p := ⟨b, i, none⟩) h.here).trans (h.free i)⟩
theorem CellsAt.alloc {n : Nat} {w : World} {b : Nat} {c : Nat → Value} (h : CellsAt n w b c) (o : Obj) : CellsAt n (w.alloc o) b c := h.below ((Below.refl _ _).alloc (Nat.le_refl _) o)
theorem CellsAt.drew {n : Nat} {w : World} {b : Nat} {c : Nat → Value} (h : CellsAt n w b c) : CellsAt n w.drew b c := h.below (Below.refl _ _).drew
theorem CellsAt.to {n : Nat} {w : World} {b : Nat} {c d : Nat → Value} (h : CellsAt n w b c) (e : c = d) : CellsAt n w b d := e ▸ h
theorem CellsAt.ext {n : Nat} {w : World} {b : Nat} {c d : Nat → Value} (h : CellsAt n w b c) (e : ∀ o, o < n → c o = d o) : CellsAt n w b d := ⟨h.here, fun o ho => by rw [← e o ho]; exact h.cell o ho, h.free⟩
theorem cells_new {n : Nat} {c : Array Value} {t : TypeId} {g : Nat → Value} (w : World) (h : ∀ i, i < n → c[i]? = some (g i)) : CellsAt n (w.alloc (.cells c t)) w.heap.size g :=
  ⟨by simp, fun i hi => (World.cell?_alloc_new w c t i).trans (h i hi), fun i => World.frozen?_alloc_at c t _ i rfl⟩
/-- of what was there nothing but the blocks of Q has turned -/
structure Turned (Q : Nat → Prop) (w w' : World) : Prop where
  os : w'.os = w.os
  tape : w'.tape = w.tape
  output : w'.output = w.output
  size : w.heap.size ≤ w'.heap.size
  block : ∀ k, k < w.heap.size → ¬ Q k → w'.heap[k]? = w.heap[k]?
theorem Turned.refl (Q : Nat → Prop) (w : World) : Turned Q w w := ⟨rfl, rfl, rfl, Nat.le_refl _, fun _ _ _ => rfl⟩
theorem Turned.trans {Q : Nat → Prop} {x y z : World} (h : Turned Q x y) (k : Turned Q y z) : Turned Q x z :=
  ⟨k.os.trans h.os, k.tape.trans h.tape, k.output.trans h.output, Nat.le_trans h.size k.size, fun i hi hb => (k.block i (Nat.lt_of_lt_of_le hi h.size) hb).trans (h.block i hi hb)⟩
theorem Turned.mono {Q R : Nat → Prop} {x y : World} (h : Turned Q x y) (k : ∀ i, Q i → R i) : Turned R x y := ⟨h.os, h.tape, h.output, h.size, fun i hi hb => h.block i hi (fun q => hb (k i q))⟩
theorem Turned.set {Q : Nat → Prop} {x y : World} (h : Turned Q x y) {b : Nat} (hb : Q b) (o : Nat) (v : Value) : Turned Q x (y.setCell ⟨b, o, none⟩ v) :=
  h.trans ⟨rfl, rfl, rfl, by simp [World.setCell], fun k _ hk => Below.heap_setCell _ _ _ _ (fun e => hk (e ▸ hb))⟩
theorem Turned.alloc {Q : Nat → Prop} {x y : World} (h : Turned Q x y) (o : Obj) : Turned Q x (y.alloc o) :=
  h.trans ⟨rfl, rfl, rfl, by simp, fun k hk _ => Below.heap_alloc _ _ _ hk⟩
theorem Turned.drew {Q : Nat → Prop} {x y : World} (h : Turned Q x y) : Turned Q x y.drew := h.trans ⟨rfl, rfl, rfl, Nat.le_refl _, fun _ _ _ => rfl⟩
theorem Turned.of_below {Q : Nat → Prop} {x y : World} (h : Below x.heap.size x y) : Turned Q x y := ⟨h.os, h.tape, h.output, h.size, fun k hk _ => h.block k hk⟩
theorem Turned.below {Q : Nat → Prop} {B : Nat} {x y : World} (h : Turned Q x y) (hB : B ≤ x.heap.size) (hb : ∀ k, Q k → B ≤ k) : Below B x y := ⟨h.os, h.tape, h.output, h.size, fun k hk => h.block k (by omega) (fun q => by have := hb k q; omega)⟩
theorem Turned.cells {Q : Nat → Prop} {c n : Nat} {x y : World} {f : Nat → Value} (h : Turned Q x y) (k : CellsAt n x c f) (hc : ¬ Q c) : CellsAt n y c f := by
  have hb := h.block c k.here hc
  exact ⟨Nat.lt_of_lt_of_le k.here h.size, fun i hi => (World.cell?_of_block (w := x) hb).trans (k.cell i hi), fun i => (World.frozen?_of_block (w := x) hb).trans (k.free i)⟩
theorem Turned.to_cell {Q : Nat → Prop} {x y : World} {c o : Nat} {v : Value} (h : Turned Q x y) (hh : c < x.heap.size) (hc : ¬ Q c) (k : x.cell? ⟨c, o, none⟩ = some v) : y.cell? ⟨c, o, none⟩ = some v := (World.cell?_of_block (w := x) (h.block c hh hc)).trans k
theorem below2 {a b c : World} (h : Below a.heap.size a b) (k : Below b.heap.size b c) : Below a.heap.size a c := h.trans (k.mono h.size)
theorem belowU {w x : World} (h : Below w.drew.heap.size w.drew x) : Below w.heap.size w x := ⟨h.os, h.tape, h.output, h.size, h.block⟩
end Go.Proofs.YthbffonedpeeiaaDoor
