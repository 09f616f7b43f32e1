/-
  PREDICT: the answer's Guess (jalr).
-/
import Derived.Test.YtaioaakaffafoaaDoorFd
namespace Go.Proofs.YtaioaakaffafoaaDoor
open Go Go.RowKit
theorem keepT (w : World) (c : Array Value) (t : TypeId) : (∀ i, (w.alloc (.cells c t)).drew.cell? ⟨w.heap.size, i, none⟩ = c[i]?) ∧ w.heap.size < (w.alloc (.cells c t)).drew.heap.size ∧ Below w.heap.size w (w.alloc (.cells c t)).drew :=
  ⟨fun i => World.cell?_alloc_new w c t i, by simp [World.drew], ((Below.refl _ _).alloc (Nat.le_refl _) _).drew⟩
end Go.Proofs.YtaioaakaffafoaaDoor
