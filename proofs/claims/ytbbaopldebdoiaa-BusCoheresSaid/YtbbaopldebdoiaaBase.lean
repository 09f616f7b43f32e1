/-
  SMALL THINGS, WHERE NO VARIABLE IS LISTED.
-/
import Derived.Test.YtbbaopldebdoiaaRows
import Derived.WalkKit
import Derived.ProofKit
import Derived.OpenShut
namespace Go.Proofs.Ytbbaopldebdoiaa
open Go Go.RowKit
theorem cell_here {W : World} {b o : Nat} {v : Value} (h : W.cell? ⟨b, o, none⟩ = some v) : b < W.heap.size := by
  unfold World.cell? at h
  by_cases hh : b < W.heap.size
  · exact hh
  · simp [hh] at h
theorem Hid.in {p : Prop} (h : p) : Hid p := h
theorem range_of {α : Type} (n : Nat) (a b : Nat → α) (h : (List.range n).map a = (List.range n).map b) (k : Nat) (hk : k < n) : a k = b k := by
  have := congrArg (·[k]?) h
  simpa [hk] using this

end Go.Proofs.Ytbbaopldebdoiaa
