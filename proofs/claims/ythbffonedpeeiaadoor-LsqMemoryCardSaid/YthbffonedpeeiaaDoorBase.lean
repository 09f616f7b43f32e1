/-
  WHAT THE LISTED VARIABLES HOLD, CELL BY CELL: out of the row's condition.
-/
import Derived.Test.YthbffonedpeeiaaDoorRows
import Derived.Test.YthbffonedpeeiaaDoorPure
import Derived.WalkKit
import Derived.ProofKit
import Derived.LaidMore
import Derived.OpenShut
import Derived.Lib.LaidTab
namespace Go.Proofs.YthbffonedpeeiaaDoor
open Go Go.RowKit

section
variable {H : Type} {enc : TypeId × Value → H} {P : Program} {w : World} {base : Nat} {spare : Nat → Bool} {held : Bool} {fuel : Nat} {t : TypeId} {cs : List Value} {x : DataW H × List MemPlace}
def sval : DataW H → Value
  | .lit (.int k n) => .int k n
  | .lit (.bool b) => .bool b
  | _ => .nilIface
def scalarT (P : Program) (t : TypeId) : Bool := match P.underlying t with | some (.int _) => true | some .bool => true | _ => false
theorem trod_scalar (ht : scalarT P t = true) (h : DataW.trod enc P w base spare held fuel t cs = some x) : cs = [sval x.1] := by
  unfold scalarT at ht
  split at ht
  · rename_i k hk
    obtain ⟨n, h1, h2, _⟩ := DataW.trod_int hk h
    rw [h2, h1]; rfl
  · rename_i hk
    obtain ⟨n, h1, h2⟩ := DataW.trod_bool hk h
    rw [h2, h1]; rfl
  · cases ht
def at2 (rows : List (DataW H)) (i j : Nat) : Option Value := match rows[i]? with
  | some (.agg ds) => (ds[j]?).map sval
  | _ => none
theorem cells_of_table {n sz : Nat} {e : TypeId} {fs : Array Field} {rows : List (DataW H)} {p : List MemPlace} (ht : P.underlying t = some (.array n e)) (he : P.underlying e = some (.struct fs)) (hn : fs.size = sz) (hsz : P.cellsOf e = sz)
    (hfs : ∀ (i : Nat) f, fs[i]? = some f → f.offset = i ∧ P.cellsOf f.type = 1 ∧ scalarT P f.type = true)
    (h : DataW.trod enc P w base spare held fuel t cs = some (.agg rows, p)) : ∀ i j, i < n → j < sz → cs[i * sz + j]? = at2 rows i j := by
  intro i j hi hj
  obtain ⟨xs, m, rfl, hx, hlen, hxs, hel⟩ := DataW.trod_array ht h
  have hi' := hel i hi
  have hix : i < xs.length := by omega
  rw [List.getElem?_eq_getElem hix] at hi'
  obtain ⟨ys, m', rfl, hy, hlen', hys, hf⟩ := DataW.trod_struct he hi'
  simp only [Prod.mk.injEq, DataW.agg.injEq] at hx
  have hr : rows[i]? = some (.agg (ys.map (·.1))) := by
    rw [hx.1, List.getElem?_map, List.getElem?_eq_getElem hix, Option.map_some, hy]
  unfold at2
  rw [hr]
  have hjf : j < fs.size := by omega
  obtain ⟨h1, h2, h3⟩ := hfs j fs[j] (by simp [hjf])
  have hfj := hf j fs[j] (by simp [hjf])
  have hjy : j < ys.length := by omega
  rw [List.getElem?_eq_getElem hjy, h1, h2] at hfj
  have hs := trod_scalar h3 hfj
  have := congrArg (·[0]?) hs
  rw [hsz] at this
  simp only [List.getElem?_take, List.getElem?_drop, List.getElem?_cons_zero, if_true, Nat.add_zero, Nat.zero_lt_one, hj] at this
  simp only [List.getElem?_map, List.getElem?_eq_getElem hjy, Option.map_some]
  exact this
end

theorem cell_here {W : World} {b o : Nat} {v : Value} (h : W.cell? ⟨b, o, none⟩ = some v) : b < W.heap.size := by
  unfold World.cell? at h
  by_cases hh : b < W.heap.size
  · exact hh
  · simp [hh] at h
theorem Hid.in {p : Prop} (h : p) : Hid p := h
theorem range_of {α : Type} (n : Nat) (a b : Nat → α) (h : (List.range n).map a = (List.range n).map b) (k : Nat) (hk : k < n) : a k = b k := by
  have := congrArg (·[k]?) h
  simpa [hk] using this

def rowsOf {H : Type} : DataW H → List (DataW H)
  | .agg l => l
  | _ => []
end Go.Proofs.YthbffonedpeeiaaDoor
