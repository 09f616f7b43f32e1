import Derived.Test.YtlogdmnhngbkaaaDoorRows
import Derived.WalkKit
import Derived.ProofKit
import Derived.LaidMore
import Derived.OpenShut
import Derived.Lib.LaidTab
import Derived.RegionTactic
import Derived.ChangeAlike
import Derived.ArgAppend
import Derived.OwnWalk
import Derived.Laws.AppendOwn
import Derived.Laws.AppendOwnNone
import Derived.Deep.MidRow
import Derived.BigQuiet
import Derived.Deep.RegionHeld3

/-
  PLAIN TABLES of the chapter isa's program: a row for each operation (numbers 0 to 67), a row for each format (0 to 14). No program in sight.
-/
namespace Go.Proofs.YtlogdmnhngbkaaaDoor

def fmtL : List Nat := [0, 1, 1, 2, 4, 5, 5, 5, 5, 5, 5, 4, 4, 4, 4, 4, 6, 6, 6, 3, 3, 3, 3, 3, 3, 7, 7, 7, 8, 8, 8, 8, 8, 8, 8, 8, 8, 8, 8, 8, 8, 8, 8, 8, 8, 8, 10, 9, 9, 9, 9, 9, 9, 9, 9, 9, 9, 11, 12, 12, 12, 12, 13, 13, 13, 14, 14, 14]
def codeL : List Int := [0, 55, 23, 111, 103, 99, 99, 99, 99, 99, 99, 3, 3, 3, 3, 3, 35, 35, 35, 19, 19, 19, 19, 19, 19, 19, 19, 19, 51, 51, 51, 51, 51, 51, 51, 51, 51, 51, 51, 51, 51, 51, 51, 51, 51, 51, 47, 47, 47, 47, 47, 47, 47, 47, 47, 47, 47, 15, 115, 115, 115, 115, 115, 115, 115, 115, 115, 115]
def fL : List Int := [0, 0, 0, 0, 0, 0, 1, 4, 5, 6, 7, 0, 1, 2, 4, 5, 0, 1, 2, 0, 2, 3, 4, 6, 7, 1, 5, 5, 0, 0, 1, 2, 3, 4, 5, 5, 6, 7, 0, 1, 2, 3, 4, 5, 6, 7, 2, 2, 2, 2, 2, 2, 2, 2, 2, 2, 2, 0, 0, 0, 0, 0, 1, 2, 3, 5, 6, 7]
def gL : List Int := [0, 0, 0, 0, 0, 0, 0, 0, 0, 0, 0, 0, 0, 0, 0, 0, 0, 0, 0, 0, 0, 0, 0, 0, 0, 0, 0, 32, 0, 32, 0, 0, 0, 0, 0, 32, 0, 0, 1, 1, 1, 1, 1, 1, 1, 1, 2, 3, 1, 0, 4, 12, 8, 16, 20, 24, 28, 0, 0, 1, 770, 261, 0, 0, 0, 0, 0, 0]
def fmtAt (k : Nat) : Nat := fmtL.getD k 0
def codeAt (k : Nat) : Int := codeL.getD k 0
def fAt (k : Nat) : Int := fL.getD k 0
def gAt (k : Nat) : Int := gL.getD k 0
def lyFixedL : List Int := [0, 127, 127, 28799, 28799, 28799, 28799, 4261441663, 4261441663, 4160778367, 4193284223, 4027580415, 4294967295, 28799, 28799]
def lyFixed (f : Nat) : Int := lyFixedL.getD f 0
def lyGL : List Int := [0, 0, 0, 0, 0, 0, 0, 25, 25, 27, 27, 0, 20, 0, 0]
def lyG (f : Nat) : Int := lyGL.getD f 0
def lyRdL : List Bool := [false, true, true, true, true, false, false, true, true, true, true, false, false, true, true]
def lyRd (f : Nat) : Bool := lyRdL.getD f false
def lyRs1L : List Bool := [false, false, false, true, true, true, true, true, true, true, true, false, false, true, true]
def lyRs1 (f : Nat) : Bool := lyRs1L.getD f false
def lyRs2L : List Bool := [false, false, false, false, false, true, true, false, true, true, false, false, false, false, false]
def lyRs2 (f : Nat) : Bool := lyRs2L.getD f false
def lyLowL : List Int := [0, 0, (-1048576), (-2048), (-2048), (-4096), (-2048), 0, 0, 0, 0, 0, 0, 0, 0]
def lyLow (f : Nat) : Int := lyLowL.getD f 0
def lyHighL : List Int := [0, 1048575, 1048574, 2047, 2047, 4094, 2047, 31, 0, 3, 3, 255, 0, 4095, 4095]
def lyHigh (f : Nat) : Int := lyHighL.getD f 0
def lyEvenL : List Bool := [false, false, true, false, false, true, false, false, false, false, false, false, false, false, false]
def lyEven (f : Nat) : Bool := lyEvenL.getD f false
def lyClassL : List Int := [7, 0, 3, 0, 4, 2, 5, 0, 0, 6, 6, 7, 7, 7, 7]
def lyClass (f : Nat) : Int := lyClassL.getD f 0
theorem fmt_lt (k : Nat) : fmtAt k < 15 := by
  by_cases h : k < 68
  · have : ∀ k, k < 68 → fmtAt k < 15 := by decide
    exact this k h
  · unfold fmtAt; rw [List.getD_eq_getElem?_getD, List.getElem?_eq_none (by simp [fmtL]; omega)]; decide
end Go.Proofs.YtlogdmnhngbkaaaDoor
/-
  WHAT THE LISTED VARIABLES HOLD, CELL BY CELL: out of the row's condition.
-/
namespace Go.Proofs.YtlogdmnhngbkaaaDoor
open Go Go.RowKit

section
variable {H : Type} {enc : TypeId × Value → H} {P : Program} {w : World} {base : Nat} {spare : Nat → Bool} {held : Bool} {fuel : Nat} {t : TypeId} {cs : List Value} {x : DataW H × List MemPlace}
def sval : DataW H → Value
  | .lit (.int k n) => .int k n
  | .lit (.bool b) => .bool b
  | _ => .nilIface
def scalarT (P : Program) (t : TypeId) : Bool := match P.underlying t with | some (.int _) => true | some .bool => true | _ => false
theorem trod_scalar (ht : scalarT P t = true) (h : DataW.trod enc P w base spare held fuel t cs = some x) : cs = [sval x.1] := by
  unfold scalarT at ht
  split at ht
  · rename_i k hk
    obtain ⟨n, h1, h2, _⟩ := DataW.trod_int hk h
    rw [h2, h1]; rfl
  · rename_i hk
    obtain ⟨n, h1, h2⟩ := DataW.trod_bool hk h
    rw [h2, h1]; rfl
  · cases ht
def at2 (rows : List (DataW H)) (i j : Nat) : Option Value := match rows[i]? with
  | some (.agg ds) => (ds[j]?).map sval
  | _ => none
theorem cells_of_table {n sz : Nat} {e : TypeId} {fs : Array Field} {rows : List (DataW H)} {p : List MemPlace} (ht : P.underlying t = some (.array n e)) (he : P.underlying e = some (.struct fs)) (hn : fs.size = sz) (hsz : P.cellsOf e = sz)
    (hfs : ∀ (i : Nat) f, fs[i]? = some f → f.offset = i ∧ P.cellsOf f.type = 1 ∧ scalarT P f.type = true)
    (h : DataW.trod enc P w base spare held fuel t cs = some (.agg rows, p)) : ∀ i j, i < n → j < sz → cs[i * sz + j]? = at2 rows i j := by
  intro i j hi hj
  obtain ⟨xs, m, rfl, hx, hlen, hxs, hel⟩ := DataW.trod_array ht h
  have hi' := hel i hi
  have hix : i < xs.length := by omega
  rw [List.getElem?_eq_getElem hix] at hi'
  obtain ⟨ys, m', rfl, hy, hlen', hys, hf⟩ := DataW.trod_struct he hi'
  simp only [Prod.mk.injEq, DataW.agg.injEq] at hx
  have hr : rows[i]? = some (.agg (ys.map (·.1))) := by
    rw [hx.1, List.getElem?_map, List.getElem?_eq_getElem hix, Option.map_some, hy]
  unfold at2
  rw [hr]
  have hjf : j < fs.size := by omega
  obtain ⟨h1, h2, h3⟩ := hfs j fs[j] (by simp [hjf])
  have hfj := hf j fs[j] (by simp [hjf])
  have hjy : j < ys.length := by omega
  rw [List.getElem?_eq_getElem hjy, h1, h2] at hfj
  have hs := trod_scalar h3 hfj
  have := congrArg (·[0]?) hs
  rw [hsz] at this
  simp only [List.getElem?_take, List.getElem?_drop, List.getElem?_cons_zero, if_true, Nat.add_zero, Nat.zero_lt_one, hj] at this
  simp only [List.getElem?_map, List.getElem?_eq_getElem hjy, Option.map_some]
  exact this
end

theorem cell_here {W : World} {b o : Nat} {v : Value} (h : W.cell? ⟨b, o, none⟩ = some v) : b < W.heap.size := by
  unfold World.cell? at h
  by_cases hh : b < W.heap.size
  · exact hh
  · simp [hh] at h
theorem Hid.in {p : Prop} (h : p) : Hid p := h
theorem range_of {α : Type} (n : Nat) (a b : Nat → α) (h : (List.range n).map a = (List.range n).map b) (k : Nat) (hk : k < n) : a k = b k := by
  have := congrArg (·[k]?) h
  simpa [hk] using this

def rowsOf {H : Type} : DataW H → List (DataW H)
  | .agg l => l
  | _ => []
end Go.Proofs.YtlogdmnhngbkaaaDoor
/-
  BLOCKS IN MEMORY, AND WHAT TURNS THEM.
-/
namespace Go.Proofs.YtlogdmnhngbkaaaDoor
open Go Go.RowKit
def upd {α : Type} (c : Nat → α) (o : Nat) (v : α) : Nat → α := fun i => if i = o then v else c i
theorem upd_same {α : Type} (c : Nat → α) (o : Nat) (v : α) : upd c o v o = v := if_pos rfl
theorem upd_other {α : Type} (c : Nat → α) (o : Nat) (v : α) (i : Nat) (h : i ≠ o) : upd c o v i = c i := if_neg h
/-- a block whose first n cells read so, and may be written -/
structure CellsAt (n : Nat) (w : World) (b : Nat) (c : Nat → Value) : Prop where
  here : b < w.heap.size
  cell : ∀ o, o < n → w.cell? ⟨b, o, none⟩ = some (c o)
  free : ∀ o, w.frozen? ⟨b, o, none⟩ = false
theorem CellsAt.set {n : Nat} {w : World} {b : Nat} {c : Nat → Value} (h : CellsAt n w b c) (o : Nat) (ho : o < n) (v : Value) : CellsAt n (w.setCell ⟨b, o, none⟩ v) b (upd c o v) := by
  refine ⟨by simpa [World.setCell] using h.here, fun i hi => ?_, fun i => ?_⟩
  · unfold upd
    by_cases e : i = o
    · subst e
      rw [if_pos rfl]
      exact World.cell?_setCell_same _ _ _ (h.cell i hi)
    · rw [if_neg e, World.cell?_setCell_other _ _ _ _ (by intro q; exact e (congrArg Addr.off q).symm)]
      exact h.cell i hi
  · rw [World.frozen?_setCell]; exact h.free i
theorem CellsAt.setOther {n : Nat} {w : World} {b q : Nat} {c : Nat → Value} (h : CellsAt n w b c) (o : Nat) (v : Value) (ne : b ≠ q) : CellsAt n (w.setCell ⟨q, o, none⟩ v) b c := by
  refine ⟨by simpa [World.setCell] using h.here, fun i hi => ?_, fun i => ?_⟩
  · rw [World.cell?_setCell_other _ _ _ _ (by intro q; exact ne (congrArg Addr.block q).symm)]
    exact h.cell i hi
  · rw [World.frozen?_setCell]; exact h.free i
theorem CellsAt.below {n : Nat} {w w' : World} {b : Nat} {c : Nat → Value} (h : CellsAt n w b c) (hb : Below w.heap.size w w') : CellsAt n w' b c :=
  ⟨Nat.lt_of_lt_of_le h.here hb.size, fun i hi => (hb.cell (p := ⟨b, i, none⟩) h.here).trans (h.cell i hi), fun i => (hb.frozen (p := ⟨b, i, none⟩) h.here).trans (h.free i)⟩
theorem CellsAt.alloc {n : Nat} {w : World} {b : Nat} {c : Nat → Value} (h : CellsAt n w b c) (o : Obj) : CellsAt n (w.alloc o) b c := h.below ((Below.refl _ _).alloc (Nat.le_refl _) o)
theorem CellsAt.drew {n : Nat} {w : World} {b : Nat} {c : Nat → Value} (h : CellsAt n w b c) : CellsAt n w.drew b c := h.below (Below.refl _ _).drew
theorem CellsAt.to {n : Nat} {w : World} {b : Nat} {c d : Nat → Value} (h : CellsAt n w b c) (e : c = d) : CellsAt n w b d := e ▸ h
theorem CellsAt.ext {n : Nat} {w : World} {b : Nat} {c d : Nat → Value} (h : CellsAt n w b c) (e : ∀ o, o < n → c o = d o) : CellsAt n w b d := ⟨h.here, fun o ho => by rw [← e o ho]; exact h.cell o ho, h.free⟩
theorem cells_new {n : Nat} {c : Array Value} {t : TypeId} {g : Nat → Value} (w : World) (h : ∀ i, i < n → c[i]? = some (g i)) : CellsAt n (w.alloc (.cells c t)) w.heap.size g :=
  ⟨by simp, fun i hi => (World.cell?_alloc_new w c t i).trans (h i hi), fun i => World.frozen?_alloc_at c t _ i rfl⟩
/-- of what was there nothing but the blocks of Q has turned -/
structure Turned (Q : Nat → Prop) (w w' : World) : Prop where
  os : w'.os = w.os
  tape : w'.tape = w.tape
  output : w'.output = w.output
  size : w.heap.size ≤ w'.heap.size
  block : ∀ k, k < w.heap.size → ¬ Q k → w'.heap[k]? = w.heap[k]?
theorem Turned.refl (Q : Nat → Prop) (w : World) : Turned Q w w := ⟨rfl, rfl, rfl, Nat.le_refl _, fun _ _ _ => rfl⟩
theorem Turned.trans {Q : Nat → Prop} {x y z : World} (h : Turned Q x y) (k : Turned Q y z) : Turned Q x z :=
  ⟨k.os.trans h.os, k.tape.trans h.tape, k.output.trans h.output, Nat.le_trans h.size k.size, fun i hi hb => (k.block i (Nat.lt_of_lt_of_le hi h.size) hb).trans (h.block i hi hb)⟩
theorem Turned.mono {Q R : Nat → Prop} {x y : World} (h : Turned Q x y) (k : ∀ i, Q i → R i) : Turned R x y := ⟨h.os, h.tape, h.output, h.size, fun i hi hb => h.block i hi (fun q => hb (k i q))⟩
theorem Turned.set {Q : Nat → Prop} {x y : World} (h : Turned Q x y) {b : Nat} (hb : Q b) (o : Nat) (v : Value) : Turned Q x (y.setCell ⟨b, o, none⟩ v) :=
  h.trans ⟨rfl, rfl, rfl, by simp [World.setCell], fun k _ hk => Below.heap_setCell _ _ _ _ (fun e => hk (e ▸ hb))⟩
theorem Turned.alloc {Q : Nat → Prop} {x y : World} (h : Turned Q x y) (o : Obj) : Turned Q x (y.alloc o) :=
  h.trans ⟨rfl, rfl, rfl, by simp, fun k hk _ => Below.heap_alloc _ _ _ hk⟩
theorem Turned.drew {Q : Nat → Prop} {x y : World} (h : Turned Q x y) : Turned Q x y.drew := h.trans ⟨rfl, rfl, rfl, Nat.le_refl _, fun _ _ _ => rfl⟩
theorem Turned.of_below {Q : Nat → Prop} {x y : World} (h : Below x.heap.size x y) : Turned Q x y := ⟨h.os, h.tape, h.output, h.size, fun k hk _ => h.block k hk⟩
theorem Turned.below {Q : Nat → Prop} {B : Nat} {x y : World} (h : Turned Q x y) (hB : B ≤ x.heap.size) (hb : ∀ k, Q k → B ≤ k) : Below B x y := ⟨h.os, h.tape, h.output, h.size, fun k hk => h.block k (by omega) (fun q => by have := hb k q; omega)⟩
theorem Turned.cells {Q : Nat → Prop} {c n : Nat} {x y : World} {f : Nat → Value} (h : Turned Q x y) (k : CellsAt n x c f) (hc : ¬ Q c) : CellsAt n y c f := by
  have hb := h.block c k.here hc
  exact ⟨Nat.lt_of_lt_of_le k.here h.size, fun i hi => (World.cell?_of_block (w := x) hb).trans (k.cell i hi), fun i => (World.frozen?_of_block (w := x) hb).trans (k.free i)⟩
theorem Turned.to_cell {Q : Nat → Prop} {x y : World} {c o : Nat} {v : Value} (h : Turned Q x y) (hh : c < x.heap.size) (hc : ¬ Q c) (k : x.cell? ⟨c, o, none⟩ = some v) : y.cell? ⟨c, o, none⟩ = some v := (World.cell?_of_block (w := x) (h.block c hh hc)).trans k
theorem below2 {a b c : World} (h : Below a.heap.size a b) (k : Below b.heap.size b c) : Below a.heap.size a c := h.trans (k.mono h.size)
theorem belowU {w x : World} (h : Below w.drew.heap.size w.drew x) : Below w.heap.size w x := ⟨h.os, h.tape, h.output, h.size, h.block⟩
end Go.Proofs.YtlogdmnhngbkaaaDoor
/-
  LINES IN MEMORY: rows of lines of eighteen cells.
-/
namespace Go.Proofs.YtlogdmnhngbkaaaDoor
open Go Go.RowKit
structure Ln where
  a : Nat
  s : Nat
  b : Nat → Nat
def l0 : Ln := ⟨0, 0, fun _ => 0⟩
def bvs (b : Nat → Nat) : List Value := (List.range 16).map fun j => .int .u8 (b j)
def Ln.vs (e : Ln) : List Value := .int .u32 e.a :: .int .i64 e.s :: bvs e.b
theorem bvs_len (b : Nat → Nat) : (bvs b).length = 16 := by simp [bvs]
theorem Ln.len (e : Ln) : e.vs.length = 18 := by simp [Ln.vs, bvs_len]
theorem bvs_at (b : Nat → Nat) (j : Nat) (h : j < 16) : (bvs b)[j]? = some (.int .u8 (b j)) := by simp [bvs, h]
theorem Ln.at2 (e : Ln) (j : Nat) (h : j < 16) : e.vs[2 + j]? = some (.int .u8 (e.b j)) := by
  rw [Nat.add_comm]
  exact bvs_at e.b j h
theorem bvs_one (b : Nat → Nat) : ∀ u ∈ bvs b, u.oneCell' = true := by
  intro u hu
  simp only [bvs, List.mem_map] at hu
  obtain ⟨j, -, rfl⟩ := hu
  rfl
theorem Ln.one (e : Ln) : ∀ u ∈ e.vs, u.oneCell' = true := by
  intro u hu
  simp only [Ln.vs, List.mem_cons] at hu
  rcases hu with rfl | rfl | hu
  · rfl
  · rfl
  · exact bvs_one _ u hu
def flatL : List Ln → List Value
  | [] => []
  | e :: l => e.vs ++ flatL l
theorem flatL_len : ∀ l : List Ln, (flatL l).length = l.length * 18
  | [] => rfl
  | e :: l => by simp only [flatL, List.length_append, flatL_len l, List.length_cons, Ln.len]; omega
theorem flatL_app : ∀ l k : List Ln, flatL (l ++ k) = flatL l ++ flatL k
  | [], k => rfl
  | e :: l, k => by simp only [flatL, List.cons_append, flatL_app l k, List.append_assoc]
theorem flatL_one (e : Ln) : flatL [e] = e.vs := by simp [flatL]
theorem flatL_ones : ∀ (l : List Ln), ∀ u ∈ flatL l, u.oneCell' = true
  | [], u, h => by simp [flatL] at h
  | e :: l, u, h => by
    simp only [flatL, List.mem_append] at h
    rcases h with h | h
    · exact e.one u h
    · exact flatL_ones l u h
theorem flatL_at : ∀ (l : List Ln) (i j : Nat), i < l.length → j < 18 → (flatL l)[i * 18 + j]? = (l.getD i l0).vs[j]?
  | [], i, j, h, _ => by simp at h
  | e :: l, 0, j, _, hj => by
    simp only [flatL, Nat.zero_mul, Nat.zero_add, List.getD_cons_zero]
    exact List.getElem?_append_left (by rw [Ln.len]; omega)
  | e :: l, i + 1, j, h, hj => by
    simp only [flatL, List.getD_cons_succ]
    rw [List.getElem?_append_right (by rw [Ln.len]; omega)]
    have e1 : (i + 1) * 18 + j - e.vs.length = i * 18 + j := by rw [Ln.len]; omega
    rw [e1]
    exact flatL_at l i j (by simp at h; omega) hj
theorem flatL_take : ∀ (l : List Ln) (k : Nat), (flatL l).take (k * 18) = flatL (l.take k)
  | [], k => by simp [flatL]
  | e :: l, 0 => by simp [flatL]
  | e :: l, k + 1 => by
    simp only [flatL, List.take_succ_cons]
    have e1 : (k + 1) * 18 = e.vs.length + k * 18 := by rw [Ln.len]; omega
    rw [e1, List.take_length_add_append, flatL_take l k]
theorem flatL_drop : ∀ (l : List Ln) (k : Nat), (flatL l).drop (k * 18) = flatL (l.drop k)
  | [], k => by simp [flatL]
  | e :: l, 0 => by simp [flatL]
  | e :: l, k + 1 => by
    simp only [flatL, List.drop_succ_cons]
    have e1 : (k + 1) * 18 = e.vs.length + k * 18 := by rw [Ln.len]; omega
    rw [e1, List.drop_length_add_append, flatL_drop l k]
/-- some cells of a row are written, from o on -/
def spl (xs : List Value) (o : Nat) : List Value → List Value
  | [] => xs
  | v :: r => spl (xs.set o v) (o + 1) r
theorem spl_len : ∀ (vs : List Value) (xs : List Value) (o : Nat), (spl xs o vs).length = xs.length
  | [], xs, o => rfl
  | v :: r, xs, o => by rw [spl, spl_len r, List.length_set]
theorem spl_at : ∀ (vs : List Value) (xs : List Value) (o j : Nat), o + vs.length ≤ xs.length → (spl xs o vs)[j]? = if o ≤ j ∧ j < o + vs.length then vs[j - o]? else xs[j]?
  | [], xs, o, j, h => by
    rw [if_neg (by simp)]
    rfl
  | v :: r, xs, o, j, h => by
    have h' : o + (r.length + 1) ≤ xs.length := by simpa using h
    rw [spl, spl_at r _ _ _ (by rw [List.length_set]; omega), List.length_cons]
    by_cases e : j = o
    · subst e
      rw [if_neg (by omega), if_pos (by omega), Nat.sub_self, List.getElem?_set_self (by omega)]
      rfl
    · by_cases q : o ≤ j ∧ j < o + (r.length + 1)
      · rw [if_pos (by omega), if_pos q]
        have e1 : j - o = (j - (o + 1)) + 1 := by omega
        rw [e1]
        rfl
      · rw [if_neg (by omega), if_neg q, List.getElem?_set_ne (by omega)]
theorem spl_flat (l m : List Ln) (i : Nat) (h : i + m.length ≤ l.length) : spl (flatL l) (i * 18) (flatL m) = flatL (l.take i ++ m ++ l.drop (i + m.length)) := by
  have hl := flatL_len l
  have hm := flatL_len m
  apply List.ext_getElem?
  intro j
  rw [spl_at _ _ _ _ (by omega), flatL_app, flatL_app, ← flatL_take, ← flatL_drop]
  have ht : ((flatL l).take (i * 18)).length = i * 18 := by rw [List.length_take]; omega
  by_cases h1 : j < i * 18
  · rw [if_neg (by omega), List.getElem?_append_left (by rw [List.length_append]; omega), List.getElem?_append_left (by omega), List.getElem?_take_of_lt h1]
  · by_cases h2 : j < i * 18 + m.length * 18
    · rw [if_pos (by omega), List.getElem?_append_left (by rw [List.length_append]; omega), List.getElem?_append_right (by omega), ht]
    · rw [if_neg (by omega), List.getElem?_append_right (by rw [List.length_append]; omega), List.getElem?_drop, List.length_append, ht, hm]
      congr 1
      omega
theorem own_turned {Q : Nat → Prop} {x y : World} {base : Nat} {e : TypeId} {size : Nat} {v : Value} {n : Nat} {xs : List Value} (h : x.ownsRow base e size v n xs) (c : Turned Q x y) (hq : ∀ k, v.ownBlock = some k → ¬ Q k) : y.ownsRow base e size v n xs := by
  obtain ⟨h1, h2⟩ := h
  refine ⟨h1, ?_⟩
  rcases h2 with h2 | ⟨g, cap, cur, a1, a2, a3, a4⟩
  · exact Or.inl h2
  · refine Or.inr ⟨g, cap, cur, a1, a2, ?_, a4⟩
    have hg : g < x.heap.size := by
      rcases Nat.lt_or_ge g x.heap.size with q | q
      · exact q
      · rw [Array.getElem?_eq_none q] at a3
        exact absurd a3 (by simp)
    rw [c.block g hg (hq g (by rw [a1]; rfl))]
    exact a3
theorem own_base {x : World} {base : Nat} {e : TypeId} {size : Nat} {v : Value} {n : Nat} {xs : List Value} (h : x.ownsRow base e size v n xs) : ∀ k, v.ownBlock = some k → base ≤ k ∧ k < x.heap.size := by
  obtain ⟨h1, h2⟩ := h
  intro k hk
  rcases h2 with ⟨rfl, _⟩ | ⟨g, cap, cur, rfl, a2, a3, a4⟩
  · exact absurd hk (by simp [Value.ownBlock])
  · simp [Value.ownBlock] at hk
    subst hk
    refine ⟨a2, ?_⟩
    rcases Nat.lt_or_ge g x.heap.size with q | q
    · exact q
    · rw [Array.getElem?_eq_none q] at a3
      exact absurd a3 (by simp)
theorem turned_grown {x y : World} {row : Option Nat} (h : x.grownBy y row) : Turned (fun k => row = some k) x y := ⟨h.os, h.tape, h.output, h.size, fun k hk hq => h.block k hk (fun e => hq e.symm)⟩
/-- one cell of a row is written -/
theorem own_set {x : World} {B : Nat} {e : TypeId} {g n cap : Nat} {xs : List Value} {size : Nat} (h : x.ownsRow B e size (.slice (some ⟨g, 0, none⟩) n cap) n xs) (i : Nat) (u : Value) : (x.setCell ⟨g, i, none⟩ u).ownsRow B e size (.slice (some ⟨g, 0, none⟩) n cap) n (xs.set i u) := by
  obtain ⟨h1, h2⟩ := h
  refine ⟨by simp [h1], ?_⟩
  rcases h2 with ⟨h3, _⟩ | ⟨g', cap', cur, hv, a2, a3, a4, a5, a6, a7⟩
  · cases h3
  · cases hv
    obtain ⟨hlt, hk⟩ := Array.getElem?_eq_some_iff.1 a3
    refine Or.inr ⟨g, cap, cur.setIfInBounds i u, rfl, a2, ?_, a4, a5, by simpa using a6, ?_⟩
    · show (x.heap.modify g _)[g]? = _
      rw [Array.getElem?_eq_getElem (by rw [Array.size_modify]; exact hlt), Array.getElem_modify_self, hk]
      rfl
    · rw [Array.toList_setIfInBounds, ← a7, List.take_set]
theorem own_spl {B : Nat} {e : TypeId} {g n cap size : Nat} : ∀ (vs : List Value) (x : World) (xs : List Value) (o : Nat), x.ownsRow B e size (.slice (some ⟨g, 0, none⟩) n cap) n xs → (x.setCells g o vs).ownsRow B e size (.slice (some ⟨g, 0, none⟩) n cap) n (spl xs o vs)
  | [], _, _, _, h => h
  | v :: r, _, _, o, h => own_spl r _ _ _ (own_set h o v)
theorem turned_setCells {g : Nat} : ∀ (us : List Value) (i : Nat) (x : World), Turned (fun k => k = g) x (x.setCells g i us)
  | [], _, x => Turned.refl _ x
  | u :: us, i, x => ((Turned.refl (fun k => k = g) x).set (b := g) rfl i u).trans (turned_setCells us (i + 1) _)
/-- a row of lines, seen by its places -/
theorem own_lines {x : World} {B : Nat} {e : TypeId} {v : Value} {l : List Ln} (h : x.ownsRow B e 18 v l.length (flatL l)) : ∃ q cap, v = .slice q l.length cap ∧ (l.length ≤ cap ∧ cap ≤ maxLen) ∧ (∀ i, i < l.length → ∃ g, q = some ⟨g, 0, none⟩ ∧ B ≤ g ∧ g < x.heap.size ∧ x.rangeAt g (i * 18) (l.getD i l0).vs ∧ x.there g (i * 18) 18 ∧ x.cell? ⟨g, i * 18, none⟩ = some (.int .u32 (l.getD i l0).a) ∧ x.cell? ⟨g, i * 18 + 1, none⟩ = some (.int .i64 (l.getD i l0).s) ∧ ∀ o, x.frozen? ⟨g, o, none⟩ = false) := by
  have h0 := h
  obtain ⟨h1, h2⟩ := h
  rcases h2 with ⟨hv, hn⟩ | ⟨g, cap, cur, rfl, b2, b3, b4, b5, b6, b7⟩
  · refine ⟨none, 0, by rw [hv, hn], ⟨by omega, by unfold maxLen; omega⟩, fun i hi => by omega⟩
  · refine ⟨_, cap, rfl, ⟨b4, b5⟩, fun i hi => ⟨g, rfl, b2, (own_base h0 g rfl).2, ?_⟩⟩
    have c : ∀ j, j < 18 → ∀ u, (l.getD i l0).vs[j]? = some u → x.cell? ⟨g, i * 18 + j, none⟩ = some u := by
      intro j hj u hu
      have q := World.ownsRow.cells h0 rfl (i * 18 + j) u ((flatL_at l i j hi hj).trans hu)
      rwa [Addr.add_lit, Nat.zero_add] at q
    have hf : ∀ o, x.frozen? ⟨g, o, none⟩ = false := fun o => by simp [World.frozen?, b3]
    refine ⟨fun j v hv => ?_, fun j hj => ⟨?_, hf _⟩, c 0 (by omega) _ rfl, c 1 (by omega) _ rfl, hf⟩
    · have hj : j < (l.getD i l0).vs.length := (List.getElem?_eq_some_iff.1 hv).1
      rw [Ln.len] at hj
      exact c j hj v hv
    · rw [c j hj _ (List.getElem?_eq_getElem (by rw [Ln.len]; exact hj))]
      rfl
theorem own_cut {x : World} {B : Nat} {e : TypeId} {q : Option Addr} {m cap : Nat} {l : List Ln} (h : x.ownsRow B e 18 (.slice q l.length cap) l.length (flatL l)) (hm : m ≤ l.length) : x.ownsRow B e 18 (.slice q m cap) m (flatL (l.take m)) := by
  obtain ⟨h1, h2⟩ := h
  have hl : (l.take m).length = m := by rw [List.length_take]; omega
  refine ⟨by rw [flatL_len, hl], ?_⟩
  rcases h2 with ⟨h3, h4⟩ | ⟨g, cap', cur, hv, a2, a3, a4, a5, a6, a7⟩
  · simp only [Value.slice.injEq] at h3
    obtain ⟨rfl, h5, rfl⟩ := h3
    exact Or.inl ⟨by rw [show m = 0 by omega], by omega⟩
  · cases hv
    refine Or.inr ⟨g, _, cur, rfl, a2, a3, by omega, a5, a6, ?_⟩
    have e1 : cur.toList.take (m * 18) = (cur.toList.take (l.length * 18)).take (m * 18) := by
      rw [List.take_take, Nat.min_eq_left (by omega)]
    rw [e1, a7, flatL_take]
/-- bytes and states, written one by one -/
def Ln.setB (e : Ln) (q v : Nat) : Ln := { e with b := upd e.b q v }
def Ln.setS (e : Ln) (s : Nat) : Ln := { e with s := s }
theorem vs_setB (e : Ln) (q v : Nat) (h : q < 16) : e.vs.set (2 + q) (.int .u8 v) = (e.setB q v).vs := by
  apply List.ext_getElem?
  intro j
  by_cases hj : j = 2 + q
  · subst hj
    rw [List.getElem?_set_self (by rw [Ln.len]; omega), Ln.at2 _ _ h]
    simp [Ln.setB, upd_same]
  · rw [List.getElem?_set_ne (by omega)]
    by_cases h18 : j < 18
    · match j, hj with
      | 0, _ => rfl
      | 1, _ => rfl
      | i + 2, hj =>
        have e1 : i + 2 = 2 + i := by omega
        rw [e1, Ln.at2 _ _ (by omega), Ln.at2 _ _ (by omega)]
        simp only [Ln.setB]
        rw [upd_other _ _ _ _ (by omega)]
    · rw [List.getElem?_eq_none (by rw [Ln.len]; omega), List.getElem?_eq_none (by rw [Ln.len]; omega)]
theorem flatL_setc : ∀ (l : List Ln) (i o : Nat) (u : Value) (y : Ln), i < l.length → o < 18 → (l.getD i l0).vs.set o u = y.vs → (flatL l).set (i * 18 + o) u = flatL (l.set i y)
  | [], i, o, u, y, h, _, _ => by simp at h
  | e :: l, 0, o, u, y, _, ho, hy => by
    simp only [flatL, List.set_cons_zero, List.getD_cons_zero, Nat.zero_mul, Nat.zero_add] at hy ⊢
    rw [List.set_append, if_pos (by rw [Ln.len]; omega), hy]
  | e :: l, i + 1, o, u, y, h, ho, hy => by
    simp only [flatL, List.set_cons_succ, List.getD_cons_succ] at hy ⊢
    rw [← flatL_setc l i o u y (by simp at h; omega) ho hy]
    rw [List.set_append, if_neg (by rw [Ln.len]; omega)]
    have e2 : (i + 1) * 18 + o - e.vs.length = i * 18 + o := by rw [Ln.len]; omega
    rw [e2]
theorem flatL_setB (l : List Ln) (i q v : Nat) (hi : i < l.length) (hq : q < 16) : (flatL l).set (i * 18 + 2 + q) (.int .u8 v) = flatL (l.set i ((l.getD i l0).setB q v)) := by
  rw [Nat.add_assoc]
  exact flatL_setc l i (2 + q) _ _ hi (by omega) (vs_setB _ _ _ hq)
theorem flatL_setS (l : List Ln) (i s : Nat) (hi : i < l.length) : (flatL l).set (i * 18 + 1) (.int .i64 s) = flatL (l.set i ((l.getD i l0).setS s)) :=
  flatL_setc l i 1 _ _ hi (by omega) rfl
theorem line_info : (Tryd.prog.info? 114).map (·.size) = some 18 := by kernel_rfl
theorem below_drewN (w : World) (n : Nat) : Below w.heap.size w (w.drewN n) := ⟨rfl, rfl, rfl, Nat.le_refl _, fun _ _ => rfl⟩
theorem Turned.trans2' {Q R : Nat → Prop} {x y z : World} (h : Turned Q x y) (k : Turned R y z) (hr : ∀ i, R i → x.heap.size ≤ i) : Turned Q x z :=
  ⟨k.os.trans h.os, k.tape.trans h.tape, k.output.trans h.output, Nat.le_trans h.size k.size, fun i hi hb => (k.block i (Nat.lt_of_lt_of_le hi h.size) (fun q => by have := hr i q; omega)).trans (h.block i hi hb)⟩
/-- many lines are copied -/
theorem run_copyL (w : World) (ty : TypeId) (g o dLen dCap : Nat) (ad : Addr) (sLen sCap : Nat) (m : List Ln) (hn : m.length = Nat.min sLen dLen)
    (hsrc : m ≠ [] → ∀ j v, (flatL m)[j]? = some v → w.cell? (ad.add j) = some v) (hc : w.there g o (m.length * 18)) :
    (Builtin.copy_ #[126, 126] ty #[.slice (some ⟨g, o, none⟩) dLen dCap, .slice (some ad) sLen sCap]).run Tryd.prog w = .ok (goInt m.length) (w.setCells g o (flatL m)) := by
  have hl := run_loadCells_list (P := Tryd.prog) w ad (flatL m) (fun j v h => hsrc (fun e => by rw [e] at h; simp [flatL] at h) j v h)
  have hfl := flatL_len m
  have hst := run_storeCells_cells (P := Tryd.prog) g o (flatL m) 0 w (fun j hj => by simpa using (hc j (by omega)).1) (fun j hj => by simpa using (hc j (by omega)).2) (flatL_ones m)
  simp only [Nat.add_zero] at hst
  cases hq : Tryd.prog.info? 114 with
  | none => have := line_info; rw [hq] at this; simp at this
  | some i =>
    have hi : i.size = 18 := by have := line_info; rw [hq] at this; simpa using this
    rw [hfl] at hl
    simp [Builtin.copy_, run_underlying Tryd.underlying126, Builtin.lenOf, Builtin.firstCells, sizeOf, typeInfo, hq, hi, ← hn, hl, hst]
end Go.Proofs.YtlogdmnhngbkaaaDoor
