import Derived.Test.YtemamhkhjijdlaaGreatDoorProg
import GoSem.Claim
import GoSem.ClaimJoined
import GoSem.ClaimMapViews
import Derived.JoinedTies
import Derived.KernelRfl
import Derived.RowKit
import Derived.WalkKit
import Derived.ProofKit
import Derived.LaidMore
import Derived.OpenShut
import Derived.Lib.LaidTab
import Derived.RegionTactic
import Derived.ChangeAlike
import Derived.Maps.OwnSet
import Derived.Maps.RangeWalk

/-
  PLAIN TABLES of the chapter isa's program: a row for each operation (numbers 0 to 67), a row for each format (0 to 14). No program in sight.
-/
namespace Go.Proofs.YtemamhkhjijdlaaGreatDoor

def fmtL : List Nat := [0, 1, 1, 2, 4, 5, 5, 5, 5, 5, 5, 4, 4, 4, 4, 4, 6, 6, 6, 3, 3, 3, 3, 3, 3, 7, 7, 7, 8, 8, 8, 8, 8, 8, 8, 8, 8, 8, 8, 8, 8, 8, 8, 8, 8, 8, 10, 9, 9, 9, 9, 9, 9, 9, 9, 9, 9, 11, 12, 12, 12, 12, 13, 13, 13, 14, 14, 14]
def codeL : List Int := [0, 55, 23, 111, 103, 99, 99, 99, 99, 99, 99, 3, 3, 3, 3, 3, 35, 35, 35, 19, 19, 19, 19, 19, 19, 19, 19, 19, 51, 51, 51, 51, 51, 51, 51, 51, 51, 51, 51, 51, 51, 51, 51, 51, 51, 51, 47, 47, 47, 47, 47, 47, 47, 47, 47, 47, 47, 15, 115, 115, 115, 115, 115, 115, 115, 115, 115, 115]
def fL : List Int := [0, 0, 0, 0, 0, 0, 1, 4, 5, 6, 7, 0, 1, 2, 4, 5, 0, 1, 2, 0, 2, 3, 4, 6, 7, 1, 5, 5, 0, 0, 1, 2, 3, 4, 5, 5, 6, 7, 0, 1, 2, 3, 4, 5, 6, 7, 2, 2, 2, 2, 2, 2, 2, 2, 2, 2, 2, 0, 0, 0, 0, 0, 1, 2, 3, 5, 6, 7]
def gL : List Int := [0, 0, 0, 0, 0, 0, 0, 0, 0, 0, 0, 0, 0, 0, 0, 0, 0, 0, 0, 0, 0, 0, 0, 0, 0, 0, 0, 32, 0, 32, 0, 0, 0, 0, 0, 32, 0, 0, 1, 1, 1, 1, 1, 1, 1, 1, 2, 3, 1, 0, 4, 12, 8, 16, 20, 24, 28, 0, 0, 1, 770, 261, 0, 0, 0, 0, 0, 0]
def fmtAt (k : Nat) : Nat := fmtL.getD k 0
def codeAt (k : Nat) : Int := codeL.getD k 0
def fAt (k : Nat) : Int := fL.getD k 0
def gAt (k : Nat) : Int := gL.getD k 0
def lyFixedL : List Int := [0, 127, 127, 28799, 28799, 28799, 28799, 4261441663, 4261441663, 4160778367, 4193284223, 4027580415, 4294967295, 28799, 28799]
def lyFixed (f : Nat) : Int := lyFixedL.getD f 0
def lyGL : List Int := [0, 0, 0, 0, 0, 0, 0, 25, 25, 27, 27, 0, 20, 0, 0]
def lyG (f : Nat) : Int := lyGL.getD f 0
def lyRdL : List Bool := [false, true, true, true, true, false, false, true, true, true, true, false, false, true, true]
def lyRd (f : Nat) : Bool := lyRdL.getD f false
def lyRs1L : List Bool := [false, false, false, true, true, true, true, true, true, true, true, false, false, true, true]
def lyRs1 (f : Nat) : Bool := lyRs1L.getD f false
def lyRs2L : List Bool := [false, false, false, false, false, true, true, false, true, true, false, false, false, false, false]
def lyRs2 (f : Nat) : Bool := lyRs2L.getD f false
def lyLowL : List Int := [0, 0, (-1048576), (-2048), (-2048), (-4096), (-2048), 0, 0, 0, 0, 0, 0, 0, 0]
def lyLow (f : Nat) : Int := lyLowL.getD f 0
def lyHighL : List Int := [0, 1048575, 1048574, 2047, 2047, 4094, 2047, 31, 0, 3, 3, 255, 0, 4095, 4095]
def lyHigh (f : Nat) : Int := lyHighL.getD f 0
def lyEvenL : List Bool := [false, false, true, false, false, true, false, false, false, false, false, false, false, false, false]
def lyEven (f : Nat) : Bool := lyEvenL.getD f false
def lyClassL : List Int := [7, 0, 3, 0, 4, 2, 5, 0, 0, 6, 6, 7, 7, 7, 7]
def lyClass (f : Nat) : Int := lyClassL.getD f 0
theorem fmt_lt (k : Nat) : fmtAt k < 15 := by
  by_cases h : k < 68
  · have : ∀ k, k < 68 → fmtAt k < 15 := by decide
    exact this k h
  · unfold fmtAt; rw [List.getD_eq_getElem?_getD, List.getElem?_eq_none (by simp [fmtL]; omega)]; decide
end Go.Proofs.YtemamhkhjijdlaaGreatDoor
/-
  WHAT THE LISTED VARIABLES HOLD, CELL BY CELL: out of the row's condition.
-/
namespace Go.Proofs.YtemamhkhjijdlaaGreatDoor
open Go Go.RowKit

section
variable {H : Type} {enc : TypeId × Value → H} {P : Program} {w : World} {base : Nat} {spare : Nat → Bool} {held : Bool} {fuel : Nat} {t : TypeId} {cs : List Value} {x : DataW H × List MemPlace}
def sval : DataW H → Value
  | .lit (.int k n) => .int k n
  | .lit (.bool b) => .bool b
  | _ => .nilIface
def scalarT (P : Program) (t : TypeId) : Bool := match P.underlying t with | some (.int _) => true | some .bool => true | _ => false
theorem trod_scalar (ht : scalarT P t = true) (h : DataW.trod enc P w base spare held fuel t cs = some x) : cs = [sval x.1] := by
  unfold scalarT at ht
  split at ht
  · rename_i k hk
    obtain ⟨n, h1, h2, _⟩ := DataW.trod_int hk h
    rw [h2, h1]; rfl
  · rename_i hk
    obtain ⟨n, h1, h2⟩ := DataW.trod_bool hk h
    rw [h2, h1]; rfl
  · cases ht
def at2 (rows : List (DataW H)) (i j : Nat) : Option Value := match rows[i]? with
  | some (.agg ds) => (ds[j]?).map sval
  | _ => none
theorem cells_of_table {n sz : Nat} {e : TypeId} {fs : Array Field} {rows : List (DataW H)} {p : List MemPlace} (ht : P.underlying t = some (.array n e)) (he : P.underlying e = some (.struct fs)) (hn : fs.size = sz) (hsz : P.cellsOf e = sz)
    (hfs : ∀ (i : Nat) f, fs[i]? = some f → f.offset = i ∧ P.cellsOf f.type = 1 ∧ scalarT P f.type = true)
    (h : DataW.trod enc P w base spare held fuel t cs = some (.agg rows, p)) : ∀ i j, i < n → j < sz → cs[i * sz + j]? = at2 rows i j := by
  intro i j hi hj
  obtain ⟨xs, m, rfl, hx, hlen, hxs, hel⟩ := DataW.trod_array ht h
  have hi' := hel i hi
  have hix : i < xs.length := by omega
  rw [List.getElem?_eq_getElem hix] at hi'
  obtain ⟨ys, m', rfl, hy, hlen', hys, hf⟩ := DataW.trod_struct he hi'
  simp only [Prod.mk.injEq, DataW.agg.injEq] at hx
  have hr : rows[i]? = some (.agg (ys.map (·.1))) := by
    rw [hx.1, List.getElem?_map, List.getElem?_eq_getElem hix, Option.map_some, hy]
  unfold at2
  rw [hr]
  have hjf : j < fs.size := by omega
  obtain ⟨h1, h2, h3⟩ := hfs j fs[j] (by simp [hjf])
  have hfj := hf j fs[j] (by simp [hjf])
  have hjy : j < ys.length := by omega
  rw [List.getElem?_eq_getElem hjy, h1, h2] at hfj
  have hs := trod_scalar h3 hfj
  have := congrArg (·[0]?) hs
  rw [hsz] at this
  simp only [List.getElem?_take, List.getElem?_drop, List.getElem?_cons_zero, if_true, Nat.add_zero, Nat.zero_lt_one, hj] at this
  simp only [List.getElem?_map, List.getElem?_eq_getElem hjy, Option.map_some]
  exact this
end

theorem gBase : Tryz.prog.globalNamed "oocore/isa.baseShapes" = some 1 := by kernel_rfl
theorem gOther : Tryz.prog.globalNamed "oocore/isa.otherShapes" = some 2 := by kernel_rfl
theorem gLay : Tryz.prog.globalNamed "oocore/isa.layouts" = some 3 := by kernel_rfl
theorem tBase : (Tryz.prog.globals[1]?).map (·.type) = some 332 := by kernel_rfl
theorem tOther : (Tryz.prog.globals[2]?).map (·.type) = some 333 := by kernel_rfl
theorem tLay : (Tryz.prog.globals[3]?).map (·.type) = some 336 := by kernel_rfl

/-- What the walks lean on. -/
structure Laid (w : World) : Prop where
  b0 : ∀ k : Nat, k < 46 → w.cell? ⟨1, k * 4, none⟩ = some (.int .i64 (fmtAt k))
  b1 : ∀ k : Nat, k < 46 → w.cell? ⟨1, k * 4 + 1, none⟩ = some (.int .u32 (codeAt k))
  b2 : ∀ k : Nat, k < 46 → w.cell? ⟨1, k * 4 + 2, none⟩ = some (.int .u32 (fAt k))
  b3 : ∀ k : Nat, k < 46 → w.cell? ⟨1, k * 4 + 3, none⟩ = some (.int .u32 (gAt k))
  o0 : ∀ k : Nat, k < 22 → w.cell? ⟨2, k * 4, none⟩ = some (.int .i64 (fmtAt (46 + k)))
  o1 : ∀ k : Nat, k < 22 → w.cell? ⟨2, k * 4 + 1, none⟩ = some (.int .u32 (codeAt (46 + k)))
  o2 : ∀ k : Nat, k < 22 → w.cell? ⟨2, k * 4 + 2, none⟩ = some (.int .u32 (fAt (46 + k)))
  o3 : ∀ k : Nat, k < 22 → w.cell? ⟨2, k * 4 + 3, none⟩ = some (.int .u32 (gAt (46 + k)))
  l0 : ∀ f : Nat, f < 15 → w.cell? ⟨3, f * 9, none⟩ = some (.int .u32 (lyFixed f))
  l1 : ∀ f : Nat, f < 15 → w.cell? ⟨3, f * 9 + 1, none⟩ = some (.int .u8 (lyG f))
  l2 : ∀ f : Nat, f < 15 → w.cell? ⟨3, f * 9 + 2, none⟩ = some (.bool (lyRd f))
  l3 : ∀ f : Nat, f < 15 → w.cell? ⟨3, f * 9 + 3, none⟩ = some (.bool (lyRs1 f))
  l4 : ∀ f : Nat, f < 15 → w.cell? ⟨3, f * 9 + 4, none⟩ = some (.bool (lyRs2 f))
  l5 : ∀ f : Nat, f < 15 → w.cell? ⟨3, f * 9 + 5, none⟩ = some (.int .i64 (lyLow f))
  l6 : ∀ f : Nat, f < 15 → w.cell? ⟨3, f * 9 + 6, none⟩ = some (.int .i64 (lyHigh f))
  l7 : ∀ f : Nat, f < 15 → w.cell? ⟨3, f * 9 + 7, none⟩ = some (.bool (lyEven f))
  l8 : ∀ f : Nat, f < 15 → w.cell? ⟨3, f * 9 + 8, none⟩ = some (.int .i64 (lyClass f))
  zb : 1 < w.heap.size
  zo : 2 < w.heap.size
  zl : 3 < w.heap.size

theorem cell_here {W : World} {b o : Nat} {v : Value} (h : W.cell? ⟨b, o, none⟩ = some v) : b < W.heap.size := by
  unfold World.cell? at h
  by_cases hh : b < W.heap.size
  · exact hh
  · simp [hh] at h
theorem Hid.in {p : Prop} (h : p) : Hid p := h
theorem range_of {α : Type} (n : Nat) (a b : Nat → α) (h : (List.range n).map a = (List.range n).map b) (k : Nat) (hk : k < n) : a k = b k := by
  have := congrArg (·[k]?) h
  simpa [hk] using this


def rowsOf {H : Type} : DataW H → List (DataW H)
  | .agg l => l
  | _ => []
theorem scalarsS : ∀ (fs : Array Field), Tryz.prog.underlying 267 = some (.struct fs) → fs.size = 4 ∧ ∀ (i : Nat) f, fs[i]? = some f → f.offset = i ∧ Tryz.prog.cellsOf f.type = 1 ∧ scalarT Tryz.prog f.type = true := by
  intro fs hfs
  have h : (match Tryz.prog.underlying 267 with | some (.struct fs) => fs.size == 4 && (List.range 4).all fun i => (match fs[i]? with | some f => f.offset == i && Tryz.prog.cellsOf f.type == 1 && scalarT Tryz.prog f.type | none => true) | _ => false) = true := by kernel_rfl
  rw [hfs] at h
  simp only [Bool.and_eq_true, beq_iff_eq, List.all_eq_true, List.mem_range] at h
  refine ⟨h.1, fun i f hf => ?_⟩
  have hi : i < 4 := by rw [← h.1]; exact (Array.getElem?_eq_some_iff.1 hf).1
  have := h.2 i hi
  rw [hf] at this
  simp only [Bool.and_eq_true, beq_iff_eq] at this
  exact ⟨this.1.1, this.1.2, this.2⟩
theorem scalarsL : ∀ (fs : Array Field), Tryz.prog.underlying 335 = some (.struct fs) → fs.size = 9 ∧ ∀ (i : Nat) f, fs[i]? = some f → f.offset = i ∧ Tryz.prog.cellsOf f.type = 1 ∧ scalarT Tryz.prog f.type = true := by
  intro fs hfs
  have h : (match Tryz.prog.underlying 335 with | some (.struct fs) => fs.size == 9 && (List.range 9).all fun i => (match fs[i]? with | some f => f.offset == i && Tryz.prog.cellsOf f.type == 1 && scalarT Tryz.prog f.type | none => true) | _ => false) = true := by kernel_rfl
  rw [hfs] at h
  simp only [Bool.and_eq_true, beq_iff_eq, List.all_eq_true, List.mem_range] at h
  refine ⟨h.1, fun i f hf => ?_⟩
  have hi : i < 9 := by rw [← h.1]; exact (Array.getElem?_eq_some_iff.1 hf).1
  have := h.2 i hi
  rw [hf] at this
  simp only [Bool.and_eq_true, beq_iff_eq] at this
  exact ⟨this.1.1, this.1.2, this.2⟩

/-- It lasts: where nothing old has turned. -/
theorem Laid.below {w w' : World} (h : Laid w) (hb : Below w.heap.size w w') : Laid w' := by
  have c : ∀ b o v, w.cell? ⟨b, o, none⟩ = some v → w'.cell? ⟨b, o, none⟩ = some v := fun b o v hv => by
    rw [hb.cell (p := ⟨b, o, none⟩) (cell_here hv)]; exact hv
  exact ⟨fun k hk => c _ _ _ (h.b0 k hk), fun k hk => c _ _ _ (h.b1 k hk), fun k hk => c _ _ _ (h.b2 k hk), fun k hk => c _ _ _ (h.b3 k hk),
    fun k hk => c _ _ _ (h.o0 k hk), fun k hk => c _ _ _ (h.o1 k hk), fun k hk => c _ _ _ (h.o2 k hk), fun k hk => c _ _ _ (h.o3 k hk),
    fun k hk => c _ _ _ (h.l0 k hk), fun k hk => c _ _ _ (h.l1 k hk), fun k hk => c _ _ _ (h.l2 k hk), fun k hk => c _ _ _ (h.l3 k hk), fun k hk => c _ _ _ (h.l4 k hk),
    fun k hk => c _ _ _ (h.l5 k hk), fun k hk => c _ _ _ (h.l6 k hk), fun k hk => c _ _ _ (h.l7 k hk), fun k hk => c _ _ _ (h.l8 k hk), Nat.lt_of_lt_of_le h.zb hb.size, Nat.lt_of_lt_of_le h.zo hb.size, Nat.lt_of_lt_of_le h.zl hb.size⟩
def errV (n : Int) : Value := .iface 33 (.int .i64 n)
end Go.Proofs.YtemamhkhjijdlaaGreatDoor
/-
  BLOCKS IN MEMORY, AND WHAT TURNS THEM.
-/
namespace Go.Proofs.YtemamhkhjijdlaaGreatDoor
open Go Go.RowKit
def upd {α : Type} (c : Nat → α) (o : Nat) (v : α) : Nat → α := fun i => if i = o then v else c i
theorem upd_same {α : Type} (c : Nat → α) (o : Nat) (v : α) : upd c o v o = v := if_pos rfl
theorem upd_other {α : Type} (c : Nat → α) (o : Nat) (v : α) (i : Nat) (h : i ≠ o) : upd c o v i = c i := if_neg h
/-- a block whose first n cells read so, and may be written -/
structure CellsAt (n : Nat) (w : World) (b : Nat) (c : Nat → Value) : Prop where
  here : b < w.heap.size
  cell : ∀ o, o < n → w.cell? ⟨b, o, none⟩ = some (c o)
  free : ∀ o, w.frozen? ⟨b, o, none⟩ = false
theorem CellsAt.set {n : Nat} {w : World} {b : Nat} {c : Nat → Value} (h : CellsAt n w b c) (o : Nat) (ho : o < n) (v : Value) : CellsAt n (w.setCell ⟨b, o, none⟩ v) b (upd c o v) := by
  refine ⟨by simpa [World.setCell] using h.here, fun i hi => ?_, fun i => ?_⟩
  · unfold upd
    by_cases e : i = o
    · subst e
      rw [if_pos rfl]
      exact World.cell?_setCell_same _ _ _ (h.cell i hi)
    · rw [if_neg e, World.cell?_setCell_other _ _ _ _ (by intro q; exact e (congrArg Addr.off q).symm)]
      exact h.cell i hi
  · rw [World.frozen?_setCell]; exact h.free i
theorem CellsAt.setOther {n : Nat} {w : World} {b q : Nat} {c : Nat → Value} (h : CellsAt n w b c) (o : Nat) (v : Value) (ne : b ≠ q) : CellsAt n (w.setCell ⟨q, o, none⟩ v) b c := by
  refine ⟨by simpa [World.setCell] using h.here, fun i hi => ?_, fun i => ?_⟩
  · rw [World.cell?_setCell_other _ _ _ _ (by intro q; exact ne (congrArg Addr.block q).symm)]
    exact h.cell i hi
  · rw [World.frozen?_setCell]; exact h.free i
theorem CellsAt.below {n : Nat} {w w' : World} {b : Nat} {c : Nat → Value} (h : CellsAt n w b c) (hb : Below w.heap.size w w') : CellsAt n w' b c :=
  ⟨Nat.lt_of_lt_of_le h.here hb.size, fun i hi => (hb.cell (p := ⟨b, i, none⟩) h.here).trans (h.cell i hi), fun i => (hb.frozen (p := ⟨b, i, none⟩) h.here).trans (h.free i)⟩
theorem CellsAt.alloc {n : Nat} {w : World} {b : Nat} {c : Nat → Value} (h : CellsAt n w b c) (o : Obj) : CellsAt n (w.alloc o) b c := h.below ((Below.refl _ _).alloc (Nat.le_refl _) o)
theorem CellsAt.drew {n : Nat} {w : World} {b : Nat} {c : Nat → Value} (h : CellsAt n w b c) : CellsAt n w.drew b c := h.below (Below.refl _ _).drew
theorem CellsAt.to {n : Nat} {w : World} {b : Nat} {c d : Nat → Value} (h : CellsAt n w b c) (e : c = d) : CellsAt n w b d := e ▸ h
theorem CellsAt.ext {n : Nat} {w : World} {b : Nat} {c d : Nat → Value} (h : CellsAt n w b c) (e : ∀ o, o < n → c o = d o) : CellsAt n w b d := ⟨h.here, fun o ho => by rw [← e o ho]; exact h.cell o ho, h.free⟩
theorem cells_new {n : Nat} {c : Array Value} {t : TypeId} {g : Nat → Value} (w : World) (h : ∀ i, i < n → c[i]? = some (g i)) : CellsAt n (w.alloc (.cells c t)) w.heap.size g :=
  ⟨by simp, fun i hi => (World.cell?_alloc_new w c t i).trans (h i hi), fun i => World.frozen?_alloc_at c t _ i rfl⟩
/-- of what was there nothing but the blocks of Q has turned -/
structure Turned (Q : Nat → Prop) (w w' : World) : Prop where
  os : w'.os = w.os
  tape : w'.tape = w.tape
  output : w'.output = w.output
  size : w.heap.size ≤ w'.heap.size
  block : ∀ k, k < w.heap.size → ¬ Q k → w'.heap[k]? = w.heap[k]?
theorem Turned.refl (Q : Nat → Prop) (w : World) : Turned Q w w := ⟨rfl, rfl, rfl, Nat.le_refl _, fun _ _ _ => rfl⟩
theorem Turned.trans {Q : Nat → Prop} {x y z : World} (h : Turned Q x y) (k : Turned Q y z) : Turned Q x z :=
  ⟨k.os.trans h.os, k.tape.trans h.tape, k.output.trans h.output, Nat.le_trans h.size k.size, fun i hi hb => (k.block i (Nat.lt_of_lt_of_le hi h.size) hb).trans (h.block i hi hb)⟩
theorem Turned.mono {Q R : Nat → Prop} {x y : World} (h : Turned Q x y) (k : ∀ i, Q i → R i) : Turned R x y := ⟨h.os, h.tape, h.output, h.size, fun i hi hb => h.block i hi (fun q => hb (k i q))⟩
theorem Turned.set {Q : Nat → Prop} {x y : World} (h : Turned Q x y) {b : Nat} (hb : Q b) (o : Nat) (v : Value) : Turned Q x (y.setCell ⟨b, o, none⟩ v) :=
  h.trans ⟨rfl, rfl, rfl, by simp [World.setCell], fun k _ hk => Below.heap_setCell _ _ _ _ (fun e => hk (e ▸ hb))⟩
theorem Turned.alloc {Q : Nat → Prop} {x y : World} (h : Turned Q x y) (o : Obj) : Turned Q x (y.alloc o) :=
  h.trans ⟨rfl, rfl, rfl, by simp, fun k hk _ => Below.heap_alloc _ _ _ hk⟩
theorem Turned.drew {Q : Nat → Prop} {x y : World} (h : Turned Q x y) : Turned Q x y.drew := h.trans ⟨rfl, rfl, rfl, Nat.le_refl _, fun _ _ _ => rfl⟩
theorem Turned.of_below {Q : Nat → Prop} {x y : World} (h : Below x.heap.size x y) : Turned Q x y := ⟨h.os, h.tape, h.output, h.size, fun k hk _ => h.block k hk⟩
theorem Turned.below {Q : Nat → Prop} {B : Nat} {x y : World} (h : Turned Q x y) (hB : B ≤ x.heap.size) (hb : ∀ k, Q k → B ≤ k) : Below B x y := ⟨h.os, h.tape, h.output, h.size, fun k hk => h.block k (by omega) (fun q => by have := hb k q; omega)⟩
theorem Turned.cells {Q : Nat → Prop} {c n : Nat} {x y : World} {f : Nat → Value} (h : Turned Q x y) (k : CellsAt n x c f) (hc : ¬ Q c) : CellsAt n y c f := by
  have hb := h.block c k.here hc
  exact ⟨Nat.lt_of_lt_of_le k.here h.size, fun i hi => (World.cell?_of_block (w := x) hb).trans (k.cell i hi), fun i => (World.frozen?_of_block (w := x) hb).trans (k.free i)⟩
theorem Turned.to_cell {Q : Nat → Prop} {x y : World} {c o : Nat} {v : Value} (h : Turned Q x y) (hh : c < x.heap.size) (hc : ¬ Q c) (k : x.cell? ⟨c, o, none⟩ = some v) : y.cell? ⟨c, o, none⟩ = some v := (World.cell?_of_block (w := x) (h.block c hh hc)).trans k
theorem below2 {a b c : World} (h : Below a.heap.size a b) (k : Below b.heap.size b c) : Below a.heap.size a c := h.trans (k.mono h.size)
theorem belowU {w x : World} (h : Below w.drew.heap.size w.drew x) : Below w.heap.size w x := ⟨h.os, h.tape, h.output, h.size, h.block⟩
end Go.Proofs.YtemamhkhjijdlaaGreatDoor
/-
  A MAP OF THE PROGRAM's OWN, as a plain function of its keys.
-/
namespace Go.Proofs.YtemamhkhjijdlaaGreatDoor
open Go Go.RowKit
/-- how an element reads: as itself -/
def rdV (v : Value) : Option (DataW Value × List MemPlace) := some (.held v, [])
/-- the datum D has f's values -/
def Has (q : IntKind) (D : DataW Value) (f : Int → Option Value) : Prop := ∀ a, (Lit.int q a).wf = true → Maps.has D (.int q a) = (f a).isSome ∧ ∀ v z, f a = some v → D.atKey (.int q a) z = .held v
/-- block b is a map of at most n entries that has f's values -/
def MapAt (w : World) (k : TypeId) (q : IntKind) (b n : Nat) (f : Int → Option Value) : Prop := ∃ D, w.ownsMap Tryz.prog k rdV b n D ∧ Has q D f
def updF (f : Int → Option Value) (a : Int) (v : Option Value) : Int → Option Value := fun x => if x = a then v else f x
theorem MapAt.here {w : World} {k : TypeId} {q : IntKind} {b n : Nat} {f : Int → Option Value} (h : MapAt w k q b n f) : b < w.heap.size := by
  obtain ⟨D, h, -⟩ := h
  exact h.lt
theorem MapAt.turned {Q : Nat → Prop} {w w' : World} {k : TypeId} {q : IntKind} {b n : Nat} {f : Int → Option Value} (h : MapAt w k q b n f) (t : Turned Q w w') (hb : ¬ Q b) : MapAt w' k q b n f := by
  have hl := h.here
  obtain ⟨D, ⟨es, clock, h1, h2⟩, h3⟩ := h
  exact ⟨D, ⟨es, clock, by rw [t.block b hl hb]; exact h1, h2⟩, h3⟩
theorem MapAt.below {w w' : World} {k : TypeId} {q : IntKind} {b n : Nat} {f : Int → Option Value} (h : MapAt w k q b n f) (t : Below w.heap.size w w') : MapAt w' k q b n f := h.turned (Q := fun _ => False) (Turned.of_below t) (fun e => e)
theorem MapAt.mono {w : World} {k : TypeId} {q : IntKind} {b n m : Nat} {f : Int → Option Value} (h : MapAt w k q b n f) (hm : n ≤ m) : MapAt w k q b m f := by
  obtain ⟨D, h1, h2⟩ := h
  exact ⟨D, h1.mono hm, h2⟩
theorem map_made (w : World) (k : TypeId) (q : IntKind) : MapAt (w.alloc (.map #[] 0)) k q w.heap.size 0 (fun _ => none) :=
  ⟨.map [], World.ownsMap_made w _ k rdV, fun a _ => ⟨rfl, fun v z h => by cases h⟩⟩
section
variable {w : World} {t k e : TypeId} {q : IntKind} {b n : Nat} {f : Int → Option Value}
theorem MapAt.look (h : MapAt w k q b n f) (hk : Tryz.prog.underlying k = some (.int q)) (ht : Tryz.prog.underlying t = some (.map k e)) {z : Value} (hz : (zeroValue e).run Tryz.prog w = .ok z w) {a : Int} (ha : (Lit.int q a).wf = true) : (Instr.lookup t (.map (some b)) (.int q a) true).run Tryz.prog w = .ok (.tuple #[(f a).getD z, .bool (f a).isSome]) w := by
  obtain ⟨D, h1, h2⟩ := h
  obtain ⟨v, ps, hr, hv⟩ := h1.look_ok (Maps.int_keyed hk) ht hz (zd := .held z) (zp := []) rfl (Maps.keyOf_int_mk hk ha)
  obtain ⟨e1, e2⟩ := h2 a ha
  rw [hr, e1]
  have hv' : DataW.held v = D.atKey (.int q a) (.held z) := (Prod.mk.inj (Option.some.inj hv)).1
  cases hf : f a with
  | none =>
    rw [hf] at e1
    rw [Maps.atKey_of_not_has e1] at hv'
    rw [DataW.held.inj hv']
    rfl
  | some u =>
    rw [e2 u _ hf] at hv'
    rw [DataW.held.inj hv']
    rfl
theorem MapAt.look1 (h : MapAt w k q b n f) (hk : Tryz.prog.underlying k = some (.int q)) (ht : Tryz.prog.underlying t = some (.map k e)) {z : Value} (hz : (zeroValue e).run Tryz.prog w = .ok z w) {a : Int} (ha : (Lit.int q a).wf = true) : (Instr.lookup t (.map (some b)) (.int q a) false).run Tryz.prog w = .ok ((f a).getD z) w := by
  obtain ⟨D, h1, h2⟩ := h
  obtain ⟨v, ps, hr, hv⟩ := h1.lookup (Maps.int_keyed hk) ht hz (zd := .held z) (zp := []) rfl (Maps.keyOf_int_mk hk ha)
  obtain ⟨e1, e2⟩ := h2 a ha
  rw [hr]
  have hv' : DataW.held v = D.atKey (.int q a) (.held z) := (Prod.mk.inj (Option.some.inj hv)).1
  cases hf : f a with
  | none =>
    rw [hf] at e1
    rw [Maps.atKey_of_not_has e1] at hv'
    rw [DataW.held.inj hv']
    rfl
  | some u =>
    rw [e2 u _ hf] at hv'
    rw [DataW.held.inj hv']
    rfl
theorem int_key (q : IntKind) (a : Int) : WideAt.IsKeyLit (.int q a) := by simp [WideAt.IsKeyLit]
theorem map_turned {w' : World} (h : w.mapTurned w' b) : Turned (fun j => j = b) w w' := by
  have g := h.grown
  exact ⟨g.os, g.tape, g.output, g.size, fun i hi hn => g.block i hi (fun e => hn (Option.some.inj e))⟩
theorem MapAt.put (h : MapAt w k q b n f) (hk : Tryz.prog.underlying k = some (.int q)) (ht : Tryz.prog.underlying t = some (.map k e)) (hn : n < maxLen) {a : Int} (ha : (Lit.int q a).wf = true) (v : Value) : ∃ w', (Instr.mapUpdate t (.map (some b)) (.int q a) v).run Tryz.prog w = .ok () w' ∧ MapAt w' k q b (n + 1) (updF f a (some v)) ∧ Turned (fun j => j = b) w w' := by
  obtain ⟨D, h1, h2⟩ := h
  obtain ⟨w', hr, ho, hm⟩ := h1.store (Maps.int_keyed hk) ht hn (Maps.keyOf_int_mk hk ha) (val := v) (d := .held v) (ps := []) rfl
  refine ⟨w', hr, ⟨_, ho, fun x hx => ?_⟩, map_turned hm⟩
  unfold updF
  by_cases hxa : x = a
  · subst hxa
    rw [if_pos rfl]
    exact ⟨Maps.has_put_same h1.isMap (int_key q x) _, fun u z hu => by rw [Maps.atKey_put_same h1.isMap (int_key q x), Option.some.inj hu]⟩
  · rw [if_neg hxa]
    have hne : (Lit.int q x) ≠ .int q a := fun e => hxa (by cases e; rfl)
    rw [Maps.has_put_other hne]
    exact ⟨(h2 x hx).1, fun u z hu => by rw [Maps.atKey_put_other hne]; exact (h2 x hx).2 u z hu⟩
end
end Go.Proofs.YtemamhkhjijdlaaGreatDoor
/-
  THE WALKS OF THE PROGRAM's SMALL FUNCTIONS.
-/
namespace Go.Proofs.YtemamhkhjijdlaaGreatDoor
open Go Go.RowKit
theorem class_any (f : Nat) (hf : f < 15) (w : World) (hL : Laid w) : Calls Tryz.prog 221 #[.int .i64 f] w fun e w' => e = .returned (.int .i64 (lyClass f)) ∧ w' = w := by
  have h8 := hL.l8 f hf
  clear hL
  go_enter Tryz.func221, Tryz.ntmps221
  go_wp2
  go_ret
  exact ⟨rfl, rfl⟩
def rf (f : Nat) : Bool := lyRs1 f && !(f == 14)
theorem readsFirst_any (f : Nat) (hf : f < 15) (w : World) (hL : Laid w) : Calls Tryz.prog 316 #[.int .i64 f] w fun e w' => e = .returned (.bool (rf f)) ∧ w' = w := by
  have h8 := hL.l3 f hf
  clear hL
  cases h1 : lyRs1 f
  · rw [h1] at h8
    have e : rf f = false := by unfold rf; rw [h1]; rfl
    rw [e]; clear e h1
    go_enter Tryz.func316, Tryz.ntmps316
    go_wp2
    go_ret
    exact ⟨rfl, rfl⟩
  · rw [h1] at h8
    have e : rf f = !(f == 14) := by unfold rf; rw [h1]; rfl
    rw [e]; clear e h1
    by_cases h14 : f = 14
    · subst h14
      go_enter Tryz.func316, Tryz.ntmps316
      go_wp2
      go_ret
      exact ⟨rfl, rfl⟩
    · have h15 : ((f : Int) != 14) = true := by simp; omega
      have h16 : (f == 14) = false := by simp; omega
      rw [h16]; clear h14 h16
      go_enter Tryz.func316, Tryz.ntmps316
      go_wp2
      go_ret
      exact ⟨rfl, rfl⟩
theorem readsSecond_any (f : Nat) (hf : f < 15) (w : World) (hL : Laid w) : Calls Tryz.prog 317 #[.int .i64 f] w fun e w' => e = .returned (.bool (lyRs2 f)) ∧ w' = w := by
  have h8 := hL.l4 f hf
  clear hL
  go_enter Tryz.func317, Tryz.ntmps317
  go_wp2
  go_ret
  exact ⟨rfl, rfl⟩
theorem writes_any (f : Nat) (hf : f < 15) (w : World) (hL : Laid w) : Calls Tryz.prog 255 #[.int .i64 f] w fun e w' => e = .returned (.bool (lyRd f)) ∧ w' = w := by
  have h8 := hL.l2 f hf
  clear hL
  go_enter Tryz.func255, Tryz.ntmps255
  go_wp2
  go_ret
  exact ⟨rfl, rfl⟩
theorem fixed_any (f : Nat) (hf : f < 15) (w : World) (hL : Laid w) : Calls Tryz.prog 179 #[.int .i64 f] w fun e w' => e = .returned (.int .u32 (lyFixed f)) ∧ w' = w := by
  have h8 := hL.l0 f hf
  clear hL
  go_enter Tryz.func179, Tryz.ntmps179
  go_wp2
  go_ret
  exact ⟨rfl, rfl⟩
theorem gPlace_any (f : Nat) (hf : f < 15) (w : World) (hL : Laid w) : Calls Tryz.prog 236 #[.int .i64 f] w fun e w' => e = .returned (.int .u8 (lyG f)) ∧ w' = w := by
  have h8 := hL.l1 f hf
  clear hL
  go_enter Tryz.func236, Tryz.ntmps236
  go_wp2
  go_ret
  exact ⟨rfl, rfl⟩
/-- an operation's row, as a value -/
def shapeV (k : Nat) : Value := .agg #[.int .i64 (fmtAt k), .int .u32 (codeAt k), .int .u32 (fAt k), .int .u32 (gAt k)]
def opN (op : Int) : Nat := if op ≤ 0 ∨ 67 < op then 0 else op.toNat
theorem shapeV_none : shapeV 0 = .agg #[.int .i64 0, .int .u32 0, .int .u32 0, .int .u32 0] := rfl
theorem shapeOf_none (op : Int) (w : World) (h : op ≤ 0 ∨ 67 < op) : Calls Tryz.prog 111 #[.int .i64 op] w fun e w' => e = .returned (shapeV 0) ∧ Below w.heap.size w w' := by
  rw [shapeV_none]
  by_cases h1 : op ≤ 0
  · clear h
    go_enter Tryz.func111, Tryz.ntmps111
    go_wp2
    exact bodyPost_ret (v := .agg #[.int .i64 0, .int .u32 0, .int .u32 0, .int .u32 0]) (by simp [results, Tryz.results111, go_sem]) rfl ⟨rfl, (Below.refl _ _).alloc (Nat.le_refl _) _⟩
  · have h2 : 67 < op := by omega
    clear h
    go_enter Tryz.func111, Tryz.ntmps111
    go_wp2
    exact bodyPost_ret (v := .agg #[.int .i64 0, .int .u32 0, .int .u32 0, .int .u32 0]) (by simp [results, Tryz.results111, go_sem]) rfl ⟨rfl, (Below.refl _ _).alloc (Nat.le_refl _) _⟩
theorem shapeOf_base (k : Nat) (w : World) (hL : Laid w) (h1 : 1 ≤ k) (h2 : k < 46) : Calls Tryz.prog 111 #[.int .i64 k] w fun e w' => e = .returned (shapeV k) ∧ Below w.heap.size w w' := by
  unfold shapeV
  have c0 := hL.b0 k h2
  have c1 := hL.b1 k h2
  have c2 := hL.b2 k h2
  have c3 := hL.b3 k h2
  have z0 : 1 < w.heap.size := hL.zb
  have z1 : 2 < w.heap.size := hL.zo
  clear hL
  go_enter Tryz.func111, Tryz.ntmps111
  go_wp2
  exact bodyPost_ret (v := .agg #[.int .i64 (fmtAt k), .int .u32 (codeAt k), .int .u32 (fAt k), .int .u32 (gAt k)]) (by simp [results, Tryz.results111, go_sem]) rfl ⟨rfl, (Below.refl _ _).alloc (Nat.le_refl _) _⟩
theorem shapeOf_other (k : Nat) (w : World) (hL : Laid w) (h2 : k < 22) : Calls Tryz.prog 111 #[.int .i64 (46 + k : Nat)] w fun e w' => e = .returned (shapeV (46 + k)) ∧ Below w.heap.size w w' := by
  unfold shapeV
  have c0 := hL.o0 k h2
  have c1 := hL.o1 k h2
  have c2 := hL.o2 k h2
  have c3 := hL.o3 k h2
  have z0 : 1 < w.heap.size := hL.zb
  have z1 : 2 < w.heap.size := hL.zo
  clear hL
  go_enter Tryz.func111, Tryz.ntmps111
  go_wp2
  exact bodyPost_ret (v := .agg #[.int .i64 (fmtAt (46 + k)), .int .u32 (codeAt (46 + k)), .int .u32 (fAt (46 + k)), .int .u32 (gAt (46 + k))]) (by simp [results, Tryz.results111, go_sem]) rfl ⟨rfl, (Below.refl _ _).alloc (Nat.le_refl _) _⟩
theorem shapeOf_any (op : Int) (w : World) (hL : Laid w) : Calls Tryz.prog 111 #[.int .i64 op] w fun e w' => e = .returned (shapeV (opN op)) ∧ Below w.heap.size w w' := by
  by_cases h : op ≤ 0 ∨ 67 < op
  · rw [show opN op = 0 by unfold opN; rw [if_pos h]]
    exact shapeOf_none op w h
  · rw [show opN op = op.toNat by unfold opN; rw [if_neg h]]
    obtain ⟨k, rfl⟩ : ∃ k : Nat, op = k := ⟨op.toNat, by omega⟩
    rw [Int.toNat_natCast]
    by_cases h2 : k < 46
    · exact shapeOf_base k w hL (by omega) h2
    · obtain ⟨j, rfl⟩ : ∃ j : Nat, k = 46 + j := ⟨k - 46, by omega⟩
      exact shapeOf_other j w hL (by omega)
def classOf (k : Nat) : Int := if k = 4 then 3 else if fmtAt k = 8 ∧ gAt k = 1 then 1 else lyClass (fmtAt k)
end Go.Proofs.YtemamhkhjijdlaaGreatDoor
/-
  RENAME: names of registers, plainly; the program's table in memory.
-/
namespace Go.Proofs.YtemamhkhjijdlaaGreatDoor
open Go Go.RowKit
/-- a table of names: of each register its name, what is held, what is free in its order -/
structure NT where
  name : Nat → Nat
  held : Nat → Bool
  free : List Nat
/-- a table's cells: h: where its row 'held' lies, of n names -/
def encT (name ring : Nat → Nat) (first len h n : Nat) (o : Nat) : Value :=
  if o < 32 then .int .i64 (name o) else if o = 32 then .slice (some ⟨h, 0, none⟩) n n else if o < 161 then .int .i64 (ring (o - 33)) else if o = 161 then .int .i64 first else .int .i64 len
/-- how a list lies in a ring of 128 -/
structure Ring (ring : Nat → Nat) (first : Nat) (l : List Nat) : Prop where
  low : first < 128
  room : l.length ≤ 128
  at' : ∀ k, k < l.length → ring ((first + k) % 128) = l.getD k 0
structure Tab (w : World) (p h n : Nat) (A : NT) : Prop where
  rows : ∃ ring first, Ring ring first A.free ∧ CellsAt 163 w p (encT A.name ring first A.free.length h n)
  held : CellsAt n w h (fun k => .bool (A.held k))
  ne : p ≠ h
theorem Tab.below {w w' : World} {p h n : Nat} {A : NT} (t : Tab w p h n A) (hb : Below w.heap.size w w') : Tab w' p h n A := by
  obtain ⟨⟨ring, first, hr, hc⟩, hh, ne⟩ := t
  exact ⟨⟨ring, first, hr, hc.below hb⟩, hh.below hb, ne⟩
theorem Tab.turned {Q : Nat → Prop} {w w' : World} {p h n : Nat} {A : NT} (t : Tab w p h n A) (k : Turned Q w w') (hp : ¬ Q p) (hh : ¬ Q h) : Tab w' p h n A := by
  obtain ⟨⟨ring, first, hr, hc⟩, hd, ne⟩ := t
  exact ⟨⟨ring, first, hr, k.cells hc hp⟩, k.cells hd hh, ne⟩
theorem Ring.push {ring : Nat → Nat} {first : Nat} {l : List Nat} (h : Ring ring first l) (hl : l.length < 128) (x : Nat) : Ring (upd ring ((first + l.length) % 128) x) first (l ++ [x]) := by
  obtain ⟨h1, h2, h3⟩ := h
  refine ⟨h1, by simp; omega, fun k hk => ?_⟩
  simp at hk
  by_cases e : k = l.length
  · subst e
    rw [upd_same]
    simp [List.getD]
  · rw [upd_other _ _ _ _ (by omega), h3 k (by omega)]
    simp only [List.getD]
    rw [List.getElem?_append_left (by omega)]
theorem Ring.cons {ring : Nat → Nat} {first : Nat} {l : List Nat} (h : Ring ring first l) (hl : l.length < 128) (x : Nat) : Ring (upd ring ((first + 127) % 128) x) ((first + 127) % 128) (x :: l) := by
  obtain ⟨h1, h2, h3⟩ := h
  refine ⟨by omega, by simp; omega, fun k hk => ?_⟩
  simp at hk
  by_cases e : k = 0
  · subst e
    have : ((first + 127) % 128 + 0) % 128 = (first + 127) % 128 := by omega
    rw [this, upd_same]
    rfl
  · obtain ⟨j, rfl⟩ : ∃ j, k = j + 1 := ⟨k - 1, by omega⟩
    have e2 : ((first + 127) % 128 + (j + 1)) % 128 = (first + j) % 128 := by omega
    rw [e2, upd_other _ _ _ _ (by omega), h3 j (by omega)]
    rfl
theorem Ring.tail {ring : Nat → Nat} {first x : Nat} {l : List Nat} (h : Ring ring first (x :: l)) : ring first = x ∧ Ring ring ((first + 1) % 128) l := by
  obtain ⟨h1, h2, h3⟩ := h
  simp at h2
  constructor
  · have := h3 0 (by simp)
    rw [Nat.add_zero, Nat.mod_eq_of_lt h1] at this
    exact this
  · refine ⟨by omega, by omega, fun k hk => ?_⟩
    have := h3 (k + 1) (by simp; omega)
    have e2 : ((first + 1) % 128 + k) % 128 = (first + (k + 1)) % 128 := by omega
    rw [e2, this]
    rfl
theorem encT_name (name ring : Nat → Nat) (first len h n r v : Nat) (hr : r < 32) : upd (encT name ring first len h n) r (.int .i64 v) = encT (upd name r v) ring first len h n := by
  funext o
  unfold upd encT
  by_cases e : o = r
  · subst e; simp [hr]
  · simp [e]
theorem encT_ring (name ring : Nat → Nat) (first len h n r v : Nat) (hr : r < 128) : upd (encT name ring first len h n) (33 + r) (.int .i64 v) = encT name (upd ring r v) first len h n := by
  funext o
  unfold upd encT
  by_cases e : o = 33 + r
  · subst e
    rw [if_pos rfl, if_neg (by omega), if_neg (by omega), if_pos (by omega)]
    show _ = Value.int .i64 ((if 33 + r - 33 = r then v else ring (33 + r - 33) : Nat) : Int)
    rw [if_pos (by omega)]
  · rw [if_neg e]
    by_cases e1 : o < 32
    · rw [if_pos e1, if_pos e1]
    · rw [if_neg e1, if_neg e1]
      by_cases e2 : o = 32
      · rw [if_pos e2, if_pos e2]
      · rw [if_neg e2, if_neg e2]
        by_cases e3 : o < 161
        · rw [if_pos e3, if_pos e3]
          show _ = Value.int .i64 ((if o - 33 = r then v else ring (o - 33) : Nat) : Int)
          rw [if_neg (by omega)]
        · rw [if_neg e3, if_neg e3]
theorem encT_first (name ring : Nat → Nat) (first len h n v : Nat) : upd (encT name ring first len h n) 161 (.int .i64 v) = encT name ring v len h n := by
  funext o
  unfold upd encT
  by_cases e : o = 161
  · subst e; simp
  · simp [e]
theorem encT_len (name ring : Nat → Nat) (first len h n v : Nat) : ∀ o, o < 163 → upd (encT name ring first len h n) 162 (.int .i64 v) o = encT name ring first v h n o := by
  intro o ho
  unfold upd encT
  by_cases e : o = 162
  · subst e; simp
  · have : o < 162 := by omega
    rw [if_neg e]
    by_cases e1 : o < 32
    · rw [if_pos e1, if_pos e1]
    · rw [if_neg e1, if_neg e1]
      by_cases e2 : o = 32
      · rw [if_pos e2, if_pos e2]
      · rw [if_neg e2, if_neg e2]
        by_cases e3 : o < 161
        · rw [if_pos e3, if_pos e3]
        · rw [if_neg e3, if_neg e3, if_pos (by omega), if_pos (by omega)]
end Go.Proofs.YtemamhkhjijdlaaGreatDoor
