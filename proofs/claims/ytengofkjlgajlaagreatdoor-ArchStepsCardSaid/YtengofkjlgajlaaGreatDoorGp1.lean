import Derived.Test.YtengofkjlgajlaaGreatDoorRows
import Derived.WalkKit
import Derived.ProofKit
import Derived.LaidMore
import Derived.OpenShut
import Derived.Lib.LaidTab

/-
  PLAIN TABLES of the chapter isa's program: a row for each operation (numbers 0 to 67), a row for each format (0 to 14). No program in sight.
-/
namespace Go.Proofs.YtengofkjlgajlaaGreatDoor

def fmtL : List Nat := [0, 1, 1, 2, 4, 5, 5, 5, 5, 5, 5, 4, 4, 4, 4, 4, 6, 6, 6, 3, 3, 3, 3, 3, 3, 7, 7, 7, 8, 8, 8, 8, 8, 8, 8, 8, 8, 8, 8, 8, 8, 8, 8, 8, 8, 8, 10, 9, 9, 9, 9, 9, 9, 9, 9, 9, 9, 11, 12, 12, 12, 12, 13, 13, 13, 14, 14, 14]
def codeL : List Int := [0, 55, 23, 111, 103, 99, 99, 99, 99, 99, 99, 3, 3, 3, 3, 3, 35, 35, 35, 19, 19, 19, 19, 19, 19, 19, 19, 19, 51, 51, 51, 51, 51, 51, 51, 51, 51, 51, 51, 51, 51, 51, 51, 51, 51, 51, 47, 47, 47, 47, 47, 47, 47, 47, 47, 47, 47, 15, 115, 115, 115, 115, 115, 115, 115, 115, 115, 115]
def fL : List Int := [0, 0, 0, 0, 0, 0, 1, 4, 5, 6, 7, 0, 1, 2, 4, 5, 0, 1, 2, 0, 2, 3, 4, 6, 7, 1, 5, 5, 0, 0, 1, 2, 3, 4, 5, 5, 6, 7, 0, 1, 2, 3, 4, 5, 6, 7, 2, 2, 2, 2, 2, 2, 2, 2, 2, 2, 2, 0, 0, 0, 0, 0, 1, 2, 3, 5, 6, 7]
def gL : List Int := [0, 0, 0, 0, 0, 0, 0, 0, 0, 0, 0, 0, 0, 0, 0, 0, 0, 0, 0, 0, 0, 0, 0, 0, 0, 0, 0, 32, 0, 32, 0, 0, 0, 0, 0, 32, 0, 0, 1, 1, 1, 1, 1, 1, 1, 1, 2, 3, 1, 0, 4, 12, 8, 16, 20, 24, 28, 0, 0, 1, 770, 261, 0, 0, 0, 0, 0, 0]
def fmtAt (k : Nat) : Nat := fmtL.getD k 0
def codeAt (k : Nat) : Int := codeL.getD k 0
def fAt (k : Nat) : Int := fL.getD k 0
def gAt (k : Nat) : Int := gL.getD k 0
def lyFixedL : List Int := [0, 127, 127, 28799, 28799, 28799, 28799, 4261441663, 4261441663, 4160778367, 4193284223, 4027580415, 4294967295, 28799, 28799]
def lyFixed (f : Nat) : Int := lyFixedL.getD f 0
def lyGL : List Int := [0, 0, 0, 0, 0, 0, 0, 25, 25, 27, 27, 0, 20, 0, 0]
def lyG (f : Nat) : Int := lyGL.getD f 0
def lyRdL : List Bool := [false, true, true, true, true, false, false, true, true, true, true, false, false, true, true]
def lyRd (f : Nat) : Bool := lyRdL.getD f false
def lyRs1L : List Bool := [false, false, false, true, true, true, true, true, true, true, true, false, false, true, true]
def lyRs1 (f : Nat) : Bool := lyRs1L.getD f false
def lyRs2L : List Bool := [false, false, false, false, false, true, true, false, true, true, false, false, false, false, false]
def lyRs2 (f : Nat) : Bool := lyRs2L.getD f false
def lyLowL : List Int := [0, 0, (-1048576), (-2048), (-2048), (-4096), (-2048), 0, 0, 0, 0, 0, 0, 0, 0]
def lyLow (f : Nat) : Int := lyLowL.getD f 0
def lyHighL : List Int := [0, 1048575, 1048574, 2047, 2047, 4094, 2047, 31, 0, 3, 3, 255, 0, 4095, 4095]
def lyHigh (f : Nat) : Int := lyHighL.getD f 0
def lyEvenL : List Bool := [false, false, true, false, false, true, false, false, false, false, false, false, false, false, false]
def lyEven (f : Nat) : Bool := lyEvenL.getD f false
def lyClassL : List Int := [7, 0, 3, 0, 4, 2, 5, 0, 0, 6, 6, 7, 7, 7, 7]
def lyClass (f : Nat) : Int := lyClassL.getD f 0
theorem fmt_lt (k : Nat) : fmtAt k < 15 := by
  by_cases h : k < 68
  · have : ∀ k, k < 68 → fmtAt k < 15 := by decide
    exact this k h
  · unfold fmtAt; rw [List.getD_eq_getElem?_getD, List.getElem?_eq_none (by simp [fmtL]; omega)]; decide
end Go.Proofs.YtengofkjlgajlaaGreatDoor
/-
  WHAT THE LISTED VARIABLES HOLD, CELL BY CELL: out of the row's condition.
-/
namespace Go.Proofs.YtengofkjlgajlaaGreatDoor
open Go Go.RowKit

section
variable {H : Type} {enc : TypeId × Value → H} {P : Program} {w : World} {base : Nat} {spare : Nat → Bool} {held : Bool} {fuel : Nat} {t : TypeId} {cs : List Value} {x : DataW H × List MemPlace}
def sval : DataW H → Value
  | .lit (.int k n) => .int k n
  | .lit (.bool b) => .bool b
  | _ => .nilIface
def scalarT (P : Program) (t : TypeId) : Bool := match P.underlying t with | some (.int _) => true | some .bool => true | _ => false
theorem trod_scalar (ht : scalarT P t = true) (h : DataW.trod enc P w base spare held fuel t cs = some x) : cs = [sval x.1] := by
  unfold scalarT at ht
  split at ht
  · rename_i k hk
    obtain ⟨n, h1, h2, _⟩ := DataW.trod_int hk h
    rw [h2, h1]; rfl
  · rename_i hk
    obtain ⟨n, h1, h2⟩ := DataW.trod_bool hk h
    rw [h2, h1]; rfl
  · cases ht
def at2 (rows : List (DataW H)) (i j : Nat) : Option Value := match rows[i]? with
  | some (.agg ds) => (ds[j]?).map sval
  | _ => none
theorem cells_of_table {n sz : Nat} {e : TypeId} {fs : Array Field} {rows : List (DataW H)} {p : List MemPlace} (ht : P.underlying t = some (.array n e)) (he : P.underlying e = some (.struct fs)) (hn : fs.size = sz) (hsz : P.cellsOf e = sz)
    (hfs : ∀ (i : Nat) f, fs[i]? = some f → f.offset = i ∧ P.cellsOf f.type = 1 ∧ scalarT P f.type = true)
    (h : DataW.trod enc P w base spare held fuel t cs = some (.agg rows, p)) : ∀ i j, i < n → j < sz → cs[i * sz + j]? = at2 rows i j := by
  intro i j hi hj
  obtain ⟨xs, m, rfl, hx, hlen, hxs, hel⟩ := DataW.trod_array ht h
  have hi' := hel i hi
  have hix : i < xs.length := by omega
  rw [List.getElem?_eq_getElem hix] at hi'
  obtain ⟨ys, m', rfl, hy, hlen', hys, hf⟩ := DataW.trod_struct he hi'
  simp only [Prod.mk.injEq, DataW.agg.injEq] at hx
  have hr : rows[i]? = some (.agg (ys.map (·.1))) := by
    rw [hx.1, List.getElem?_map, List.getElem?_eq_getElem hix, Option.map_some, hy]
  unfold at2
  rw [hr]
  have hjf : j < fs.size := by omega
  obtain ⟨h1, h2, h3⟩ := hfs j fs[j] (by simp [hjf])
  have hfj := hf j fs[j] (by simp [hjf])
  have hjy : j < ys.length := by omega
  rw [List.getElem?_eq_getElem hjy, h1, h2] at hfj
  have hs := trod_scalar h3 hfj
  have := congrArg (·[0]?) hs
  rw [hsz] at this
  simp only [List.getElem?_take, List.getElem?_drop, List.getElem?_cons_zero, if_true, Nat.add_zero, Nat.zero_lt_one, hj] at this
  simp only [List.getElem?_map, List.getElem?_eq_getElem hjy, Option.map_some]
  exact this
end

theorem gBase : Tryz.prog.globalNamed "oocore/isa.baseShapes" = some 1 := by kernel_rfl
theorem gOther : Tryz.prog.globalNamed "oocore/isa.otherShapes" = some 2 := by kernel_rfl
theorem gLay : Tryz.prog.globalNamed "oocore/isa.layouts" = some 3 := by kernel_rfl
theorem tBase : (Tryz.prog.globals[1]?).map (·.type) = some 187 := by kernel_rfl
theorem tOther : (Tryz.prog.globals[2]?).map (·.type) = some 188 := by kernel_rfl
theorem tLay : (Tryz.prog.globals[3]?).map (·.type) = some 191 := by kernel_rfl

/-- What the walks lean on. -/
structure Laid (w : World) : Prop where
  b0 : ∀ k : Nat, k < 46 → w.cell? ⟨1, k * 4, none⟩ = some (.int .i64 (fmtAt k))
  b1 : ∀ k : Nat, k < 46 → w.cell? ⟨1, k * 4 + 1, none⟩ = some (.int .u32 (codeAt k))
  b2 : ∀ k : Nat, k < 46 → w.cell? ⟨1, k * 4 + 2, none⟩ = some (.int .u32 (fAt k))
  b3 : ∀ k : Nat, k < 46 → w.cell? ⟨1, k * 4 + 3, none⟩ = some (.int .u32 (gAt k))
  o0 : ∀ k : Nat, k < 22 → w.cell? ⟨2, k * 4, none⟩ = some (.int .i64 (fmtAt (46 + k)))
  o1 : ∀ k : Nat, k < 22 → w.cell? ⟨2, k * 4 + 1, none⟩ = some (.int .u32 (codeAt (46 + k)))
  o2 : ∀ k : Nat, k < 22 → w.cell? ⟨2, k * 4 + 2, none⟩ = some (.int .u32 (fAt (46 + k)))
  o3 : ∀ k : Nat, k < 22 → w.cell? ⟨2, k * 4 + 3, none⟩ = some (.int .u32 (gAt (46 + k)))
  l0 : ∀ f : Nat, f < 15 → w.cell? ⟨3, f * 9, none⟩ = some (.int .u32 (lyFixed f))
  l1 : ∀ f : Nat, f < 15 → w.cell? ⟨3, f * 9 + 1, none⟩ = some (.int .u8 (lyG f))
  l2 : ∀ f : Nat, f < 15 → w.cell? ⟨3, f * 9 + 2, none⟩ = some (.bool (lyRd f))
  l3 : ∀ f : Nat, f < 15 → w.cell? ⟨3, f * 9 + 3, none⟩ = some (.bool (lyRs1 f))
  l4 : ∀ f : Nat, f < 15 → w.cell? ⟨3, f * 9 + 4, none⟩ = some (.bool (lyRs2 f))
  l5 : ∀ f : Nat, f < 15 → w.cell? ⟨3, f * 9 + 5, none⟩ = some (.int .i64 (lyLow f))
  l6 : ∀ f : Nat, f < 15 → w.cell? ⟨3, f * 9 + 6, none⟩ = some (.int .i64 (lyHigh f))
  l7 : ∀ f : Nat, f < 15 → w.cell? ⟨3, f * 9 + 7, none⟩ = some (.bool (lyEven f))
  l8 : ∀ f : Nat, f < 15 → w.cell? ⟨3, f * 9 + 8, none⟩ = some (.int .i64 (lyClass f))
  zb : 1 < w.heap.size
  zo : 2 < w.heap.size
  zl : 3 < w.heap.size

theorem cell_here {W : World} {b o : Nat} {v : Value} (h : W.cell? ⟨b, o, none⟩ = some v) : b < W.heap.size := by
  unfold World.cell? at h
  by_cases hh : b < W.heap.size
  · exact hh
  · simp [hh] at h
theorem Hid.in {p : Prop} (h : p) : Hid p := h
theorem range_of {α : Type} (n : Nat) (a b : Nat → α) (h : (List.range n).map a = (List.range n).map b) (k : Nat) (hk : k < n) : a k = b k := by
  have := congrArg (·[k]?) h
  simpa [hk] using this

abbrev laid3 : List (String × DataW Unit) := [("oocore/isa.layouts", Rows.laid_oocore_isa_layouts), ("oocore/isa.baseShapes", Rows.laid_oocore_isa_baseShapes), ("oocore/isa.otherShapes", Rows.laid_oocore_isa_otherShapes)]

def rowsOf {H : Type} : DataW H → List (DataW H)
  | .agg l => l
  | _ => []
theorem scalarsS : ∀ (fs : Array Field), Tryz.prog.underlying 153 = some (.struct fs) → fs.size = 4 ∧ ∀ (i : Nat) f, fs[i]? = some f → f.offset = i ∧ Tryz.prog.cellsOf f.type = 1 ∧ scalarT Tryz.prog f.type = true := by
  intro fs hfs
  have h : (match Tryz.prog.underlying 153 with | some (.struct fs) => fs.size == 4 && (List.range 4).all fun i => (match fs[i]? with | some f => f.offset == i && Tryz.prog.cellsOf f.type == 1 && scalarT Tryz.prog f.type | none => true) | _ => false) = true := by kernel_rfl
  rw [hfs] at h
  simp only [Bool.and_eq_true, beq_iff_eq, List.all_eq_true, List.mem_range] at h
  refine ⟨h.1, fun i f hf => ?_⟩
  have hi : i < 4 := by rw [← h.1]; exact (Array.getElem?_eq_some_iff.1 hf).1
  have := h.2 i hi
  rw [hf] at this
  simp only [Bool.and_eq_true, beq_iff_eq] at this
  exact ⟨this.1.1, this.1.2, this.2⟩
theorem scalarsL : ∀ (fs : Array Field), Tryz.prog.underlying 190 = some (.struct fs) → fs.size = 9 ∧ ∀ (i : Nat) f, fs[i]? = some f → f.offset = i ∧ Tryz.prog.cellsOf f.type = 1 ∧ scalarT Tryz.prog f.type = true := by
  intro fs hfs
  have h : (match Tryz.prog.underlying 190 with | some (.struct fs) => fs.size == 9 && (List.range 9).all fun i => (match fs[i]? with | some f => f.offset == i && Tryz.prog.cellsOf f.type == 1 && scalarT Tryz.prog f.type | none => true) | _ => false) = true := by kernel_rfl
  rw [hfs] at h
  simp only [Bool.and_eq_true, beq_iff_eq, List.all_eq_true, List.mem_range] at h
  refine ⟨h.1, fun i f hf => ?_⟩
  have hi : i < 9 := by rw [← h.1]; exact (Array.getElem?_eq_some_iff.1 hf).1
  have := h.2 i hi
  rw [hf] at this
  simp only [Bool.and_eq_true, beq_iff_eq] at this
  exact ⟨this.1.1, this.1.2, this.2⟩

set_option maxRecDepth 100000 in
theorem of_laid {W : World} (h : laidMetH Tryz.prog laid3 W) : Laid W := by
  rw [MakeChecks.laidMetH_plain _ _ _ (by kernel_rfl)] at h
  obtain ⟨ps, ⟨g0, t0, cs0, f0, p0, q0, hg0, ht0, hv0, hd0, ⟨g1, t1, cs1, f1, p1, q1, hg1, ht1, hv1, hd1, ⟨g2, t2, cs2, f2, p2, q2, hg2, ht2, hv2, hd2, _, _⟩, _⟩, _⟩, _, _⟩ := h
  obtain rfl := Option.some.inj (gLay.symm.trans hg0)
  obtain rfl := Option.some.inj (gBase.symm.trans hg1)
  obtain rfl := Option.some.inj (gOther.symm.trans hg2)
  obtain rfl := Option.some.inj (tLay.symm.trans ht0)
  obtain rfl := Option.some.inj (tBase.symm.trans ht1)
  obtain rfl := Option.some.inj (tOther.symm.trans ht2)
  have hL := cells_of_table (rows := rowsOf Rows.laid_oocore_isa_layouts) (sz := 9) Tryz.underlying191 Tryz.underlying190 (scalarsL _ Tryz.underlying190).1 (by kernel_rfl) (scalarsL _ Tryz.underlying190).2 hd0
  have hB := cells_of_table (rows := rowsOf Rows.laid_oocore_isa_baseShapes) (sz := 4) Tryz.underlying187 Tryz.underlying153 (scalarsS _ Tryz.underlying153).1 (by kernel_rfl) (scalarsS _ Tryz.underlying153).2 hd1
  have hO := cells_of_table (rows := rowsOf Rows.laid_oocore_isa_otherShapes) (sz := 4) Tryz.underlying188 Tryz.underlying153 (scalarsS _ Tryz.underlying153).1 (by kernel_rfl) (scalarsS _ Tryz.underlying153).2 hd2
  have cL : ∀ i j, i < 15 → j < 9 → W.cell? ⟨3, i * 9 + j, none⟩ = at2 (rowsOf (Rows.laid_oocore_isa_layouts (H := Unit))) i j := fun i j hi hj => by
    rw [World.var?_cell hg0 hv0, ← hL i j hi hj]; simp
  have cB : ∀ i j, i < 46 → j < 4 → W.cell? ⟨1, i * 4 + j, none⟩ = at2 (rowsOf (Rows.laid_oocore_isa_baseShapes (H := Unit))) i j := fun i j hi hj => by
    rw [World.var?_cell hg1 hv1, ← hB i j hi hj]; simp
  have cO : ∀ i j, i < 22 → j < 4 → W.cell? ⟨2, i * 4 + j, none⟩ = at2 (rowsOf (Rows.laid_oocore_isa_otherShapes (H := Unit))) i j := fun i j hi hj => by
    rw [World.var?_cell hg2 hv2, ← hO i j hi hj]; simp
  clear hL hB hO hd0 hd1 hd2 hv0 hv1 hv2
  refine ⟨?_, ?_, ?_, ?_, ?_, ?_, ?_, ?_, ?_, ?_, ?_, ?_, ?_, ?_, ?_, ?_, ?_, ?_, ?_, ?_⟩
  · exact fun k hk => (cB k 0 hk (by decide)).trans (range_of 46 (fun k => at2 (rowsOf (Rows.laid_oocore_isa_baseShapes (H := Unit))) k 0) (fun k => some (Value.int .i64 (fmtAt k))) (by kernel_rfl) k hk)
  · exact fun k hk => (cB k 1 hk (by decide)).trans (range_of 46 (fun k => at2 (rowsOf (Rows.laid_oocore_isa_baseShapes (H := Unit))) k 1) (fun k => some (Value.int .u32 (codeAt k))) (by kernel_rfl) k hk)
  · exact fun k hk => (cB k 2 hk (by decide)).trans (range_of 46 (fun k => at2 (rowsOf (Rows.laid_oocore_isa_baseShapes (H := Unit))) k 2) (fun k => some (Value.int .u32 (fAt k))) (by kernel_rfl) k hk)
  · exact fun k hk => (cB k 3 hk (by decide)).trans (range_of 46 (fun k => at2 (rowsOf (Rows.laid_oocore_isa_baseShapes (H := Unit))) k 3) (fun k => some (Value.int .u32 (gAt k))) (by kernel_rfl) k hk)
  · exact fun k hk => (cO k 0 hk (by decide)).trans (range_of 22 (fun k => at2 (rowsOf (Rows.laid_oocore_isa_otherShapes (H := Unit))) k 0) (fun k => some (Value.int .i64 (fmtAt (46 + k)))) (by kernel_rfl) k hk)
  · exact fun k hk => (cO k 1 hk (by decide)).trans (range_of 22 (fun k => at2 (rowsOf (Rows.laid_oocore_isa_otherShapes (H := Unit))) k 1) (fun k => some (Value.int .u32 (codeAt (46 + k)))) (by kernel_rfl) k hk)
  · exact fun k hk => (cO k 2 hk (by decide)).trans (range_of 22 (fun k => at2 (rowsOf (Rows.laid_oocore_isa_otherShapes (H := Unit))) k 2) (fun k => some (Value.int .u32 (fAt (46 + k)))) (by kernel_rfl) k hk)
  · exact fun k hk => (cO k 3 hk (by decide)).trans (range_of 22 (fun k => at2 (rowsOf (Rows.laid_oocore_isa_otherShapes (H := Unit))) k 3) (fun k => some (Value.int .u32 (gAt (46 + k)))) (by kernel_rfl) k hk)
  · exact fun k hk => (cL k 0 hk (by decide)).trans (range_of 15 (fun k => at2 (rowsOf (Rows.laid_oocore_isa_layouts (H := Unit))) k 0) (fun k => some (Value.int .u32 (lyFixed k))) (by kernel_rfl) k hk)
  · exact fun k hk => (cL k 1 hk (by decide)).trans (range_of 15 (fun k => at2 (rowsOf (Rows.laid_oocore_isa_layouts (H := Unit))) k 1) (fun k => some (Value.int .u8 (lyG k))) (by kernel_rfl) k hk)
  · exact fun k hk => (cL k 2 hk (by decide)).trans (range_of 15 (fun k => at2 (rowsOf (Rows.laid_oocore_isa_layouts (H := Unit))) k 2) (fun k => some (Value.bool (lyRd k))) (by kernel_rfl) k hk)
  · exact fun k hk => (cL k 3 hk (by decide)).trans (range_of 15 (fun k => at2 (rowsOf (Rows.laid_oocore_isa_layouts (H := Unit))) k 3) (fun k => some (Value.bool (lyRs1 k))) (by kernel_rfl) k hk)
  · exact fun k hk => (cL k 4 hk (by decide)).trans (range_of 15 (fun k => at2 (rowsOf (Rows.laid_oocore_isa_layouts (H := Unit))) k 4) (fun k => some (Value.bool (lyRs2 k))) (by kernel_rfl) k hk)
  · exact fun k hk => (cL k 5 hk (by decide)).trans (range_of 15 (fun k => at2 (rowsOf (Rows.laid_oocore_isa_layouts (H := Unit))) k 5) (fun k => some (Value.int .i64 (lyLow k))) (by kernel_rfl) k hk)
  · exact fun k hk => (cL k 6 hk (by decide)).trans (range_of 15 (fun k => at2 (rowsOf (Rows.laid_oocore_isa_layouts (H := Unit))) k 6) (fun k => some (Value.int .i64 (lyHigh k))) (by kernel_rfl) k hk)
  · exact fun k hk => (cL k 7 hk (by decide)).trans (range_of 15 (fun k => at2 (rowsOf (Rows.laid_oocore_isa_layouts (H := Unit))) k 7) (fun k => some (Value.bool (lyEven k))) (by kernel_rfl) k hk)
  · exact fun k hk => (cL k 8 hk (by decide)).trans (range_of 15 (fun k => at2 (rowsOf (Rows.laid_oocore_isa_layouts (H := Unit))) k 8) (fun k => some (Value.int .i64 (lyClass k))) (by kernel_rfl) k hk)
  · exact cell_here ((cB 0 0 (by decide) (by decide)).trans (show at2 (rowsOf (Rows.laid_oocore_isa_baseShapes (H := Unit))) 0 0 = some (.int .i64 0) by kernel_rfl))
  · exact cell_here ((cO 0 0 (by decide) (by decide)).trans (show at2 (rowsOf (Rows.laid_oocore_isa_otherShapes (H := Unit))) 0 0 = some (.int .i64 10) by kernel_rfl))
  · exact cell_here ((cL 0 0 (by decide) (by decide)).trans (show at2 (rowsOf (Rows.laid_oocore_isa_layouts (H := Unit))) 0 0 = some (.int .u32 0) by kernel_rfl))

/-- It lasts: where nothing old has turned. -/
theorem Laid.below {w w' : World} (h : Laid w) (hb : Below w.heap.size w w') : Laid w' := by
  have c : ∀ b o v, w.cell? ⟨b, o, none⟩ = some v → w'.cell? ⟨b, o, none⟩ = some v := fun b o v hv => by
    rw [hb.cell (p := ⟨b, o, none⟩) (cell_here hv)]; exact hv
  exact ⟨fun k hk => c _ _ _ (h.b0 k hk), fun k hk => c _ _ _ (h.b1 k hk), fun k hk => c _ _ _ (h.b2 k hk), fun k hk => c _ _ _ (h.b3 k hk),
    fun k hk => c _ _ _ (h.o0 k hk), fun k hk => c _ _ _ (h.o1 k hk), fun k hk => c _ _ _ (h.o2 k hk), fun k hk => c _ _ _ (h.o3 k hk),
    fun k hk => c _ _ _ (h.l0 k hk), fun k hk => c _ _ _ (h.l1 k hk), fun k hk => c _ _ _ (h.l2 k hk), fun k hk => c _ _ _ (h.l3 k hk), fun k hk => c _ _ _ (h.l4 k hk),
    fun k hk => c _ _ _ (h.l5 k hk), fun k hk => c _ _ _ (h.l6 k hk), fun k hk => c _ _ _ (h.l7 k hk), fun k hk => c _ _ _ (h.l8 k hk), Nat.lt_of_lt_of_le h.zb hb.size, Nat.lt_of_lt_of_le h.zo hb.size, Nat.lt_of_lt_of_le h.zl hb.size⟩
end Go.Proofs.YtengofkjlgajlaaGreatDoor
/-
  THE WALKS OF THE PROGRAM's SMALL FUNCTIONS.
-/
namespace Go.Proofs.YtengofkjlgajlaaGreatDoor
open Go Go.RowKit
theorem class_any (f : Nat) (hf : f < 15) (w : World) (hL : Laid w) : Calls Tryz.prog 94 #[.int .i64 f] w fun e w' => e = .returned (.int .i64 (lyClass f)) ∧ w' = w := by
  have h8 := hL.l8 f hf
  clear hL
  go_enter Tryz.func94, Tryz.ntmps94
  go_wp2
  go_ret
  exact ⟨rfl, rfl⟩
def rf (f : Nat) : Bool := lyRs1 f && !(f == 14)
theorem readsFirst_any (f : Nat) (hf : f < 15) (w : World) (hL : Laid w) : Calls Tryz.prog 122 #[.int .i64 f] w fun e w' => e = .returned (.bool (rf f)) ∧ w' = w := by
  have h8 := hL.l3 f hf
  clear hL
  cases h1 : lyRs1 f
  · rw [h1] at h8
    have e : rf f = false := by unfold rf; rw [h1]; rfl
    rw [e]; clear e h1
    go_enter Tryz.func122, Tryz.ntmps122
    go_wp2
    go_ret
    exact ⟨rfl, rfl⟩
  · rw [h1] at h8
    have e : rf f = !(f == 14) := by unfold rf; rw [h1]; rfl
    rw [e]; clear e h1
    by_cases h14 : f = 14
    · subst h14
      go_enter Tryz.func122, Tryz.ntmps122
      go_wp2
      go_ret
      exact ⟨rfl, rfl⟩
    · have h15 : ((f : Int) != 14) = true := by simp; omega
      have h16 : (f == 14) = false := by simp; omega
      rw [h16]; clear h14 h16
      go_enter Tryz.func122, Tryz.ntmps122
      go_wp2
      go_ret
      exact ⟨rfl, rfl⟩
theorem readsSecond_any (f : Nat) (hf : f < 15) (w : World) (hL : Laid w) : Calls Tryz.prog 123 #[.int .i64 f] w fun e w' => e = .returned (.bool (lyRs2 f)) ∧ w' = w := by
  have h8 := hL.l4 f hf
  clear hL
  go_enter Tryz.func123, Tryz.ntmps123
  go_wp2
  go_ret
  exact ⟨rfl, rfl⟩
theorem writes_any (f : Nat) (hf : f < 15) (w : World) (hL : Laid w) : Calls Tryz.prog 78 #[.int .i64 f] w fun e w' => e = .returned (.bool (lyRd f)) ∧ w' = w := by
  have h8 := hL.l2 f hf
  clear hL
  go_enter Tryz.func78, Tryz.ntmps78
  go_wp2
  go_ret
  exact ⟨rfl, rfl⟩
theorem fixed_any (f : Nat) (hf : f < 15) (w : World) (hL : Laid w) : Calls Tryz.prog 114 #[.int .i64 f] w fun e w' => e = .returned (.int .u32 (lyFixed f)) ∧ w' = w := by
  have h8 := hL.l0 f hf
  clear hL
  go_enter Tryz.func114, Tryz.ntmps114
  go_wp2
  go_ret
  exact ⟨rfl, rfl⟩
theorem gPlace_any (f : Nat) (hf : f < 15) (w : World) (hL : Laid w) : Calls Tryz.prog 159 #[.int .i64 f] w fun e w' => e = .returned (.int .u8 (lyG f)) ∧ w' = w := by
  have h8 := hL.l1 f hf
  clear hL
  go_enter Tryz.func159, Tryz.ntmps159
  go_wp2
  go_ret
  exact ⟨rfl, rfl⟩
/-- an operation's row, as a value -/
def shapeV (k : Nat) : Value := .agg #[.int .i64 (fmtAt k), .int .u32 (codeAt k), .int .u32 (fAt k), .int .u32 (gAt k)]
def opN (op : Int) : Nat := if op ≤ 0 ∨ 67 < op then 0 else op.toNat
theorem shapeV_none : shapeV 0 = .agg #[.int .i64 0, .int .u32 0, .int .u32 0, .int .u32 0] := rfl
theorem shapeOf_none (op : Int) (w : World) (h : op ≤ 0 ∨ 67 < op) : Calls Tryz.prog 77 #[.int .i64 op] w fun e w' => e = .returned (shapeV 0) ∧ Below w.heap.size w w' := by
  rw [shapeV_none]
  by_cases h1 : op ≤ 0
  · clear h
    go_enter Tryz.func77, Tryz.ntmps77
    go_wp2
    exact bodyPost_ret (v := .agg #[.int .i64 0, .int .u32 0, .int .u32 0, .int .u32 0]) (by simp [results, Tryz.results77, go_sem]) rfl ⟨rfl, (Below.refl _ _).alloc (Nat.le_refl _) _⟩
  · have h2 : 67 < op := by omega
    clear h
    go_enter Tryz.func77, Tryz.ntmps77
    go_wp2
    exact bodyPost_ret (v := .agg #[.int .i64 0, .int .u32 0, .int .u32 0, .int .u32 0]) (by simp [results, Tryz.results77, go_sem]) rfl ⟨rfl, (Below.refl _ _).alloc (Nat.le_refl _) _⟩
theorem shapeOf_base (k : Nat) (w : World) (hL : Laid w) (h1 : 1 ≤ k) (h2 : k < 46) : Calls Tryz.prog 77 #[.int .i64 k] w fun e w' => e = .returned (shapeV k) ∧ Below w.heap.size w w' := by
  unfold shapeV
  have c0 := hL.b0 k h2
  have c1 := hL.b1 k h2
  have c2 := hL.b2 k h2
  have c3 := hL.b3 k h2
  have z0 : 1 < w.heap.size := hL.zb
  have z1 : 2 < w.heap.size := hL.zo
  clear hL
  go_enter Tryz.func77, Tryz.ntmps77
  go_wp2
  exact bodyPost_ret (v := .agg #[.int .i64 (fmtAt k), .int .u32 (codeAt k), .int .u32 (fAt k), .int .u32 (gAt k)]) (by simp [results, Tryz.results77, go_sem]) rfl ⟨rfl, (Below.refl _ _).alloc (Nat.le_refl _) _⟩
theorem shapeOf_other (k : Nat) (w : World) (hL : Laid w) (h2 : k < 22) : Calls Tryz.prog 77 #[.int .i64 (46 + k : Nat)] w fun e w' => e = .returned (shapeV (46 + k)) ∧ Below w.heap.size w w' := by
  unfold shapeV
  have c0 := hL.o0 k h2
  have c1 := hL.o1 k h2
  have c2 := hL.o2 k h2
  have c3 := hL.o3 k h2
  have z0 : 1 < w.heap.size := hL.zb
  have z1 : 2 < w.heap.size := hL.zo
  clear hL
  go_enter Tryz.func77, Tryz.ntmps77
  go_wp2
  exact bodyPost_ret (v := .agg #[.int .i64 (fmtAt (46 + k)), .int .u32 (codeAt (46 + k)), .int .u32 (fAt (46 + k)), .int .u32 (gAt (46 + k))]) (by simp [results, Tryz.results77, go_sem]) rfl ⟨rfl, (Below.refl _ _).alloc (Nat.le_refl _) _⟩
theorem shapeOf_any (op : Int) (w : World) (hL : Laid w) : Calls Tryz.prog 77 #[.int .i64 op] w fun e w' => e = .returned (shapeV (opN op)) ∧ Below w.heap.size w w' := by
  by_cases h : op ≤ 0 ∨ 67 < op
  · rw [show opN op = 0 by unfold opN; rw [if_pos h]]
    exact shapeOf_none op w h
  · rw [show opN op = op.toNat by unfold opN; rw [if_neg h]]
    obtain ⟨k, rfl⟩ : ∃ k : Nat, op = k := ⟨op.toNat, by omega⟩
    rw [Int.toNat_natCast]
    by_cases h2 : k < 46
    · exact shapeOf_base k w hL (by omega) h2
    · obtain ⟨j, rfl⟩ : ∃ j : Nat, k = 46 + j := ⟨k - 46, by omega⟩
      exact shapeOf_other j w hL (by omega)
def classOf (k : Nat) : Int := if k = 4 then 3 else if fmtAt k = 8 ∧ gAt k = 1 then 1 else lyClass (fmtAt k)
end Go.Proofs.YtengofkjlgajlaaGreatDoor
