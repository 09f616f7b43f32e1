/-
  WHAT THE LISTED VARIABLES HOLD, CELL BY CELL: out of the row's condition.
-/
import Derived.Test.YtnlagbiikpbjdaaGreatDoorRows
import Derived.Test.YtnlagbiikpbjdaaGreatDoorPure
import Derived.WalkKit
import Derived.ProofKit
import Derived.LaidMore
import Derived.OpenShut
import Derived.Lib.LaidTab
namespace Go.Proofs.YtnlagbiikpbjdaaGreatDoor
open Go Go.RowKit

section
variable {H : Type} {enc : TypeId × Value → H} {P : Program} {w : World} {base : Nat} {spare : Nat → Bool} {held : Bool} {fuel : Nat} {t : TypeId} {cs : List Value} {x : DataW H × List MemPlace}
def sval : DataW H → Value
  | .lit (.int k n) => .int k n
  | .lit (.bool b) => .bool b
  | _ => .nilIface
def scalarT (P : Program) (t : TypeId) : Bool := match P.underlying t with | some (.int _) => true | some .bool => true | _ => false
theorem trod_scalar (ht : scalarT P t = true) (h : DataW.trod enc P w base spare held fuel t cs = some x) : cs = [sval x.1] := by
  unfold scalarT at ht
  split at ht
  · rename_i k hk
    obtain ⟨n, h1, h2, _⟩ := DataW.trod_int hk h
    rw [h2, h1]; rfl
  · rename_i hk
    obtain ⟨n, h1, h2⟩ := DataW.trod_bool hk h
    rw [h2, h1]; rfl
  · cases ht
def at2 (rows : List (DataW H)) (i j : Nat) : Option Value := match rows[i]? with
  | some (.agg ds) => (ds[j]?).map sval
  | _ => none
theorem cells_of_table {n sz : Nat} {e : TypeId} {fs : Array Field} {rows : List (DataW H)} {p : List MemPlace} (ht : P.underlying t = some (.array n e)) (he : P.underlying e = some (.struct fs)) (hn : fs.size = sz) (hsz : P.cellsOf e = sz)
    (hfs : ∀ (i : Nat) f, fs[i]? = some f → f.offset = i ∧ P.cellsOf f.type = 1 ∧ scalarT P f.type = true)
    (h : DataW.trod enc P w base spare held fuel t cs = some (.agg rows, p)) : ∀ i j, i < n → j < sz → cs[i * sz + j]? = at2 rows i j := by
  intro i j hi hj
  obtain ⟨xs, m, rfl, hx, hlen, hxs, hel⟩ := DataW.trod_array ht h
  have hi' := hel i hi
  have hix : i < xs.length := by omega
  rw [List.getElem?_eq_getElem hix] at hi'
  obtain ⟨ys, m', rfl, hy, hlen', hys, hf⟩ := DataW.trod_struct he hi'
  simp only [Prod.mk.injEq, DataW.agg.injEq] at hx
  have hr : rows[i]? = some (.agg (ys.map (·.1))) := by
    rw [hx.1, List.getElem?_map, List.getElem?_eq_getElem hix, Option.map_some, hy]
  unfold at2
  rw [hr]
  have hjf : j < fs.size := by omega
  obtain ⟨h1, h2, h3⟩ := hfs j fs[j] (by simp [hjf])
  have hfj := hf j fs[j] (by simp [hjf])
  have hjy : j < ys.length := by omega
  rw [List.getElem?_eq_getElem hjy, h1, h2] at hfj
  have hs := trod_scalar h3 hfj
  have := congrArg (·[0]?) hs
  rw [hsz] at this
  simp only [List.getElem?_take, List.getElem?_drop, List.getElem?_cons_zero, if_true, Nat.add_zero, Nat.zero_lt_one, hj] at this
  simp only [List.getElem?_map, List.getElem?_eq_getElem hjy, Option.map_some]
  exact this
end

theorem gBase : Tryz.prog.globalNamed "oocore/isa.baseShapes" = some 1 := by kernel_rfl
theorem gOther : Tryz.prog.globalNamed "oocore/isa.otherShapes" = some 2 := by kernel_rfl
theorem gLay : Tryz.prog.globalNamed "oocore/isa.layouts" = some 3 := by kernel_rfl
theorem tBase : (Tryz.prog.globals[1]?).map (·.type) = some 181 := by kernel_rfl
theorem tOther : (Tryz.prog.globals[2]?).map (·.type) = some 182 := by kernel_rfl
theorem tLay : (Tryz.prog.globals[3]?).map (·.type) = some 185 := by kernel_rfl

/-- What the walks lean on. -/
structure Laid (w : World) : Prop where
  b0 : ∀ k : Nat, k < 46 → w.cell? ⟨1, k * 4, none⟩ = some (.int .i64 (fmtAt k))
  b1 : ∀ k : Nat, k < 46 → w.cell? ⟨1, k * 4 + 1, none⟩ = some (.int .u32 (codeAt k))
  b2 : ∀ k : Nat, k < 46 → w.cell? ⟨1, k * 4 + 2, none⟩ = some (.int .u32 (fAt k))
  b3 : ∀ k : Nat, k < 46 → w.cell? ⟨1, k * 4 + 3, none⟩ = some (.int .u32 (gAt k))
  o0 : ∀ k : Nat, k < 22 → w.cell? ⟨2, k * 4, none⟩ = some (.int .i64 (fmtAt (46 + k)))
  o1 : ∀ k : Nat, k < 22 → w.cell? ⟨2, k * 4 + 1, none⟩ = some (.int .u32 (codeAt (46 + k)))
  o2 : ∀ k : Nat, k < 22 → w.cell? ⟨2, k * 4 + 2, none⟩ = some (.int .u32 (fAt (46 + k)))
  o3 : ∀ k : Nat, k < 22 → w.cell? ⟨2, k * 4 + 3, none⟩ = some (.int .u32 (gAt (46 + k)))
  l0 : ∀ f : Nat, f < 15 → w.cell? ⟨3, f * 9, none⟩ = some (.int .u32 (lyFixed f))
  l1 : ∀ f : Nat, f < 15 → w.cell? ⟨3, f * 9 + 1, none⟩ = some (.int .u8 (lyG f))
  l2 : ∀ f : Nat, f < 15 → w.cell? ⟨3, f * 9 + 2, none⟩ = some (.bool (lyRd f))
  l3 : ∀ f : Nat, f < 15 → w.cell? ⟨3, f * 9 + 3, none⟩ = some (.bool (lyRs1 f))
  l4 : ∀ f : Nat, f < 15 → w.cell? ⟨3, f * 9 + 4, none⟩ = some (.bool (lyRs2 f))
  l5 : ∀ f : Nat, f < 15 → w.cell? ⟨3, f * 9 + 5, none⟩ = some (.int .i64 (lyLow f))
  l6 : ∀ f : Nat, f < 15 → w.cell? ⟨3, f * 9 + 6, none⟩ = some (.int .i64 (lyHigh f))
  l7 : ∀ f : Nat, f < 15 → w.cell? ⟨3, f * 9 + 7, none⟩ = some (.bool (lyEven f))
  l8 : ∀ f : Nat, f < 15 → w.cell? ⟨3, f * 9 + 8, none⟩ = some (.int .i64 (lyClass f))
  zb : 1 < w.heap.size
  zo : 2 < w.heap.size
  zl : 3 < w.heap.size

theorem cell_here {W : World} {b o : Nat} {v : Value} (h : W.cell? ⟨b, o, none⟩ = some v) : b < W.heap.size := by
  unfold World.cell? at h
  by_cases hh : b < W.heap.size
  · exact hh
  · simp [hh] at h
theorem Hid.in {p : Prop} (h : p) : Hid p := h
theorem range_of {α : Type} (n : Nat) (a b : Nat → α) (h : (List.range n).map a = (List.range n).map b) (k : Nat) (hk : k < n) : a k = b k := by
  have := congrArg (·[k]?) h
  simpa [hk] using this

abbrev laid3 : List (String × DataW Unit) := [("oocore/isa.layouts", Rows.laid_oocore_isa_layouts), ("oocore/isa.baseShapes", Rows.laid_oocore_isa_baseShapes), ("oocore/isa.otherShapes", Rows.laid_oocore_isa_otherShapes)]

def rowsOf {H : Type} : DataW H → List (DataW H)
  | .agg l => l
  | _ => []
theorem scalarsS : ∀ (fs : Array Field), Tryz.prog.underlying 159 = some (.struct fs) → fs.size = 4 ∧ ∀ (i : Nat) f, fs[i]? = some f → f.offset = i ∧ Tryz.prog.cellsOf f.type = 1 ∧ scalarT Tryz.prog f.type = true := by
  intro fs hfs
  have h : (match Tryz.prog.underlying 159 with | some (.struct fs) => fs.size == 4 && (List.range 4).all fun i => (match fs[i]? with | some f => f.offset == i && Tryz.prog.cellsOf f.type == 1 && scalarT Tryz.prog f.type | none => true) | _ => false) = true := by kernel_rfl
  rw [hfs] at h
  simp only [Bool.and_eq_true, beq_iff_eq, List.all_eq_true, List.mem_range] at h
  refine ⟨h.1, fun i f hf => ?_⟩
  have hi : i < 4 := by rw [← h.1]; exact (Array.getElem?_eq_some_iff.1 hf).1
  have := h.2 i hi
  rw [hf] at this
  simp only [Bool.and_eq_true, beq_iff_eq] at this
  exact ⟨this.1.1, this.1.2, this.2⟩
theorem scalarsL : ∀ (fs : Array Field), Tryz.prog.underlying 184 = some (.struct fs) → fs.size = 9 ∧ ∀ (i : Nat) f, fs[i]? = some f → f.offset = i ∧ Tryz.prog.cellsOf f.type = 1 ∧ scalarT Tryz.prog f.type = true := by
  intro fs hfs
  have h : (match Tryz.prog.underlying 184 with | some (.struct fs) => fs.size == 9 && (List.range 9).all fun i => (match fs[i]? with | some f => f.offset == i && Tryz.prog.cellsOf f.type == 1 && scalarT Tryz.prog f.type | none => true) | _ => false) = true := by kernel_rfl
  rw [hfs] at h
  simp only [Bool.and_eq_true, beq_iff_eq, List.all_eq_true, List.mem_range] at h
  refine ⟨h.1, fun i f hf => ?_⟩
  have hi : i < 9 := by rw [← h.1]; exact (Array.getElem?_eq_some_iff.1 hf).1
  have := h.2 i hi
  rw [hf] at this
  simp only [Bool.and_eq_true, beq_iff_eq] at this
  exact ⟨this.1.1, this.1.2, this.2⟩

set_option maxRecDepth 100000 in
theorem of_laid {W : World} (h : laidMetH Tryz.prog laid3 W) : Laid W := by
  rw [MakeChecks.laidMetH_plain _ _ _ (by kernel_rfl)] at h
  obtain ⟨ps, ⟨g0, t0, cs0, f0, p0, q0, hg0, ht0, hv0, hd0, ⟨g1, t1, cs1, f1, p1, q1, hg1, ht1, hv1, hd1, ⟨g2, t2, cs2, f2, p2, q2, hg2, ht2, hv2, hd2, _, _⟩, _⟩, _⟩, _, _⟩ := h
  obtain rfl := Option.some.inj (gLay.symm.trans hg0)
  obtain rfl := Option.some.inj (gBase.symm.trans hg1)
  obtain rfl := Option.some.inj (gOther.symm.trans hg2)
  obtain rfl := Option.some.inj (tLay.symm.trans ht0)
  obtain rfl := Option.some.inj (tBase.symm.trans ht1)
  obtain rfl := Option.some.inj (tOther.symm.trans ht2)
  have hL := cells_of_table (rows := rowsOf Rows.laid_oocore_isa_layouts) (sz := 9) Tryz.underlying185 Tryz.underlying184 (scalarsL _ Tryz.underlying184).1 (by kernel_rfl) (scalarsL _ Tryz.underlying184).2 hd0
  have hB := cells_of_table (rows := rowsOf Rows.laid_oocore_isa_baseShapes) (sz := 4) Tryz.underlying181 Tryz.underlying159 (scalarsS _ Tryz.underlying159).1 (by kernel_rfl) (scalarsS _ Tryz.underlying159).2 hd1
  have hO := cells_of_table (rows := rowsOf Rows.laid_oocore_isa_otherShapes) (sz := 4) Tryz.underlying182 Tryz.underlying159 (scalarsS _ Tryz.underlying159).1 (by kernel_rfl) (scalarsS _ Tryz.underlying159).2 hd2
  have cL : ∀ i j, i < 15 → j < 9 → W.cell? ⟨3, i * 9 + j, none⟩ = at2 (rowsOf (Rows.laid_oocore_isa_layouts (H := Unit))) i j := fun i j hi hj => by
    rw [World.var?_cell hg0 hv0, ← hL i j hi hj]; simp
  have cB : ∀ i j, i < 46 → j < 4 → W.cell? ⟨1, i * 4 + j, none⟩ = at2 (rowsOf (Rows.laid_oocore_isa_baseShapes (H := Unit))) i j := fun i j hi hj => by
    rw [World.var?_cell hg1 hv1, ← hB i j hi hj]; simp
  have cO : ∀ i j, i < 22 → j < 4 → W.cell? ⟨2, i * 4 + j, none⟩ = at2 (rowsOf (Rows.laid_oocore_isa_otherShapes (H := Unit))) i j := fun i j hi hj => by
    rw [World.var?_cell hg2 hv2, ← hO i j hi hj]; simp
  clear hL hB hO hd0 hd1 hd2 hv0 hv1 hv2
  refine ⟨?_, ?_, ?_, ?_, ?_, ?_, ?_, ?_, ?_, ?_, ?_, ?_, ?_, ?_, ?_, ?_, ?_, ?_, ?_, ?_⟩
  · exact fun k hk => (cB k 0 hk (by decide)).trans (range_of 46 (fun k => at2 (rowsOf (Rows.laid_oocore_isa_baseShapes (H := Unit))) k 0) (fun k => some (Value.int .i64 (fmtAt k))) (by kernel_rfl) k hk)
  · exact fun k hk => (cB k 1 hk (by decide)).trans (range_of 46 (fun k => at2 (rowsOf (Rows.laid_oocore_isa_baseShapes (H := Unit))) k 1) (fun k => some (Value.int .u32 (codeAt k))) (by kernel_rfl) k hk)
  · exact fun k hk => (cB k 2 hk (by decide)).trans (range_of 46 (fun k => at2 (rowsOf (Rows.laid_oocore_isa_baseShapes (H := Unit))) k 2) (fun k => some (Value.int .u32 (fAt k))) (by kernel_rfl) k hk)
  · exact fun k hk => (cB k 3 hk (by decide)).trans (range_of 46 (fun k => at2 (rowsOf (Rows.laid_oocore_isa_baseShapes (H := Unit))) k 3) (fun k => some (Value.int .u32 (gAt k))) (by kernel_rfl) k hk)
  · exact fun k hk => (cO k 0 hk (by decide)).trans (range_of 22 (fun k => at2 (rowsOf (Rows.laid_oocore_isa_otherShapes (H := Unit))) k 0) (fun k => some (Value.int .i64 (fmtAt (46 + k)))) (by kernel_rfl) k hk)
  · exact fun k hk => (cO k 1 hk (by decide)).trans (range_of 22 (fun k => at2 (rowsOf (Rows.laid_oocore_isa_otherShapes (H := Unit))) k 1) (fun k => some (Value.int .u32 (codeAt (46 + k)))) (by kernel_rfl) k hk)
  · exact fun k hk => (cO k 2 hk (by decide)).trans (range_of 22 (fun k => at2 (rowsOf (Rows.laid_oocore_isa_otherShapes (H := Unit))) k 2) (fun k => some (Value.int .u32 (fAt (46 + k)))) (by kernel_rfl) k hk)
  · exact fun k hk => (cO k 3 hk (by decide)).trans (range_of 22 (fun k => at2 (rowsOf (Rows.laid_oocore_isa_otherShapes (H := Unit))) k 3) (fun k => some (Value.int .u32 (gAt (46 + k)))) (by kernel_rfl) k hk)
  · exact fun k hk => (cL k 0 hk (by decide)).trans (range_of 15 (fun k => at2 (rowsOf (Rows.laid_oocore_isa_layouts (H := Unit))) k 0) (fun k => some (Value.int .u32 (lyFixed k))) (by kernel_rfl) k hk)
  · exact fun k hk => (cL k 1 hk (by decide)).trans (range_of 15 (fun k => at2 (rowsOf (Rows.laid_oocore_isa_layouts (H := Unit))) k 1) (fun k => some (Value.int .u8 (lyG k))) (by kernel_rfl) k hk)
  · exact fun k hk => (cL k 2 hk (by decide)).trans (range_of 15 (fun k => at2 (rowsOf (Rows.laid_oocore_isa_layouts (H := Unit))) k 2) (fun k => some (Value.bool (lyRd k))) (by kernel_rfl) k hk)
  · exact fun k hk => (cL k 3 hk (by decide)).trans (range_of 15 (fun k => at2 (rowsOf (Rows.laid_oocore_isa_layouts (H := Unit))) k 3) (fun k => some (Value.bool (lyRs1 k))) (by kernel_rfl) k hk)
  · exact fun k hk => (cL k 4 hk (by decide)).trans (range_of 15 (fun k => at2 (rowsOf (Rows.laid_oocore_isa_layouts (H := Unit))) k 4) (fun k => some (Value.bool (lyRs2 k))) (by kernel_rfl) k hk)
  · exact fun k hk => (cL k 5 hk (by decide)).trans (range_of 15 (fun k => at2 (rowsOf (Rows.laid_oocore_isa_layouts (H := Unit))) k 5) (fun k => some (Value.int .i64 (lyLow k))) (by kernel_rfl) k hk)
  · exact fun k hk => (cL k 6 hk (by decide)).trans (range_of 15 (fun k => at2 (rowsOf (Rows.laid_oocore_isa_layouts (H := Unit))) k 6) (fun k => some (Value.int .i64 (lyHigh k))) (by kernel_rfl) k hk)
  · exact fun k hk => (cL k 7 hk (by decide)).trans (range_of 15 (fun k => at2 (rowsOf (Rows.laid_oocore_isa_layouts (H := Unit))) k 7) (fun k => some (Value.bool (lyEven k))) (by kernel_rfl) k hk)
  · exact fun k hk => (cL k 8 hk (by decide)).trans (range_of 15 (fun k => at2 (rowsOf (Rows.laid_oocore_isa_layouts (H := Unit))) k 8) (fun k => some (Value.int .i64 (lyClass k))) (by kernel_rfl) k hk)
  · exact cell_here ((cB 0 0 (by decide) (by decide)).trans (show at2 (rowsOf (Rows.laid_oocore_isa_baseShapes (H := Unit))) 0 0 = some (.int .i64 0) by kernel_rfl))
  · exact cell_here ((cO 0 0 (by decide) (by decide)).trans (show at2 (rowsOf (Rows.laid_oocore_isa_otherShapes (H := Unit))) 0 0 = some (.int .i64 10) by kernel_rfl))
  · exact cell_here ((cL 0 0 (by decide) (by decide)).trans (show at2 (rowsOf (Rows.laid_oocore_isa_layouts (H := Unit))) 0 0 = some (.int .u32 0) by kernel_rfl))

/-- It lasts: where nothing old has turned. -/
theorem Laid.below {w w' : World} (h : Laid w) (hb : Below w.heap.size w w') : Laid w' := by
  have c : ∀ b o v, w.cell? ⟨b, o, none⟩ = some v → w'.cell? ⟨b, o, none⟩ = some v := fun b o v hv => by
    rw [hb.cell (p := ⟨b, o, none⟩) (cell_here hv)]; exact hv
  exact ⟨fun k hk => c _ _ _ (h.b0 k hk), fun k hk => c _ _ _ (h.b1 k hk), fun k hk => c _ _ _ (h.b2 k hk), fun k hk => c _ _ _ (h.b3 k hk),
    fun k hk => c _ _ _ (h.o0 k hk), fun k hk => c _ _ _ (h.o1 k hk), fun k hk => c _ _ _ (h.o2 k hk), fun k hk => c _ _ _ (h.o3 k hk),
    fun k hk => c _ _ _ (h.l0 k hk), fun k hk => c _ _ _ (h.l1 k hk), fun k hk => c _ _ _ (h.l2 k hk), fun k hk => c _ _ _ (h.l3 k hk), fun k hk => c _ _ _ (h.l4 k hk),
    fun k hk => c _ _ _ (h.l5 k hk), fun k hk => c _ _ _ (h.l6 k hk), fun k hk => c _ _ _ (h.l7 k hk), fun k hk => c _ _ _ (h.l8 k hk), Nat.lt_of_lt_of_le h.zb hb.size, Nat.lt_of_lt_of_le h.zo hb.size, Nat.lt_of_lt_of_le h.zl hb.size⟩
end Go.Proofs.YtnlagbiikpbjdaaGreatDoor
