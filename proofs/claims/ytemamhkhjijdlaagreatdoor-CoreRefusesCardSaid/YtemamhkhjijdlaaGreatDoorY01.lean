import Derived.Test.YtemamhkhjijdlaaGreatDoorRows
import Derived.Test.YtemamhkhjijdlaaGreatDoorY00
/-
  WHAT THE LISTED VARIABLES HOLD: out of the row's condition.
-/
namespace Go.Proofs.YtemamhkhjijdlaaGreatDoor
open Go Go.RowKit
abbrev laid3 : List (String × DataW Unit) := [("oocore/isa.layouts", Rows.laid_oocore_isa_layouts), ("oocore/isa.baseShapes", Rows.laid_oocore_isa_baseShapes), ("oocore/isa.otherShapes", Rows.laid_oocore_isa_otherShapes)]
set_option maxRecDepth 100000 in
theorem of_laid {W : World} (h : laidMetH Tryz.prog laid3 W) : Laid W := by
  rw [MakeChecks.laidMetH_plain _ _ _ (by kernel_rfl)] at h
  obtain ⟨ps, ⟨g0, t0, cs0, f0, p0, q0, hg0, ht0, hv0, hd0, ⟨g1, t1, cs1, f1, p1, q1, hg1, ht1, hv1, hd1, ⟨g2, t2, cs2, f2, p2, q2, hg2, ht2, hv2, hd2, _, _⟩, _⟩, _⟩, _, _⟩ := h
  obtain rfl := Option.some.inj (gLay.symm.trans hg0)
  obtain rfl := Option.some.inj (gBase.symm.trans hg1)
  obtain rfl := Option.some.inj (gOther.symm.trans hg2)
  obtain rfl := Option.some.inj (tLay.symm.trans ht0)
  obtain rfl := Option.some.inj (tBase.symm.trans ht1)
  obtain rfl := Option.some.inj (tOther.symm.trans ht2)
  have hL := cells_of_table (rows := rowsOf Rows.laid_oocore_isa_layouts) (sz := 9) Tryz.underlying336 Tryz.underlying335 (scalarsL _ Tryz.underlying335).1 (by kernel_rfl) (scalarsL _ Tryz.underlying335).2 hd0
  have hB := cells_of_table (rows := rowsOf Rows.laid_oocore_isa_baseShapes) (sz := 4) Tryz.underlying332 Tryz.underlying267 (scalarsS _ Tryz.underlying267).1 (by kernel_rfl) (scalarsS _ Tryz.underlying267).2 hd1
  have hO := cells_of_table (rows := rowsOf Rows.laid_oocore_isa_otherShapes) (sz := 4) Tryz.underlying333 Tryz.underlying267 (scalarsS _ Tryz.underlying267).1 (by kernel_rfl) (scalarsS _ Tryz.underlying267).2 hd2
  have cL : ∀ i j, i < 15 → j < 9 → W.cell? ⟨3, i * 9 + j, none⟩ = at2 (rowsOf (Rows.laid_oocore_isa_layouts (H := Unit))) i j := fun i j hi hj => by
    rw [World.var?_cell hg0 hv0, ← hL i j hi hj]; simp
  have cB : ∀ i j, i < 46 → j < 4 → W.cell? ⟨1, i * 4 + j, none⟩ = at2 (rowsOf (Rows.laid_oocore_isa_baseShapes (H := Unit))) i j := fun i j hi hj => by
    rw [World.var?_cell hg1 hv1, ← hB i j hi hj]; simp
  have cO : ∀ i j, i < 22 → j < 4 → W.cell? ⟨2, i * 4 + j, none⟩ = at2 (rowsOf (Rows.laid_oocore_isa_otherShapes (H := Unit))) i j := fun i j hi hj => by
    rw [World.var?_cell hg2 hv2, ← hO i j hi hj]; simp
  clear hL hB hO hd0 hd1 hd2 hv0 hv1 hv2
  refine ⟨?_, ?_, ?_, ?_, ?_, ?_, ?_, ?_, ?_, ?_, ?_, ?_, ?_, ?_, ?_, ?_, ?_, ?_, ?_, ?_⟩
  · exact fun k hk => (cB k 0 hk (by decide)).trans (range_of 46 (fun k => at2 (rowsOf (Rows.laid_oocore_isa_baseShapes (H := Unit))) k 0) (fun k => some (Value.int .i64 (fmtAt k))) (by kernel_rfl) k hk)
  · exact fun k hk => (cB k 1 hk (by decide)).trans (range_of 46 (fun k => at2 (rowsOf (Rows.laid_oocore_isa_baseShapes (H := Unit))) k 1) (fun k => some (Value.int .u32 (codeAt k))) (by kernel_rfl) k hk)
  · exact fun k hk => (cB k 2 hk (by decide)).trans (range_of 46 (fun k => at2 (rowsOf (Rows.laid_oocore_isa_baseShapes (H := Unit))) k 2) (fun k => some (Value.int .u32 (fAt k))) (by kernel_rfl) k hk)
  · exact fun k hk => (cB k 3 hk (by decide)).trans (range_of 46 (fun k => at2 (rowsOf (Rows.laid_oocore_isa_baseShapes (H := Unit))) k 3) (fun k => some (Value.int .u32 (gAt k))) (by kernel_rfl) k hk)
  · exact fun k hk => (cO k 0 hk (by decide)).trans (range_of 22 (fun k => at2 (rowsOf (Rows.laid_oocore_isa_otherShapes (H := Unit))) k 0) (fun k => some (Value.int .i64 (fmtAt (46 + k)))) (by kernel_rfl) k hk)
  · exact fun k hk => (cO k 1 hk (by decide)).trans (range_of 22 (fun k => at2 (rowsOf (Rows.laid_oocore_isa_otherShapes (H := Unit))) k 1) (fun k => some (Value.int .u32 (codeAt (46 + k)))) (by kernel_rfl) k hk)
  · exact fun k hk => (cO k 2 hk (by decide)).trans (range_of 22 (fun k => at2 (rowsOf (Rows.laid_oocore_isa_otherShapes (H := Unit))) k 2) (fun k => some (Value.int .u32 (fAt (46 + k)))) (by kernel_rfl) k hk)
  · exact fun k hk => (cO k 3 hk (by decide)).trans (range_of 22 (fun k => at2 (rowsOf (Rows.laid_oocore_isa_otherShapes (H := Unit))) k 3) (fun k => some (Value.int .u32 (gAt (46 + k)))) (by kernel_rfl) k hk)
  · exact fun k hk => (cL k 0 hk (by decide)).trans (range_of 15 (fun k => at2 (rowsOf (Rows.laid_oocore_isa_layouts (H := Unit))) k 0) (fun k => some (Value.int .u32 (lyFixed k))) (by kernel_rfl) k hk)
  · exact fun k hk => (cL k 1 hk (by decide)).trans (range_of 15 (fun k => at2 (rowsOf (Rows.laid_oocore_isa_layouts (H := Unit))) k 1) (fun k => some (Value.int .u8 (lyG k))) (by kernel_rfl) k hk)
  · exact fun k hk => (cL k 2 hk (by decide)).trans (range_of 15 (fun k => at2 (rowsOf (Rows.laid_oocore_isa_layouts (H := Unit))) k 2) (fun k => some (Value.bool (lyRd k))) (by kernel_rfl) k hk)
  · exact fun k hk => (cL k 3 hk (by decide)).trans (range_of 15 (fun k => at2 (rowsOf (Rows.laid_oocore_isa_layouts (H := Unit))) k 3) (fun k => some (Value.bool (lyRs1 k))) (by kernel_rfl) k hk)
  · exact fun k hk => (cL k 4 hk (by decide)).trans (range_of 15 (fun k => at2 (rowsOf (Rows.laid_oocore_isa_layouts (H := Unit))) k 4) (fun k => some (Value.bool (lyRs2 k))) (by kernel_rfl) k hk)
  · exact fun k hk => (cL k 5 hk (by decide)).trans (range_of 15 (fun k => at2 (rowsOf (Rows.laid_oocore_isa_layouts (H := Unit))) k 5) (fun k => some (Value.int .i64 (lyLow k))) (by kernel_rfl) k hk)
  · exact fun k hk => (cL k 6 hk (by decide)).trans (range_of 15 (fun k => at2 (rowsOf (Rows.laid_oocore_isa_layouts (H := Unit))) k 6) (fun k => some (Value.int .i64 (lyHigh k))) (by kernel_rfl) k hk)
  · exact fun k hk => (cL k 7 hk (by decide)).trans (range_of 15 (fun k => at2 (rowsOf (Rows.laid_oocore_isa_layouts (H := Unit))) k 7) (fun k => some (Value.bool (lyEven k))) (by kernel_rfl) k hk)
  · exact fun k hk => (cL k 8 hk (by decide)).trans (range_of 15 (fun k => at2 (rowsOf (Rows.laid_oocore_isa_layouts (H := Unit))) k 8) (fun k => some (Value.int .i64 (lyClass k))) (by kernel_rfl) k hk)
  · exact cell_here ((cB 0 0 (by decide) (by decide)).trans (show at2 (rowsOf (Rows.laid_oocore_isa_baseShapes (H := Unit))) 0 0 = some (.int .i64 0) by kernel_rfl))
  · exact cell_here ((cO 0 0 (by decide) (by decide)).trans (show at2 (rowsOf (Rows.laid_oocore_isa_otherShapes (H := Unit))) 0 0 = some (.int .i64 10) by kernel_rfl))
  · exact cell_here ((cL 0 0 (by decide) (by decide)).trans (show at2 (rowsOf (Rows.laid_oocore_isa_layouts (H := Unit))) 0 0 = some (.int .u32 0) by kernel_rfl))

end Go.Proofs.YtemamhkhjijdlaaGreatDoor
