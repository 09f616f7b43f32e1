/-
  THE ROW OF PredictLearns: what is handed in.
-/
import Derived.Test.YtaioaakaffafoaaDoorDt
import Derived.Test.YtaioaakaffafoaaDoorDv
namespace Go.Proofs.YtaioaakaffafoaaDoor
open Go Go.ChangeShapes Go.WideShapes Go.ChangeAt Go.RowKit
set_option maxRecDepth 100000 in
theorem view_bools {H : Type} {enc : TypeId × Value → H} {W : World} {base : Nat} {v : Value} {d : DataW H} {ps : List MemPlace} (hv : Value.okWide Tryd.prog W .any base 61 v) (h : DataW.Trod enc Tryd.prog W 0 (fun _ => true) true 61 v d ps) : ∃ p m c g, v = .slice p m c ∧ Bools W p m g := by
  obtain ⟨fuel, hf⟩ := h
  obtain ⟨a0, len, cap, rfl⟩ := okWide_slice Tryd.underlying61 hv
  rcases Go.Deep.open_bools Tryd.underlying61 Tryd.underlying4 (show Tryd.prog.cellsOf 4 = 1 by kernel_rfl) hf with ⟨hcs, hx⟩ | ⟨a, len', cap', Z, hcs, _, hl, hm, hx, hcell⟩
  · simp [Value.cells] at hcs
    obtain ⟨rfl, rfl, rfl⟩ := hcs
    exact ⟨none, 0, 0, fun _ => false, rfl, fun i hi => absurd hi (by omega)⟩
  · simp [Value.cells] at hcs
    obtain ⟨rfl, rfl, rfl⟩ := hcs
    refine ⟨_, _, _, Z, rfl, fun i hi => ?_⟩
    obtain ⟨b, off, spot⟩ := a
    have h0 := hcell i (by omega)
    have hspot : spot = none := by simpa [Addr.add] using World.cell?_spot (hcell 0 (by omega))
    subst hspot
    rw [Go.WideShapes.add_plain] at h0
    exact ⟨b, off, rfl, cell_here h0, h0⟩
end Go.Proofs.YtaioaakaffafoaaDoor
