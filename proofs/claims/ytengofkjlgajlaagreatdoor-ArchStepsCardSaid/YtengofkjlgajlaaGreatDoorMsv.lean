/-
  ArchSteps: what is handed in.
-/
import Derived.Test.YtengofkjlgajlaaGreatDoorMsn
import Derived.JoinedCond
import Derived.LaidHandle
import Derived.SizedLaws
namespace Go.Proofs.YtengofkjlgajlaaGreatDoor
open Go Go.ChangeShapes Go.WideShapes Go.ChangeAt Go.RowKit
abbrev laid4 : List (String × DataW Unit) := ("errors.errorType", Rows.laid_errors_errorType) :: laid3
theorem laidOut : laidOutB Tryz.prog = true := by kernel_rfl
theorem et : Tryz.prog.globalNamed "errors.errorType" = some 0 := by kernel_rfl
theorem rt : (Tryz.prog.cutTypes.find? (·.1 == "internal/reflectlite.rtype")).map (·.2) = some 165 := by kernel_rfl
theorem oneRow : ((List.range 253).filter fun t => Tryz.prog.rowNamed t [101, 114, 114, 111, 114]) = [27] := by kernel_rfl
theorem tsize : Tryz.prog.types.size = 253 := by kernel_rfl
theorem parts_of_laid {W : World} (h : laidMetH Tryz.prog laid4 W) : Laid W ∧ W.cell? ⟨0, 0, none⟩ = some (.iface 165 (.agg #[.pointer (some ⟨4, 27, none⟩)])) := by
  have h' : laidMet Tryz.prog laid3 W ∧ handlesMet Tryz.prog [("errors.errorType", Rows.laid_errors_errorType)] W := h
  refine ⟨of_laid (by rw [MakeChecks.laidMetH_plain _ _ _ (by kernel_rfl)]; exact h'.1), ?_⟩
  obtain ⟨name, u, ty, e1, e2, e3, e4, e5⟩ := h'.2 _ (List.mem_singleton.2 rfl)
  have en : name = [101, 114, 114, 111, 114] := (Option.some.inj e1).symm
  subst en
  obtain rfl := Option.some.inj (rt.symm.trans e2)
  have hm : ty ∈ (List.range 253).filter fun t => Tryz.prog.rowNamed t [101, 114, 114, 111, 114] := List.mem_filter.2 ⟨List.mem_range.2 (by rw [← tsize]; exact e3), e4⟩
  rw [oneRow] at hm
  obtain rfl := List.mem_singleton.1 hm
  have hh : typeHandle Tryz.prog 27 = .pointer (some ⟨4, 27, none⟩) := by kernel_rfl
  rw [hh] at e5
  simpa using World.var?_cell et e5 0
theorem u32_of {x : Int} (h : (Lit.int .u32 x).wf = true) : U32 x := by
  unfold U32
  simp [Lit.wf, IntKind.min, IntKind.max, IntKind.signed, IntKind.bits] at h
  omega
set_option maxRecDepth 100000 in
theorem view_code {H : Type} {enc : TypeId × Value → H} {W : World} {base : Nat} {v : Value} {d : DataW H} {ps : List MemPlace} (hv : Value.okWide Tryz.prog W .any base 22 v) (h : DataW.Trod enc Tryz.prog W 0 (fun _ => true) true 22 v d ps) : ∃ (p : Option Addr) (m c : Nat) (g : Nat → Int), v = .slice p m c ∧ Hand .u32 W p m g ∧ (∀ i, i < m → U32 (g i)) ∧ (p = none → c = 0) ∧ (m = 0 ∨ ∃ el sp, d = .slice el sp ∧ m ≤ el.length + sp.length) := by
  obtain ⟨fuel, hf⟩ := h
  obtain ⟨a0, len, cap, rfl⟩ := okWide_slice Tryz.underlying22 hv
  rcases open_ints Tryz.underlying22 Tryz.underlying33 (show Tryz.prog.cellsOf 33 = 1 by kernel_rfl) hf with ⟨hcs, hx⟩ | ⟨a, len', cap', zs, hcs, _, hl, hm, hz, hx, hcell, hwz⟩
  · simp [Value.cells] at hcs
    obtain ⟨rfl, rfl, rfl⟩ := hcs
    exact ⟨none, 0, 0, fun _ => 0, rfl, fun i hi => absurd hi (by omega), fun i hi => absurd hi (by omega), fun _ => rfl, Or.inl rfl⟩
  · simp [Value.cells] at hcs
    obtain ⟨rfl, rfl, rfl⟩ := hcs
    simp only [if_true] at hz
    have hmem : ∀ i, i < zs.length → zs.getD i 0 ∈ zs := fun i hil => by
      rw [List.getD_eq_getElem?_getD, List.getElem?_eq_getElem hil]
      exact List.getElem_mem hil
    refine ⟨_, _, _, fun i => zs.getD i 0, rfl, fun i hi => ?_, fun i hi => u32_of (hwz _ (hmem i (by omega))), (fun e => by cases e), Or.inr ⟨_, _, (Prod.mk.inj hx).1, by simp [lits]; omega⟩⟩
    have hp : 0 < zs.length := by omega
    obtain ⟨b, off, rfl, hc⟩ := ints_at hcell hp
    have hci := hc i (by omega)
    exact ⟨b, off, rfl, cell_here hci, hci⟩
set_option maxRecDepth 100000 in
theorem view_data {H : Type} {enc : TypeId × Value → H} {W : World} {base : Nat} {v : Value} {d : DataW H} {ps : List MemPlace} (hv : Value.okWide Tryz.prog W .any base 23 v) (h : DataW.Trod enc Tryz.prog W 0 (fun _ => true) true 23 v d ps) : ∃ (p : Option Addr) (m c : Nat) (g : Nat → Nat), v = .slice p m c ∧ Hand .u8 W p m (fun i => ((g i : Nat) : Int)) ∧ (∀ o, g o < 256) ∧ (p = none → c = 0) ∧ (m = 0 ∨ ∃ el sp, d = .slice el sp ∧ m ≤ el.length + sp.length) := by
  obtain ⟨fuel, hf⟩ := h
  obtain ⟨a0, len, cap, rfl⟩ := okWide_slice Tryz.underlying23 hv
  rcases open_ints Tryz.underlying23 Tryz.underlying5 (show Tryz.prog.cellsOf 5 = 1 by kernel_rfl) hf with ⟨hcs, hx⟩ | ⟨a, len', cap', zs, hcs, _, hl, hm, hz, hx, hcell, hwz⟩
  · simp [Value.cells] at hcs
    obtain ⟨rfl, rfl, rfl⟩ := hcs
    exact ⟨none, 0, 0, fun _ => 0, rfl, fun i hi => absurd hi (by omega), fun _ => by show 0 < 256; decide, fun _ => rfl, Or.inl rfl⟩
  · simp [Value.cells] at hcs
    obtain ⟨rfl, rfl, rfl⟩ := hcs
    simp only [if_true] at hz
    have hmem : ∀ i, i < zs.length → zs.getD i 0 ∈ zs := fun i hil => by
      rw [List.getD_eq_getElem?_getD, List.getElem?_eq_getElem hil]
      exact List.getElem_mem hil
    have h8 : ∀ o, 0 ≤ zs.getD o 0 ∧ zs.getD o 0 < 256 := fun o => by
      by_cases ho : o < zs.length
      · have := hwz _ (hmem o ho)
        simp [Lit.wf, IntKind.min, IntKind.max, IntKind.signed, IntKind.bits] at this
        have e : zs.getD o 0 = zs[o]?.getD 0 := List.getD_eq_getElem?_getD ..
        rw [e]
        omega
      · rw [List.getD_eq_getElem?_getD, List.getElem?_eq_none (by omega)]
        decide
    refine ⟨_, _, _, fun i => (zs.getD i 0).toNat, rfl, fun i hi => ?_, fun o => by have := h8 o; show (zs.getD o 0).toNat < 256; omega, (fun e => by cases e), Or.inr ⟨_, _, (Prod.mk.inj hx).1, by simp [lits]; omega⟩⟩
    have hp : 0 < zs.length := by omega
    obtain ⟨b, off, rfl, hc⟩ := ints_at hcell hp
    have hci := hc i (by omega)
    refine ⟨b, off, rfl, cell_here hci, ?_⟩
    rw [hci]
    show some (Value.int .u8 (zs.getD i 0)) = some (.int .u8 (((zs.getD i 0).toNat : Nat) : Int))
    rw [Int.toNat_of_nonneg (h8 i).1]
set_option maxRecDepth 100000 in
theorem view_lines {H : Type} {enc : TypeId × Value → H} {W : World} {base : Nat} {v : Value} {d : DataW H} {ps : List MemPlace} (hv : Value.okWide Tryz.prog W .any base 24 v) (h : DataW.Trod enc Tryz.prog W 0 (fun _ => true) true 24 v d ps) : ∃ (p : Option Addr) (m c : Nat) (g : Nat → Int), v = .slice p m c ∧ Hand .i64 W p m g ∧ m ≤ 9223372036854775807 := by
  obtain ⟨fuel, hf⟩ := h
  obtain ⟨a0, len, cap, rfl⟩ := okWide_slice Tryz.underlying24 hv
  rcases open_ints Tryz.underlying24 Tryz.underlying3 (show Tryz.prog.cellsOf 3 = 1 by kernel_rfl) hf with ⟨hcs, hx⟩ | ⟨a, len', cap', zs, hcs, _, hl, hm, hz, hx, hcell, hwz⟩
  · simp [Value.cells] at hcs
    obtain ⟨rfl, rfl, rfl⟩ := hcs
    exact ⟨none, 0, 0, fun _ => 0, rfl, fun i hi => absurd hi (by omega), by omega⟩
  · simp [Value.cells] at hcs
    obtain ⟨rfl, rfl, rfl⟩ := hcs
    simp only [if_true] at hz
    refine ⟨_, _, _, fun i => zs.getD i 0, rfl, fun i hi => ?_, by unfold maxLen at hm; omega⟩
    have hp : 0 < zs.length := by omega
    obtain ⟨b, off, rfl, hc⟩ := ints_at hcell hp
    have hci := hc i (by omega)
    exact ⟨b, off, rfl, cell_here hci, hci⟩
theorem steps_all (cq : Option Addr) (n cc : Nat) (f : Nat → Int) (dq : Option Addr) (len dc : Nat) (mem : Nat → Nat) (lq : Option Addr) (ll lc : Nat) (g : Nat → Int) (steps : Int) (w : World) (hL : laidMetH Tryz.prog laid4 w) (hcw : Hand .u32 w cq n f) (hfu : ∀ i, i < n → U32 (f i)) (hcq : cq = none → cc = 0) (hdat : Hand .u8 w dq len (fun i => (mem i : Int))) (hm8 : ∀ o, mem o < 256) (hdq : dq = none → dc = 0) (hli : Hand .i64 w lq ll g) (hll : ll ≤ 9223372036854775807) (hn4 : 4 * (n + 70) ≤ 281474976710656) (hl4 : len + 70 ≤ 281474976710656) : Calls Tryz.prog 3 #[.slice cq n cc, .slice dq len dc, .slice lq ll lc, .int .i64 steps] w fun e w' => e = .returned (.bool true) ∧ Below w.heap.size w w' := by
  obtain ⟨h1, h2⟩ := parts_of_laid hL
  exact steps_any cq n cc dq len dc lq ll lc steps f mem g w h1 h2 hcw hfu hcq hdat hm8 hdq hli hll hn4 hl4
end Go.Proofs.YtengofkjlgajlaaGreatDoor
