/-
  LSQ's LAW LsqSteps: the variable that is listed; slices of steps that are handed in.
-/
import Derived.Test.YthbffonedpeeiaaDoorIh
import Derived.JoinedCond
import Derived.LaidHandle
namespace Go.Proofs.YthbffonedpeeiaaDoor
open Go Go.ChangeShapes Go.WideShapes Go.ChangeAt Go.RowKit
theorem laidOut : laidOutB Tryd.prog = true := by kernel_rfl
theorem et : Tryd.prog.globalNamed "errors.errorType" = some 0 := by kernel_rfl
theorem rt : (Tryd.prog.cutTypes.find? (·.1 == "internal/reflectlite.rtype")).map (·.2) = some 129 := by kernel_rfl
theorem oneRow : ((List.range 169).filter fun t => Tryd.prog.rowNamed t [101, 114, 114, 111, 114]) = [25] := by kernel_rfl
theorem tsize : Tryd.prog.types.size = 169 := by kernel_rfl
abbrev laid1 : List (String × DataW Unit) := [("errors.errorType", Rows.laid_errors_errorType)]
theorem handle_of_laid {W : World} (h : laidMetH Tryd.prog laid1 W) : W.cell? ⟨0, 0, none⟩ = some (.iface 129 (.agg #[.pointer (some ⟨1, 25, none⟩)])) := by
  have h' : laidMet Tryd.prog [] W ∧ handlesMet Tryd.prog laid1 W := h
  obtain ⟨name, u, ty, e1, e2, e3, e4, e5⟩ := h'.2 _ (List.mem_singleton.2 rfl)
  have en : name = [101, 114, 114, 111, 114] := (Option.some.inj e1).symm
  subst en
  obtain rfl := Option.some.inj (rt.symm.trans e2)
  have hm : ty ∈ (List.range 169).filter fun t => Tryd.prog.rowNamed t [101, 114, 114, 111, 114] := List.mem_filter.2 ⟨List.mem_range.2 (by rw [← tsize]; exact e3), e4⟩
  rw [oneRow] at hm
  obtain rfl := List.mem_singleton.1 hm
  have hh : typeHandle Tryd.prog 25 = .pointer (some ⟨1, 25, none⟩) := by kernel_rfl
  rw [hh] at e5
  simpa using World.var?_cell et e5 0
section
variable {H : Type} {enc : TypeId × Value → H} {P : Program} {w : World} {base : Nat} {spare : Nat → Bool} {held : Bool} {fuel : Nat} {t : TypeId} {cs : List Value} {x : DataW H × List MemPlace}
/-- a slice of structs whose fields are one cell each: cell by cell -/
theorem slice_fields {e : TypeId} {fs : Array Field} {sz : Nat} (ht : P.underlying t = some (.slice e)) (he : P.underlying e = some (.struct fs)) (hn : fs.size = sz) (hsz : P.cellsOf e = sz) (hz : 0 < sz) (hfs : ∀ (i : Nat) f, fs[i]? = some f → f.offset = i ∧ P.cellsOf f.type = 1) (h : DataW.trod enc P w base spare held fuel t cs = some x) :
    (cs = [.slice none 0 0]) ∨ ∃ (a : Addr) (len cap : Nat), cs = [.slice (some a) len cap] ∧ len ≤ cap ∧ cap ≤ maxLen ∧ ∀ i, i < len → ∃ b o, a = ⟨b, o, none⟩ ∧ ∀ (j : Nat) f, fs[j]? = some f → ∃ v y m, w.cell? ⟨b, o + i * sz + j, none⟩ = some v ∧ DataW.trod enc P w base spare held m f.type [v] = some y := by
  rcases DataW.trod_slice ht h with ⟨h1, _⟩ | ⟨a, len, cap, elems, rest, n, _, rfl, rfl, hb, hl, hm, hlen, hel, _, _⟩
  · exact Or.inl h1
  · refine Or.inr ⟨a, len, cap, rfl, hl, hm, fun i hi => ?_⟩
    have hi' := hel i hi
    rw [List.getElem?_eq_getElem (by omega), hsz] at hi'
    obtain ⟨c4, hc4, ht4⟩ := Option.bind_eq_some_iff.1 hi'
    obtain ⟨ys, m', rfl, hy, hlen', hys, hf⟩ := DataW.trod_struct he ht4
    rw [hsz] at hlen'
    obtain ⟨_, hcl, hcc⟩ := World.cells?_some hc4
    have hsp : a.spot = none := by
      have h0' := hel 0 (by omega)
      rw [List.getElem?_eq_getElem (by omega), hsz] at h0'
      obtain ⟨c0, hc0, _⟩ := Option.bind_eq_some_iff.1 h0'
      obtain ⟨_, hcl0, hcc0⟩ := World.cells?_some hc0
      have q := hcc0 0 hz
      rw [List.getElem?_eq_getElem (by omega)] at q
      have := World.cell?_spot q
      obtain ⟨b, o, s⟩ := a
      simpa [Addr.add] using this
    obtain ⟨b, o, s⟩ := a
    simp only at hsp
    subst hsp
    refine ⟨b, o, rfl, fun j f hj => ?_⟩
    obtain ⟨h1, h2⟩ := hfs j f hj
    have hjs : j < sz := by
      have := (Array.getElem?_eq_some_iff.1 hj).1
      omega
    have hfj := hf j f hj
    rw [h1, h2, List.getElem?_eq_getElem (by omega)] at hfj
    have hcj := hcc j hjs
    rw [Addr.add_lit, Addr.add_lit] at hcj
    have hjc : j < c4.length := by omega
    rw [List.getElem?_eq_getElem hjc] at hcj
    have e1 : (c4.drop j).take 1 = [c4[j]] := by
      rw [List.drop_eq_getElem_cons hjc]
      rfl
    rw [e1] at hfj
    exact ⟨_, _, _, hcj, hfj⟩
end
theorem op_fields : ∀ (fs : Array Field), Tryd.prog.underlying 33 = some (.struct fs) → fs.size = 4 ∧ ∀ (i : Nat) f, fs[i]? = some f → (f.offset = i ∧ Tryd.prog.cellsOf f.type = 1) ∧ f.type = 3 := by
  intro fs hfs
  have h : (match Tryd.prog.underlying 33 with | some (.struct fs) => fs.size == 4 && (List.range 4).all fun i => (match fs[i]? with | some f => f.offset == i && Tryd.prog.cellsOf f.type == 1 && f.type == 3 | none => true) | _ => false) = true := by kernel_rfl
  rw [hfs] at h
  simp only [Bool.and_eq_true, beq_iff_eq, List.all_eq_true, List.mem_range] at h
  refine ⟨h.1, fun i f hf => ?_⟩
  have hi : i < 4 := by rw [← h.1]; exact (Array.getElem?_eq_some_iff.1 hf).1
  have := h.2 i hi
  rw [hf] at this
  simp only [Bool.and_eq_true, beq_iff_eq] at this
  exact ⟨⟨this.1.1, this.1.2⟩, this.2⟩
theorem op_struct : ∃ fs, Tryd.prog.underlying 33 = some (.struct fs) := by
  have h : (match Tryd.prog.underlying 33 with | some (.struct _) => true | _ => false) = true := by kernel_rfl
  revert h
  generalize Tryd.prog.underlying 33 = u
  intro h
  match u, h with
  | some (.struct fs), _ => exact ⟨fs, rfl⟩
def numAt (W : World) (a : Addr) (i c : Nat) : Int := match W.cell? ⟨a.block, a.off + i * 4 + c, none⟩ with | some (.int .i64 n) => n | _ => 0
set_option maxRecDepth 100000 in
theorem view_ops {H : Type} {enc : TypeId × Value → H} {W : World} {base : Nat} {v : Value} {d : DataW H} {ps : List MemPlace} (hv : Value.okWide Tryd.prog W .any base 22 v) (h : DataW.Trod enc Tryd.prog W 0 (fun _ => true) true 22 v d ps) : ∃ p m c f, v = .slice p m c ∧ OpsAt W p m f ∧ m ≤ 9223372036854775807 := by
  obtain ⟨fuel, hf⟩ := h
  obtain ⟨a0, len, cap, rfl⟩ := okWide_slice Tryd.underlying22 hv
  obtain ⟨fs, hfs⟩ := op_struct
  obtain ⟨hn, hall⟩ := op_fields fs hfs
  rcases slice_fields Tryd.underlying22 hfs hn (show Tryd.prog.cellsOf 33 = 4 by kernel_rfl) (by decide) (fun i f hf => (hall i f hf).1) hf with hcs | ⟨a, len', cap', hcs, hl, hm, hc⟩
  · simp [Value.cells] at hcs
    obtain ⟨rfl, rfl, rfl⟩ := hcs
    exact ⟨none, 0, 0, fun _ _ => 0, rfl, fun i hi => absurd hi (by omega), by omega⟩
  · simp [Value.cells] at hcs
    obtain ⟨rfl, rfl, rfl⟩ := hcs
    refine ⟨_, _, _, numAt W a, rfl, fun i hi => ?_, by unfold maxLen at hm; omega⟩
    obtain ⟨b, o, rfl, hj⟩ := hc i hi
    have cell : ∀ c, c < 4 → W.cell? ⟨b, o + i * 4 + c, none⟩ = some (.int .i64 (numAt W ⟨b, o, none⟩ i c)) := by
      intro c hc4
      have hcf : fs[c]? = some fs[c] := by simp [hn, hc4]
      obtain ⟨u, y, m, h1, h2⟩ := hj c fs[c] hcf
      rw [(hall c fs[c] hcf).2] at h2
      obtain ⟨k, h3, _, _⟩ := DataW.trod_int Tryd.underlying3 h2
      simp only [List.cons.injEq, and_true] at h3
      subst h3
      unfold numAt
      rw [h1]
    refine ⟨b, o, rfl, cell_here (cell 0 (by decide)), cell 0 (by decide), cell 1 (by decide), cell 2 (by decide), cell 3 (by decide)⟩
theorem steps_any (n : Int) (wp : Option Addr) (m cw : Nat) (g : Nat → Nat → Int) (w : World) (hL : laidMetH Tryd.prog laid1 w) (hw : OpsAt w wp m g) (hm : m ≤ 9223372036854775807) : Calls Tryd.prog 3 #[.int .i64 n, .slice wp m cw] w fun e w' => e = .returned (.bool true) ∧ Below w.heap.size w w' := by
  have hg := handle_of_laid hL
  by_cases h : 1 ≤ n ∧ n ≤ 32
  · obtain ⟨n', rfl⟩ : ∃ n' : Nat, n = n' := ⟨n.toNat, by omega⟩
    exact steps_good n' wp m cw g w (by omega) hw hg (cell_here hg) hm
  · exact steps_bad n wp m cw w h hg hm
end Go.Proofs.YthbffonedpeeiaaDoor
