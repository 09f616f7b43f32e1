/-
  THE ROW OF PredictGuesses: what is handed in.
-/
import Derived.Test.YtaioaakaffafoaaDoorFr
import Derived.JoinedCond
import Derived.LaidHandle
namespace Go.Proofs.YtaioaakaffafoaaDoor
open Go Go.ChangeShapes Go.WideShapes Go.ChangeAt Go.RowKit
abbrev laid4 : List (String × DataW Unit) := ("errors.errorType", Rows.laid_errors_errorType) :: laid3
theorem laidOut : laidOutB Tryd.prog = true := by kernel_rfl
theorem et : Tryd.prog.globalNamed "errors.errorType" = some 0 := by kernel_rfl
theorem rt : (Tryd.prog.cutTypes.find? (·.1 == "internal/reflectlite.rtype")).map (·.2) = some 120 := by kernel_rfl
theorem oneRow : ((List.range 175).filter fun t => Tryd.prog.rowNamed t [101, 114, 114, 111, 114]) = [27] := by kernel_rfl
theorem tsize : Tryd.prog.types.size = 175 := by kernel_rfl
theorem parts_of_laid {W : World} (h : laidMetH Tryd.prog laid4 W) : Laid W ∧ W.cell? ⟨0, 0, none⟩ = some (.iface 120 (.agg #[.pointer (some ⟨4, 27, none⟩)])) := by
  have h' : laidMet Tryd.prog laid3 W ∧ handlesMet Tryd.prog [("errors.errorType", Rows.laid_errors_errorType)] W := h
  refine ⟨of_laid (by rw [MakeChecks.laidMetH_plain _ _ _ (by kernel_rfl)]; exact h'.1), ?_⟩
  obtain ⟨name, u, ty, e1, e2, e3, e4, e5⟩ := h'.2 _ (List.mem_singleton.2 rfl)
  have en : name = [101, 114, 114, 111, 114] := (Option.some.inj e1).symm
  subst en
  obtain rfl := Option.some.inj (rt.symm.trans e2)
  have hm : ty ∈ (List.range 175).filter fun t => Tryd.prog.rowNamed t [101, 114, 114, 111, 114] := List.mem_filter.2 ⟨List.mem_range.2 (by rw [← tsize]; exact e3), e4⟩
  rw [oneRow] at hm
  obtain rfl := List.mem_singleton.1 hm
  have hh : typeHandle Tryd.prog 27 = .pointer (some ⟨4, 27, none⟩) := by kernel_rfl
  rw [hh] at e5
  simpa using World.var?_cell et e5 0
section
variable {H : Type} {enc : TypeId × Value → H} {P : Program} {w : World} {base : Nat} {spare : Nat → Bool} {held : Bool} {fuel : Nat} {t : TypeId} {cs : List Value} {x : DataW H × List MemPlace}
/-- a slice of structs whose fields are one cell each: cell by cell -/
theorem slice_fields {e : TypeId} {fs : Array Field} {sz : Nat} (ht : P.underlying t = some (.slice e)) (he : P.underlying e = some (.struct fs)) (hn : fs.size = sz) (hsz : P.cellsOf e = sz) (hz : 0 < sz) (hfs : ∀ (i : Nat) f, fs[i]? = some f → f.offset = i ∧ P.cellsOf f.type = 1) (h : DataW.trod enc P w base spare held fuel t cs = some x) :
    (cs = [.slice none 0 0]) ∨ ∃ (a : Addr) (len cap : Nat), cs = [.slice (some a) len cap] ∧ len ≤ cap ∧ cap ≤ maxLen ∧ ∀ i, i < len → ∃ b o, a = ⟨b, o, none⟩ ∧ ∀ (j : Nat) f, fs[j]? = some f → ∃ v y m, w.cell? ⟨b, o + i * sz + j, none⟩ = some v ∧ DataW.trod enc P w base spare held m f.type [v] = some y := by
  rcases DataW.trod_slice ht h with ⟨h1, _⟩ | ⟨a, len, cap, elems, rest, n, _, rfl, rfl, hb, hl, hm, hlen, hel, _, _⟩
  · exact Or.inl h1
  · refine Or.inr ⟨a, len, cap, rfl, hl, hm, fun i hi => ?_⟩
    have hi' := hel i hi
    rw [List.getElem?_eq_getElem (by omega), hsz] at hi'
    obtain ⟨c4, hc4, ht4⟩ := Option.bind_eq_some_iff.1 hi'
    obtain ⟨ys, m', rfl, hy, hlen', hys, hf⟩ := DataW.trod_struct he ht4
    rw [hsz] at hlen'
    obtain ⟨_, hcl, hcc⟩ := World.cells?_some hc4
    have hsp : a.spot = none := by
      have h0' := hel 0 (by omega)
      rw [List.getElem?_eq_getElem (by omega), hsz] at h0'
      obtain ⟨c0, hc0, _⟩ := Option.bind_eq_some_iff.1 h0'
      obtain ⟨_, hcl0, hcc0⟩ := World.cells?_some hc0
      have q := hcc0 0 hz
      rw [List.getElem?_eq_getElem (by omega)] at q
      have := World.cell?_spot q
      obtain ⟨b, o, s⟩ := a
      simpa [Addr.add] using this
    obtain ⟨b, o, s⟩ := a
    simp only at hsp
    subst hsp
    refine ⟨b, o, rfl, fun j f hj => ?_⟩
    obtain ⟨h1, h2⟩ := hfs j f hj
    have hjs : j < sz := by
      have := (Array.getElem?_eq_some_iff.1 hj).1
      omega
    have hfj := hf j f hj
    rw [h1, h2, List.getElem?_eq_getElem (by omega)] at hfj
    have hcj := hcc j hjs
    rw [Addr.add_lit, Addr.add_lit] at hcj
    have hjc : j < c4.length := by omega
    rw [List.getElem?_eq_getElem hjc] at hcj
    have e1 : (c4.drop j).take 1 = [c4[j]] := by
      rw [List.drop_eq_getElem_cons hjc]
      rfl
    rw [e1] at hfj
    exact ⟨_, _, _, hcj, hfj⟩
end

def opTy (i : Nat) : TypeId := [3, 3, 38, 3, 3, 3, 3, 4, 38].getD i 0
theorem op_fields : ∀ (fs : Array Field), Tryd.prog.underlying 40 = some (.struct fs) → fs.size = 9 ∧ ∀ (i : Nat) f, fs[i]? = some f → (f.offset = i ∧ Tryd.prog.cellsOf f.type = 1) ∧ f.type = opTy i := by
  intro fs hfs
  have h : (match Tryd.prog.underlying 40 with | some (.struct fs) => fs.size == 9 && (List.range 9).all fun i => (match fs[i]? with | some f => f.offset == i && Tryd.prog.cellsOf f.type == 1 && f.type == opTy i | none => true) | _ => false) = true := by kernel_rfl
  rw [hfs] at h
  simp only [Bool.and_eq_true, beq_iff_eq, List.all_eq_true, List.mem_range] at h
  refine ⟨h.1, fun i f hf => ?_⟩
  have hi : i < 9 := by rw [← h.1]; exact (Array.getElem?_eq_some_iff.1 hf).1
  have := h.2 i hi
  rw [hf] at this
  simp only [Bool.and_eq_true, beq_iff_eq] at this
  exact ⟨⟨this.1.1, this.1.2⟩, this.2⟩
theorem op_struct : ∃ fs, Tryd.prog.underlying 40 = some (.struct fs) := by
  have h : (match Tryd.prog.underlying 40 with | some (.struct _) => true | _ => false) = true := by kernel_rfl
  revert h
  generalize Tryd.prog.underlying 40 = u
  intro h
  match u, h with
  | some (.struct fs), _ => exact ⟨fs, rfl⟩
def intAt (W : World) (a : Addr) (i c : Nat) : Int := match W.cell? ⟨a.block, a.off + i * 9 + c, none⟩ with | some (.int _ n) => n | _ => 0
def boolAt (W : World) (a : Addr) (i c : Nat) : Bool := match W.cell? ⟨a.block, a.off + i * 9 + c, none⟩ with | some (.bool n) => n | _ => false
def script (W : World) (a : Addr) : OF := ⟨fun i => intAt W a i 0, fun i => intAt W a i 1, fun i => intAt W a i 2, fun i => intAt W a i 3, fun i => intAt W a i 4, fun i => intAt W a i 5, fun i => intAt W a i 6, fun i => boolAt W a i 7, fun i => intAt W a i 8⟩
set_option maxRecDepth 100000 in
theorem view_script {H : Type} {enc : TypeId × Value → H} {W : World} {base : Nat} {v : Value} {d : DataW H} {ps : List MemPlace} (hv : Value.okWide Tryd.prog W .any base 22 v) (h : DataW.Trod enc Tryd.prog W 0 (fun _ => true) true 22 v d ps) : ∃ p m c O, v = .slice p m c ∧ Script W p m O := by
  obtain ⟨fuel, hf⟩ := h
  obtain ⟨a0, len, cap, rfl⟩ := okWide_slice Tryd.underlying22 hv
  obtain ⟨fs, hfs⟩ := op_struct
  obtain ⟨hn, hall⟩ := op_fields fs hfs
  rcases slice_fields Tryd.underlying22 hfs hn (show Tryd.prog.cellsOf 40 = 9 by kernel_rfl) (by decide) (fun i f hf => (hall i f hf).1) hf with hcs | ⟨a, len', cap', hcs, hl, hm, hc⟩
  · simp [Value.cells] at hcs
    obtain ⟨rfl, rfl, rfl⟩ := hcs
    exact ⟨none, 0, 0, ⟨fun _ => 0, fun _ => 0, fun _ => 0, fun _ => 0, fun _ => 0, fun _ => 0, fun _ => 0, fun _ => false, fun _ => 0⟩, rfl, fun i hi => absurd hi (by omega)⟩
  · simp [Value.cells] at hcs
    obtain ⟨rfl, rfl, rfl⟩ := hcs
    refine ⟨_, _, _, script W a, rfl, fun i hi => ?_⟩
    obtain ⟨b, o, rfl, hj⟩ := hc i hi
    have ci : ∀ c, c < 9 → opTy c = 3 → W.cell? ⟨b, o + i * 9 + c, none⟩ = some (.int .i64 (intAt W ⟨b, o, none⟩ i c)) := by
      intro c hc9 ht
      have hcf : fs[c]? = some fs[c] := by simp [hn, hc9]
      obtain ⟨u, y, m, h1, h2⟩ := hj c fs[c] hcf
      rw [(hall c fs[c] hcf).2, ht] at h2
      obtain ⟨k, h3, _, _⟩ := DataW.trod_int Tryd.underlying3 h2
      simp only [List.cons.injEq, and_true] at h3
      subst h3
      unfold intAt
      rw [h1]
    have cu : ∀ c, c < 9 → opTy c = 38 → W.cell? ⟨b, o + i * 9 + c, none⟩ = some (.int .u32 (intAt W ⟨b, o, none⟩ i c)) ∧ (Lit.int .u32 (intAt W ⟨b, o, none⟩ i c)).wf = true := by
      intro c hc9 ht
      have hcf : fs[c]? = some fs[c] := by simp [hn, hc9]
      obtain ⟨u, y, m, h1, h2⟩ := hj c fs[c] hcf
      rw [(hall c fs[c] hcf).2, ht] at h2
      obtain ⟨k, h3, _, h4⟩ := DataW.trod_int Tryd.underlying38 h2
      simp only [List.cons.injEq, and_true] at h3
      subst h3
      unfold intAt
      rw [h1]
      exact ⟨rfl, h4⟩
    have cb : W.cell? ⟨b, o + i * 9 + 7, none⟩ = some (.bool (boolAt W ⟨b, o, none⟩ i 7)) := by
      have hcf : fs[7]? = some fs[7] := by simp [hn]
      obtain ⟨u, y, m, h1, h2⟩ := hj 7 fs[7] hcf
      rw [(hall 7 fs[7] hcf).2, show opTy 7 = 4 from rfl] at h2
      obtain ⟨k, h3, _⟩ := DataW.trod_bool Tryd.underlying4 h2
      simp only [List.cons.injEq, and_true] at h3
      subst h3
      unfold boolAt
      rw [h1]
    refine ⟨?_, b, o, rfl, cell_here (ci 0 (by decide) rfl), fun j hj9 => ?_⟩
    · have h4 := (cu 2 (by decide) rfl).2
      simp [Lit.wf, IntKind.min, IntKind.max, IntKind.signed, IntKind.bits] at h4
      show 0 ≤ intAt W ⟨b, o, none⟩ i 2 ∧ intAt W ⟨b, o, none⟩ i 2 < 4294967296
      omega
    · match j, hj9 with
      | 0, _ => exact ci 0 (by decide) rfl
      | 1, _ => exact ci 1 (by decide) rfl
      | 2, _ => exact (cu 2 (by decide) rfl).1
      | 3, _ => exact ci 3 (by decide) rfl
      | 4, _ => exact ci 4 (by decide) rfl
      | 5, _ => exact ci 5 (by decide) rfl
      | 6, _ => exact ci 6 (by decide) rfl
      | 7, _ => exact cb
      | 8, _ => exact (cu 8 (by decide) rfl).1
theorem guesses_any (kind bits hist tg ret : Int) (sp : Option Addr) (m1 c1 : Nat) (O : OF) (w : World) (hL : laidMetH Tryd.prog laid4 w) (hO : Script w sp m1 O) : Calls Tryd.prog 3 #[.int .i64 kind, .int .i64 bits, .int .i64 hist, .int .i64 tg, .int .i64 ret, .slice sp m1 c1] w fun e w' => e = .returned (.bool true) ∧ Below w.heap.size w w' := by
  obtain ⟨l1, l2⟩ := parts_of_laid hL
  cases h : gOk kind bits hist tg ret
  · exact guesses_bad kind bits hist tg ret sp m1 c1 w h l2
  · obtain ⟨b, rfl⟩ : ∃ b : Nat, bits = (b : Int) := ⟨bits.toNat, by unfold gOk at h; simp at h; omega⟩
    obtain ⟨hh, rfl⟩ : ∃ b : Nat, hist = (b : Int) := ⟨hist.toNat, by unfold gOk at h; simp at h; omega⟩
    obtain ⟨t, rfl⟩ : ∃ b : Nat, tg = (b : Int) := ⟨tg.toNat, by unfold gOk at h; simp at h; omega⟩
    obtain ⟨r, rfl⟩ : ∃ b : Nat, ret = (b : Int) := ⟨ret.toNat, by unfold gOk at h; simp at h; omega⟩
    exact guesses_good kind b hh t r sp m1 c1 O w h l1 hO
end Go.Proofs.YtaioaakaffafoaaDoor
