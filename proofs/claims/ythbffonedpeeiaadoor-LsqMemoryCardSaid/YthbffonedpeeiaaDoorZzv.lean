/-
  LSQ's LAW LsqMemory: the variable that is listed; what is handed in.
-/
import Derived.Test.YthbffonedpeeiaaDoorZz
import Derived.JoinedCond
import Derived.LaidHandle
namespace Go.Proofs.YthbffonedpeeiaaDoor
open Go Go.ChangeShapes Go.WideShapes Go.ChangeAt Go.RowKit
theorem laidOut : laidOutB Tryd.prog = true := by kernel_rfl
theorem et : Tryd.prog.globalNamed "errors.errorType" = some 0 := by kernel_rfl
theorem rt : (Tryd.prog.cutTypes.find? (·.1 == "internal/reflectlite.rtype")).map (·.2) = some 129 := by kernel_rfl
theorem oneRow : ((List.range 169).filter fun t => Tryd.prog.rowNamed t [101, 114, 114, 111, 114]) = [25] := by kernel_rfl
theorem tsize : Tryd.prog.types.size = 169 := by kernel_rfl
abbrev laid1 : List (String × DataW Unit) := [("errors.errorType", Rows.laid_errors_errorType)]
theorem handle_of_laid {W : World} (h : laidMetH Tryd.prog laid1 W) : W.cell? ⟨0, 0, none⟩ = some (.iface 129 (.agg #[.pointer (some ⟨1, 25, none⟩)])) := by
  have h' : laidMet Tryd.prog [] W ∧ handlesMet Tryd.prog laid1 W := h
  obtain ⟨name, u, ty, e1, e2, e3, e4, e5⟩ := h'.2 _ (List.mem_singleton.2 rfl)
  have en : name = [101, 114, 114, 111, 114] := (Option.some.inj e1).symm
  subst en
  obtain rfl := Option.some.inj (rt.symm.trans e2)
  have hm : ty ∈ (List.range 169).filter fun t => Tryd.prog.rowNamed t [101, 114, 114, 111, 114] := List.mem_filter.2 ⟨List.mem_range.2 (by rw [← tsize]; exact e3), e4⟩
  rw [oneRow] at hm
  obtain rfl := List.mem_singleton.1 hm
  have hh : typeHandle Tryd.prog 25 = .pointer (some ⟨1, 25, none⟩) := by kernel_rfl
  rw [hh] at e5
  simpa using World.var?_cell et e5 0
theorem i64_of {x : Int} (h : (Lit.int .i64 x).wf = true) : I64 x := by
  unfold I64
  simp [Lit.wf, IntKind.min, IntKind.max, IntKind.signed, IntKind.bits] at h
  omega
theorem u32_of {x : Int} (h : (Lit.int .u32 x).wf = true) : ∃ n : Nat, x = n ∧ n < 4294967296 := by
  simp [Lit.wf, IntKind.min, IntKind.max, IntKind.signed, IntKind.bits] at h
  exact ⟨x.toNat, by omega, by omega⟩
section
variable {H : Type} {enc : TypeId × Value → H} {P : Program} {w : World} {base : Nat} {spare : Nat → Bool} {held : Bool} {fuel : Nat} {t : TypeId} {cs : List Value} {x : DataW H × List MemPlace}
/-- a slice of structs whose fields are one cell each: cell by cell -/
theorem slice_fields {e : TypeId} {fs : Array Field} {sz : Nat} (ht : P.underlying t = some (.slice e)) (he : P.underlying e = some (.struct fs)) (hn : fs.size = sz) (hsz : P.cellsOf e = sz) (hz : 0 < sz) (hfs : ∀ (i : Nat) f, fs[i]? = some f → f.offset = i ∧ P.cellsOf f.type = 1) (h : DataW.trod enc P w base spare held fuel t cs = some x) :
    (cs = [.slice none 0 0]) ∨ ∃ (a : Addr) (len cap : Nat), cs = [.slice (some a) len cap] ∧ len ≤ cap ∧ cap ≤ maxLen ∧ ∀ i, i < len → ∃ b o, a = ⟨b, o, none⟩ ∧ ∀ (j : Nat) f, fs[j]? = some f → ∃ v y m, w.cell? ⟨b, o + i * sz + j, none⟩ = some v ∧ DataW.trod enc P w base spare held m f.type [v] = some y := by
  rcases DataW.trod_slice ht h with ⟨h1, _⟩ | ⟨a, len, cap, elems, rest, n, _, rfl, rfl, hb, hl, hm, hlen, hel, _, _⟩
  · exact Or.inl h1
  · refine Or.inr ⟨a, len, cap, rfl, hl, hm, fun i hi => ?_⟩
    have hi' := hel i hi
    rw [List.getElem?_eq_getElem (by omega), hsz] at hi'
    obtain ⟨c4, hc4, ht4⟩ := Option.bind_eq_some_iff.1 hi'
    obtain ⟨ys, m', rfl, hy, hlen', hys, hf⟩ := DataW.trod_struct he ht4
    rw [hsz] at hlen'
    obtain ⟨_, hcl, hcc⟩ := World.cells?_some hc4
    have hsp : a.spot = none := by
      have h0' := hel 0 (by omega)
      rw [List.getElem?_eq_getElem (by omega), hsz] at h0'
      obtain ⟨c0, hc0, _⟩ := Option.bind_eq_some_iff.1 h0'
      obtain ⟨_, hcl0, hcc0⟩ := World.cells?_some hc0
      have q := hcc0 0 hz
      rw [List.getElem?_eq_getElem (by omega)] at q
      have := World.cell?_spot q
      obtain ⟨b, o, s⟩ := a
      simpa [Addr.add] using this
    obtain ⟨b, o, s⟩ := a
    simp only at hsp
    subst hsp
    refine ⟨b, o, rfl, fun j f hj => ?_⟩
    obtain ⟨h1, h2⟩ := hfs j f hj
    have hjs : j < sz := by
      have := (Array.getElem?_eq_some_iff.1 hj).1
      omega
    have hfj := hf j f hj
    rw [h1, h2, List.getElem?_eq_getElem (by omega)] at hfj
    have hcj := hcc j hjs
    rw [Addr.add_lit, Addr.add_lit] at hcj
    have hjc : j < c4.length := by omega
    rw [List.getElem?_eq_getElem hjc] at hcj
    have e1 : (c4.drop j).take 1 = [c4[j]] := by
      rw [List.drop_eq_getElem_cons hjc]
      rfl
    rw [e1] at hfj
    exact ⟨_, _, _, hcj, hfj⟩
end
theorem acc_fields : ∀ (fs : Array Field), Tryd.prog.underlying 74 = some (.struct fs) → fs.size = 4 ∧ (∀ (i : Nat) f, fs[i]? = some f → f.offset = i ∧ Tryd.prog.cellsOf f.type = 1) ∧ fs[0]?.map (·.type) = some 4 ∧ fs[1]?.map (·.type) = some 3 ∧ fs[2]?.map (·.type) = some 3 ∧ fs[3]?.map (·.type) = some 38 := by
  intro fs hfs
  have h : (match Tryd.prog.underlying 74 with | some (.struct fs) => (fs.size == 4 && (List.range 4).all fun i => (match fs[i]? with | some f => f.offset == i && Tryd.prog.cellsOf f.type == 1 | none => true)) && (fs[0]?.map (·.type) == some 4 && fs[1]?.map (·.type) == some 3 && fs[2]?.map (·.type) == some 3 && fs[3]?.map (·.type) == some 38) | _ => false) = true := by kernel_rfl
  rw [hfs] at h
  simp only [Bool.and_eq_true, beq_iff_eq, List.all_eq_true, List.mem_range] at h
  refine ⟨h.1.1, fun i f hf => ?_, h.2.1.1.1, h.2.1.1.2, h.2.1.2, h.2.2⟩
  have hi : i < 4 := by rw [← h.1.1]; exact (Array.getElem?_eq_some_iff.1 hf).1
  have := h.1.2 i hi
  rw [hf] at this
  simp only [Bool.and_eq_true, beq_iff_eq] at this
  exact this
theorem acc_struct : ∃ fs, Tryd.prog.underlying 74 = some (.struct fs) := by
  have h : (match Tryd.prog.underlying 74 with | some (.struct _) => true | _ => false) = true := by kernel_rfl
  revert h
  generalize Tryd.prog.underlying 74 = u
  intro h
  match u, h with
  | some (.struct fs), _ => exact ⟨fs, rfl⟩
def boolAt (W : World) (a : Addr) (i : Nat) : Bool := match W.cell? ⟨a.block, a.off + i * 4, none⟩ with | some (.bool b) => b | _ => false
def numAt (W : World) (a : Addr) (i c : Nat) : Int := match W.cell? ⟨a.block, a.off + i * 4 + c, none⟩ with | some (.int _ n) => n | _ => 0
set_option maxRecDepth 100000 in
theorem view_accs {H : Type} {enc : TypeId × Value → H} {W : World} {base : Nat} {v : Value} {d : DataW H} {ps : List MemPlace} (hv : Value.okWide Tryd.prog W .any base 62 v) (h : DataW.Trod enc Tryd.prog W 0 (fun _ => true) true 62 v d ps) : ∃ p m c f, v = .slice p m c ∧ Accs W p m f ∧ m ≤ c ∧ c ≤ 9223372036854775807 := by
  obtain ⟨fuel, hf⟩ := h
  obtain ⟨a0, len, cap, rfl⟩ := okWide_slice Tryd.underlying62 hv
  obtain ⟨fs, hfs⟩ := acc_struct
  obtain ⟨hn, hall, y0, y1, y2, y3⟩ := acc_fields fs hfs
  rcases slice_fields Tryd.underlying62 hfs hn (show Tryd.prog.cellsOf 74 = 4 by kernel_rfl) (by decide) hall hf with hcs | ⟨a, len', cap', hcs, hl, hm, hc⟩
  · simp [Value.cells] at hcs
    obtain ⟨rfl, rfl, rfl⟩ := hcs
    exact ⟨none, 0, 0, fun _ => ⟨false, 0, 0, 0⟩, rfl, fun i hi => absurd hi (by omega), by omega, by omega⟩
  · simp [Value.cells] at hcs
    obtain ⟨rfl, rfl, rfl⟩ := hcs
    refine ⟨_, _, _, fun i => ⟨boolAt W a i, numAt W a i 1, numAt W a i 2, (numAt W a i 3).toNat⟩, rfl, fun i hi => ?_, hl, by unfold maxLen at hm; omega⟩
    obtain ⟨b, o, rfl, hj⟩ := hc i hi
    have fld : ∀ (c : Nat) (ty : TypeId), fs[c]?.map (·.type) = some ty → ∃ v y m, W.cell? ⟨b, o + i * 4 + c, none⟩ = some v ∧ DataW.trod enc Tryd.prog W 0 (fun _ => true) true m ty [v] = some y := by
      intro c ty hty
      cases hq : fs[c]? with
      | none => rw [hq] at hty; simp at hty
      | some f =>
        rw [hq] at hty
        have e1 : f.type = ty := by simpa using hty
        obtain ⟨u, y, m, h1, h2⟩ := hj c f hq
        rw [e1] at h2
        exact ⟨u, y, m, h1, h2⟩
    obtain ⟨u0, x0, m0, c0, t0⟩ := fld 0 _ y0
    obtain ⟨u1, x1, m1, c1, t1⟩ := fld 1 _ y1
    obtain ⟨u2, x2, m2, c2, t2⟩ := fld 2 _ y2
    obtain ⟨u3, x3, m3, c3, t3⟩ := fld 3 _ y3
    obtain ⟨k1, h1, _, w1⟩ := DataW.trod_int Tryd.underlying3 t1
    obtain ⟨k2, h2, _, w2⟩ := DataW.trod_int Tryd.underlying3 t2
    obtain ⟨k3, h3, _, w3⟩ := DataW.trod_int Tryd.underlying38 t3
    obtain ⟨k0, h0, _⟩ := DataW.trod_bool Tryd.underlying4 t0
    simp only [List.cons.injEq, and_true] at h0 h1 h2 h3
    subst h0 h1 h2 h3
    obtain ⟨n3, rfl, hn3⟩ := u32_of w3
    rw [Nat.add_zero] at c0
    have e0 : boolAt W ⟨b, o, none⟩ i = k0 := by unfold boolAt; rw [c0]
    have e1 : numAt W ⟨b, o, none⟩ i 1 = k1 := by unfold numAt; rw [c1]
    have e2 : numAt W ⟨b, o, none⟩ i 2 = k2 := by unfold numAt; rw [c2]
    have e3 : (numAt W ⟨b, o, none⟩ i 3).toNat = n3 := by unfold numAt; rw [c3]; simp
    refine ⟨b, o, rfl, cell_here c0, ?_, ?_, ?_, ?_, ?_, ?_, ?_⟩
    · dsimp only; rw [e0]; exact c0
    · dsimp only; rw [e1]; exact c1
    · dsimp only; rw [e2]; exact c2
    · dsimp only; rw [e3]; exact c3
    · dsimp only; rw [e1]; exact i64_of w1
    · dsimp only; rw [e2]; exact i64_of w2
    · dsimp only; rw [e3]; exact hn3
set_option maxRecDepth 100000 in
theorem view_ints {H : Type} {enc : TypeId × Value → H} {W : World} {base : Nat} {v : Value} {d : DataW H} {ps : List MemPlace} (hv : Value.okWide Tryd.prog W .any base 63 v) (h : DataW.Trod enc Tryd.prog W 0 (fun _ => true) true 63 v d ps) : ∃ p m c g, v = .slice p m c ∧ Ints W p m g ∧ m ≤ 9223372036854775807 := by
  obtain ⟨fuel, hf⟩ := h
  obtain ⟨a0, len, cap, rfl⟩ := okWide_slice Tryd.underlying63 hv
  rcases open_ints Tryd.underlying63 Tryd.underlying3 (show Tryd.prog.cellsOf 3 = 1 by kernel_rfl) hf with ⟨hcs, hx⟩ | ⟨a, len', cap', zs, hcs, _, hl, hm, hz, hx, hcell, hwz⟩
  · simp [Value.cells] at hcs
    obtain ⟨rfl, rfl, rfl⟩ := hcs
    exact ⟨none, 0, 0, fun _ => 0, rfl, fun i hi => absurd hi (by omega), by omega⟩
  · simp [Value.cells] at hcs
    obtain ⟨rfl, rfl, rfl⟩ := hcs
    simp only [if_true] at hz
    refine ⟨_, _, _, fun i => zs.getD i 0, rfl, fun i hi => ?_, ?_⟩
    · have hp : 0 < zs.length := by omega
      obtain ⟨b, off, rfl, hc⟩ := ints_at hcell hp
      have hci := hc i (by omega)
      refine ⟨b, off, rfl, cell_here hci, hci, i64_of (hwz _ ?_)⟩
      have hil : i < zs.length := by omega
      show zs.getD i 0 ∈ zs
      rw [List.getD_eq_getElem?_getD, List.getElem?_eq_getElem hil]
      exact List.getElem_mem hil
    · have := hm
      unfold maxLen at this
      omega
set_option maxRecDepth 100000 in
theorem memory_all (size : Int) (bold : Bool) (lp : Option Addr) (m cl : Nat) (op : Option Addr) (mo co : Nat) (g : Nat → Acc) (ord : Nat → Int) (w : World) (hL : laidMetH Tryd.prog laid1 w) (hsz : (Lit.int .i64 size).wf = true) (hl : Accs w lp m g) (hm : m ≤ cl ∧ cl ≤ 9223372036854775807) (ho : Ints w op mo ord) (_ : mo ≤ 9223372036854775807) : Calls Tryd.prog 4 #[.int .i64 size, .bool bold, .slice lp m cl, .slice op mo co] w fun e w' => e = .returned (.bool true) ∧ Below w.heap.size w w' := by
  have h1 := handle_of_laid hL
  have h2 := cell_here h1
  have h3 := i64_of hsz
  exact memory_any size bold lp m cl op mo co g ord w h3 hl ho hm h1 h2
end Go.Proofs.YthbffonedpeeiaaDoor
