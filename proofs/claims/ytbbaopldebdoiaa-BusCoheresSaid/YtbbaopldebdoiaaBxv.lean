/-
  BUS' LAW BusCoheres: what is handed in.
-/
import Derived.Test.YtbbaopldebdoiaaBx9
import Derived.JoinedCond
namespace Go.Proofs.Ytbbaopldebdoiaa
open Go Go.ChangeShapes Go.WideShapes Go.ChangeAt Go.RowKit
theorem laidOut : laidOutB Try.prog = true := by kernel_rfl
theorem i64_of {x : Int} (h : (Lit.int .i64 x).wf = true) : I64 x := by
  unfold I64
  simp [Lit.wf, IntKind.min, IntKind.max, IntKind.signed, IntKind.bits] at h
  omega
theorem u32_of {x : Int} (h : (Lit.int .u32 x).wf = true) : ∃ n : Nat, x = n ∧ n < 4294967296 := by
  simp [Lit.wf, IntKind.min, IntKind.max, IntKind.signed, IntKind.bits] at h
  exact ⟨x.toNat, by omega, by omega⟩
section
variable {H : Type} {enc : TypeId × Value → H} {P : Program} {w : World} {base : Nat} {spare : Nat → Bool} {held : Bool} {fuel : Nat} {t : TypeId} {cs : List Value} {x : DataW H × List MemPlace}
/-- a slice of structs whose fields are one cell each: cell by cell -/
theorem slice_fields {e : TypeId} {fs : Array Field} {sz : Nat} (ht : P.underlying t = some (.slice e)) (he : P.underlying e = some (.struct fs)) (hn : fs.size = sz) (hsz : P.cellsOf e = sz) (hz : 0 < sz) (hfs : ∀ (i : Nat) f, fs[i]? = some f → f.offset = i ∧ P.cellsOf f.type = 1) (h : DataW.trod enc P w base spare held fuel t cs = some x) :
    (cs = [.slice none 0 0]) ∨ ∃ (a : Addr) (len cap : Nat), cs = [.slice (some a) len cap] ∧ len ≤ cap ∧ cap ≤ maxLen ∧ ∀ i, i < len → ∃ b o, a = ⟨b, o, none⟩ ∧ ∀ (j : Nat) f, fs[j]? = some f → ∃ v y m, w.cell? ⟨b, o + i * sz + j, none⟩ = some v ∧ DataW.trod enc P w base spare held m f.type [v] = some y := by
  rcases DataW.trod_slice ht h with ⟨h1, _⟩ | ⟨a, len, cap, elems, rest, n, _, rfl, rfl, hb, hl, hm, hlen, hel, _, _⟩
  · exact Or.inl h1
  · refine Or.inr ⟨a, len, cap, rfl, hl, hm, fun i hi => ?_⟩
    have hi' := hel i hi
    rw [List.getElem?_eq_getElem (by omega), hsz] at hi'
    obtain ⟨c4, hc4, ht4⟩ := Option.bind_eq_some_iff.1 hi'
    obtain ⟨ys, m', rfl, hy, hlen', hys, hf⟩ := DataW.trod_struct he ht4
    rw [hsz] at hlen'
    obtain ⟨_, hcl, hcc⟩ := World.cells?_some hc4
    have hsp : a.spot = none := by
      have h0' := hel 0 (by omega)
      rw [List.getElem?_eq_getElem (by omega), hsz] at h0'
      obtain ⟨c0, hc0, _⟩ := Option.bind_eq_some_iff.1 h0'
      obtain ⟨_, hcl0, hcc0⟩ := World.cells?_some hc0
      have q := hcc0 0 hz
      rw [List.getElem?_eq_getElem (by omega)] at q
      have := World.cell?_spot q
      obtain ⟨b, o, s⟩ := a
      simpa [Addr.add] using this
    obtain ⟨b, o, s⟩ := a
    simp only at hsp
    subst hsp
    refine ⟨b, o, rfl, fun j f hj => ?_⟩
    obtain ⟨h1, h2⟩ := hfs j f hj
    have hjs : j < sz := by
      have := (Array.getElem?_eq_some_iff.1 hj).1
      omega
    have hfj := hf j f hj
    rw [h1, h2, List.getElem?_eq_getElem (by omega)] at hfj
    have hcj := hcc j hjs
    rw [Addr.add_lit, Addr.add_lit] at hcj
    have hjc : j < c4.length := by omega
    rw [List.getElem?_eq_getElem hjc] at hcj
    have e1 : (c4.drop j).take 1 = [c4[j]] := by
      rw [List.drop_eq_getElem_cons hjc]
      rfl
    rw [e1] at hfj
    exact ⟨_, _, _, hcj, hfj⟩
end
theorem acc_fields : ∀ (fs : Array Field), Try.prog.underlying 35 = some (.struct fs) → fs.size = 5 ∧ (∀ (i : Nat) f, fs[i]? = some f → f.offset = i ∧ Try.prog.cellsOf f.type = 1) ∧ fs[0]?.map (·.type) = some 3 ∧ fs[1]?.map (·.type) = some 3 ∧ fs[2]?.map (·.type) = some 3 ∧ fs[3]?.map (·.type) = some 4 ∧ fs[4]?.map (·.type) = some 33 := by
  intro fs hfs
  have h : (match Try.prog.underlying 35 with | some (.struct fs) => (fs.size == 5 && (List.range 5).all fun i => (match fs[i]? with | some f => f.offset == i && Try.prog.cellsOf f.type == 1 | none => true)) && (fs[0]?.map (·.type) == some 3 && fs[1]?.map (·.type) == some 3 && fs[2]?.map (·.type) == some 3 && fs[3]?.map (·.type) == some 4 && fs[4]?.map (·.type) == some 33) | _ => false) = true := by kernel_rfl
  rw [hfs] at h
  simp only [Bool.and_eq_true, beq_iff_eq, List.all_eq_true, List.mem_range] at h
  refine ⟨h.1.1, fun i f hf => ?_, h.2.1.1.1.1, h.2.1.1.1.2, h.2.1.1.2, h.2.1.2, h.2.2⟩
  have hi : i < 5 := by rw [← h.1.1]; exact (Array.getElem?_eq_some_iff.1 hf).1
  have := h.1.2 i hi
  rw [hf] at this
  simp only [Bool.and_eq_true, beq_iff_eq] at this
  exact this
theorem acc_struct : ∃ fs, Try.prog.underlying 35 = some (.struct fs) := by
  have h : (match Try.prog.underlying 35 with | some (.struct _) => true | _ => false) = true := by kernel_rfl
  revert h
  generalize Try.prog.underlying 35 = u
  intro h
  match u, h with
  | some (.struct fs), _ => exact ⟨fs, rfl⟩
def boolAt (W : World) (a : Addr) (i : Nat) : Bool := match W.cell? ⟨a.block, a.off + i * 5 + 3, none⟩ with | some (.bool b) => b | _ => false
def numAt (W : World) (a : Addr) (i c : Nat) : Int := match W.cell? ⟨a.block, a.off + i * 5 + c, none⟩ with | some (.int _ n) => n | _ => 0
set_option maxRecDepth 100000 in
theorem view_accs {H : Type} {enc : TypeId × Value → H} {W : World} {base : Nat} {v : Value} {d : DataW H} {ps : List MemPlace} (hv : Value.okWide Try.prog W .any base 22 v) (h : DataW.Trod enc Try.prog W 0 (fun _ => true) true 22 v d ps) : ∃ p m c f, v = .slice p m c ∧ Accs W p m f ∧ m ≤ 9223372036854775807 := by
  obtain ⟨fuel, hf⟩ := h
  obtain ⟨a0, len, cap, rfl⟩ := okWide_slice Try.underlying22 hv
  obtain ⟨fs, hfs⟩ := acc_struct
  obtain ⟨hn, hall, y0, y1, y2, y3, y4⟩ := acc_fields fs hfs
  rcases slice_fields Try.underlying22 hfs hn (show Try.prog.cellsOf 35 = 5 by kernel_rfl) (by decide) hall hf with hcs | ⟨a, len', cap', hcs, hl, hm, hc⟩
  · simp [Value.cells] at hcs
    obtain ⟨rfl, rfl, rfl⟩ := hcs
    exact ⟨none, 0, 0, fun _ => ⟨0, 0, 0, false, 0⟩, rfl, fun i hi => absurd hi (by omega), by omega⟩
  · simp [Value.cells] at hcs
    obtain ⟨rfl, rfl, rfl⟩ := hcs
    refine ⟨_, _, _, fun i => ⟨numAt W a i 0, numAt W a i 1, numAt W a i 2, boolAt W a i, (numAt W a i 4).toNat⟩, rfl, fun i hi => ?_, by unfold maxLen at hm; omega⟩
    obtain ⟨b, o, rfl, hj⟩ := hc i hi
    have fld : ∀ (c : Nat) (ty : TypeId), fs[c]?.map (·.type) = some ty → ∃ v y m, W.cell? ⟨b, o + i * 5 + c, none⟩ = some v ∧ DataW.trod enc Try.prog W 0 (fun _ => true) true m ty [v] = some y := by
      intro c ty hty
      cases hq : fs[c]? with
      | none => rw [hq] at hty; simp at hty
      | some f =>
        rw [hq] at hty
        have e1 : f.type = ty := by simpa using hty
        obtain ⟨u, y, m, h1, h2⟩ := hj c f hq
        rw [e1] at h2
        exact ⟨u, y, m, h1, h2⟩
    obtain ⟨u0, x0, m0, c0, t0⟩ := fld 0 _ y0
    obtain ⟨u1, x1, m1, c1, t1⟩ := fld 1 _ y1
    obtain ⟨u2, x2, m2, c2, t2⟩ := fld 2 _ y2
    obtain ⟨u3, x3, m3, c3, t3⟩ := fld 3 _ y3
    obtain ⟨u4, x4, m4, c4, t4⟩ := fld 4 _ y4
    obtain ⟨k0, h0, _, w0⟩ := DataW.trod_int Try.underlying3 t0
    obtain ⟨k1, h1, _, w1⟩ := DataW.trod_int Try.underlying3 t1
    obtain ⟨k2, h2, _, w2⟩ := DataW.trod_int Try.underlying3 t2
    obtain ⟨k4, h4, _, w4⟩ := DataW.trod_int Try.underlying33 t4
    obtain ⟨k3, h3, _⟩ := DataW.trod_bool Try.underlying4 t3
    simp only [List.cons.injEq, and_true] at h0 h1 h2 h3 h4
    subst h0 h1 h2 h3 h4
    obtain ⟨n4, rfl, hn4⟩ := u32_of w4
    have e0 : numAt W ⟨b, o, none⟩ i 0 = k0 := by unfold numAt; rw [c0]
    have e1 : numAt W ⟨b, o, none⟩ i 1 = k1 := by unfold numAt; rw [c1]
    have e2 : numAt W ⟨b, o, none⟩ i 2 = k2 := by unfold numAt; rw [c2]
    have e3 : boolAt W ⟨b, o, none⟩ i = k3 := by unfold boolAt; rw [c3]
    have e4 : (numAt W ⟨b, o, none⟩ i 4).toNat = n4 := by unfold numAt; rw [c4]; simp
    rw [Nat.add_zero] at c0
    refine ⟨b, o, rfl, cell_here c0, ?_, ?_, ?_, ?_, ?_, ?_, ?_, ?_, ?_⟩
    · dsimp only; rw [e0]; exact c0
    · dsimp only; rw [e1]; exact c1
    · dsimp only; rw [e2]; exact c2
    · dsimp only; rw [e3]; exact c3
    · dsimp only; rw [e4]; exact c4
    · dsimp only; rw [e0]; exact i64_of w0
    · dsimp only; rw [e1]; exact i64_of w1
    · dsimp only; rw [e2]; exact i64_of w2
    · dsimp only; rw [e4]; exact hn4
end Go.Proofs.Ytbbaopldebdoiaa
