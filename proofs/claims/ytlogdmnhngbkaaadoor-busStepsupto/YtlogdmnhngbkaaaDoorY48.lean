import Derived.Test.YtlogdmnhngbkaaaDoorY47
import Derived.Deep.DeepCutAuto
import Derived.JoinedCond
import Derived.LaidHandle
import Derived.Test.YtlogdmnhngbkaaaDoorRows
/-
  BUS' LAW BusSteps: a round, of any kind; the script.
-/
namespace Go.Proofs.YtlogdmnhngbkaaaDoor
open Go Go.RowKit
set_option maxRecDepth 100000 in
set_option maxHeartbeats 4000000 in
theorem bus_steps (w : World) (sp wp : Option Addr) (n1 c1 n2 c2 : Nat) (fs fw : Nat → Int) (cyc : Int) (dq : Option Addr) (len dc : Nat) (f : Nat → Nat) (qp : Option Addr) (m cq : Nat) (g : Nat → Nat → Int) (hs : IntsB w sp n1 fs) (hw : IntsB w wp n2 fw) (hn1 : n1 ≤ c1 ∧ n1 ≤ 1048576) (hn2 : n2 ≤ c2 ∧ n2 ≤ 1048576) (hs0 : sp = none → c1 = 0) (hw0 : wp = none → c2 = 0) (h64 : ∀ i, i < n1 → -9223372036854775808 ≤ fs i ∧ fs i ≤ 9223372036854775807) (hD : HandB w dq len f) (hdl : ∀ c o, dq = some ⟨c, o, none⟩ → c < w.heap.size) (hspl : ∀ c o, sp = some ⟨c, o, none⟩ → c < w.heap.size) (hwpl : ∀ c o, wp = some ⟨c, o, none⟩ → c < w.heap.size) (hd0 : dq = none → dc = 0) (hl : len ≤ 1048576) (hf : ∀ o, f o < 256) (hgs : 0 < w.heap.size) (hg : handleAt w) (hO : OpsB w qp m g) (hm : m ≤ 9223372036854775807) : Calls Tryd.prog 3 #[.slice sp n1 c1, .slice wp n2 c2, .int .i64 cyc, .slice dq len dc, .slice qp m cq] w fun e w' => e = .returned (.bool true) ∧ Below w.heap.size w w' := by
  have HM := Hid.in (made_any w sp wp n1 c1 n2 c2 fs fw cyc dq len dc f hs hw hn1 hn2 hs0 hw0 h64 hD hdl hspl hwpl hd0 hl hf hgs hg)
  have HG : Hid (∀ y, Below w.heap.size w y → handleAt y) := fun y hy => (hy.cell (p := ⟨0, 0, none⟩) hgs).trans hg
  have HO := Hid.in hO
  clear hs hw hn1 hn2 hs0 hw0 h64 hD hdl hspl hwpl hd0 hl hf hg hO
  go_enter Tryd.func3, Tryd.ntmps3
  go_upto_block 0 with (go_at_call 4; refine HM.out.mono ?_; intro e w1 hP; obtain ⟨pb, rb, rfl, hq, hb1⟩ := made_q hP; have HP := Hid.in hq; have HB1 := Hid.in hb1; clear hP hq hb1)
  rcases HP.out with ⟨rfl, rfl⟩ | ⟨gp, gr, S, f0, rfl, rfl, htwo, hiv, h0⟩
  · go_wp2_with fail
    go_loopw [13, 14] (fun okv kv wr => okv = .bool true ∧ kv = .int .i64 0 ∧ w1 = wr) (fun _ _ _ => 0)
    case atStart => exact ⟨rfl, rfl, rfl⟩
    case round =>
      obtain ⟨rfl, rfl, rfl⟩ := hrel
      have hu : undef = Value.tuple #[] := rfl
      by_cases hmm : 0 < m
      · have hm' : (0 : Int) < (m : Int) := by omega
        go_wp2
        go_ret
        exact ⟨rfl, HB1.out⟩
      · obtain rfl : m = 0 := by omega
        go_wp2
        go_ret
        exact ⟨rfl, HB1.out⟩
  · have HN0 : Hid (Nx gp gr (fun j => j < w.heap.size) 0 S.len w1) := ⟨S, f0, htwo, hiv, rfl⟩
    have H0 := Hid.in h0
    obtain ⟨L, hL⟩ : ∃ L, S.len = L := ⟨_, rfl⟩
    have HL := Hid.in hL
    clear htwo hiv h0 HP HM
    go_wp2_with fail
    go_loopw [13, 14] (fun okv kv wr => okv = .bool true ∧ ∃ k : Nat, kv = .int .i64 k ∧ k ≤ m ∧ k ≤ 4096 ∧ Hid (Nx gp gr (fun j => j < w.heap.size) k S.len wr) ∧ Hid (Below w.heap.size w wr)) (fun _ kv _ => m + 1 - (intOf kv).toNat)
    case atStart => exact ⟨rfl, 0, rfl, Nat.zero_le _, Nat.zero_le _, HN0, HB1⟩
    case round =>
      obtain ⟨rfl, k, rfl, hk, hk4, HN, HB⟩ := hrel
      have hu : undef = Value.tuple #[] := rfl
      clear HN0 HB1
      by_cases hlt : k < m ∧ k < 4096
      · obtain ⟨hk1, hk2⟩ := hlt
        have hk1' : (k : Int) < (m : Int) := by omega
        have hk2' : (k : Int) < 4096 := by omega
        obtain ⟨sb, so, rfl, hsb, sc, hA⟩ := HO.out k hk1
        have e0 := (HB.out.cell (p := ⟨sb, so + k * 5, none⟩) hsb).trans (sc 0 (by decide))
        have e1 := (HB.out.cell (p := ⟨sb, so + k * 5 + 1, none⟩) hsb).trans (sc 1 (by decide))
        have e2 := (HB.out.cell (p := ⟨sb, so + k * 5 + 2, none⟩) hsb).trans (sc 2 (by decide))
        have e3 := (HB.out.cell (p := ⟨sb, so + k * 5 + 3, none⟩) hsb).trans (sc 3 (by decide))
        have e4 := (HB.out.cell (p := ⟨sb, so + k * 5 + 4, none⟩) hsb).trans (sc 4 (by decide))
        have hsb' : sb < wr.heap.size := Nat.lt_of_lt_of_le hsb HB.out.size
        generalize g k 0 = kd at e0
        generalize g k 1 = A at e1 hA
        generalize g k 2 = B at e2
        generalize g k 3 = C at e3
        generalize g k 4 = D at e4
        have HA := Hid.in hA
        clear hsb sc hA
        go_upto_region 6 with fail
        obtain ⟨wq, hwq⟩ : ∃ x, x = wr.alloc (.cells #[.int .i64 kd, .int .i64 A, .int .i64 B, .int .i64 C, .int .i64 D] 30) := ⟨_, rfl⟩
        rw [← hwq]
        have HQ : Hid (CellsAt 5 wq wr.heap.size (ov5 kd A B C D)) := by rw [hwq]; exact ov5_new wr kd A B C D
        have bq : Below wr.heap.size wr wq := by rw [hwq]; exact (Below.refl _ _).alloc (Nat.le_refl _) _
        have HBQ : Hid (Below w.heap.size w wq) := HB.out.trans (bq.mono HB.out.size)
        obtain ⟨S1, f1, ht1, hi1, hl1⟩ := HN.out
        have ht2 := ht1.turn (Q := fun _ => False) (G := fun j => j < w.heap.size ∨ j = wr.heap.size) (Turned.of_below bq) (fun _ q => q.elim) (fun z hz => hz.imp id (fun e => ⟨by omega, by rw [e]; exact HQ.out.here⟩))
        obtain ⟨an, han⟩ : ∃ an : Nat, B % 4294967296 = an := ⟨(B % 4294967296).toNat, by omega⟩
        have hanl : an < 4294967296 := by omega
        have HRD : Hid (Rd wq gp gr (fun j => j < w.heap.size ∨ j = wr.heap.size) k wr.heap.size an S1 f1 kd A B C D) := ⟨ht2, hi1, fun e => H0.out (hl1 ▸ e), by omega, hanl, HA.out, Or.inr rfl, HQ.out, Or.inl hgs, HG.out wq HBQ.out⟩
        have HL1 := Hid.in hl1
        clear hwq e0 e1 e2 e3 e4 hsb' bq ht1 ht2 hi1 hl1
        have c0 := HQ.out.cell 0 (by decide)
        have c2 := HQ.out.cell 2 (by decide)
        have c9 := HQ.out.here
        have c0 : wq.cell? ⟨wr.heap.size, 0, none⟩ = some (.int .i64 kd) := c0
        have c2 : wq.cell? ⟨wr.heap.size, 2, none⟩ = some (.int .i64 B) := c2
        have hob : w.heap.size ≤ wr.heap.size := HB.out.size
        generalize wr.heap.size = ob at HQ HRD c0 c2 c9 hob ⊢
        go_upto_block 2 with fail
        rw [han]
        clear c0 c2 c9 han
        refine wp_then (wp_any (sw HRD.out ?_))
        intro t18 t19 t20 t21 t22 t23 t24 t25 t26 t27 t28 t29 t30 t31 t32 t33 t71 t72 t73 t74 t75 t76 t77 t78 t79 t80 t81 t82 t83 t84 t85 t86 t87 t88 t89 t90 t91 t92 t93 t94 t95 t96 t97 t98 t99 t100 t101 t102 t103 t104 t105 t106 t107 t108 t109 t110 t111 t112 t113 t114 t115 t116 t117 t118 t119 t120 t121 t122 t123 t124 t125 t126 t127 t128 t129 t130 t131 t132 t133 t134 t135 t136 t137 t138 t139 t140 t141 t142 t143 t144 t145 t146 t147 t148 t149 t150 t151 t152 t153 t154 t155 t156 t157 t158 t159 t160 t161 t162 t163 t164 t165 t166 t167 t168 t169 t170 t171 t172 t173 t174 t175 t176 t177 t178 t179 t180 t181 t182 t183 t184 t185 t186 t187 t188 t189 t190 t191 t192 y hn ht
        have HTY := Hid.in ht
        have HNY := Hid.in hn
        clear hn ht
        go_wp2
        go_roundw
        case rel =>
          obtain ⟨S2, f2, q1, q2, q3⟩ := HNY.out
          exact ⟨rfl, k + 1, by simp, by omega, by omega, ⟨S2, f2, q1.less (fun z hz => Or.inl hz), q2, q3.trans HL1.out⟩, HBQ.out.trans (HTY.out.below HBQ.out.size (fun z hz => by
            by_cases q : z < w.heap.size
            · exact absurd (Or.inl q) hz
            · omega))⟩
        case measure => simp [intOf]; omega
      · by_cases h1 : k < m
        · obtain rfl : k = 4096 := by omega
          have hk1' : (4096 : Int) < (m : Int) := by omega
          go_wp2
          go_ret
          exact ⟨rfl, HB.out⟩
        · obtain rfl : k = m := by omega
          have hk1' : ¬ (k : Int) < (k : Int) := by omega
          go_wp2
          go_ret
          exact ⟨rfl, HB.out⟩
end Go.Proofs.YtlogdmnhngbkaaaDoor
/-
  BUS' LAW BusSteps: the variable that is listed; what is handed in.
-/
namespace Go.Proofs.YtlogdmnhngbkaaaDoor
open Go Go.ChangeShapes Go.WideShapes Go.ChangeAt Go.RowKit
theorem laidOut : laidOutB Tryd.prog = true := by kernel_rfl
theorem et : Tryd.prog.globalNamed "errors.errorType" = some 0 := by kernel_rfl
theorem rt : (Tryd.prog.cutTypes.find? (·.1 == "internal/reflectlite.rtype")).map (·.2) = some 156 := by kernel_rfl
theorem oneRow : ((List.range 198).filter fun t => Tryd.prog.rowNamed t [101, 114, 114, 111, 114]) = [33] := by kernel_rfl
theorem tsize : Tryd.prog.types.size = 198 := by kernel_rfl
abbrev laid1 : List (String × DataW Unit) := [("errors.errorType", Rows.laid_errors_errorType)]
theorem handle_of_laid {W : World} (h : laidMetH Tryd.prog laid1 W) : W.cell? ⟨0, 0, none⟩ = some (.iface 156 (.agg #[.pointer (some ⟨1, 33, none⟩)])) := by
  have h' : laidMet Tryd.prog [] W ∧ handlesMet Tryd.prog laid1 W := h
  obtain ⟨name, u, ty, e1, e2, e3, e4, e5⟩ := h'.2 _ (List.mem_singleton.2 rfl)
  have en : name = [101, 114, 114, 111, 114] := (Option.some.inj e1).symm
  subst en
  obtain rfl := Option.some.inj (rt.symm.trans e2)
  have hm : ty ∈ (List.range 198).filter fun t => Tryd.prog.rowNamed t [101, 114, 114, 111, 114] := List.mem_filter.2 ⟨List.mem_range.2 (by rw [← tsize]; exact e3), e4⟩
  rw [oneRow] at hm
  obtain rfl := List.mem_singleton.1 hm
  have hh : typeHandle Tryd.prog 33 = .pointer (some ⟨1, 33, none⟩) := by kernel_rfl
  rw [hh] at e5
  simpa using World.var?_cell et e5 0
section
variable {H : Type} {enc : TypeId × Value → H} {P : Program} {w : World} {base : Nat} {spare : Nat → Bool} {held : Bool} {fuel : Nat} {t : TypeId} {cs : List Value} {x : DataW H × List MemPlace}
/-- a slice of structs whose fields are one cell each: cell by cell -/
theorem slice_fields {e : TypeId} {fs : Array Field} {sz : Nat} (ht : P.underlying t = some (.slice e)) (he : P.underlying e = some (.struct fs)) (hn : fs.size = sz) (hsz : P.cellsOf e = sz) (hz : 0 < sz) (hfs : ∀ (i : Nat) f, fs[i]? = some f → f.offset = i ∧ P.cellsOf f.type = 1) (h : DataW.trod enc P w base spare held fuel t cs = some x) :
    (cs = [.slice none 0 0]) ∨ ∃ (a : Addr) (len cap : Nat), cs = [.slice (some a) len cap] ∧ len ≤ cap ∧ cap ≤ maxLen ∧ ∀ i, i < len → ∃ b o, a = ⟨b, o, none⟩ ∧ ∀ (j : Nat) f, fs[j]? = some f → ∃ v y m, w.cell? ⟨b, o + i * sz + j, none⟩ = some v ∧ DataW.trod enc P w base spare held m f.type [v] = some y := by
  rcases DataW.trod_slice ht h with ⟨h1, _⟩ | ⟨a, len, cap, elems, rest, n, _, rfl, rfl, hb, hl, hm, hlen, hel, _, _⟩
  · exact Or.inl h1
  · refine Or.inr ⟨a, len, cap, rfl, hl, hm, fun i hi => ?_⟩
    have hi' := hel i hi
    rw [List.getElem?_eq_getElem (by omega), hsz] at hi'
    obtain ⟨c4, hc4, ht4⟩ := Option.bind_eq_some_iff.1 hi'
    obtain ⟨ys, m', rfl, hy, hlen', hys, hf⟩ := DataW.trod_struct he ht4
    rw [hsz] at hlen'
    obtain ⟨_, hcl, hcc⟩ := World.cells?_some hc4
    have hsp : a.spot = none := by
      have h0' := hel 0 (by omega)
      rw [List.getElem?_eq_getElem (by omega), hsz] at h0'
      obtain ⟨c0, hc0, _⟩ := Option.bind_eq_some_iff.1 h0'
      obtain ⟨_, hcl0, hcc0⟩ := World.cells?_some hc0
      have q := hcc0 0 hz
      rw [List.getElem?_eq_getElem (by omega)] at q
      have := World.cell?_spot q
      obtain ⟨b, o, s⟩ := a
      simpa [Addr.add] using this
    obtain ⟨b, o, s⟩ := a
    simp only at hsp
    subst hsp
    refine ⟨b, o, rfl, fun j f hj => ?_⟩
    obtain ⟨h1, h2⟩ := hfs j f hj
    have hjs : j < sz := by
      have := (Array.getElem?_eq_some_iff.1 hj).1
      omega
    have hfj := hf j f hj
    rw [h1, h2, List.getElem?_eq_getElem (by omega)] at hfj
    have hcj := hcc j hjs
    rw [Addr.add_lit, Addr.add_lit] at hcj
    have hjc : j < c4.length := by omega
    rw [List.getElem?_eq_getElem hjc] at hcj
    have e1 : (c4.drop j).take 1 = [c4[j]] := by
      rw [List.drop_eq_getElem_cons hjc]
      rfl
    rw [e1] at hfj
    exact ⟨_, _, _, hcj, hfj⟩
end
theorem op_fields : ∀ (fs : Array Field), Tryd.prog.underlying 30 = some (.struct fs) → fs.size = 5 ∧ ∀ (i : Nat) f, fs[i]? = some f → (f.offset = i ∧ Tryd.prog.cellsOf f.type = 1) ∧ f.type = 3 := by
  intro fs hfs
  have h : (match Tryd.prog.underlying 30 with | some (.struct fs) => fs.size == 5 && (List.range 5).all fun i => (match fs[i]? with | some f => f.offset == i && Tryd.prog.cellsOf f.type == 1 && f.type == 3 | none => true) | _ => false) = true := by kernel_rfl
  rw [hfs] at h
  simp only [Bool.and_eq_true, beq_iff_eq, List.all_eq_true, List.mem_range] at h
  refine ⟨h.1, fun i f hf => ?_⟩
  have hi : i < 5 := by rw [← h.1]; exact (Array.getElem?_eq_some_iff.1 hf).1
  have := h.2 i hi
  rw [hf] at this
  simp only [Bool.and_eq_true, beq_iff_eq] at this
  exact ⟨⟨this.1.1, this.1.2⟩, this.2⟩
theorem op_struct : ∃ fs, Tryd.prog.underlying 30 = some (.struct fs) := by
  have h : (match Tryd.prog.underlying 30 with | some (.struct _) => true | _ => false) = true := by kernel_rfl
  revert h
  generalize Tryd.prog.underlying 30 = u
  intro h
  match u, h with
  | some (.struct fs), _ => exact ⟨fs, rfl⟩
def numAt (W : World) (a : Addr) (i c : Nat) : Int := match W.cell? ⟨a.block, a.off + i * 5 + c, none⟩ with | some (.int .i64 n) => n | _ => 0
theorem i64_wf {x : Int} (h : (Lit.int .i64 x).wf = true) : i64 x := by
  unfold i64
  simp [Lit.wf, IntKind.min, IntKind.max, IntKind.signed, IntKind.bits] at h
  omega
theorem u8_wf {x : Int} (h : (Lit.int .u8 x).wf = true) : 0 ≤ x ∧ x < 256 := by
  simp [Lit.wf, IntKind.min, IntKind.max, IntKind.signed, IntKind.bits] at h
  omega
set_option maxRecDepth 100000 in
theorem view_ops {H : Type} {enc : TypeId × Value → H} {W : World} {base : Nat} {v : Value} {d : DataW H} {ps : List MemPlace} (hv : Value.okWide Tryd.prog W .any base 24 v) (h : DataW.Trod enc Tryd.prog W 0 (fun _ => true) true 24 v d ps) : ∃ p m c f, v = .slice p m c ∧ OpsB W p m f ∧ m ≤ 9223372036854775807 := by
  obtain ⟨fuel, hf⟩ := h
  obtain ⟨a0, len, cap, rfl⟩ := okWide_slice Tryd.underlying24 hv
  obtain ⟨fs, hfs⟩ := op_struct
  obtain ⟨hn, hall⟩ := op_fields fs hfs
  rcases slice_fields Tryd.underlying24 hfs hn (show Tryd.prog.cellsOf 30 = 5 by kernel_rfl) (by decide) (fun i f hf => (hall i f hf).1) hf with hcs | ⟨a, len', cap', hcs, hl, hm, hc⟩
  · simp [Value.cells] at hcs
    obtain ⟨rfl, rfl, rfl⟩ := hcs
    exact ⟨none, 0, 0, fun _ _ => 0, rfl, fun i hi => absurd hi (by omega), by omega⟩
  · simp [Value.cells] at hcs
    obtain ⟨rfl, rfl, rfl⟩ := hcs
    refine ⟨_, _, _, numAt W a, rfl, fun i hi => ?_, by unfold maxLen at hm; omega⟩
    obtain ⟨b, o, rfl, hj⟩ := hc i hi
    have cell : ∀ c, c < 5 → W.cell? ⟨b, o + i * 5 + c, none⟩ = some (.int .i64 (numAt W ⟨b, o, none⟩ i c)) ∧ i64 (numAt W ⟨b, o, none⟩ i c) := by
      intro c hc4
      have hcf : fs[c]? = some fs[c] := by simp [hn, hc4]
      obtain ⟨u, y, m, h1, h2⟩ := hj c fs[c] hcf
      rw [(hall c fs[c] hcf).2] at h2
      obtain ⟨k, h3, _, hwf⟩ := DataW.trod_int Tryd.underlying3 h2
      simp only [List.cons.injEq, and_true] at h3
      subst h3
      have e : numAt W ⟨b, o, none⟩ i c = k := by
        unfold numAt
        rw [h1]
      rw [e]
      exact ⟨h1, i64_wf hwf⟩
    exact ⟨b, o, rfl, cell_here (cell 0 (by decide)).1, fun j hj => (cell j hj).1, (cell 1 (by decide)).2⟩
set_option maxRecDepth 100000 in
theorem base_in {t e : TypeId} (ht : Tryd.prog.underlying t = some (.slice e)) {W : World} {base : Nat} {a : Addr} {len cap : Nat} (hv : Value.okWide Tryd.prog W .any base t (.slice (some a) len cap)) : a.spot = none ∧ a.block < W.heap.size := by
  simp only [Value.okWide, ht, Cell.okWide, Cell.ok] at hv
  obtain ⟨-, -, -, hs, row, cells, hsh, -⟩ := hv
  refine ⟨hs, ?_⟩
  by_cases q : a.block < W.heap.size
  · exact q
  · unfold World.shape? at hsh
    rw [Array.getElem?_eq_none (by omega)] at hsh
    cases hsh
theorem bulk_one {H : Type} (d : DataW H) : 1 ≤ Rows.uptoBulk d := by
  cases d with
  | lit l => cases l <;> simp [Rows.uptoBulk]
  | nil => simp [Rows.uptoBulk]
  | ptr d => simp [Rows.uptoBulk]
  | slice elems spare => simp [Rows.uptoBulk]
  | agg parts => simp [Rows.uptoBulk]
  | iface t d => simp [Rows.uptoBulk]
  | map entries => simp [Rows.uptoBulk]
  | held h => simp [Rows.uptoBulk]
theorem bulk_len {H : Type} (l : List (DataW H)) : l.length ≤ Rows.uptoBulkAll l := by
  induction l with
  | nil => simp [Rows.uptoBulkAll]
  | cons x r ih => have := bulk_one x; simp only [Rows.uptoBulkAll, List.length_cons]; omega
set_option maxRecDepth 100000 in
/-- a slice of integers: its cells, its base, its length -/
theorem view_is {H : Type} {enc : TypeId × Value → H} {t e : TypeId} {k : IntKind} (ht : Tryd.prog.underlying t = some (.slice e)) (he : Tryd.prog.underlying e = some (.int k)) (hce : Tryd.prog.cellsOf e = 1) (h0 : (Lit.int k 0).wf = true) {W : World} {base : Nat} {v : Value} {d : DataW H} {ps : List MemPlace} (hv : Value.okWide Tryd.prog W .any base t v) (h : DataW.Trod enc Tryd.prog W 0 (fun _ => true) true t v d ps) : ∃ (p : Option Addr) (m c : Nat) (g : Nat → Int), v = .slice p m c ∧ (∀ i, i < m → ∃ b o, p = some ⟨b, o, none⟩ ∧ b < W.heap.size ∧ W.cell? ⟨b, o + i, none⟩ = some (.int k (g i))) ∧ (∀ i, (Lit.int k (g i)).wf = true) ∧ m ≤ c ∧ (p = none → c = 0) ∧ (∀ b o, p = some ⟨b, o, none⟩ → b < W.heap.size) ∧ m ≤ Rows.uptoBulk d := by
  obtain ⟨fuel, hf⟩ := h
  obtain ⟨a0, len, cap, rfl⟩ := okWide_slice ht hv
  rcases open_ints ht he hce hf with ⟨hcs, hx⟩ | ⟨a, len', cap', zs, hcs, _, hl, hm, hz, hx, hcell, hwz⟩
  · simp [Value.cells] at hcs
    obtain ⟨rfl, rfl, rfl⟩ := hcs
    exact ⟨none, 0, 0, fun _ => 0, rfl, fun i hi => absurd hi (by omega), fun _ => h0, by omega, fun _ => rfl, fun b o e => (by cases e), by omega⟩
  · simp [Value.cells] at hcs
    obtain ⟨rfl, rfl, rfl⟩ := hcs
    simp only [if_true] at hz
    obtain ⟨hs, hb⟩ := base_in ht hv
    obtain ⟨b, o, s⟩ := a
    simp only at hs hb
    subst hs
    simp only [Prod.mk.injEq] at hx
    refine ⟨_, _, _, fun i => zs.getD i 0, rfl, fun i hi => ⟨b, o, rfl, hb, ?_⟩, fun i => ?_, hl, fun e => (by cases e), fun b' o' e => (by cases e; exact hb), ?_⟩
    · have := hcell i (by omega)
      rw [Addr.add_lit] at this
      exact this
    · show (Lit.int k (zs.getD i 0)).wf = true
      rw [List.getD_eq_getElem?_getD]
      by_cases q : i < zs.length
      · rw [List.getElem?_eq_getElem q]
        exact hwz _ (List.getElem_mem q)
      · rw [List.getElem?_eq_none (by omega)]
        exact h0
    · rw [hx.1]
      simp only [Rows.uptoBulk]
      have h1 := bulk_len (lits (H := H) k (zs.take len))
      have h2 : (lits (H := H) k (zs.take len)).length = len := by simp [lits]; omega
      omega
end Go.Proofs.YtlogdmnhngbkaaaDoor
