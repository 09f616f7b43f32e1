/-
  LSQ: Search.
-/
import Derived.Test.YthbffonedpeeiaaDoorMn
namespace Go.Proofs.YthbffonedpeeiaaDoor
open Go Go.RowKit
theorem results_found2 {fn : Func} {p u : Tmp} (h : fn.results = #[.cell p 44, .tmp u]) (tmps : Array Value) (w : World) (g : Nat) (x y z t : Value) (hp : tmps.getD p undef = .pointer (some ⟨g, 0, none⟩)) (ht : tmps.getD u undef = t) (h0 : w.cell? ⟨g, 0, none⟩ = some x) (h1 : w.cell? ⟨g, 1, none⟩ = some y) (h2 : w.cell? ⟨g, 2, none⟩ = some z) : (results fn tmps).run Tryd.prog w = .ok (.tuple #[.agg #[x, y, z], t]) w := by
  have hp' : tmps[p]?.getD undef = .pointer (some ⟨g, 0, none⟩) := by simpa using hp
  have ht' : tmps[u]?.getD undef = t := by simpa using ht
  have hl := run_loadVar_mid (P := Tryd.prog) w g 0 44 [x, y, z] _ (fun j v hv => by
    match j, hv with
    | 0, hv => rw [← Option.some.inj hv]; exact h0
    | 1, hv => rw [← Option.some.inj hv]; exact h1
    | 2, hv => rw [← Option.some.inj hv]; exact h2) Tryd.underlying44 rfl (by kernel_rfl)
  simp [results, h, hp', ht', asAddr, hl]
theorem lastI_t (f : Nat → Bool) : ∀ (n : Nat), lastI f n = -1 ∨ ∃ k : Nat, lastI f n = k ∧ k < n ∧ f k = true
  | 0 => Or.inl rfl
  | n + 1 => by
    unfold lastI
    by_cases h : f n = true
    · rw [if_pos h]
      exact Or.inr ⟨n, rfl, by omega, h⟩
    · rw [if_neg h]
      rcases lastI_t f n with q | ⟨k, h1, h2, h3⟩
      · exact Or.inl q
      · exact Or.inr ⟨k, h1, by omega, h3⟩
theorem srcs_ofs (S : QS) (e : Ac) (hf : e.Fit) : Srcs S e (S.ofs e) := by
  have hz := hf.z
  have haz := hf.az
  refine ⟨by rw [S.ofs_len]; omega, by rw [S.ofs_len]; exact haz, fun i hi => ?_⟩
  rw [S.ofs_len] at hi
  rw [S.ofs_at e i hi]
  rcases lastI_t (S.src e.n (e.a + i)) S.on.length with q | ⟨k, h1, h2, h3⟩
  · exact Or.inl q
  · refine Or.inr ⟨k, h1, h2, ?_⟩
    unfold QS.src at h3
    simp only [Bool.and_eq_true] at h3
    have := h3.2
    unfold Ac.cov at this
    exact of_decide_eq_true this
def QS.lacks (S : QS) (e : Ac) : Bool := (List.range e.z).any fun i => S.lack ((S.ofs e).getD i 0)
def QS.unks (S : QS) (e : Ac) : Bool := (List.range S.on.length).any (S.unk e.n)
def QS.waits (S : QS) (e : Ac) (bold : Bool) : Bool := S.lacks e || (!bold && S.unks e)
def QS.found (S : QS) (e : Ac) (bold : Bool) : Value := if S.waits e bold then .agg #[.bool true, .int .i64 0, .int .u32 0] else .agg #[.bool false, .int .i64 (gmN (S.ofs e) e.z), .int .u32 (S.gvN e (S.ofs e) e.z)]
set_option maxRecDepth 100000 in
set_option maxHeartbeats 1000000 in
theorem search_bad (B p : Nat) (v : Value) (S : QS) (seq : Int) (bold : Bool) (w : World) (k : Qm w B p v S) (hr : First (S.plc seq) S.on.length (-1)) : Calls Tryd.prog 14 #[.pointer (some ⟨p, 0, none⟩), .int .i64 seq, .bool bold] w fun e w' => e = .returned (.tuple #[.agg #[.bool false, .int .i64 0, .int .u32 0], errV 7]) ∧ Below w.heap.size w w' := by
  obtain ⟨X, hX⟩ : ∃ X, w.alloc (.cells #[.bool false, .int .i64 0, .int .u32 0] 44) = X := ⟨_, rfl⟩
  have hb : Below w.heap.size w X := by rw [← hX]; exact (Below.refl _ _).alloc (Nat.le_refl _) _
  have cX : CellsAt 3 X w.heap.size (fnd false 0 0) := by
    rw [← hX]
    exact cells_new w (fun i hi => by
      match i, hi with
      | 0, _ => rfl
      | 1, _ => rfl
      | 2, _ => rfl)
  have HX := Hid.in hX
  have HCX := Hid.in cX
  have HB := Hid.in hb
  have HC := Hid.in (placedLoad_any B p v S seq X (k.below hb))
  have HR := Hid.in hr
  clear k hr hX hb cX
  go_enter Tryd.func14, Tryd.ntmps14
  go_upto_region 1 with fail
  rw [HX.out]
  go_wp2_with (first | (refine HC.out.mono ?_; rintro e w2 ⟨r2, rfl, h1, h2⟩; obtain rfl := h1.uniq HR.out; have hc := HCX.out.below h2; have y0 := hc.cell 0 (by decide); have y1 := hc.cell 1 (by decide); have y2 := hc.cell 2 (by decide); have f0 := hc.free 0; have f1 := hc.free 1; have f2 := hc.free 2; simp only [fnd] at y0 y1 y2; have HC2 := Hid.in hc; have H2 := Hid.in h2; clear h1 h2 hc))
  have z := ((HC2.out.set 0 (by decide) (.bool false)).set 1 (by decide) (.int .i64 0)).set 2 (by decide) (.int .u32 0)
  refine bodyPost_ret (results_found2 Tryd.results14 _ _ w.heap.size _ _ _ _ rfl rfl (z.cell 0 (by decide)) (z.cell 1 (by decide)) (z.cell 2 (by decide))) rfl ⟨rfl, ?_⟩
  have t : Turned (fun j => w.heap.size ≤ j) w w2 := Turned.of_below (below2 HB.out H2.out)
  exact (((t.set (b := w.heap.size) (Nat.le_refl _) 0 _).set (b := w.heap.size) (Nat.le_refl _) 1 _).set (b := w.heap.size) (Nat.le_refl _) 2 _).below (Nat.le_refl _) (fun j e => e)
theorem plc_at {S : QS} {seq : Int} {i : Nat} (h : S.plc seq i = true) : (S.at i).n = seq ∧ (S.at i).st = false ∧ 0 < (S.at i).z := by
  unfold QS.plc Ac.placed at h
  simp only [Bool.and_eq_true, decide_eq_true_eq, Bool.not_eq_true'] at h
  exact ⟨h.1.1, h.1.2, h.2⟩
theorem ld_new {ops : Array Oper} {rest : List Oper} {op : Oper} {a : Act} {w : World} {Q : Exit → Act → World → Prop} (e : Ac) (c : Array Value) (hc : c.size = 8) (g : Nat) (hg : w.heap.size = g) (hgd : op.guard = none) (hds : op.dst = none) (x y : Operand) (ho : op.op = .store 86 x y) (hx : a.eval x = .pointer (some ⟨g, 0, none⟩)) (hy : a.eval y = .agg e.vs.toArray) (h : wpList Tryd.prog ops Q rest a (w.alloc (.cells e.vs.toArray 86))) : wpList Tryd.prog ops Q (op :: rest) a (w.alloc (.cells c 86)) := by
  subst hg
  refine wpList_plain hgd fun K hK => ?_
  have := run_storeVar_new (P := Tryd.prog) w 86 c e.vs.toArray (by rw [acc_info, Ac.sizeA]) (by rw [hc, Ac.sizeA]) e.oneA
  unfold Oper.wp execOp
  simp only [ho, hx, hy, Instr.storeAt, Instr.sureAddr, Sem.run_bind, Sem.run_pure, Result.andThen_ok, this]
  have hp : a.put op.dst undef = a := by rw [hds]; rfl
  show K (a.put op.dst undef) _
  rw [hp]
  exact hK _ _ h
def za : Array Value := #[.int .i64 0, .bool false, .int .u32 0, .int .i64 0, .int .u32 0, .bool false, .bool false, .slice none 0 0]
set_option maxRecDepth 100000 in
set_option maxHeartbeats 2000000 in
theorem search_good (B p : Nat) (v : Value) (S : QS) (seq : Int) (bold : Bool) (i : Nat) (w : World) (k : Qm w B p v S) (hi : i < S.on.length) (hr : First (S.plc seq) S.on.length i) : Calls Tryd.prog 14 #[.pointer (some ⟨p, 0, none⟩), .int .i64 seq, .bool bold] w fun e w' => e = .returned (.tuple #[S.found (S.at i) bold, .nilIface]) ∧ Below w.heap.size w w' := by
  obtain ⟨X, hX⟩ : ∃ X, w.alloc (.cells #[.bool false, .int .i64 0, .int .u32 0] 44) = X := ⟨_, rfl⟩
  have hb : Below w.heap.size w X := by rw [← hX]; exact (Below.refl _ _).alloc (Nat.le_refl _) _
  have cX : CellsAt 3 X w.heap.size (fnd false 0 0) := by
    rw [← hX]
    exact cells_new w (fun i hi => by
      match i, hi with
      | 0, _ => rfl
      | 1, _ => rfl
      | 2, _ => rfl)
  have kX := k.below hb
  have hpl : (S.at i).n = seq ∧ (S.at i).st = false ∧ 0 < (S.at i).z := by
    rcases hr with ⟨j, hj, h1, -, h3⟩ | ⟨-, h⟩
    · obtain rfl : j = i := by omega
      exact plc_at h1
    · omega
  obtain ⟨g, cap, hv, hpg, hrow⟩ := kX.rows i hi
  have hs := k.small.1
  have hmul : (i : Int) * 8 = ((i * 8 : Nat) : Int) := by omega
  have hne : ((i : Int) == -1) = false := by simp
  have hsX : X.heap.size = w.heap.size + 1 := by rw [← hX]; simp
  have HX := Hid.in hX
  have HCX := Hid.in cX
  have HB := Hid.in hb
  have HKX := Hid.in kX
  have HC := Hid.in (placedLoad_any B p v S seq X kX)
  have HR := Hid.in hr
  have HRW := Hid.in hrow
  have HFIT := Hid.in (k.fit i hi)
  have HZ := Hid.in hpl.2.2
  obtain ⟨e, he⟩ : ∃ e, S.at i = e := ⟨_, rfl⟩
  rw [he] at HRW HFIT HZ ⊢
  have hz4 : e.z ≤ 4 := by have := HFIT.out.z; omega
  clear k hr hX hb cX kX hpl hv hrow he
  go_enter Tryd.func14, Tryd.ntmps14
  go_upto_region 1 with fail
  rw [HX.out]
  go_upto_region 5 with (first
    | (go_at_call 43; refine HC.out.mono ?_; rintro e0 w2 ⟨r2, rfl, h1, h2⟩; obtain rfl := h1.uniq HR.out; obtain ⟨x1, x2, x3, x4⟩ := HRW.out w2 h2; have X2 := Hid.in x2; have H2 := Hid.in h2; clear h1 h2 x2 x3)
    | (refine ld_accG g (i * 8) e X2.out rfl _ rfl rfl ?_)
    | (refine ld_new e za rfl w2.heap.size rfl rfl rfl _ _ rfl rfl rfl ?_))
  obtain ⟨Y, hY, rY, bY, hsY⟩ := boxed e w2 86
  rw [hY]
  have HY := Hid.in (below2 H2.out bY)
  have HRY := Hid.in rY
  have HSO := Hid.in (sources_any B p v S e Y (HKX.out.below (below2 H2.out bY)) HFIT.out HZ.out)
  clear x1 x4 hY rY bY
  go_upto_region 6 with (first
    | (refine ld_accG w2.heap.size 0 e HRY.out rfl _ rfl rfl ?_)
    | (go_at_call 44; refine HSO.out.mono ?_; rintro e0 w3 ⟨gs, rfl, hgs, hcs, hb3⟩; have HGS := Hid.in hgs; have HCS := Hid.in hcs; have HB3 := Hid.in hb3; clear hgs hcs hb3))
  have hb3 := HB3.out
  have HW3 : Hid (Below X.heap.size X w3) := below2 HY.out hb3
  have HR3 := Hid.in (range_turned HRY.out (Turned.of_below (Q := fun _ => False) hb3) (by omega) (fun q => q))
  have hy3 : w2.heap.size < w3.heap.size := Nat.lt_of_lt_of_le (by omega) hb3.size
  have HN3 : Hid (Nums w3 (some ⟨gs, 0, none⟩) (S.ofs e)) := cells_nums HCS.out (S.ofs_len e)
  have hlk := lackValue_any B p gs e.z v S (S.ofs e) w3 (HKX.out.below HW3.out) HN3.out (by rw [S.ofs_len]; exact hz4) (fun j hj => S.ofs_range e j (by rw [S.ofs_len] at hj; exact hj))
  rw [S.ofs_len] at hlk
  have HLK := Hid.in hlk
  have HGA : Hid (∀ y, Qm y B p v S → Nums y (some ⟨gs, 0, none⟩) (S.ofs e) → Calls Tryd.prog 47 #[.pointer (some ⟨p, 0, none⟩), .agg e.vs.toArray, .slice (some ⟨gs, 0, none⟩) e.z e.z] y fun r w' => r = .returned (.agg #[.bool false, .int .i64 (gmN (S.ofs e) e.z), .int .u32 (S.gvN e (S.ofs e) e.z)]) ∧ Below y.heap.size y w') := fun y k1 k2 => by
    have := gather_any B p gs e.z v S e (S.ofs e) y k1 k2 (srcs_ofs S e HFIT.out)
    rw [S.ofs_len] at this
    exact this
  clear hlk hb3
  obtain ⟨lb, hlb⟩ : ∃ lb, ((List.range e.z).any fun i => S.lack ((S.ofs e).getD i 0)) = lb := ⟨_, rfl⟩
  obtain ⟨ub, hub⟩ : ∃ ub, S.unks e = ub := ⟨_, rfl⟩
  have HLB := Hid.in hlb
  have HUB := Hid.in hub
  have HFD : Hid (S.found e bold = if lb || (!bold && ub) then .agg #[.bool true, .int .i64 0, .int .u32 0] else .agg #[.bool false, .int .i64 (gmN (S.ofs e) e.z), .int .u32 (S.gvN e (S.ofs e) e.z)]) := by
    show S.found e bold = _
    unfold QS.found QS.waits QS.lacks
    rw [hlb, hub]
  clear hlb hub
  cases lb
  · cases bold
    · cases ub
      · go_wp2_with (first
          | (go_at_call 45; refine HLK.out.mono ?_; rintro e0 w4 ⟨rfl, hb4⟩; rw [HLB.out]; have B4 := Hid.in (below2 HW3.out hb4); have HR4 := Hid.in (range_turned HR3.out (Turned.of_below (Q := fun _ => False) hb4) hy3 (fun q => q)); have hy4 := Nat.lt_of_lt_of_le hy3 hb4.size; have HN4 := Hid.in (HN3.out.below hb4); clear hb4)
          | (refine ld_accG w2.heap.size 0 e HR4.out rfl _ rfl rfl ?_)
          | (go_at_call 46; refine (isBehind_any B p v S e _ (HKX.out.below B4.out)).mono ?_; rintro e0 w5 ⟨rfl, hb5⟩; rw [show (List.range S.on.length).any (S.unk e.n) = false from HUB.out]; have B5 := Hid.in (below2 B4.out hb5); have HR5 := Hid.in (range_turned HR4.out (Turned.of_below (Q := fun _ => False) hb5) hy4 (fun q => q)); have HN5 := Hid.in (HN4.out.below hb5); clear hb5)
          | (refine ld_accG w2.heap.size 0 e HR5.out rfl _ rfl rfl ?_)
          | (go_at_call 47; refine (HGA.out _ (HKX.out.below B5.out) HN5.out).mono ?_; rintro e0 w6 ⟨rfl, hb6⟩; have B6 := Hid.in (below2 B5.out hb6); have hc := HCX.out.below (B6.out); have y0 := hc.cell 0 (by decide); have y1 := hc.cell 1 (by decide); have y2 := hc.cell 2 (by decide); have f0 := hc.free 0; have f1 := hc.free 1; have f2 := hc.free 2; simp only [fnd] at y0 y1 y2; have HC2 := Hid.in hc; clear hc; clear hb6))
        have z := ((HC2.out.set 0 (by decide) (.bool false)).set 1 (by decide) (.int .i64 (gmN (S.ofs e) e.z))).set 2 (by decide) (.int .u32 (S.gvN e (S.ofs e) e.z))
        refine bodyPost_ret (results_found2 Tryd.results14 _ _ w.heap.size _ _ _ _ rfl rfl (z.cell 0 (by decide)) (z.cell 1 (by decide)) (z.cell 2 (by decide))) rfl ⟨by rw [HFD.out]; rfl, ?_⟩
        have t : Turned (fun j => w.heap.size ≤ j) w w6 := Turned.of_below (below2 HB.out B6.out)
        exact (((t.set (b := w.heap.size) (Nat.le_refl _) 0 _).set (b := w.heap.size) (Nat.le_refl _) 1 _).set (b := w.heap.size) (Nat.le_refl _) 2 _).below (Nat.le_refl _) (fun j e => e)
      · go_wp2_with (first
          | (go_at_call 45; refine HLK.out.mono ?_; rintro e0 w4 ⟨rfl, hb4⟩; rw [HLB.out]; have B4 := Hid.in (below2 HW3.out hb4); have HR4 := Hid.in (range_turned HR3.out (Turned.of_below (Q := fun _ => False) hb4) hy3 (fun q => q)); have hy4 := Nat.lt_of_lt_of_le hy3 hb4.size; have HN4 := Hid.in (HN3.out.below hb4); clear hb4)
          | (refine ld_accG w2.heap.size 0 e HR4.out rfl _ rfl rfl ?_)
          | (go_at_call 46; refine (isBehind_any B p v S e _ (HKX.out.below B4.out)).mono ?_; rintro e0 w5 ⟨rfl, hb5⟩; rw [show (List.range S.on.length).any (S.unk e.n) = true from HUB.out]; have B5 := Hid.in (below2 B4.out hb5); have HR5 := Hid.in (range_turned HR4.out (Turned.of_below (Q := fun _ => False) hb5) hy4 (fun q => q)); have HN5 := Hid.in (HN4.out.below hb5); have hc := HCX.out.below (B5.out); have y0 := hc.cell 0 (by decide); have y1 := hc.cell 1 (by decide); have y2 := hc.cell 2 (by decide); have f0 := hc.free 0; have f1 := hc.free 1; have f2 := hc.free 2; simp only [fnd] at y0 y1 y2; have HC2 := Hid.in hc; clear hc; clear hb5))
        have z := ((HC2.out.set 0 (by decide) (.bool true)).set 1 (by decide) (.int .i64 0)).set 2 (by decide) (.int .u32 0)
        refine bodyPost_ret (results_found2 Tryd.results14 _ _ w.heap.size _ _ _ _ rfl rfl (z.cell 0 (by decide)) (z.cell 1 (by decide)) (z.cell 2 (by decide))) rfl ⟨by rw [HFD.out]; rfl, ?_⟩
        have t : Turned (fun j => w.heap.size ≤ j) w w5 := Turned.of_below (below2 HB.out B5.out)
        exact (((t.set (b := w.heap.size) (Nat.le_refl _) 0 _).set (b := w.heap.size) (Nat.le_refl _) 1 _).set (b := w.heap.size) (Nat.le_refl _) 2 _).below (Nat.le_refl _) (fun j e => e)
    · go_wp2_with (first
        | (go_at_call 45; refine HLK.out.mono ?_; rintro e0 w4 ⟨rfl, hb4⟩; rw [HLB.out]; have B4 := Hid.in (below2 HW3.out hb4); have HR4 := Hid.in (range_turned HR3.out (Turned.of_below (Q := fun _ => False) hb4) hy3 (fun q => q)); have hy4 := Nat.lt_of_lt_of_le hy3 hb4.size; have HN4 := Hid.in (HN3.out.below hb4); clear hb4)
        | (refine ld_accG w2.heap.size 0 e HR4.out rfl _ rfl rfl ?_)
        | (go_at_call 47; refine (HGA.out _ (HKX.out.below B4.out) HN4.out).mono ?_; rintro e0 w6 ⟨rfl, hb6⟩; have B6 := Hid.in (below2 B4.out hb6); have hc := HCX.out.below (B6.out); have y0 := hc.cell 0 (by decide); have y1 := hc.cell 1 (by decide); have y2 := hc.cell 2 (by decide); have f0 := hc.free 0; have f1 := hc.free 1; have f2 := hc.free 2; simp only [fnd] at y0 y1 y2; have HC2 := Hid.in hc; clear hc; clear hb6))
      have z := ((HC2.out.set 0 (by decide) (.bool false)).set 1 (by decide) (.int .i64 (gmN (S.ofs e) e.z))).set 2 (by decide) (.int .u32 (S.gvN e (S.ofs e) e.z))
      refine bodyPost_ret (results_found2 Tryd.results14 _ _ w.heap.size _ _ _ _ rfl rfl (z.cell 0 (by decide)) (z.cell 1 (by decide)) (z.cell 2 (by decide))) rfl ⟨by rw [HFD.out]; rfl, ?_⟩
      have t : Turned (fun j => w.heap.size ≤ j) w w6 := Turned.of_below (below2 HB.out B6.out)
      exact (((t.set (b := w.heap.size) (Nat.le_refl _) 0 _).set (b := w.heap.size) (Nat.le_refl _) 1 _).set (b := w.heap.size) (Nat.le_refl _) 2 _).below (Nat.le_refl _) (fun j e => e)
  · go_wp2_with (first
      | (go_at_call 45; refine HLK.out.mono ?_; rintro e0 w4 ⟨rfl, hb4⟩; rw [HLB.out]; have B4 := Hid.in (below2 HW3.out hb4); have HR4 := Hid.in (range_turned HR3.out (Turned.of_below (Q := fun _ => False) hb4) hy3 (fun q => q)); have hy4 := Nat.lt_of_lt_of_le hy3 hb4.size; have HN4 := Hid.in (HN3.out.below hb4); have hc := HCX.out.below (B4.out); have y0 := hc.cell 0 (by decide); have y1 := hc.cell 1 (by decide); have y2 := hc.cell 2 (by decide); have f0 := hc.free 0; have f1 := hc.free 1; have f2 := hc.free 2; simp only [fnd] at y0 y1 y2; have HC2 := Hid.in hc; clear hc; clear hb4))
    have z := ((HC2.out.set 0 (by decide) (.bool true)).set 1 (by decide) (.int .i64 0)).set 2 (by decide) (.int .u32 0)
    refine bodyPost_ret (results_found2 Tryd.results14 _ _ w.heap.size _ _ _ _ rfl rfl (z.cell 0 (by decide)) (z.cell 1 (by decide)) (z.cell 2 (by decide))) rfl ⟨by rw [HFD.out]; rfl, ?_⟩
    have t : Turned (fun j => w.heap.size ≤ j) w w4 := Turned.of_below (below2 HB.out B4.out)
    exact (((t.set (b := w.heap.size) (Nat.le_refl _) 0 _).set (b := w.heap.size) (Nat.le_refl _) 1 _).set (b := w.heap.size) (Nat.le_refl _) 2 _).below (Nat.le_refl _) (fun j e => e)
end Go.Proofs.YthbffonedpeeiaaDoor
