/-
  LSQ: Loaded.
-/
import Derived.Test.YthbffonedpeeiaaDoorMp
namespace Go.Proofs.YthbffonedpeeiaaDoor
open Go Go.RowKit
theorem append_op0 {P : Program} {o : Oper} {a : Act} {w w' : World} {K : Act → World → Prop} {Q : Exit → Act → World → Prop} {s x : Operand} {t : TypeId} {v u v' : Value} (ho : o.op = Op.call { callee := Callee.builtin Builtin.append, args := #[s, x], argTypes := #[t, t] }) (hs : a.eval s = v) (hx : a.eval x = u) (hr : (Builtin.append_ #[t, t] o.type #[v, u]).run P w = .ok v' w') (hK : K (a.put o.dst v') w') : o.wp P a w K Q := by
  unfold Oper.wp
  simp [execOp, ho, resolve, invoke, builtin, hs, hx, hr, Result.andThen]
  exact hK
def Ac.withF (e : Ac) (fr : List Int) (fb : Option Nat) (fc : Nat) : Ac := { e with fr := fr, fb := fb, fc := fc }
theorem Ac.withF_self (e : Ac) (h : e.fr = []) : e.withF [] e.fb e.fc = e := by
  unfold Ac.withF
  cases e
  simp at h
  rw [h]
theorem QS.set_self (S : QS) (i : Nat) (hi : i < S.on.length) : S.set i (S.at i) = S := by
  unfold QS.set QS.at
  have : S.on.set i (S.on.getD i a0) = S.on := by
    apply List.ext_getElem?
    intro j
    by_cases e : j = i
    · subst e
      simp [List.getD_eq_getElem?_getD, hi]
    · rw [List.getElem?_set_ne (Ne.symm e)]
  rw [this]
theorem QS.set_set (S : QS) (i : Nat) (y z : Ac) : (S.set i y).set i z = S.set i z := by
  unfold QS.set
  simp
theorem QS.num_set (S : QS) (i : Nat) (y : Ac) (r : Int) (hi : i < S.on.length) (hn : y.n = (S.at i).n) : (S.set i y).num r = S.num r := by
  unfold QS.num
  by_cases h : r = -1
  · rw [if_pos h, if_pos h]
  · rw [if_neg h, if_neg h]
    by_cases e : r.toNat = i
    · rw [e, S.at_set i y hi, hn]
    · rw [S.at_set' i _ y e]
def QS.nums (S : QS) (e : Ac) : List Int := (S.ofs e).map S.num
theorem QS.nums_len (S : QS) (e : Ac) : (S.nums e).length = e.z := by simp [QS.nums, QS.ofs_len]
theorem QS.nums_take (S : QS) (e : Ac) (j : Nat) (h : j < e.z) : (S.nums e).take (j + 1) = (S.nums e).take j ++ [S.num ((S.ofs e).getD j 0)] := by
  have hl : j < (S.ofs e).length := by rw [S.ofs_len]; exact h
  have e1 : (S.nums e)[j]? = some (S.num ((S.ofs e).getD j 0)) := by
    unfold QS.nums
    rw [List.getElem?_map, List.getElem?_eq_getElem hl, List.getD_eq_getElem?_getD, List.getElem?_eq_getElem hl]
    rfl
  rw [List.take_add_one, e1]
  rfl
set_option maxRecDepth 100000 in
set_option maxHeartbeats 1000000 in
theorem loaded_bad (B p : Nat) (v : Value) (S : QS) (seq r : Int) (w : World) (k : Qm w B p v S) (hr : First (S.plc seq) S.on.length r) (h : r = -1 ∨ (S.at r.toNat).loaded = true) : Calls Tryd.prog 17 #[.pointer (some ⟨p, 0, none⟩), .int .i64 seq] w fun e w' => e = .returned (errV 7) ∧ Below w.heap.size w w' := by
  have HC := Hid.in (placedLoad_any B p v S seq w k)
  have HR := Hid.in hr
  by_cases h1 : r = -1
  · subst h1
    clear k hr h
    go_enter Tryd.func17, Tryd.ntmps17
    go_wp2_with (first | (refine HC.out.mono ?_; rintro e w2 ⟨r2, rfl, h1, h2⟩; obtain rfl := h1.uniq HR.out; have H2 := Hid.in h2; clear h1 h2))
    go_ret
    exact ⟨rfl, H2.out⟩
  · obtain ⟨i, hi, -, rfl⟩ := hr.some h1
    have hs := k.small.1
    have hmul : (i : Int) * 8 = ((i * 8 : Nat) : Int) := by omega
    have hne : ((i : Int) == -1) = false := by simp
    have HPL : Hid ((S.at i).loaded = true) := by
      rcases h with h | h
      · exact absurd h h1
      · rw [Int.toNat_natCast] at h
        exact h
    obtain ⟨g, cap, hv, hpg, hrow⟩ := k.rows i hi
    have HRW := Hid.in hrow
    clear k hr h hrow hv
    go_enter Tryd.func17, Tryd.ntmps17
    go_wp2_with (first
      | (go_at_call 43; refine HC.out.mono ?_; rintro e w2 ⟨r2, rfl, h1, h2⟩; obtain rfl := h1.uniq HR.out; obtain ⟨x1, x2, x3, x4⟩ := HRW.out w2 h2; have X2 := Hid.in x2; have H2 := Hid.in h2; clear h1 h2 x2 x3)
      | (refine ld_accG g (i * 8) (S.at i) X2.out rfl _ rfl rfl ?_)
      | (go_at_call 49; refine (isLoaded_any (S.at i) _).mono ?_; rintro r w3 ⟨rfl, hb2⟩; rw [HPL.out]; have HB2 := Hid.in hb2; clear hb2))
    go_ret
    exact ⟨rfl, below2 H2.out HB2.out⟩
set_option maxRecDepth 100000 in
set_option maxHeartbeats 4000000 in
theorem loaded_any (B p : Nat) (v : Value) (S : QS) (seq : Int) (i : Nat) (w : World) (k : Qm w B p v S) (hr : First (S.plc seq) S.on.length i) (hi : i < S.on.length) (hld : (S.at i).fr = []) : Calls Tryd.prog 17 #[.pointer (some ⟨p, 0, none⟩), .int .i64 seq] w fun e w' => if S.lacks (S.at i) then e = .returned (errV 7) ∧ Below w.heap.size w w' else e = .returned .nilIface ∧ ∃ fb fc, Step w w' B p v S v (S.set i ((S.at i).withF (S.nums (S.at i)) fb fc)) := by
  have hpl : (S.at i).n = seq ∧ (S.at i).st = false ∧ 0 < (S.at i).z := by
    rcases hr with ⟨j, hj, h1, -, h3⟩ | ⟨-, h⟩
    · obtain rfl : j = i := by omega
      exact plc_at h1
    · omega
  obtain ⟨g, cap, hv, hpg, hrow⟩ := k.rows i hi
  have hs := k.small.1
  have hmul : (i : Int) * 8 = ((i * 8 : Nat) : Int) := by omega
  have hne : ((i : Int) == -1) = false := by simp
  have HK := Hid.in k
  have HC := Hid.in (placedLoad_any B p v S seq w k)
  have HR := Hid.in hr
  have HRW := Hid.in hrow
  have HV := Hid.in hv
  have HFIT := Hid.in (k.fit i hi)
  have HZ := Hid.in hpl.2.2
  have HLD := Hid.in hld
  have hlo : Hid ((S.at i).loaded = false) := by show _ = _; unfold Ac.loaded; rw [hld]; rfl
  have HLOW : Hid (∀ j, qmine p v S j → j < w.heap.size) := fun j hj => (k.low j hj).2
  obtain ⟨e, he⟩ : ∃ e, S.at i = e := ⟨_, rfl⟩
  have HE := Hid.in he
  rw [he] at HRW HFIT HZ HLD hlo ⊢
  have hz4 : e.z ≤ 4 := by have := HFIT.out.z; omega
  obtain ⟨lb, hlb⟩ : ∃ lb, S.lacks e = lb := ⟨_, rfl⟩
  have HLB : Hid (((List.range e.z).any fun i => S.lack ((S.ofs e).getD i 0)) = lb) := hlb
  rw [hlb]
  clear k hr hpl hv hrow he hld hlb
  go_enter Tryd.func17, Tryd.ntmps17
  go_upto_region 4 with (first
    | (go_at_call 43; refine HC.out.mono ?_; rintro e0 w2 ⟨r2, rfl, h1, h2⟩; obtain rfl := h1.uniq HR.out; obtain ⟨x1, x2, x3, x4⟩ := HRW.out w2 h2; have X2 := Hid.in x2; have H2 := Hid.in h2; clear h1 h2 x2 x3)
    | (refine ld_accG g (i * 8) e X2.out rfl _ rfl rfl ?_)
    | (go_at_call 49; refine (isLoaded_any e _).mono ?_; rintro r w3 ⟨rfl, hb2⟩; rw [hlo.out]; have HB2 := Hid.in (below2 H2.out hb2); clear hb2))
  clear x1 x4
  obtain ⟨x1, x2, -, x4⟩ := HRW.out w3 HB2.out
  have X3 := Hid.in x2
  have HSO := Hid.in (sources_any B p v S e w3 (HK.out.below HB2.out) HFIT.out HZ.out)
  clear x2
  go_upto_region 5 with (first
    | (refine ld_accG g (i * 8) e X3.out rfl _ rfl rfl ?_)
    | (go_at_call 44; refine HSO.out.mono ?_; rintro e0 w4 ⟨gs, rfl, hgs, hcs, hb4⟩; have HGS := Hid.in hgs; have HCS := Hid.in hcs; have HB4 := Hid.in (below2 HB2.out hb4); clear hgs hcs hb4))
  clear x1 x4
  have HN4 : Hid (Nums w4 (some ⟨gs, 0, none⟩) (S.ofs e)) := cells_nums HCS.out (S.ofs_len e)
  have hlk := lackValue_any B p gs e.z v S (S.ofs e) w4 (HK.out.below HB4.out) HN4.out (by rw [S.ofs_len]; exact hz4) (fun j hj => S.ofs_range e j (by rw [S.ofs_len] at hj; exact hj))
  rw [S.ofs_len] at hlk
  have HLK := Hid.in hlk
  clear hlk
  cases lb
  · go_upto_region 7 with (first | (go_at_call 45; refine HLK.out.mono ?_; rintro e0 w5 ⟨rfl, hb5⟩; rw [HLB.out]; have HB5 := Hid.in (below2 HB4.out hb5); have HN5 := Hid.in (HN4.out.below hb5); clear hb5))
    clear HLK HCS HN4 HSO X3 X2 HC HR
    have HQW : Hid (∀ j, qmine p v S j → j < w5.heap.size) := fun j hj => Nat.lt_of_lt_of_le (HLOW.out j hj) HB5.out.size
    have HGQ : Hid (¬ qmine p v S gs) := fun q => by
      have h1 := HLOW.out gs q
      have h2 := HGS.out
      have h3 := HB2.out.size
      omega
    have HST0 : Hid (Step w5 w5 B p v S v (S.set i (e.withF ((S.nums e).take 0) e.fb e.fc))) := by
      have h1 : (S.nums e).take 0 = [] := rfl
      show Step _ _ _ _ _ _ _ _
      rw [h1, e.withF_self HLD.out, ← HE.out, S.set_self i hi]
      exact Step.same (HK.out.below HB5.out) (Below.refl _ _)
    go_wp2
    go_loopw [41] (fun u wr => ∃ (j : Nat) (fb : Option Nat) (fc : Nat), u = .int .i64 j ∧ j ≤ e.z ∧ Step w5 wr B p v S v (S.set i (e.withF ((S.nums e).take j) fb fc))) (fun v _ => 5 - (intOf v).toNat)
    case atStart => exact ⟨0, _, _, rfl, by omega, HST0.out⟩
    case round =>
      obtain ⟨j, fb, fc, rfl, hj, hst⟩ := hrel
      have HST := Hid.in hst
      by_cases hjz : j < e.z
      · obtain ⟨gs', hg', hgl, d0⟩ := HN5.out j (by rw [S.ofs_len]; exact hjz)
        cases hg'
        have d0 := hst.t.to_cell hgl HGQ.out d0
        have HXR := Hid.in (S.ofs_range e j hjz)
        have HTK := Hid.in (S.nums_take e j hjz)
        obtain ⟨x, hx⟩ : ∃ x, (S.ofs e).getD j 0 = x := ⟨_, rfl⟩
        rw [hx] at d0 HXR HTK
        obtain ⟨ej, hej⟩ : ∃ ej, e.withF ((S.nums e).take j) fb fc = ej := ⟨_, rfl⟩
        obtain ⟨Sj, hSj⟩ : ∃ Sj, S.set i ej = Sj := ⟨_, rfl⟩
        have hat : Sj.at i = ej := by rw [← hSj, S.at_set i _ hi]
        have hl : Sj.on.length = S.on.length := by rw [← hSj]; exact S.set_len i _
        have hfr : ej.fr.length = j := by
          rw [← hej]
          show ((S.nums e).take j).length = j
          rw [List.length_take, S.nums_len]
          omega
        have hzj : ej.z = e.z := by rw [← hej]; rfl
        have HNU : Hid (Sj.num x = S.num x) := by
          show Sj.num x = _
          rw [← hSj]
          exact S.num_set i ej x hi (by rw [← hej, HE.out]; rfl)
        have HXR : Hid (x = -1 ∨ (0 ≤ x ∧ x < Sj.on.length)) := by rw [hl]; exact HXR.out
        have hq := hst.q
        rw [hej, hSj] at hq
        have HQJ := Hid.in hq
        clear hst hx
        obtain ⟨nu, hnu⟩ : ∃ nu, S.num x = nu := ⟨_, rfl⟩
        rw [hnu] at HNU HTK
        go_upto_region 11 with (go_at_call 37; refine (numberAt_any B p v Sj x _ HQJ.out HXR.out).mono ?_; rintro e0 w8 ⟨rfl, hw8⟩; rw [HNU.out]; have hw9 := hw8.symm; clear hw8; subst hw9)
        have kW := hq.below (Below.refl _ wr).drew
        clear hq
        refine wp_region_held_drew (S := fun w' => w'.cell? ⟨p, 1, none⟩ = some (.slice (some ⟨g, 0, none⟩) S.on.length cap)) (by kernel_rfl) ?_ (fun hHeld => ?_)
        · have := kW.cells.2.2.1
          rw [HV.out] at this
          exact this
        have bW : Below wr.heap.size wr wr.drew := (Below.refl _ wr).drew
        have HBW := Hid.in bW
        clear bW
        generalize wr.drew = w9 at kW HBW hHeld ⊢
        have HKW := Hid.in kW
        obtain ⟨gj, capj, hvj, hpg2, hrowj⟩ := kW.rows i (by omega)
        rw [HV.out, hl] at hvj
        cases hvj
        obtain ⟨-, r2, r3, -⟩ := hrowj w9 (Below.refl _ _)
        rw [hat] at r2
        obtain ⟨-, -, -, -, -, -, -, c7⟩ := row_cells r2
        have f7 := r3 (i * 8 + 7)
        have HVE : Hid (ej.v = .slice (ej.fb.map fun b => (⟨b, 0, none⟩ : Addr)) ej.fr.length ej.fc) := rfl
        obtain ⟨fq, hfq⟩ : ∃ fq, ej.fb.map (fun b => (⟨b, 0, none⟩ : Addr)) = fq := ⟨_, rfl⟩
        rw [hfq] at HVE
        obtain ⟨fcap, hfcap⟩ : ∃ fcap, ej.fc = fcap := ⟨_, rfl⟩
        rw [hfcap] at HVE
        have HAT := Hid.in hat
        rw [HVE.out] at c7
        obtain ⟨X, hX⟩ : ∃ X, w9.alloc (.cells #[.int .i64 nu] 3) = X := ⟨_, rfl⟩
        have bX : Below w9.heap.size w9 X := by rw [← hX]; exact (Below.refl _ _).alloc (Nat.le_refl _) _
        have cX : X.cell? ⟨w9.heap.size, 0, none⟩ = some (.int .i64 nu) := by rw [← hX]; exact World.cell?_alloc_new _ _ _ _
        have ownX := (kW.below bX).f i (by omega)
        obtain ⟨q', cap', Y, hrun, r5, r6, r7⟩ := app_int B X (Sj.at i).v (Sj.at i).fr ⟨w9.heap.size, 0, none⟩ 1 nu ownX cX (by rw [hat, hfr]; omega) (by have := kW.lo; have := kW.c.here; have := bX.size; omega)
        have st1 := kW.grow (g := g) (cap := cap) (by rw [HV.out, hl]) i (by omega) nu bX r5 r6 r7 (by rw [hat, hfr, hzj]; exact hjz)
        have hXe : (Sj.at i).fb ≠ some g := fun q => kW.fv i (by omega) g q (by rw [HV.out]; rfl)
        have hXp : (Sj.at i).fb ≠ some p := kW.fp i (by omega)
        have HSX : Hid (X.cell? ⟨p, 1, none⟩ = some (.slice (some ⟨g, 0, none⟩) S.on.length cap)) := (bX.cell (p := ⟨p, 1, none⟩) kW.c.here).trans hHeld
        have HSY : Hid (Y.cell? ⟨p, 1, none⟩ = some (.slice (some ⟨g, 0, none⟩) S.on.length cap)) := r6.to_cell (Nat.lt_of_lt_of_le kW.c.here bX.size) (by rw [Ac.vb]; exact hXp) HSX.out
        have hgj : g < X.heap.size := (kW.below bX).low g (Or.inr (Or.inl (by rw [HV.out]; rfl))) |>.2
        have c7X := (bX.cell (p := ⟨g, i * 8 + 7, none⟩) (cell_here c7)).trans c7
        have c7Y := r6.to_cell hgj (by rw [Ac.vb]; exact hXe) c7X
        have f7X := (bX.frozen (p := ⟨g, i * 8 + 7, none⟩) (cell_here c7)).trans f7
        have f7Y : Y.frozen? ⟨g, i * 8 + 7, none⟩ = false := (World.frozen?_of_block (r6.block g hgj (by rw [Ac.vb]; exact hXe))).trans f7X
        have HSZ : Hid ((Y.setCell ⟨g, i * 8 + 7, none⟩ (.slice q' ((Sj.at i).fr.length + 1) cap')).cell? ⟨p, 1, none⟩ = some (.slice (some ⟨g, 0, none⟩) S.on.length cap)) := (World.cell?_setCell_far _ _ _ _ (Ne.symm hpg2)).trans HSY.out
        have HREL : Hid (∃ (j' : Nat) (fb' : Option Nat) (fc' : Nat), Value.int .i64 ((j : Int) + 1) = .int .i64 j' ∧ j' ≤ e.z ∧ Step w5 (Y.setCell ⟨g, i * 8 + 7, none⟩ (.slice q' ((Sj.at i).fr.length + 1) cap')) B p v S v (S.set i (e.withF ((S.nums e).take j') fb' fc'))) := by
          refine ⟨j + 1, (Value.slice q' ((Sj.at i).fr.length + 1) cap').ownBlock, cap', rfl, by omega, ?_⟩
          have a1 := HST.out
          rw [hej, hSj] at a1
          have a2 := (a1.trans (Step.same HQJ.out HBW.out)).trans st1
          have a3 : Sj.set i ((Sj.at i).more nu (Value.slice q' ((Sj.at i).fr.length + 1) cap').ownBlock cap') = S.set i (e.withF ((S.nums e).take (j + 1)) (Value.slice q' ((Sj.at i).fr.length + 1) cap').ownBlock cap') := by
            rw [← hSj, S.set_set, hSj, hat, HTK.out, ← hej]
            rfl
          rw [← a3]
          exact a2
        have hv7 : (Sj.at i).v = .slice fq j fcap := by rw [hat, HVE.out, hfr]
        rw [hv7] at hrun
        have HRUN := Hid.in hrun
        subst hX
        clear hrun st1 r5 r6 r7 ownX kW hrowj r2 r3 cX f7X bX hej hat hfq hv7
        refine wpAnyH_take (i := 0) (oi := { dst := some 48, op := Op.move (Operand.tmp 0), type := 23, pos := "lsq.go:89", after := #[], guard := none }) (v := ?_) rfl (by kernel_rfl) (by kernel_rfl) (by kernel_rfl) (fun _ _ _ h => h) (Or.inl ⟨by rfl, ?_⟩) (by assumption) ?_
        rotate_left
        · (intro w hSw; (try dsimp only at hSw); (go_simp <;> with_reducible rfl))
        try simp only [Act.put, List.setIfInBounds_toArray, List.set_cons_zero, List.set_cons_succ]
        refine wpAnyH_take (i := 1) (oi := { dst := some 49, op := Op.nilCheck (Operand.tmp 48), type := 0, pos := "lsq.go:89", after := #[{ on := 0, ground := Go.Ground.data }], guard := none }) (v := ?_) rfl (by kernel_rfl) (by kernel_rfl) (by kernel_rfl) (fun _ _ _ h => h) (Or.inl ⟨by rfl, ?_⟩) (by assumption) ?_
        rotate_left
        · (intro w hSw; (try dsimp only at hSw); (go_simp <;> with_reducible rfl))
        try simp only [Act.put, List.setIfInBounds_toArray, List.set_cons_zero, List.set_cons_succ]
        refine wpAnyH_take (i := 2) (oi := { dst := some 50, op := Op.fieldAddr 81 (Operand.tmp 49) 1, type := 0, pos := "lsq.go:89", after := #[{ on := 1, ground := Go.Ground.data }], guard := none }) (v := ?_) rfl (by kernel_rfl) (by kernel_rfl) (by kernel_rfl) (fun _ _ _ h => h) (Or.inl ⟨by rfl, ?_⟩) (by assumption) ?_
        rotate_left
        · (intro w hSw; (try dsimp only at hSw); (go_simp <;> with_reducible rfl))
        try simp only [Act.put, List.setIfInBounds_toArray, List.set_cons_zero, List.set_cons_succ]
        refine wpAnyH_take (i := 3) (oi := { dst := some 51, op := Op.load 79 (Operand.tmp 50), type := 79, pos := "lsq.go:89", after := #[{ on := 2, ground := Go.Ground.data }], guard := none }) (v := ?_) rfl (by kernel_rfl) (by kernel_rfl) (by kernel_rfl) (fun _ _ _ h => h) (Or.inl ⟨by rfl, ?_⟩) (by assumption) ?_
        rotate_left
        · (intro w hSw; (try dsimp only at hSw); (go_simp <;> with_reducible rfl))
        try simp only [Act.put, List.setIfInBounds_toArray, List.set_cons_zero, List.set_cons_succ]
        refine wpAnyH_take (i := 4) (oi := { dst := some 52, op := Op.move (Operand.tmp 5), type := 3, pos := "lsq.go:89", after := #[], guard := none }) (v := ?_) rfl (by kernel_rfl) (by kernel_rfl) (by kernel_rfl) (fun _ _ _ h => h) (Or.inl ⟨by rfl, ?_⟩) (by assumption) ?_
        rotate_left
        · (intro w hSw; (try dsimp only at hSw); (go_simp <;> with_reducible rfl))
        try simp only [Act.put, List.setIfInBounds_toArray, List.set_cons_zero, List.set_cons_succ]
        refine wpAnyH_take (i := 5) (oi := { dst := some 53, op := Op.move (Operand.tmp 0), type := 23, pos := "lsq.go:89", after := #[], guard := none }) (v := ?_) rfl (by kernel_rfl) (by kernel_rfl) (by kernel_rfl) (fun _ _ _ h => h) (Or.inl ⟨by rfl, ?_⟩) (by assumption) ?_
        rotate_left
        · (intro w hSw; (try dsimp only at hSw); (go_simp <;> with_reducible rfl))
        try simp only [Act.put, List.setIfInBounds_toArray, List.set_cons_zero, List.set_cons_succ]
        refine wpAnyH_take (i := 6) (oi := { dst := some 54, op := Op.nilCheck (Operand.tmp 53), type := 0, pos := "lsq.go:89", after := #[{ on := 5, ground := Go.Ground.data }], guard := none }) (v := ?_) rfl (by kernel_rfl) (by kernel_rfl) (by kernel_rfl) (fun _ _ _ h => h) (Or.inl ⟨by rfl, ?_⟩) (by assumption) ?_
        rotate_left
        · (intro w hSw; (try dsimp only at hSw); (go_simp <;> with_reducible rfl))
        try simp only [Act.put, List.setIfInBounds_toArray, List.set_cons_zero, List.set_cons_succ]
        refine wpAnyH_take (i := 7) (oi := { dst := some 55, op := Op.fieldAddr 81 (Operand.tmp 54) 1, type := 0, pos := "lsq.go:89", after := #[{ on := 6, ground := Go.Ground.data }], guard := none }) (v := ?_) rfl (by kernel_rfl) (by kernel_rfl) (by kernel_rfl) (fun _ _ _ h => h) (Or.inl ⟨by rfl, ?_⟩) (by assumption) ?_
        rotate_left
        · (intro w hSw; (try dsimp only at hSw); (go_simp <;> with_reducible rfl))
        try simp only [Act.put, List.setIfInBounds_toArray, List.set_cons_zero, List.set_cons_succ]
        refine wpAnyH_take (i := 8) (oi := { dst := some 56, op := Op.load 79 (Operand.tmp 55), type := 79, pos := "lsq.go:89", after := #[{ on := 7, ground := Go.Ground.data }], guard := none }) (v := ?_) rfl (by kernel_rfl) (by kernel_rfl) (by kernel_rfl) (fun _ _ _ h => h) (Or.inl ⟨by rfl, ?_⟩) (by assumption) ?_
        rotate_left
        · (intro w hSw; (try dsimp only at hSw); (go_simp <;> with_reducible rfl))
        try simp only [Act.put, List.setIfInBounds_toArray, List.set_cons_zero, List.set_cons_succ]
        refine wpAnyH_take (i := 9) (oi := { dst := some 57, op := Op.move (Operand.tmp 5), type := 3, pos := "lsq.go:89", after := #[], guard := none }) (v := ?_) rfl (by kernel_rfl) (by kernel_rfl) (by kernel_rfl) (fun _ _ _ h => h) (Or.inl ⟨by rfl, ?_⟩) (by assumption) ?_
        rotate_left
        · (intro w hSw; (try dsimp only at hSw); (go_simp <;> with_reducible rfl))
        try simp only [Act.put, List.setIfInBounds_toArray, List.set_cons_zero, List.set_cons_succ]
        refine wpAnyH_take (i := 10) (oi := { dst := some 58, op := Op.indexAddr 79 (Operand.tmp 56) (Operand.tmp 57), type := 0, pos := "lsq.go:89", after := #[{ on := 8, ground := Go.Ground.data }, { on := 9, ground := Go.Ground.data }], guard := none }) (v := ?_) rfl (by kernel_rfl) (by kernel_rfl) (by kernel_rfl) (fun _ _ _ h => h) (Or.inl ⟨by rfl, ?_⟩) (by assumption) ?_
        rotate_left
        · (intro w hSw; (try dsimp only at hSw); (go_simp <;> with_reducible rfl))
        try simp only [Act.put, List.setIfInBounds_toArray, List.set_cons_zero, List.set_cons_succ]
        refine wpAnyH_take (i := 11) (oi := { dst := some 59, op := Op.fieldAddr 86 (Operand.tmp 58) 7, type := 0, pos := "lsq.go:89", after := #[{ on := 10, ground := Go.Ground.data }], guard := none }) (v := ?_) rfl (by kernel_rfl) (by kernel_rfl) (by kernel_rfl) (fun _ _ _ h => h) (Or.inl ⟨by rfl, ?_⟩) (by assumption) ?_
        rotate_left
        · (intro w hSw; (try dsimp only at hSw); (go_simp <;> with_reducible rfl))
        try simp only [Act.put, List.setIfInBounds_toArray, List.set_cons_zero, List.set_cons_succ]
        refine wpAnyH_take (i := 13) (oi := { dst := some 61, op := Op.move (Operand.tmp 9), type := 3, pos := "lsq.go:89", after := #[], guard := none }) (v := ?_) rfl (by kernel_rfl) (by kernel_rfl) (by kernel_rfl) (fun _ _ _ h => h) (Or.inl ⟨by rfl, ?_⟩) (by assumption) ?_
        rotate_left
        · (intro w hSw; (try dsimp only at hSw); (go_simp <;> with_reducible rfl))
        try simp only [Act.put, List.setIfInBounds_toArray, List.set_cons_zero, List.set_cons_succ]
        refine wpAnyH_ready (rs := [12, 14]) (by kernel_rfl) (by simp) ?_
        refine AllReadyH.cons (o := { dst := some 60, op := Op.load 63 (Operand.tmp 59), type := 63, pos := "lsq.go:89", after := #[{ on := 11, ground := Go.Ground.data }], guard := none }) rfl (fun K hK => ?_) ?_
        · go_simp
          refine hK.out _ _ ?_ (fun hHeld2 => ?_)
          · exact hHeld
          clear hK K hHeld
          have hHeld := hHeld2
          clear hHeld2
          try simp only [Act.put, List.setIfInBounds_toArray, List.set_cons_zero, List.set_cons_succ]
          refine wpAnyH_ready (rs := [14]) (by kernel_rfl) (by simp) ?_
          refine AllReadyH.cons (o := { dst := some 62, op := Op.buildSlice 63 1 #[(0, Operand.tmp 61)], type := 63, pos := "lsq.go:89", after := #[{ on := 13, ground := Go.Ground.data }], guard := none }) rfl (fun K hK => ?_) ?_
          · go_simp
            refine hK.out _ _ ?_ (fun hHeld2 => ?_)
            · exact HSX.out
            clear hK K hHeld
            have hHeld := hHeld2
            clear hHeld2
            try simp only [Act.put, List.setIfInBounds_toArray, List.set_cons_zero, List.set_cons_succ]
            refine wpAnyH_ready (rs := [15]) (by kernel_rfl) (by simp) ?_
            refine AllReadyH.cons (o := { dst := some 63, op := Op.call { callee := Callee.builtin Builtin.append, args := #[Operand.tmp 60, Operand.tmp 62], argTypes := #[63, 63] }, type := 63, pos := "lsq.go:89", after := #[{ on := 12, ground := Go.Ground.data }, { on := 14, ground := Go.Ground.data }], guard := none }) rfl (fun K hK => ?_) ?_
            · rw [if_pos (by rfl)]
              refine append_op0 (v := .slice fq j fcap) (u := .slice (some ⟨w9.heap.size, 0, none⟩) 1 1) rfl rfl rfl HRUN.out ?_
              refine hK.out _ _ ?_ (fun hHeld2 => ?_)
              · exact HSY.out
              clear hK K hHeld
              have hHeld := hHeld2
              clear hHeld2
              try simp only [Act.put, List.setIfInBounds_toArray, List.set_cons_zero, List.set_cons_succ]
              refine wpAnyH_take (i := 16) (oi := { dst := some 64, op := Op.indexAddr 79 (Operand.tmp 51) (Operand.tmp 52), type := 0, pos := "lsq.go:89", after := #[{ on := 3, ground := Go.Ground.data }, { on := 4, ground := Go.Ground.data }, { on := 0, ground := Go.Ground.phase }, { on := 1, ground := Go.Ground.phase }, { on := 2, ground := Go.Ground.phase }, { on := 3, ground := Go.Ground.phase }, { on := 4, ground := Go.Ground.phase }, { on := 5, ground := Go.Ground.phase }, { on := 6, ground := Go.Ground.phase }, { on := 7, ground := Go.Ground.phase }, { on := 8, ground := Go.Ground.phase }, { on := 9, ground := Go.Ground.phase }, { on := 10, ground := Go.Ground.phase }, { on := 11, ground := Go.Ground.phase }, { on := 12, ground := Go.Ground.phase }, { on := 13, ground := Go.Ground.phase }, { on := 14, ground := Go.Ground.phase }, { on := 15, ground := Go.Ground.phase }], guard := none }) (v := ?_) rfl (by kernel_rfl) (by kernel_rfl) (by kernel_rfl) (fun _ _ _ h => h) (Or.inl ⟨by rfl, ?_⟩) (by assumption) ?_
              rotate_left
              · (intro w hSw; (try dsimp only at hSw); (go_simp <;> with_reducible rfl))
              try simp only [Act.put, List.setIfInBounds_toArray, List.set_cons_zero, List.set_cons_succ]
              refine wpAnyH_take (i := 17) (oi := { dst := some 65, op := Op.fieldAddr 86 (Operand.tmp 64) 7, type := 0, pos := "lsq.go:89", after := #[{ on := 16, ground := Go.Ground.data }, { on := 0, ground := Go.Ground.phase }, { on := 1, ground := Go.Ground.phase }, { on := 2, ground := Go.Ground.phase }, { on := 3, ground := Go.Ground.phase }, { on := 4, ground := Go.Ground.phase }, { on := 5, ground := Go.Ground.phase }, { on := 6, ground := Go.Ground.phase }, { on := 7, ground := Go.Ground.phase }, { on := 8, ground := Go.Ground.phase }, { on := 9, ground := Go.Ground.phase }, { on := 10, ground := Go.Ground.phase }, { on := 11, ground := Go.Ground.phase }, { on := 12, ground := Go.Ground.phase }, { on := 13, ground := Go.Ground.phase }, { on := 14, ground := Go.Ground.phase }, { on := 15, ground := Go.Ground.phase }], guard := none }) (v := ?_) rfl (by kernel_rfl) (by kernel_rfl) (by kernel_rfl) (fun _ _ _ h => h) (Or.inl ⟨by rfl, ?_⟩) (by assumption) ?_
              rotate_left
              · (intro w hSw; (try dsimp only at hSw); (go_simp <;> with_reducible rfl))
              try simp only [Act.put, List.setIfInBounds_toArray, List.set_cons_zero, List.set_cons_succ]
              refine wpAnyH_ready (rs := [18]) (by kernel_rfl) (by simp) ?_
              refine AllReadyH.cons (o := { dst := none, op := Op.store 63 (Operand.tmp 65) (Operand.tmp 63), type := 0, pos := "lsq.go:89", after := #[{ on := 17, ground := Go.Ground.data }, { on := 15, ground := Go.Ground.data }, { on := 15, ground := Go.Ground.chain }, { on := 0, ground := Go.Ground.phase }, { on := 1, ground := Go.Ground.phase }, { on := 2, ground := Go.Ground.phase }, { on := 3, ground := Go.Ground.phase }, { on := 4, ground := Go.Ground.phase }, { on := 5, ground := Go.Ground.phase }, { on := 6, ground := Go.Ground.phase }, { on := 7, ground := Go.Ground.phase }, { on := 8, ground := Go.Ground.phase }, { on := 9, ground := Go.Ground.phase }, { on := 10, ground := Go.Ground.phase }, { on := 11, ground := Go.Ground.phase }, { on := 12, ground := Go.Ground.phase }, { on := 13, ground := Go.Ground.phase }, { on := 14, ground := Go.Ground.phase }, { on := 15, ground := Go.Ground.phase }], guard := none }) rfl (fun K hK => ?_) ?_
              · go_simp
                refine hK.out _ _ ?_ (fun hHeld2 => ?_)
                · exact HSZ.out
                clear hK K hHeld
                have hHeld := hHeld2
                clear hHeld2
                try simp only [Act.put, List.setIfInBounds_toArray, List.set_cons_zero, List.set_cons_succ]
                refine wpAnyH_done (by kernel_rfl) ?_ _
                go_wp2_with fail
                go_roundw
                case rel => exact HREL.out
                case measure =>
                  simp [intOf]
                  omega
              exact AllReadyH.nil
            exact AllReadyH.nil
          exact AllReadyH.nil
        refine AllReadyH.cons (o := { dst := some 62, op := Op.buildSlice 63 1 #[(0, Operand.tmp 61)], type := 63, pos := "lsq.go:89", after := #[{ on := 13, ground := Go.Ground.data }], guard := none }) rfl (fun K hK => ?_) ?_
        · go_simp
          refine hK.out _ _ ?_ (fun hHeld2 => ?_)
          · exact HSX.out
          clear hK K hHeld
          have hHeld := hHeld2
          clear hHeld2
          try simp only [Act.put, List.setIfInBounds_toArray, List.set_cons_zero, List.set_cons_succ]
          refine wpAnyH_ready (rs := [12]) (by kernel_rfl) (by simp) ?_
          refine AllReadyH.cons (o := { dst := some 60, op := Op.load 63 (Operand.tmp 59), type := 63, pos := "lsq.go:89", after := #[{ on := 11, ground := Go.Ground.data }], guard := none }) rfl (fun K hK => ?_) ?_
          · go_simp
            refine hK.out _ _ ?_ (fun hHeld2 => ?_)
            · exact hHeld
            clear hK K hHeld
            have hHeld := hHeld2
            clear hHeld2
            try simp only [Act.put, List.setIfInBounds_toArray, List.set_cons_zero, List.set_cons_succ]
            refine wpAnyH_ready (rs := [15]) (by kernel_rfl) (by simp) ?_
            refine AllReadyH.cons (o := { dst := some 63, op := Op.call { callee := Callee.builtin Builtin.append, args := #[Operand.tmp 60, Operand.tmp 62], argTypes := #[63, 63] }, type := 63, pos := "lsq.go:89", after := #[{ on := 12, ground := Go.Ground.data }, { on := 14, ground := Go.Ground.data }], guard := none }) rfl (fun K hK => ?_) ?_
            · rw [if_pos (by rfl)]
              refine append_op0 (v := .slice fq j fcap) (u := .slice (some ⟨w9.heap.size, 0, none⟩) 1 1) rfl rfl rfl HRUN.out ?_
              refine hK.out _ _ ?_ (fun hHeld2 => ?_)
              · exact HSY.out
              clear hK K hHeld
              have hHeld := hHeld2
              clear hHeld2
              try simp only [Act.put, List.setIfInBounds_toArray, List.set_cons_zero, List.set_cons_succ]
              refine wpAnyH_take (i := 16) (oi := { dst := some 64, op := Op.indexAddr 79 (Operand.tmp 51) (Operand.tmp 52), type := 0, pos := "lsq.go:89", after := #[{ on := 3, ground := Go.Ground.data }, { on := 4, ground := Go.Ground.data }, { on := 0, ground := Go.Ground.phase }, { on := 1, ground := Go.Ground.phase }, { on := 2, ground := Go.Ground.phase }, { on := 3, ground := Go.Ground.phase }, { on := 4, ground := Go.Ground.phase }, { on := 5, ground := Go.Ground.phase }, { on := 6, ground := Go.Ground.phase }, { on := 7, ground := Go.Ground.phase }, { on := 8, ground := Go.Ground.phase }, { on := 9, ground := Go.Ground.phase }, { on := 10, ground := Go.Ground.phase }, { on := 11, ground := Go.Ground.phase }, { on := 12, ground := Go.Ground.phase }, { on := 13, ground := Go.Ground.phase }, { on := 14, ground := Go.Ground.phase }, { on := 15, ground := Go.Ground.phase }], guard := none }) (v := ?_) rfl (by kernel_rfl) (by kernel_rfl) (by kernel_rfl) (fun _ _ _ h => h) (Or.inl ⟨by rfl, ?_⟩) (by assumption) ?_
              rotate_left
              · (intro w hSw; (try dsimp only at hSw); (go_simp <;> with_reducible rfl))
              try simp only [Act.put, List.setIfInBounds_toArray, List.set_cons_zero, List.set_cons_succ]
              refine wpAnyH_take (i := 17) (oi := { dst := some 65, op := Op.fieldAddr 86 (Operand.tmp 64) 7, type := 0, pos := "lsq.go:89", after := #[{ on := 16, ground := Go.Ground.data }, { on := 0, ground := Go.Ground.phase }, { on := 1, ground := Go.Ground.phase }, { on := 2, ground := Go.Ground.phase }, { on := 3, ground := Go.Ground.phase }, { on := 4, ground := Go.Ground.phase }, { on := 5, ground := Go.Ground.phase }, { on := 6, ground := Go.Ground.phase }, { on := 7, ground := Go.Ground.phase }, { on := 8, ground := Go.Ground.phase }, { on := 9, ground := Go.Ground.phase }, { on := 10, ground := Go.Ground.phase }, { on := 11, ground := Go.Ground.phase }, { on := 12, ground := Go.Ground.phase }, { on := 13, ground := Go.Ground.phase }, { on := 14, ground := Go.Ground.phase }, { on := 15, ground := Go.Ground.phase }], guard := none }) (v := ?_) rfl (by kernel_rfl) (by kernel_rfl) (by kernel_rfl) (fun _ _ _ h => h) (Or.inl ⟨by rfl, ?_⟩) (by assumption) ?_
              rotate_left
              · (intro w hSw; (try dsimp only at hSw); (go_simp <;> with_reducible rfl))
              try simp only [Act.put, List.setIfInBounds_toArray, List.set_cons_zero, List.set_cons_succ]
              refine wpAnyH_ready (rs := [18]) (by kernel_rfl) (by simp) ?_
              refine AllReadyH.cons (o := { dst := none, op := Op.store 63 (Operand.tmp 65) (Operand.tmp 63), type := 0, pos := "lsq.go:89", after := #[{ on := 17, ground := Go.Ground.data }, { on := 15, ground := Go.Ground.data }, { on := 15, ground := Go.Ground.chain }, { on := 0, ground := Go.Ground.phase }, { on := 1, ground := Go.Ground.phase }, { on := 2, ground := Go.Ground.phase }, { on := 3, ground := Go.Ground.phase }, { on := 4, ground := Go.Ground.phase }, { on := 5, ground := Go.Ground.phase }, { on := 6, ground := Go.Ground.phase }, { on := 7, ground := Go.Ground.phase }, { on := 8, ground := Go.Ground.phase }, { on := 9, ground := Go.Ground.phase }, { on := 10, ground := Go.Ground.phase }, { on := 11, ground := Go.Ground.phase }, { on := 12, ground := Go.Ground.phase }, { on := 13, ground := Go.Ground.phase }, { on := 14, ground := Go.Ground.phase }, { on := 15, ground := Go.Ground.phase }], guard := none }) rfl (fun K hK => ?_) ?_
              · go_simp
                refine hK.out _ _ ?_ (fun hHeld2 => ?_)
                · exact HSZ.out
                clear hK K hHeld
                have hHeld := hHeld2
                clear hHeld2
                try simp only [Act.put, List.setIfInBounds_toArray, List.set_cons_zero, List.set_cons_succ]
                refine wpAnyH_done (by kernel_rfl) ?_ _
                go_wp2_with fail
                go_roundw
                case rel => exact HREL.out
                case measure =>
                  simp [intOf]
                  omega
              exact AllReadyH.nil
            exact AllReadyH.nil
          exact AllReadyH.nil
        exact AllReadyH.nil
      · obtain rfl : j = e.z := by omega
        go_wp2
        go_ret
        refine ⟨rfl, fb, fc, ?_⟩
        have a1 := HST.out
        rw [List.take_of_length_le (by rw [S.nums_len]; exact Nat.le_refl _)] at a1
        exact (Step.same HK.out HB5.out).trans a1
  · go_wp2_with (first | (go_at_call 45; refine HLK.out.mono ?_; rintro e0 w5 ⟨rfl, hb5⟩; rw [HLB.out]; have HB5 := Hid.in (below2 HB4.out hb5); clear hb5))
    go_ret
    exact ⟨rfl, HB5.out⟩
end Go.Proofs.YthbffonedpeeiaaDoor
