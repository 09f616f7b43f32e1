import Derived.Test.YtlogdmnhngbkaaaDoorY09
/-
  THE ANSWER's CACHE: Lower, New.
-/
namespace Go.Proofs.YtlogdmnhngbkaaaDoor
open Go Go.RowKit
theorem rrange_zero (w : World) (t : TypeId) : (w.alloc (.cells zr t)).rangeAt w.heap.size 0 l0.rv := rrange_new w l0 t
theorem there_rzero (w : World) (t : TypeId) : (w.alloc (.cells zr t)).there w.heap.size 0 18 := there_rnew w l0 t
set_option maxRecDepth 100000 in
set_option maxHeartbeats 2000000 in
theorem rlower_range (B p : Nat) (v : Value) (n ways : Nat) (R : List Ln) (a : Nat) (st : Int) (w : World) (k : RC w B p v n ways R) (ha : a < 4294967296) (h : a % 16 ≠ 0 ∨ st < 0 ∨ 2 < st) : Calls Tryd.prog 51 #[.pointer (some ⟨p, 0, none⟩), .int .i64 a, .int .i64 st] w fun e w' => e = .returned (.tuple #[.agg l0.rv.toArray, .int .i64 3]) ∧ Below w.heap.size w w' := by
  have hu : undef = Value.tuple #[] := rfl
  have hp := k.c.here
  have hmod : (a : Int).tmod 16 = ((a % 16 : Nat) : Int) := by rw [Int.tmod_eq_emod_of_nonneg (by omega)]; omega
  have hmod2 : (a : Int) % 16 = ((a % 16 : Nat) : Int) := by omega
  obtain ⟨q, hq⟩ : ∃ q, a % 16 = q := ⟨_, rfl⟩
  rw [hq] at hmod hmod2 h
  have T0 := there_rzero w 104
  obtain ⟨W, hW⟩ : ∃ W, w.alloc (.cells #[.int .i64 0, .int .i64 0, .int .u8 0, .int .u8 0, .int .u8 0, .int .u8 0, .int .u8 0, .int .u8 0, .int .u8 0, .int .u8 0, .int .u8 0, .int .u8 0, .int .u8 0, .int .u8 0, .int .u8 0, .int .u8 0, .int .u8 0, .int .u8 0] 104) = W := ⟨_, rfl⟩
  have HT : Hid (W.there w.heap.size 0 18) := by show W.there _ _ _; rw [← hW]; exact T0
  have HW := Hid.in hW
  have HB : Hid (Below w.heap.size w (W.setCells w.heap.size 0 l0.rv) ∧ (W.setCells w.heap.size 0 l0.rv).rangeAt w.heap.size 0 l0.rv) := by
    refine ⟨?_, World.rangeAt_setCells_same _ _ _ _ (by rw [Ln.rlen]; exact HT.out)⟩
    have b1 : Below w.heap.size w W := by rw [← hW]; exact (Below.refl _ _).alloc (Nat.le_refl _) _
    exact b1.trans ((turned_setCells (g := w.heap.size) l0.rv 0 W).below b1.size (fun q e => by omega))
  clear hq k T0 hW
  have main : (q ≠ 0) ∨ (q = 0 ∧ st < 0) ∨ (q = 0 ∧ 0 ≤ st ∧ 2 < st) := by omega
  rcases main with hq | ⟨rfl, h0⟩ | ⟨rfl, h0, h2⟩
  · have hqd : ((q : Int) == 0) = false := by simp; omega
    have hqn : ((q : Int) != 0) = true := by simp; omega
    go_enter Tryd.func51, Tryd.ntmps51
    go_upto_region 1 with fail
    rw [HW.out]
    have T1 := HT.out
    go_wp2_with (first
      | (refine wpList_build rfl _ _ rfl l0.rv.toArray (by kernel_rfl) ?_)
      | (refine rst w.heap.size 0 l0 T1 rfl rfl _ _ rfl rfl rfl ?_))
    refine bodyPost_ret (results_rline2 Tryd.results51 _ _ w.heap.size l0 _ rfl rfl HB.out.2) rfl ?_
    exact ⟨rfl, HB.out.1⟩
  · have h0d : decide (st < 0) = true := by simp [h0]
    go_enter Tryd.func51, Tryd.ntmps51
    go_upto_region 1 with fail
    rw [HW.out]
    have T1 := HT.out
    go_wp2_with (first
      | (refine wpList_build rfl _ _ rfl l0.rv.toArray (by kernel_rfl) ?_)
      | (refine rst w.heap.size 0 l0 T1 rfl rfl _ _ rfl rfl rfl ?_))
    refine bodyPost_ret (results_rline2 Tryd.results51 _ _ w.heap.size l0 _ rfl rfl HB.out.2) rfl ?_
    exact ⟨rfl, HB.out.1⟩
  · have h0d : decide (st < 0) = false := by simp; omega
    have h2d : decide (2 < st) = true := by simp [h2]
    go_enter Tryd.func51, Tryd.ntmps51
    go_upto_region 1 with fail
    rw [HW.out]
    have T1 := HT.out
    go_wp2_with (first
      | (refine wpList_build rfl _ _ rfl l0.rv.toArray (by kernel_rfl) ?_)
      | (refine rst w.heap.size 0 l0 T1 rfl rfl _ _ rfl rfl rfl ?_))
    refine bodyPost_ret (results_rline2 Tryd.results51 _ _ w.heap.size l0 _ rfl rfl HB.out.2) rfl ?_
    exact ⟨rfl, HB.out.1⟩
set_option maxRecDepth 100000 in
set_option maxHeartbeats 2000000 in
theorem rlower_state (B p : Nat) (v : Value) (n ways : Nat) (R : List Ln) (a st : Nat) (w : World) (k : RC w B p v n ways R) (ha : a < 4294967296) (h16 : a % 16 = 0) (h2 : st ≤ 2) (h : No R a ∨ ∃ i, At R a i ∧ (R.getD i l0).s ≤ st) : Calls Tryd.prog 51 #[.pointer (some ⟨p, 0, none⟩), .int .i64 a, .int .i64 st] w fun e w' => e = .returned (.tuple #[.agg l0.rv.toArray, .int .i64 7]) ∧ Below w.heap.size w w' := by
  have hu : undef = Value.tuple #[] := rfl
  have hp := k.c.here
  have hmod : (a : Int).tmod 16 = 0 := by rw [Int.tmod_eq_emod_of_nonneg (by omega)]; omega
  have hmod2 : (a : Int) % 16 = 0 := by omega
  have T0 := there_rzero w 104
  obtain ⟨W, hW⟩ : ∃ W, w.alloc (.cells #[.int .i64 0, .int .i64 0, .int .u8 0, .int .u8 0, .int .u8 0, .int .u8 0, .int .u8 0, .int .u8 0, .int .u8 0, .int .u8 0, .int .u8 0, .int .u8 0, .int .u8 0, .int .u8 0, .int .u8 0, .int .u8 0, .int .u8 0, .int .u8 0] 104) = W := ⟨_, rfl⟩
  have HT : Hid (W.there w.heap.size 0 18) := by show W.there _ _ _; rw [← hW]; exact T0
  have HW := Hid.in hW
  have b1 : Below w.heap.size w W := by rw [← hW]; exact (Below.refl _ _).alloc (Nat.le_refl _) _
  have HB : Hid (Below w.heap.size w (W.setCells w.heap.size 0 l0.rv) ∧ (W.setCells w.heap.size 0 l0.rv).rangeAt w.heap.size 0 l0.rv) := by
    refine ⟨?_, World.rangeAt_setCells_same _ _ _ _ (by rw [Ln.rlen]; exact HT.out)⟩
    exact b1.trans ((turned_setCells (g := w.heap.size) l0.rv 0 W).below b1.size (fun q e => by omega))
  have kW := k.below b1
  have HKW := Hid.in kW
  have h0d : decide ((st : Int) < 0) = false := by simp
  have h2d : decide ((2 : Int) < st) = false := by simp; omega
  rcases at_or_no R a with ⟨i, hA⟩ | hA
  · have hi0 : decide ((i : Int) < 0) = false := by simp
    obtain ⟨hpW, -, -, c2, -⟩ := kW.cells
    obtain ⟨q, cap, hv, hcap, hel⟩ := own_rlines kW.l
    obtain ⟨g, rfl, -, hg, -, -, -, d1, -⟩ := hel i hA.1
    have hil := hA.1
    have h64 := k.small.1
    obtain ⟨m, hm⟩ : ∃ m, R.length = m := ⟨_, rfl⟩
    rw [hm] at hv hil h64
    rw [hv] at c2
    obtain ⟨s, hs⟩ : ∃ s, (R.getD i l0).s = s := ⟨_, rfl⟩
    rw [hs] at d1
    have hle : s ≤ st := by
      rcases h with q | ⟨j, q1, q2⟩
      · exact absurd hA.2.1 (q i hA.1)
      · rw [at_inj q1 hA, hs] at q2
        exact q2
    have hled : decide ((s : Int) ≤ st) = true := by simp; omega
    have HA := Hid.in hA
    clear h hA hel hcap hv hm hs k T0 hW b1 kW
    go_enter Tryd.func51, Tryd.ntmps51
    go_upto_region 1 with fail
    rw [HW.out]
    have T1 := HT.out
    go_wp2_with (first
      | (go_at_call 60; refine (rfind_at B p v n ways R a i _ HKW.out ha HA.out).mono ?_; rintro e w1 ⟨rfl, hww⟩; rw [hww]; clear hww)
      | (refine rst w.heap.size 0 l0 T1 rfl rfl _ _ rfl rfl rfl ?_))
    refine bodyPost_ret (results_rline2 Tryd.results51 _ _ w.heap.size l0 _ rfl rfl HB.out.2) rfl ?_
    exact ⟨rfl, HB.out.1⟩
  · have HA := Hid.in hA
    clear h hA k T0 hW b1 kW
    go_enter Tryd.func51, Tryd.ntmps51
    go_upto_region 1 with fail
    rw [HW.out]
    have T1 := HT.out
    go_wp2_with (first
      | (go_at_call 60; refine (rfind_no B p v n ways R a _ HKW.out ha HA.out).mono ?_; rintro e w1 ⟨rfl, hww⟩; rw [hww]; clear hww)
      | (refine rst w.heap.size 0 l0 T1 rfl rfl _ _ rfl rfl rfl ?_))
    refine bodyPost_ret (results_rline2 Tryd.results51 _ _ w.heap.size l0 _ rfl rfl HB.out.2) rfl ?_
    exact ⟨rfl, HB.out.1⟩
set_option maxRecDepth 100000 in
set_option maxHeartbeats 4000000 in
theorem rlower_good (B p : Nat) (v : Value) (n ways : Nat) (R : List Ln) (a st i : Nat) (w : World) (k : RC w B p v n ways R) (ha : a < 4294967296) (h16 : a % 16 = 0) (h2 : st ≤ 2) (hA : At R a i) (hst : st < (R.getD i l0).s) : Calls Tryd.prog 51 #[.pointer (some ⟨p, 0, none⟩), .int .i64 a, .int .i64 st] w fun e w' => e = .returned (.tuple #[.agg (R.getD i l0).rv.toArray, .int .i64 0]) ∧ ∃ v', RC w' B p v' n ways (if st = 0 then rest R i else R.set i ((R.getD i l0).setS st)) ∧ (∀ q, v'.ownBlock = some q → v.ownBlock = some q ∨ w.heap.size ≤ q) ∧ Turned (fun q => q = p ∨ v.ownBlock = some q) w w' := by
  have hu : undef = Value.tuple #[] := rfl
  have hp := k.c.here
  have hmod : (a : Int).tmod 16 = 0 := by rw [Int.tmod_eq_emod_of_nonneg (by omega)]; omega
  have hmod2 : (a : Int) % 16 = 0 := by omega
  have T0 := there_rzero w 104
  obtain ⟨W, hW⟩ : ∃ W, w.alloc (.cells #[.int .i64 0, .int .i64 0, .int .u8 0, .int .u8 0, .int .u8 0, .int .u8 0, .int .u8 0, .int .u8 0, .int .u8 0, .int .u8 0, .int .u8 0, .int .u8 0, .int .u8 0, .int .u8 0, .int .u8 0, .int .u8 0, .int .u8 0, .int .u8 0] 104) = W := ⟨_, rfl⟩
  have tW : W.there w.heap.size 0 18 := by rw [← hW]; exact T0
  have b1 : Below w.heap.size w W := by rw [← hW]; exact (Below.refl _ _).alloc (Nat.le_refl _) _
  have sW : W.heap.size = w.heap.size + 1 := by rw [← hW]; simp
  have kW := k.below b1
  have h0d : decide ((st : Int) < 0) = false := by simp
  have h2d : decide ((2 : Int) < st) = false := by simp; omega
  have hi0 : decide ((i : Int) < 0) = false := by simp
  obtain ⟨hpW, -, -, c2, -⟩ := kW.cells
  obtain ⟨q, cap, hv, hcap, hel⟩ := own_rlines kW.l
  obtain ⟨g, rfl, -, hg, hrg, hth, -, d1, hfr⟩ := hel i hA.1
  have hil := hA.1
  have h64 := k.small.1
  obtain ⟨m, hm⟩ : ∃ m, R.length = m := ⟨_, rfl⟩
  have hgb : v.ownBlock = some g := by rw [hv]; rfl
  have hglt : g < w.heap.size := (own_base k.l g hgb).2
  rw [hm] at hv hil h64
  rw [hv] at c2
  obtain ⟨e, he⟩ : ∃ e, R.getD i l0 = e := ⟨_, rfl⟩
  have HE := Hid.in he
  rw [he] at d1 hrg hst ⊢
  obtain ⟨s, hs⟩ : ∃ s, e.s = s := ⟨_, rfl⟩
  rw [hs] at d1 hst
  have hled : decide ((s : Int) ≤ st) = false := by simp; omega
  obtain ⟨X, hX⟩ : ∃ X, W.alloc (.cells e.rv.toArray 104) = X := ⟨_, rfl⟩
  have b2 : Below W.heap.size W X := by rw [← hX]; exact (Below.refl _ _).alloc (Nat.le_refl _) _
  have kX := kW.below b2
  have rX : X.rangeAt (w.heap.size + 1) 0 e.rv := by rw [← hX, ← sW]; exact rrange_new W e _
  have tX : X.there w.heap.size 0 18 := by rw [← hX]; exact World.there_alloc tW _
  have sX : X.heap.size = w.heap.size + 2 := by rw [← hX]; simp [sW]
  have bX : Turned (fun _ => False) w X := (Turned.of_below b1).trans (Turned.of_below b2)
  have HA := Hid.in hA
  have HIL := Hid.in hA.1
  have HW := Hid.in hW
  have HX := Hid.in hX
  have HKW := Hid.in kW
  have HKX := Hid.in kX
  have HRX := Hid.in rX
  have HTX := Hid.in tX
  have HBX := Hid.in bX
  have HSX := Hid.in sX
  have HGB := Hid.in hgb
  have HM := Hid.in hm
  have HV := Hid.in hv
  have HSW := Hid.in sW
  have HRW : Hid (W.rangeAt g (i * 18) e.rv) := hrg
  by_cases hz : st = 0
  · subst hz
    rw [if_pos rfl]
    clear hA k T0 hW tW b1 kW hel hcap hv hm hrg hth hfr he hs hX b2 kX rX tX bX hgb
    go_enter Tryd.func51, Tryd.ntmps51
    go_upto_region 1 with fail
    rw [HW.out]
    go_upto_region 7 with (first
      | (go_at_call 60; refine (rfind_at B p v n ways R a i _ HKW.out ha HA.out).mono ?_; rintro e w1 ⟨rfl, hww⟩; rw [hww]; clear hww)
      | (refine rld g (i * 18) e HRW.out rfl _ rfl rfl ?_)
      | (refine rstn W e zr rfl (w.heap.size + 1) (by rw [HSW.out]) rfl rfl _ _ rfl rfl rfl ?_))
    rw [HX.out]
    go_wp2_with (first
      | (go_at_call 62
         refine (rout_any B p v n ways R i _ HKX.out HIL.out).mono ?_
         rintro e1 w2 ⟨rfl, v2, hk2, hv2, ht2⟩
         have R2 := range_turned HRX.out ht2 (by have := HSX.out; omega) (by omega)
         have T2 := there_turned HTX.out ht2 (by have := HSX.out; omega) (by omega)
         have HK2 := Hid.in hk2
         have HV2 := Hid.in hv2
         have HT2 := Hid.in ht2
         clear hk2 hv2 ht2)
      | (refine rld (w.heap.size + 1) 0 e R2 rfl _ rfl rfl ?_)
      | (refine rst w.heap.size 0 e T2 rfl rfl _ _ rfl rfl rfl ?_))
    have tf := turned_setCells (g := w.heap.size) e.rv 0 w2
    refine bodyPost_ret (results_rline2 Tryd.results51 _ _ w.heap.size e _ rfl rfl (World.rangeAt_setCells_same _ _ _ _ (by rw [Ln.rlen]; exact T2))) rfl ?_
    refine ⟨rfl, v2, HK2.out.turned tf (by omega) (fun j hj q => by have := HV2.out j hj; have := HSX.out; omega), fun q hq => Or.inr (by have := HV2.out q hq; have := HSX.out; omega), ?_⟩
    refine (((HBX.out.mono (fun _ q => q.elim)).trans (HT2.out.mono (R := fun q => q = p ∨ v.ownBlock = some q) (fun _ q => Or.inl q))).trans2'' tf (fun q hq => Or.inr (by omega)))
  · rw [if_neg hz]
    have hz0 : ((st : Int) == 0) = false := by simp; omega
    have kS : RC (X.setCell ⟨g, i * 18 + 1, none⟩ (.int .i64 st)) B p v n ways (R.set i (e.setS st)) := by
      have o := kX.l
      rw [hm, hv] at o
      have o2 := own_set o (i * 18 + 1) (.int .i64 st)
      have ef := flatR_setS R i st (by rw [hm]; exact hil)
      rw [he] at ef
      rw [ef] at o2
      refine ⟨kX.c.setOther _ _ (fun q => kX.vp (by rw [hgb, q])), ?_, kX.vp, by rw [List.length_set]; exact kX.small, kX.lo⟩
      rw [List.length_set, hm, hv]
      exact o2
    have cX : X.cell? ⟨p, 2, none⟩ = some (.slice (some ⟨g, 0, none⟩) m cap) := (b2.cell (p := ⟨p, 2, none⟩) hpW).trans c2
    have hpX : p < X.heap.size := by omega
    have hgX : g < X.heap.size := by omega
    have dX : X.cell? ⟨g, i * 18 + 1, none⟩ = some (.int .i64 s) := (b2.cell (p := ⟨g, i * 18 + 1, none⟩) hg).trans d1
    have fX : X.frozen? ⟨g, i * 18 + 1, none⟩ = false := (b2.frozen (p := ⟨g, i * 18 + 1, none⟩) hg).trans (hfr _)
    have tS : Turned (fun q => q = g) X (X.setCell ⟨g, i * 18 + 1, none⟩ (.int .i64 st)) := (Turned.refl (fun q => q = g) X).set (b := g) rfl _ _
    have R2 := range_turned rX tS (by omega) (by omega)
    have T2 := there_turned tX tS (by omega) (by omega)
    have HKS := Hid.in kS
    have HTS := Hid.in tS
    clear hA k T0 hW tW b1 kW hel hcap hv hm hrg hth hfr he hs hX b2 kX rX tX bX hgb kS tS
    go_enter Tryd.func51, Tryd.ntmps51
    go_upto_region 1 with fail
    rw [HW.out]
    go_upto_region 7 with (first
      | (go_at_call 60; refine (rfind_at B p v n ways R a i _ HKW.out ha HA.out).mono ?_; rintro e w1 ⟨rfl, hww⟩; rw [hww]; clear hww)
      | (refine rld g (i * 18) e HRW.out rfl _ rfl rfl ?_)
      | (refine rstn W e zr rfl (w.heap.size + 1) (by rw [HSW.out]) rfl rfl _ _ rfl rfl rfl ?_))
    rw [HX.out]
    go_wp2_with (first
      | (refine rld (w.heap.size + 1) 0 e R2 rfl _ rfl rfl ?_)
      | (refine rst w.heap.size 0 e T2 rfl rfl _ _ rfl rfl rfl ?_))
    have tf := turned_setCells (g := w.heap.size) e.rv 0 (X.setCell ⟨g, i * 18 + 1, none⟩ (.int .i64 st))
    refine bodyPost_ret (results_rline2 Tryd.results51 _ _ w.heap.size e _ rfl rfl (World.rangeAt_setCells_same _ _ _ _ (by rw [Ln.rlen]; exact T2))) rfl ?_
    refine ⟨rfl, v, HKS.out.turned tf (by omega) (fun j hj q => by have h1 := HGB.out; rw [h1] at hj; have h2 := Option.some.inj hj; omega), fun q hq => Or.inl hq, ?_⟩
    refine (((HBX.out.mono (fun _ q => q.elim)).trans (HTS.out.mono (R := fun q => q = p ∨ v.ownBlock = some q) (fun q e => Or.inr (by rw [HGB.out, e])))).trans2'' tf (fun q hq => Or.inr (by omega)))
end Go.Proofs.YtlogdmnhngbkaaaDoor
