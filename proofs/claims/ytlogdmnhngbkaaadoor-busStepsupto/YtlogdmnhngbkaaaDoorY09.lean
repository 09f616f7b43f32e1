import Derived.Test.YtlogdmnhngbkaaaDoorY08
/-
  THE ANSWER's CACHE: Write.
-/
namespace Go.Proofs.YtlogdmnhngbkaaaDoor
open Go Go.RowKit
theorem there_set {w : World} {b o n : Nat} (h : w.there b o n) (a : Addr) (u : Value) : (w.setCell a u).there b o n := fun j hj => by
  obtain ⟨h1, h2⟩ := h j hj
  refine ⟨?_, by rw [World.frozen?_setCell]; exact h2⟩
  obtain ⟨x, hx⟩ := Option.isSome_iff_exists.1 h1
  by_cases e : a = ⟨b, o + j, none⟩
  · subst e
    rw [World.cell?_setCell_same _ _ _ hx]
    rfl
  · rw [World.cell?_setCell_other _ _ _ _ e, hx]
    rfl
theorem there_rnew (w : World) (e : Ln) (t : TypeId) : (w.alloc (.cells e.rv.toArray t)).there w.heap.size 0 18 := fun j hj => by
  refine ⟨?_, World.frozen?_alloc_at _ _ _ _ rfl⟩
  rw [World.cell?_alloc_new, Nat.zero_add, Array.getElem?_eq_getElem (by rw [Ln.rsizeA]; exact hj)]
  rfl
set_option maxRecDepth 100000 in
set_option maxHeartbeats 2000000 in
theorem rwrite_no (B p : Nat) (v : Value) (n ways : Nat) (R : List Ln) (a : Nat) (z : Int) (d : Nat) (w : World) (k : RC w B p v n ways R) (ha : a < 4294967296) (hno : No R a ∨ fits a z = false ∨ ∃ i, At R a i ∧ (R.getD i l0).s < 2) : Calls Tryd.prog 35 #[.pointer (some ⟨p, 0, none⟩), .int .i64 a, .int .i64 z, .int .u32 d] w fun e w' => e = .returned (.bool false) ∧ w' = w := by
  have HK := Hid.in k
  have hu : undef = Value.tuple #[] := rfl
  rcases at_or_no R a with ⟨i, hA⟩ | hA
  · have hi0 : decide ((i : Int) < 0) = false := by simp
    obtain ⟨hp, -, -, c2, -⟩ := k.cells
    obtain ⟨q, cap, hv, hcap, hel⟩ := own_rlines k.l
    obtain ⟨g, rfl, -, hg, -, -, -, d1, -⟩ := hel i hA.1
    have hil := hA.1
    have h64 := k.small.1
    obtain ⟨m, hm⟩ : ∃ m, R.length = m := ⟨_, rfl⟩
    rw [hm] at hv hil h64
    rw [hv] at c2
    obtain ⟨s, hs⟩ : ∃ s, (R.getD i l0).s = s := ⟨_, rfl⟩
    rw [hs] at d1
    have hcase : fits a z = false ∨ s < 2 := by
      rcases hno with q | q | ⟨j, q1, q2⟩
      · exact absurd hA.2.1 (q i hA.1)
      · exact Or.inl q
      · rw [at_inj q1 hA, hs] at q2
        exact Or.inr q2
    have HA := Hid.in hA
    have HC := Hid.in hcase
    clear hno hA hel hcap hv hm hs k hcase
    cases hf : fits a z
    · have HF := Hid.in hf
      clear hf
      go_enter Tryd.func35, Tryd.ntmps35
      go_wp2_with (first
        | (go_at_call 60; refine (rfind_at B p v n ways R a i _ HK.out ha HA.out).mono ?_; rintro e w1 ⟨rfl, hww⟩; rw [hww]; clear hww)
        | (go_at_call 61; refine (raligned_any a z _ ha).mono ?_; rintro e w1 ⟨rfl, hww⟩; rw [hww, HF.out]; clear hww))
      go_ret
      exact ⟨rfl, rfl⟩
    · have HF := Hid.in hf
      have hs2 : s < 2 := by
        have := HC.out
        rw [hf] at this
        simpa using this
      have hs2d : decide ((s : Int) < 2) = true := by simp; omega
      clear hf
      go_enter Tryd.func35, Tryd.ntmps35
      go_wp2_with (first
        | (go_at_call 60; refine (rfind_at B p v n ways R a i _ HK.out ha HA.out).mono ?_; rintro e w1 ⟨rfl, hww⟩; rw [hww]; clear hww)
        | (go_at_call 61; refine (raligned_any a z _ ha).mono ?_; rintro e w1 ⟨rfl, hww⟩; rw [hww, HF.out]; clear hww))
      go_ret
      exact ⟨rfl, rfl⟩
  · have HA := Hid.in hA
    clear hno hA k
    go_enter Tryd.func35, Tryd.ntmps35
    go_wp2_with (first
      | (go_at_call 60; refine (rfind_no B p v n ways R a _ HK.out ha HA.out).mono ?_; rintro e w1 ⟨rfl, hww⟩; rw [hww]; clear hww)
      | (go_at_call 61; refine (raligned_any a z _ ha).mono ?_; rintro e w1 ⟨rfl, hww⟩; rw [hww]; clear hww))
    go_ret
    exact ⟨rfl, rfl⟩
set_option maxRecDepth 100000 in
set_option maxHeartbeats 4000000 in
theorem rwrite_at (B p : Nat) (v : Value) (n ways : Nat) (R : List Ln) (a z d i : Nat) (w : World) (k : RC w B p v n ways R) (ha : a < 4294967296) (hA : At R a i) (hz : fits a z = true) (hs : 2 ≤ (R.getD i l0).s) : Calls Tryd.prog 35 #[.pointer (some ⟨p, 0, none⟩), .int .i64 a, .int .i64 z, .int .u32 d] w fun e w' => e = .returned (.bool true) ∧ ∃ v', RC w' B p v' n ways (rest R i ++ [(R.getD i l0).wr (a % 16) d z]) ∧ (∀ q, v'.ownBlock = some q → w.heap.size ≤ q) ∧ Turned (fun q => q = p) w w' := by
  have HK := Hid.in k
  have HA := Hid.in hA
  have HF := Hid.in hz
  have HZ := Hid.in (fits_le a z hz)
  have hi0 : decide ((i : Int) < 0) = false := by simp
  have HRL := Hid.in (rest_len R i hA.1)
  have HSM := Hid.in k.small.1
  have HIL := Hid.in hA.1
  obtain ⟨hp, -, -, c2, -⟩ := k.cells
  obtain ⟨q, cap0, hv, hcap, hel⟩ := own_rlines k.l
  obtain ⟨g, rfl, -, hg, -, -, -, d1, -⟩ := hel i hA.1
  have hil := hA.1
  have h64 := k.small.1
  obtain ⟨m0, hm0⟩ : ∃ m, R.length = m := ⟨_, rfl⟩
  rw [hm0] at hv hil h64
  rw [hv] at c2
  obtain ⟨s, hss⟩ : ∃ s, (R.getD i l0).s = s := ⟨_, rfl⟩
  rw [hss] at d1 hs
  have hs2d : decide ((s : Int) < 2) = false := by simp; omega
  obtain ⟨e, he⟩ : ∃ e, R.getD i l0 = e := ⟨_, rfl⟩
  have HE := Hid.in he
  rw [he]
  clear hz hA k he hel hcap hv hm0 hss
  go_enter Tryd.func35, Tryd.ntmps35
  go_upto_region 6 with (first
    | (go_at_call 60; refine (rfind_at B p v n ways R a i _ HK.out ha HA.out).mono ?_; rintro e1 w1 ⟨rfl, hww⟩; rw [hww]; clear hww)
    | (go_at_call 61; refine (raligned_any a z _ ha).mono ?_; rintro e1 w1 ⟨rfl, hww⟩; rw [hww, HF.out]; clear hww)
    | (go_at_call 62; refine (rout_any B p v n ways R i _ HK.out HIL.out).mono ?_; rintro e1 w2 ⟨rfl, v2, hk2, hv2, ht2⟩; rw [HE.out]; have HK2 := Hid.in hk2; have HV2 := Hid.in hv2; have HT2 := Hid.in ht2; clear hk2 hv2 ht2)
    | (refine rstn w2 e zr rfl w2.heap.size rfl rfl rfl _ _ rfl rfl rfl ?_))
  obtain ⟨W3, hW3⟩ : ∃ W3, w2.alloc (.cells e.rv.toArray 104) = W3 := ⟨_, rfl⟩
  obtain ⟨xb, hxb⟩ : ∃ xb, w2.heap.size = xb := ⟨_, rfl⟩
  have k3 : RC W3 B p v2 n ways (rest R i) := by rw [← hW3]; exact HK2.out.below ((Below.refl _ _).alloc (Nat.le_refl _) _)
  have r3 : W3.rangeAt xb 0 e.rv := by rw [← hW3, ← hxb]; exact rrange_new w2 e _
  have t3 : W3.there xb 0 18 := by rw [← hW3, ← hxb]; exact there_rnew w2 e _
  have s3 : W3.heap.size = xb + 1 := by rw [← hW3, ← hxb]; simp
  have hpx : p < xb := by rw [← hxb]; exact HK2.out.c.here
  have nv : v2.ownBlock ≠ some xb := fun q => by have := (own_base HK2.out.l xb q).2; omega
  have b3 : Turned (fun q => q = p) w W3 := by rw [← hW3]; exact HT2.out.alloc _
  have HSW : Hid (w.heap.size ≤ xb) := by show w.heap.size ≤ xb; rw [← hxb]; exact HT2.out.size
  have c1 : W3.cell? ⟨xb, 1, none⟩ = some (.int .i64 e.s) := r3 1 _ rfl
  have f1 : W3.frozen? ⟨xb, 1, none⟩ = false := (t3 1 (by omega)).2
  have hx3 : xb < W3.heap.size := by omega
  obtain ⟨q0, hq0⟩ : ∃ q0, a % 16 = q0 := ⟨_, rfl⟩
  have H0 : Hid ((W3.setCell ⟨xb, 1, none⟩ (.int .i64 3)).rangeAt xb 0 ((e.setS 3).putN q0 d 0).rv ∧ (W3.setCell ⟨xb, 1, none⟩ (.int .i64 3)).there xb 0 18 ∧ Turned (fun q => q = xb) W3 (W3.setCell ⟨xb, 1, none⟩ (.int .i64 3))) := by
    refine ⟨?_, there_set t3 _ _, (Turned.refl (fun q => q = xb) W3).set (b := xb) rfl _ _⟩
    have := range_set r3 1 (.int .i64 (3 : Nat))
    rw [Nat.zero_add, rv_setS] at this
    exact this
  have HK3 := Hid.in k3
  have HB3 := Hid.in b3
  have HNV := Hid.in nv
  have HS3 := Hid.in s3
  have z4 := HZ.out.2.1
  have HQ0 := Hid.in hq0
  have hq16 : q0 + z ≤ 16 := by rw [← hq0]; exact HZ.out.2.2
  have hmod : (a : Int).tmod 16 = (q0 : Int) := by rw [Int.tmod_eq_emod_of_nonneg (by omega), ← hq0]; omega
  have hmod2 : (a : Int) % 16 = (q0 : Int) := by rw [← hq0]; omega
  rw [hW3, hxb]
  clear k3 b3 nv s3 r3 t3 hW3 hxb hq0 c2 d1
  go_wp2
  go_loopw [12] (fun bv wr' => ∃ jn : Nat, bv = .int .i64 jn ∧ jn ≤ z ∧ wr'.rangeAt xb 0 ((e.setS 3).putN q0 d jn).rv ∧ wr'.there xb 0 18 ∧ Turned (fun q => q = xb) W3 wr') (fun bv _ => 5 - (intOf bv).toNat)
  case atStart => exact ⟨0, rfl, Nat.zero_le _, H0.out⟩
  case round =>
    obtain ⟨jn, rfl, hjn, hr, ht, hT⟩ := hrel
    have HRG := Hid.in hr
    have HTH := Hid.in ht
    have HTT := Hid.in hT
    have hxr : xb < wr.heap.size := Nat.lt_of_lt_of_le hx3 hT.size
    by_cases hlt : jn < z
    · have cc := hr (2 + (q0 + jn)) _ (Ln.rat2 _ (q0 + jn) (by omega))
      rw [Nat.zero_add] at cc
      have fr := (ht (2 + (q0 + jn)) (by omega)).2
      rw [Nat.zero_add] at fr
      obtain ⟨y, hye⟩ : ∃ y, ((e.setS 3).putN q0 d jn).b (q0 + jn) = y := ⟨_, rfl⟩
      rw [hye] at cc
      have hi16 : q0 + jn < 16 := by omega
      clear hr ht hT hye H0 c1 f1
      go_wp2
      go_roundw
      case rel =>
        refine ⟨jn + 1, by simp, by omega, ?_⟩
        have ev : (d : Int) / 2 ^ (8 * jn) % 256 = ((d / 256 ^ jn % 256 : Nat) : Int) := by
          have e : (2 : Nat) ^ (8 * jn) = 256 ^ jn := by rw [Nat.pow_mul]
          rw [← e]
          simp
        rw [ev]
        refine ⟨?_, there_set HTH.out _ _, HTT.out.set (b := xb) rfl _ _⟩
        have := range_set HRG.out (2 + (q0 + jn)) (.int .u8 (d / 256 ^ jn % 256 : Nat))
        rw [Nat.zero_add, rv_setB _ _ _ hi16] at this
        exact this
      case measure => simp [intOf]; omega
    · obtain rfl : jn = z := by omega
      clear hr ht hT H0 c1 f1
      go_upto_region 11 with fail
      obtain ⟨Y, hY⟩ : ∃ Y, wr = Y := ⟨_, rfl⟩
      rw [hY] at HRG HTH HTT hxr
      rw [hY]
      clear hY
      obtain ⟨E, hE⟩ : ∃ E, (e.setS 3).putN q0 d jn = E := ⟨_, rfl⟩
      have HEE := Hid.in hE
      rw [hE] at HRG
      have F0 := HRG.out
      have kY := HK3.out.turned HTT.out (by omega) (fun j hj q => HNV.out (by rw [hj, q]))
      have bY : Turned (fun q => q = p) w Y := HB3.out.trans2'' HTT.out (fun q hq => Or.inr (by have := HSW.out; omega))
      obtain ⟨qa, m, cap, rfl, hm, -, -, -⟩ := kY.open
      obtain ⟨g', cap', w1, hrun, A0, A1, A2, A3, G0, G1, G2, GC, GT, GG⟩ := rpush B p n ways xb m cap (rest R i) E qa Y E.rv kY hm F0 hxr (by omega) HNV.out (by have h1 := HRL.out; have h2 := HSM.out; have h3 := HIL.out; omega)
      have y3 : Y.cell? ⟨p, 2, none⟩ = some (.slice qa m cap) := kY.cells.2.2.2.1
      have hpY := kY.c.here
      have HGC := Hid.in GC
      have HGT := Hid.in GT
      have HGG := Hid.in GG
      have HBY := Hid.in bY
      have HYS : Hid (xb < Y.heap.size) := hxr
      clear kY bY hm GC GT GG hE hxr
      obtain ⟨i0, hi0, hz0, hz1, hz2⟩ := rinfo
      rename_i Qx Kx hx
      refine wp_region_held_drew (S := fun w' => w'.rangeAt xb 0 E.rv) (by kernel_rfl) F0 (fun hHeld => ?_)
      refine wpAnyH_take (i := 0) (v := .pointer (some ⟨p, 0, none⟩)) rfl (by kernel_rfl) (by kernel_rfl) (by kernel_rfl) (fun _ _ _ h => h) (Or.inl ⟨by rfl, fun w hSw => by go_simp⟩) hHeld ?_
      refine wpAnyH_take (i := 1) (v := .pointer (some ⟨p, 0, none⟩)) rfl (by kernel_rfl) (by kernel_rfl) (by kernel_rfl) (fun _ _ _ h => h) (Or.inl ⟨by rfl, fun w hSw => by go_simp⟩) hHeld ?_
      refine wpAnyH_take (i := 2) (v := .pointer (some ⟨p, 0, none⟩)) rfl (by kernel_rfl) (by kernel_rfl) (by kernel_rfl) (fun _ _ _ h => h) (Or.inl ⟨by rfl, fun w hSw => by go_simp⟩) hHeld ?_
      refine wpAnyH_take (i := 3) (v := .pointer (some ⟨p, 2, none⟩)) rfl (by kernel_rfl) (by kernel_rfl) (by kernel_rfl) (fun _ _ _ h => h) (Or.inl ⟨by rfl, fun w hSw => by go_simp⟩) hHeld ?_
      refine wpAnyH_take (i := 5) (v := .agg E.rv.toArray) rfl (by kernel_rfl) (by kernel_rfl) (by kernel_rfl) (fun _ _ _ h => h) (yieldsIf_load_mid (by rfl) 104 (.tmp 11) rfl xb 0 rfl E.rv _ (fun _ h => h) Tryd.underlying104 rfl (by rw [rline_info, Ln.rlen])) hHeld ?_
      refine wpAnyH_ready (rs := [4, 6]) (by kernel_rfl) (by simp) ?_
      refine AllReadyH.cons rfl (fun K hK => ?_) ?_
      · go_simp
        refine hK.out _ _ hHeld (fun hHeld => ?_)
        clear hK K
        refine wpAnyH_ready (rs := [6]) (by kernel_rfl) (by simp) ?_
        refine AllReadyH.cons rfl (fun K hK => ?_) AllReadyH.nil
        rw [if_pos (by rfl)]
        refine wp_buildSlice 100 104 1 #[(0, .tmp 61)] rfl E.rv.toArray i0 (.agg zr) Tryd.underlying100 hi0 hz0 (by rw [hz1]; decide) (by rw [hz1]; decide) (by rw [hz1]; kernel_rfl) ?_
        refine hK.out _ _ G0 (fun hHeld => ?_)
        clear hK K
        refine wpAnyH_ready (rs := [7]) (by kernel_rfl) (by simp) ?_
        refine AllReadyH.cons rfl (fun K hK => ?_) AllReadyH.nil
        rw [if_pos (by rfl)]
        refine append_op0 (v := .slice qa m cap) (u := .slice (some ⟨Y.heap.size, 0, none⟩) 1 1) rfl (by kernel_rfl) (by kernel_rfl) hrun ?_
        refine hK.out _ _ G1 (fun hHeld => ?_)
        clear hK K
        refine wpAnyH_take (i := 8) (v := .pointer (some ⟨p, 0, none⟩)) rfl (by kernel_rfl) (by kernel_rfl) (by kernel_rfl) (fun _ _ _ h => h) (Or.inl ⟨by rfl, fun w hSw => by go_simp⟩) hHeld ?_
        refine wpAnyH_take (i := 9) (v := .pointer (some ⟨p, 2, none⟩)) rfl (by kernel_rfl) (by kernel_rfl) (by kernel_rfl) (fun _ _ _ h => h) (Or.inl ⟨by rfl, fun w hSw => by go_simp⟩) hHeld ?_
        refine wpAnyH_ready (rs := [10]) (by kernel_rfl) (by simp) ?_
        refine AllReadyH.cons rfl (fun K hK => ?_) AllReadyH.nil
        go_simp
        refine hK.out _ _ G2 (fun hHeld => ?_)
        clear hK K
        refine wpAnyH_done (by kernel_rfl) ?_ _
        refine hx _ _ ?_
        clear hx Kx hHeld
        go_wp2
        go_ret
        refine ⟨rfl, .slice (some ⟨g', 0, none⟩) (m + 1) cap', ?_, ?_, ?_⟩
        · have := HGC.out
          rw [← HEE.out, ← HQ0.out] at this
          exact this
        · intro q hq
          simp [Value.ownBlock] at hq
          rcases HGG.out with h1 | h1
          · exact HV2.out q (by rw [h1, hq])
          · have h2 := HSW.out
            have h3 := HYS.out
            omega
        · refine HBY.out.trans2'' HGT.out (fun q hq => ?_)
          rcases hq with h1 | h1
          · exact Or.inl h1
          · exact Or.inr (HV2.out q h1)
      refine AllReadyH.cons rfl (fun K hK => ?_) AllReadyH.nil
      · rw [if_pos (by rfl)]
        refine wp_buildSlice 100 104 1 #[(0, .tmp 61)] rfl E.rv.toArray i0 (.agg zr) Tryd.underlying100 hi0 hz0 (by rw [hz1]; decide) (by rw [hz1]; decide) (by rw [hz1]; kernel_rfl) ?_
        refine hK.out _ _ G0 (fun hHeld => ?_)
        clear hK K
        refine wpAnyH_ready (rs := [4]) (by kernel_rfl) (by simp) ?_
        refine AllReadyH.cons rfl (fun K hK => ?_) AllReadyH.nil
        go_simp
        refine hK.out _ _ hHeld (fun hHeld => ?_)
        clear hK K
        refine wpAnyH_ready (rs := [7]) (by kernel_rfl) (by simp) ?_
        refine AllReadyH.cons rfl (fun K hK => ?_) AllReadyH.nil
        rw [if_pos (by rfl)]
        refine append_op0 (v := .slice qa m cap) (u := .slice (some ⟨Y.heap.size, 0, none⟩) 1 1) rfl (by kernel_rfl) (by kernel_rfl) hrun ?_
        refine hK.out _ _ G1 (fun hHeld => ?_)
        clear hK K
        refine wpAnyH_take (i := 8) (v := .pointer (some ⟨p, 0, none⟩)) rfl (by kernel_rfl) (by kernel_rfl) (by kernel_rfl) (fun _ _ _ h => h) (Or.inl ⟨by rfl, fun w hSw => by go_simp⟩) hHeld ?_
        refine wpAnyH_take (i := 9) (v := .pointer (some ⟨p, 2, none⟩)) rfl (by kernel_rfl) (by kernel_rfl) (by kernel_rfl) (fun _ _ _ h => h) (Or.inl ⟨by rfl, fun w hSw => by go_simp⟩) hHeld ?_
        refine wpAnyH_ready (rs := [10]) (by kernel_rfl) (by simp) ?_
        refine AllReadyH.cons rfl (fun K hK => ?_) AllReadyH.nil
        go_simp
        refine hK.out _ _ G2 (fun hHeld => ?_)
        clear hK K
        refine wpAnyH_done (by kernel_rfl) ?_ _
        refine hx _ _ ?_
        clear hx Kx hHeld
        go_wp2
        go_ret
        refine ⟨rfl, .slice (some ⟨g', 0, none⟩) (m + 1) cap', ?_, ?_, ?_⟩
        · have := HGC.out
          rw [← HEE.out, ← HQ0.out] at this
          exact this
        · intro q hq
          simp [Value.ownBlock] at hq
          rcases HGG.out with h1 | h1
          · exact HV2.out q (by rw [h1, hq])
          · have h2 := HSW.out
            have h3 := HYS.out
            omega
        · refine HBY.out.trans2'' HGT.out (fun q hq => ?_)
          rcases hq with h1 | h1
          · exact Or.inl h1
          · exact Or.inr (HV2.out q h1)
end Go.Proofs.YtlogdmnhngbkaaaDoor
