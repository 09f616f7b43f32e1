import Derived.Test.YtlogdmnhngbkaaaDoorY07
import Derived.Great.BuildSlice
/-
  THE ANSWER's CACHE: Read.
-/
namespace Go.Proofs.YtlogdmnhngbkaaaDoor
open Go Go.RowKit
theorem leN_shift (g : Nat → Nat) : ∀ k, leN g (k + 1) = g 0 + 256 * leN (fun t => g (t + 1)) k
  | 0 => by simp [leN]
  | k + 1 => by
    rw [leN, leN_shift g k]
    show _ = g 0 + 256 * (leN (fun t => g (t + 1)) k + g (k + 1) * 256 ^ k)
    rw [Nat.pow_succ, Nat.mul_add, Nat.add_assoc]
    congr 2
    rw [Nat.mul_comm (256 ^ k) 256, ← Nat.mul_assoc, ← Nat.mul_assoc, Nat.mul_comm (g (k + 1)) 256]
theorem shl_or (x y : Nat) (hx : x < 16777216) (hy : y < 256) : bits .or .u32 ((x : Int) * 256 % 4294967296) (y : Int) = ((y + 256 * x : Nat) : Int) := by
  have e1 : (x : Int) * 256 % 4294967296 = ((x * 256 : Nat) : Int) := by omega
  rw [e1, u32_or_nat _ _ (by omega) (by omega), nat_join 8 _ _ (by omega) (by omega)]
  omega
theorem w64s (z : Nat) (h : z ≤ 4) : wrap64 ((z : Int) - 1) = (z : Int) - 1 := by unfold wrap64; omega
set_option maxRecDepth 100000 in
set_option maxHeartbeats 2000000 in
theorem rread_no (B p : Nat) (v : Value) (n ways : Nat) (R : List Ln) (a : Nat) (z : Int) (w : World) (k : RC w B p v n ways R) (ha : a < 4294967296) (hno : No R a ∨ fits a z = false) : Calls Tryd.prog 32 #[.pointer (some ⟨p, 0, none⟩), .int .i64 a, .int .i64 z] w fun e w' => e = .returned (.tuple #[.int .u32 0, .bool false]) ∧ w' = w := by
  have HK := Hid.in k
  have hu : undef = Value.tuple #[] := rfl
  clear k
  rcases at_or_no R a with ⟨i, hA⟩ | hA
  · have hf : fits a z = false := hno.elim (fun q => absurd hA.2.1 (q i hA.1)) id
    have HA := Hid.in hA
    have HF := Hid.in hf
    have hi0 : decide ((i : Int) < 0) = false := by simp
    clear hno hA hf
    go_enter Tryd.func32, Tryd.ntmps32
    go_wp2_with (first
      | (go_at_call 60; refine (rfind_at B p v n ways R a i _ HK.out ha HA.out).mono ?_; rintro e w1 ⟨rfl, hww⟩; rw [hww]; clear hww)
      | (go_at_call 61; refine (raligned_any a z _ ha).mono ?_; rintro e w1 ⟨rfl, hww⟩; rw [hww, HF.out]; clear hww))
    refine bodyPost_ret (results_tmp2 Tryd.results32 _ _ _) rfl ?_
    exact ⟨rfl, rfl⟩
  · have HA := Hid.in hA
    clear hno hA
    go_enter Tryd.func32, Tryd.ntmps32
    go_wp2_with (first
      | (go_at_call 60; refine (rfind_no B p v n ways R a _ HK.out ha HA.out).mono ?_; rintro e w1 ⟨rfl, hww⟩; rw [hww]; clear hww)
      | (go_at_call 61; refine (raligned_any a z _ ha).mono ?_; rintro e w1 ⟨rfl, hww⟩; rw [hww]; clear hww))
    refine bodyPost_ret (results_tmp2 Tryd.results32 _ _ _) rfl ?_
    exact ⟨rfl, rfl⟩
set_option maxRecDepth 100000 in
set_option maxHeartbeats 4000000 in
theorem rread_at (B p : Nat) (v : Value) (n ways : Nat) (R : List Ln) (a z i : Nat) (w : World) (k : RC w B p v n ways R) (ha : a < 4294967296) (hA : At R a i) (hz : fits a z = true) (hb : ∀ j, j < 16 → (R.getD i l0).b j < 256) : Calls Tryd.prog 32 #[.pointer (some ⟨p, 0, none⟩), .int .i64 a, .int .i64 z] w fun e w' => e = .returned (.tuple #[.int .u32 (leN (fun t => (R.getD i l0).b (a % 16 + t)) z : Nat), .bool true]) ∧ ∃ v', RC w' B p v' n ways (rest R i ++ [R.getD i l0]) ∧ (∀ q, v'.ownBlock = some q → w.heap.size ≤ q) ∧ Turned (fun q => q = p) w w' := by
  have HK := Hid.in k
  have HA := Hid.in hA
  have HF := Hid.in hz
  have HZ := Hid.in (fits_le a z hz)
  have hi0 : decide ((i : Int) < 0) = false := by simp
  have hp0 := k.c.here
  have HRL := Hid.in (rest_len R i hA.1)
  have HSM := Hid.in k.small.1
  have HIL := Hid.in hA.1
  obtain ⟨e, he⟩ : ∃ e, R.getD i l0 = e := ⟨_, rfl⟩
  rw [he] at hb
  have HE := Hid.in he
  have HB := Hid.in hb
  rw [he]
  clear hz hA k hb he
  go_enter Tryd.func32, Tryd.ntmps32
  go_upto_region 6 with (first
    | (go_at_call 60; refine (rfind_at B p v n ways R a i _ HK.out ha HA.out).mono ?_; rintro e1 w1 ⟨rfl, hww⟩; rw [hww]; clear hww)
    | (go_at_call 61; refine (raligned_any a z _ ha).mono ?_; rintro e1 w1 ⟨rfl, hww⟩; rw [hww, HF.out]; clear hww)
    | (go_at_call 62; refine (rout_any B p v n ways R i _ HK.out HIL.out).mono ?_; rintro e1 w2 ⟨rfl, v2, hk2, hv2, ht2⟩; rw [HE.out]; have HK2 := Hid.in hk2; have HV2 := Hid.in hv2; have HT2 := Hid.in ht2; clear hk2 hv2 ht2)
    | (refine rstn w2 e zr rfl w2.heap.size rfl rfl rfl _ _ rfl rfl rfl ?_))
  obtain ⟨Y, hY⟩ : ∃ Y, w2.alloc (.cells e.rv.toArray 104) = Y := ⟨_, rfl⟩
  obtain ⟨xb, hxb⟩ : ∃ xb, w2.heap.size = xb := ⟨_, rfl⟩
  have kY : RC Y B p v2 n ways (rest R i) := by rw [← hY]; exact HK2.out.below ((Below.refl _ _).alloc (Nat.le_refl _) _)
  have F0 : Y.rangeAt xb 0 e.rv := by rw [← hY, ← hxb]; exact rrange_new w2 e _
  have sY : Y.heap.size = xb + 1 := by rw [← hY, ← hxb]; simp
  have hpx : p < xb := by rw [← hxb]; exact HK2.out.c.here
  have nv : v2.ownBlock ≠ some xb := fun q => by have := (own_base HK2.out.l xb q).2; omega
  have bY : Turned (fun q => q = p) w Y := by rw [← hY]; exact HT2.out.alloc _
  have HSW := Hid.in HT2.out.size
  obtain ⟨qa, m, cap, rfl, hm, -, -, -⟩ := kY.open
  obtain ⟨g', cap', w1, hrun, A0, A1, A2, A3, G0, G1, G2, GC, GT, GG⟩ := rpush B p n ways xb m cap (rest R i) e qa Y e.rv kY hm F0 (by omega) (by omega) nv (by have h1 := HRL.out; have h2 := HSM.out; have h3 := HIL.out; omega)
  have y3 : Y.cell? ⟨p, 2, none⟩ = some (.slice qa m cap) := kY.cells.2.2.2.1
  have hpY := kY.c.here
  have HGC := Hid.in GC
  have HGT := Hid.in GT
  have HGG := Hid.in GG
  have HBY := Hid.in bY
  have HXB := Hid.in hxb
  have HSY := Hid.in sY
  rw [hY, hxb]
  clear kY nv bY hm GC GT GG hY hxb sY
  obtain ⟨i0, hi0, hz0, hz1, hz2⟩ := rinfo
  rename_i Qx Kx hx
  refine wp_region_held_drew (S := fun w' => w'.rangeAt xb 0 e.rv) (by kernel_rfl) F0 (fun hHeld => ?_)
  refine wpAnyH_take (i := 0) (v := .pointer (some ⟨p, 0, none⟩)) rfl (by kernel_rfl) (by kernel_rfl) (by kernel_rfl) (fun _ _ _ h => h) (Or.inl ⟨by rfl, fun w hSw => by go_simp⟩) hHeld ?_
  refine wpAnyH_take (i := 1) (v := .pointer (some ⟨p, 0, none⟩)) rfl (by kernel_rfl) (by kernel_rfl) (by kernel_rfl) (fun _ _ _ h => h) (Or.inl ⟨by rfl, fun w hSw => by go_simp⟩) hHeld ?_
  refine wpAnyH_take (i := 2) (v := .pointer (some ⟨p, 0, none⟩)) rfl (by kernel_rfl) (by kernel_rfl) (by kernel_rfl) (fun _ _ _ h => h) (Or.inl ⟨by rfl, fun w hSw => by go_simp⟩) hHeld ?_
  refine wpAnyH_take (i := 3) (v := .pointer (some ⟨p, 2, none⟩)) rfl (by kernel_rfl) (by kernel_rfl) (by kernel_rfl) (fun _ _ _ h => h) (Or.inl ⟨by rfl, fun w hSw => by go_simp⟩) hHeld ?_
  refine wpAnyH_take (i := 5) (v := .agg e.rv.toArray) rfl (by kernel_rfl) (by kernel_rfl) (by kernel_rfl) (fun _ _ _ h => h) (yieldsIf_load_mid (by rfl) 104 (.tmp 10) rfl xb 0 rfl e.rv _ (fun _ h => h) Tryd.underlying104 rfl (by rw [rline_info, Ln.rlen])) hHeld ?_
  refine wpAnyH_ready (rs := [4, 6]) (by kernel_rfl) (by simp) ?_
  refine AllReadyH.cons rfl (fun K hK => ?_) ?_
  · go_simp
    refine hK.out _ _ hHeld (fun hHeld => ?_)
    clear hK K
    refine wpAnyH_ready (rs := [6]) (by kernel_rfl) (by simp) ?_
    refine AllReadyH.cons rfl (fun K hK => ?_) AllReadyH.nil
    rw [if_pos (by rfl)]
    refine wp_buildSlice 100 104 1 #[(0, .tmp 33)] rfl e.rv.toArray i0 (.agg zr) Tryd.underlying100 hi0 hz0 (by rw [hz1]; decide) (by rw [hz1]; decide) (by rw [hz1]; kernel_rfl) ?_
    refine hK.out _ _ G0 (fun hHeld => ?_)
    clear hK K
    refine wpAnyH_ready (rs := [7]) (by kernel_rfl) (by simp) ?_
    refine AllReadyH.cons rfl (fun K hK => ?_) AllReadyH.nil
    rw [if_pos (by rfl)]
    refine append_op0 (v := .slice qa m cap) (u := .slice (some ⟨Y.heap.size, 0, none⟩) 1 1) rfl (by kernel_rfl) (by kernel_rfl) hrun ?_
    refine hK.out _ _ G1 (fun hHeld => ?_)
    clear hK K
    refine wpAnyH_take (i := 8) (v := .pointer (some ⟨p, 0, none⟩)) rfl (by kernel_rfl) (by kernel_rfl) (by kernel_rfl) (fun _ _ _ h => h) (Or.inl ⟨by rfl, fun w hSw => by go_simp⟩) hHeld ?_
    refine wpAnyH_take (i := 9) (v := .pointer (some ⟨p, 2, none⟩)) rfl (by kernel_rfl) (by kernel_rfl) (by kernel_rfl) (fun _ _ _ h => h) (Or.inl ⟨by rfl, fun w hSw => by go_simp⟩) hHeld ?_
    refine wpAnyH_ready (rs := [10]) (by kernel_rfl) (by simp) ?_
    refine AllReadyH.cons rfl (fun K hK => ?_) AllReadyH.nil
    go_simp
    refine hK.out _ _ G2 (fun hHeld => ?_)
    clear hK K
    refine wpAnyH_done (by kernel_rfl) ?_ _
    refine hx _ _ ?_
    clear hx Kx hHeld
    obtain ⟨Z, hZ⟩ : ∃ Z, w1.setCell ⟨p, 2, none⟩ (.slice (some ⟨g', 0, none⟩) (m + 1) cap') = Z := ⟨_, rfl⟩
    rw [hZ] at G2 HGC HGT
    rw [hZ]
    have hxZ : xb < Z.heap.size := Nat.lt_of_lt_of_le (by have := HSY.out; omega) HGT.out.size
    have hin : RC Z B p (.slice (some ⟨g', 0, none⟩) (m + 1) cap') n ways (rest R i ++ [e]) ∧ (∀ q, (Value.slice (some ⟨g', 0, none⟩) (m + 1) cap').ownBlock = some q → w.heap.size ≤ q) ∧ Turned (fun q => q = p) w Z := by
      refine ⟨HGC.out, fun q hq => ?_, ?_⟩
      · simp [Value.ownBlock] at hq
        rcases HGG.out with h1 | h1
        · exact HV2.out q (by rw [h1, hq])
        · have h2 := HSW.out
          have h3 := HXB.out
          have h4 := HSY.out
          omega
      · refine HBY.out.trans2'' HGT.out (fun q hq => ?_)
        rcases hq with h1 | h1
        · exact Or.inl h1
        · exact Or.inr (HV2.out q h1)
    have HFIN := Hid.in hin
    have HG2 := Hid.in G2
    clear hin hZ hrun A0 A1 A2 A3 G0 G1 G2 F0 y3 hpY HGC HGT HGG HBY
    go_wp2
    have z4 := HZ.out.2.1
    have z16 := HZ.out.2.2
    go_loopw [11, 12] (fun vv bv wr' => ∃ (jn : Nat) (zz : Int), bv = .int .i64 zz ∧ zz = (jn : Int) - 1 ∧ jn ≤ z ∧ vv = .int .u32 (leN (fun t => e.b (a % 16 + jn + t)) (z - jn) : Nat) ∧ Z = wr') (fun _ bv _ => (intOf bv + 1).toNat)
    case atStart => exact ⟨z, _, rfl, w64s z z4, Nat.le_refl _, by rw [Nat.sub_self]; rfl, rfl⟩
    case round =>
      obtain ⟨jn, zz, rfl, hzz, hjn, rfl, rfl⟩ := hrel
      rcases Nat.eq_zero_or_pos jn with q0 | q0
      · subst q0
        have hz1 : zz = -1 := by omega
        subst hz1
        clear hzz
        go_wp2
        refine bodyPost_ret (results_tmp2 Tryd.results32 _ _ _) rfl ?_
        exact ⟨rfl, _, HFIN.out⟩
      · obtain ⟨j1, rfl⟩ : ∃ j1, jn = j1 + 1 := ⟨jn - 1, by omega⟩
        obtain rfl : zz = (j1 : Int) := by omega
        have cc := HG2.out (2 + (a % 16 + j1)) _ (Ln.rat2 _ (a % 16 + j1) (by omega))
        rw [Nat.zero_add] at cc
        have hy := HB.out (a % 16 + j1) (by omega)
        have hx := leN_lt (fun t => e.b (a % 16 + (j1 + 1) + t)) (z - (j1 + 1)) (fun t ht => HB.out _ (by omega))
        have hx2 : 256 ^ (z - (j1 + 1)) ≤ 256 ^ 3 := Nat.pow_le_pow_right (by decide) (by omega)
        have hnext : leN (fun t => e.b (a % 16 + j1 + t)) (z - j1) = e.b (a % 16 + j1) + 256 * leN (fun t => e.b (a % 16 + (j1 + 1) + t)) (z - (j1 + 1)) := by
          rw [show z - j1 = (z - (j1 + 1)) + 1 by omega, leN_shift]
          show e.b (a % 16 + j1 + 0) + _ = _
          rw [Nat.add_zero]
          congr 2
          refine leN_congr _ _ _ (fun t _ => ?_)
          show e.b (a % 16 + j1 + (t + 1)) = e.b (a % 16 + (j1 + 1) + t)
          congr 1
          omega
        have HNX := Hid.in hnext
        obtain ⟨x, hxe⟩ : ∃ x, leN (fun t => e.b (a % 16 + (j1 + 1) + t)) (z - (j1 + 1)) = x := ⟨_, rfl⟩
        obtain ⟨y, hye⟩ : ∃ y, e.b (a % 16 + j1) = y := ⟨_, rfl⟩
        have HXE := Hid.in hxe
        have HYE := Hid.in hye
        rw [hxe] at hx
        rw [hye] at hy cc
        rw [hxe]
        have HSO := Hid.in (shl_or x y (by omega) hy)
        have hmod : (a : Int).tmod 16 = ((a % 16 : Nat) : Int) := by rw [Int.tmod_eq_emod_of_nonneg (by omega)]; omega
        have hmod2 : (a : Int) % 16 = ((a % 16 : Nat) : Int) := by omega
        obtain ⟨a16, ha16⟩ : ∃ a16, a % 16 = a16 := ⟨_, rfl⟩
        have HA16 := Hid.in ha16
        rw [ha16] at cc hmod hmod2
        have hi16 : a16 + j1 < 16 := by omega
        clear hnext hx hx2 hxe hye hzz ha16
        go_wp2
        go_roundw
        case rel =>
          refine ⟨j1, _, rfl, by simp, by omega, ?_, trivial⟩
          rw [HSO.out, HNX.out, HYE.out, HXE.out]
        case measure => simp [intOf]
  refine AllReadyH.cons rfl (fun K hK => ?_) AllReadyH.nil
  · rw [if_pos (by rfl)]
    refine wp_buildSlice 100 104 1 #[(0, .tmp 33)] rfl e.rv.toArray i0 (.agg zr) Tryd.underlying100 hi0 hz0 (by rw [hz1]; decide) (by rw [hz1]; decide) (by rw [hz1]; kernel_rfl) ?_
    refine hK.out _ _ G0 (fun hHeld => ?_)
    clear hK K
    refine wpAnyH_ready (rs := [4]) (by kernel_rfl) (by simp) ?_
    refine AllReadyH.cons rfl (fun K hK => ?_) AllReadyH.nil
    go_simp
    refine hK.out _ _ hHeld (fun hHeld => ?_)
    clear hK K
    refine wpAnyH_ready (rs := [7]) (by kernel_rfl) (by simp) ?_
    refine AllReadyH.cons rfl (fun K hK => ?_) AllReadyH.nil
    rw [if_pos (by rfl)]
    refine append_op0 (v := .slice qa m cap) (u := .slice (some ⟨Y.heap.size, 0, none⟩) 1 1) rfl (by kernel_rfl) (by kernel_rfl) hrun ?_
    refine hK.out _ _ G1 (fun hHeld => ?_)
    clear hK K
    refine wpAnyH_take (i := 8) (v := .pointer (some ⟨p, 0, none⟩)) rfl (by kernel_rfl) (by kernel_rfl) (by kernel_rfl) (fun _ _ _ h => h) (Or.inl ⟨by rfl, fun w hSw => by go_simp⟩) hHeld ?_
    refine wpAnyH_take (i := 9) (v := .pointer (some ⟨p, 2, none⟩)) rfl (by kernel_rfl) (by kernel_rfl) (by kernel_rfl) (fun _ _ _ h => h) (Or.inl ⟨by rfl, fun w hSw => by go_simp⟩) hHeld ?_
    refine wpAnyH_ready (rs := [10]) (by kernel_rfl) (by simp) ?_
    refine AllReadyH.cons rfl (fun K hK => ?_) AllReadyH.nil
    go_simp
    refine hK.out _ _ G2 (fun hHeld => ?_)
    clear hK K
    refine wpAnyH_done (by kernel_rfl) ?_ _
    refine hx _ _ ?_
    clear hx Kx hHeld
    obtain ⟨Z, hZ⟩ : ∃ Z, w1.setCell ⟨p, 2, none⟩ (.slice (some ⟨g', 0, none⟩) (m + 1) cap') = Z := ⟨_, rfl⟩
    rw [hZ] at G2 HGC HGT
    rw [hZ]
    have hxZ : xb < Z.heap.size := Nat.lt_of_lt_of_le (by have := HSY.out; omega) HGT.out.size
    have hin : RC Z B p (.slice (some ⟨g', 0, none⟩) (m + 1) cap') n ways (rest R i ++ [e]) ∧ (∀ q, (Value.slice (some ⟨g', 0, none⟩) (m + 1) cap').ownBlock = some q → w.heap.size ≤ q) ∧ Turned (fun q => q = p) w Z := by
      refine ⟨HGC.out, fun q hq => ?_, ?_⟩
      · simp [Value.ownBlock] at hq
        rcases HGG.out with h1 | h1
        · exact HV2.out q (by rw [h1, hq])
        · have h2 := HSW.out
          have h3 := HXB.out
          have h4 := HSY.out
          omega
      · refine HBY.out.trans2'' HGT.out (fun q hq => ?_)
        rcases hq with h1 | h1
        · exact Or.inl h1
        · exact Or.inr (HV2.out q h1)
    have HFIN := Hid.in hin
    have HG2 := Hid.in G2
    clear hin hZ hrun A0 A1 A2 A3 G0 G1 G2 F0 y3 hpY HGC HGT HGG HBY
    go_wp2
    have z4 := HZ.out.2.1
    have z16 := HZ.out.2.2
    go_loopw [11, 12] (fun vv bv wr' => ∃ (jn : Nat) (zz : Int), bv = .int .i64 zz ∧ zz = (jn : Int) - 1 ∧ jn ≤ z ∧ vv = .int .u32 (leN (fun t => e.b (a % 16 + jn + t)) (z - jn) : Nat) ∧ Z = wr') (fun _ bv _ => (intOf bv + 1).toNat)
    case atStart => exact ⟨z, _, rfl, w64s z z4, Nat.le_refl _, by rw [Nat.sub_self]; rfl, rfl⟩
    case round =>
      obtain ⟨jn, zz, rfl, hzz, hjn, rfl, rfl⟩ := hrel
      rcases Nat.eq_zero_or_pos jn with q0 | q0
      · subst q0
        have hz1 : zz = -1 := by omega
        subst hz1
        clear hzz
        go_wp2
        refine bodyPost_ret (results_tmp2 Tryd.results32 _ _ _) rfl ?_
        exact ⟨rfl, _, HFIN.out⟩
      · obtain ⟨j1, rfl⟩ : ∃ j1, jn = j1 + 1 := ⟨jn - 1, by omega⟩
        obtain rfl : zz = (j1 : Int) := by omega
        have cc := HG2.out (2 + (a % 16 + j1)) _ (Ln.rat2 _ (a % 16 + j1) (by omega))
        rw [Nat.zero_add] at cc
        have hy := HB.out (a % 16 + j1) (by omega)
        have hx := leN_lt (fun t => e.b (a % 16 + (j1 + 1) + t)) (z - (j1 + 1)) (fun t ht => HB.out _ (by omega))
        have hx2 : 256 ^ (z - (j1 + 1)) ≤ 256 ^ 3 := Nat.pow_le_pow_right (by decide) (by omega)
        have hnext : leN (fun t => e.b (a % 16 + j1 + t)) (z - j1) = e.b (a % 16 + j1) + 256 * leN (fun t => e.b (a % 16 + (j1 + 1) + t)) (z - (j1 + 1)) := by
          rw [show z - j1 = (z - (j1 + 1)) + 1 by omega, leN_shift]
          show e.b (a % 16 + j1 + 0) + _ = _
          rw [Nat.add_zero]
          congr 2
          refine leN_congr _ _ _ (fun t _ => ?_)
          show e.b (a % 16 + j1 + (t + 1)) = e.b (a % 16 + (j1 + 1) + t)
          congr 1
          omega
        have HNX := Hid.in hnext
        obtain ⟨x, hxe⟩ : ∃ x, leN (fun t => e.b (a % 16 + (j1 + 1) + t)) (z - (j1 + 1)) = x := ⟨_, rfl⟩
        obtain ⟨y, hye⟩ : ∃ y, e.b (a % 16 + j1) = y := ⟨_, rfl⟩
        have HXE := Hid.in hxe
        have HYE := Hid.in hye
        rw [hxe] at hx
        rw [hye] at hy cc
        rw [hxe]
        have HSO := Hid.in (shl_or x y (by omega) hy)
        have hmod : (a : Int).tmod 16 = ((a % 16 : Nat) : Int) := by rw [Int.tmod_eq_emod_of_nonneg (by omega)]; omega
        have hmod2 : (a : Int) % 16 = ((a % 16 : Nat) : Int) := by omega
        obtain ⟨a16, ha16⟩ : ∃ a16, a % 16 = a16 := ⟨_, rfl⟩
        have HA16 := Hid.in ha16
        rw [ha16] at cc hmod hmod2
        have hi16 : a16 + j1 < 16 := by omega
        clear hnext hx hx2 hxe hye hzz ha16
        go_wp2
        go_roundw
        case rel =>
          refine ⟨j1, _, rfl, by simp, by omega, ?_, trivial⟩
          rw [HSO.out, HNX.out, HYE.out, HXE.out]
        case measure => simp [intOf]
end Go.Proofs.YtlogdmnhngbkaaaDoor
