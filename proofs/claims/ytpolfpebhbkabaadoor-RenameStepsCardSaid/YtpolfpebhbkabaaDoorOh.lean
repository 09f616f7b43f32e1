/-
  RENAME's LAW RenameSteps: the steps.
-/
import Derived.Test.YtpolfpebhbkabaaDoorOg
namespace Go.Proofs.YtpolfpebhbkabaaDoor
open Go Go.RowKit
set_option maxRecDepth 100000 in
set_option maxHeartbeats 4000000 in
theorem steps_good (n : Nat) (sp : Option Addr) (m1 c1 : Nat) (f : Nat → Nat → Int) (w : World) (hn1 : 34 ≤ n) (hn2 : n ≤ 128) (hO : Ops w sp m1 f) (_hm1 : m1 ≤ 9223372036854775807) (hg : w.cell? ⟨0, 0, none⟩ = some (.iface 154 (.agg #[.pointer (some ⟨4, 27, none⟩)]))) : Calls Tryd.prog 6 #[.int .i64 n, .slice sp m1 c1] w fun e w' => e = .returned (.bool true) ∧ Below w.heap.size w w' := by
  have HG : Hid (∀ y, Below w.heap.size w y → y.cell? ⟨0, 0, none⟩ = some (.iface 154 (.agg #[.pointer (some ⟨4, 27, none⟩)]))) := fun y hy => (hy.cell (p := ⟨0, 0, none⟩) (cell_here hg)).trans hg
  have HOP := Hid.in hO
  have HN : Hid (34 ≤ n ∧ n ≤ 128) := ⟨hn1, hn2⟩
  clear hg hO hn1 hn2
  obtain ⟨i0, hi0, hz0, hz1, hz2⟩ := info_parts (show (Tryd.prog.info? 78).map (fun i => (i.zero, i.size, i.bytes)) = some (some (.agg #[.int .i64 0, .int .i64 0, .int .i64 0]), 3, 24) by kernel_rfl)
  go_enter Tryd.func6, Tryd.ntmps6
  go_wp2_with (first
    | (go_at_call 21; refine (new_good n w HN.out.1 HN.out.2).mono ?_; rintro e w1 ⟨rfl, hT1, hB1⟩; have HT1 := Hid.in hT1; have HB1 := Hid.in hB1; clear hT1 hB1)
    | (go_at_call 22; refine (rnew_good n w1 HN.out.1 HN.out.2).mono ?_; rintro e w2 ⟨rfl, ⟨g0, hT2, hg0⟩, hB2⟩)
    | (go_at_call 10; refine (told_nil _).mono ?_; rintro e w3 ⟨rfl, hb3⟩))
  obtain ⟨q0, hst⟩ := st_new HT1.out HB1.out hT2 hg0 hB2
  have HS0 := Hid.in (hst.below hb3)
  clear hst hT2 hg0 hB2 HT1 HB1 hb3
  generalize w1.heap.size = b at HS0 ⊢
  generalize w.heap.size + 1 = p at HS0 ⊢
  obtain ⟨h, hh⟩ : ∃ h, h = w.heap.size := ⟨_, rfl⟩
  have HS1 : Hid (St w w3 p h b q0 n (newT n) (newT n) (.slice none 0 0) 0 (fun _ => 0)) := by rw [hh]; exact HS0
  clear HS0 hh
  go_loopw [10, 11] (fun l kk wr => ∃ (lv : Value) (k m : Nat) (g : Option Nat) (S : NT) (H : List Nat) (F : Nat → Int), lv = l ∧ kk = .int .i64 k ∧ k ≤ 4096 ∧ m ≤ k ∧ St w wr p h b g n S S lv m F ∧ Inv S H n) (fun _ kk _ => 4097 - (intOf kk).toNat)
  case atStart => exact ⟨_, 0, 0, _, _, [], _, rfl, rfl, by omega, by omega, HS1.out, new_inv n HN.out.1⟩
  case round =>
    obtain ⟨lv, k, m, g, S, H, F, rfl, rfl, hk, hmk, hS, hI⟩ := hrel
    have HS := Hid.in hS
    have HV := Hid.in hI
    clear hS hI HS1
    by_cases hlt : k < m1 ∧ k < 4096
    · obtain ⟨hk1, hk2⟩ := hlt
      obtain ⟨sb, so, rfl, hsb, s0, s1, s2, s3⟩ := HOP.out k hk1
      have e0 := (HS.out.gr.cell (p := ⟨sb, so + k * 4, none⟩) hsb).trans s0
      have e1 := (HS.out.gr.cell (p := ⟨sb, so + k * 4 + 1, none⟩) hsb).trans s1
      have e2 := (HS.out.gr.cell (p := ⟨sb, so + k * 4 + 2, none⟩) hsb).trans s2
      have e3 := (HS.out.gr.cell (p := ⟨sb, so + k * 4 + 3, none⟩) hsb).trans s3
      generalize f k 0 = K at e0
      generalize f k 1 = X at e1
      generalize f k 2 = Y at e2
      generalize f k 3 = Z at e3
      clear hsb s0 s1 s2 s3
      go_upto_region 11 with fail
      obtain ⟨wq, hwq⟩ : ∃ x, x = wr.alloc (.cells #[.int .i64 K, .int .i64 X, .int .i64 Y, .int .i64 Z] 76) := ⟨_, rfl⟩
      rw [← hwq]
      have HQ : Hid (CellsAt 4 wq wr.heap.size (ov K X Y Z)) := by rw [hwq]; exact ov_new wr K X Y Z
      have HS2 : Hid (St w wq p h b g n S S lv m F) := by rw [hwq]; exact HS.out.below ((Below.refl _ _).alloc (Nat.le_refl _) _)
      have HNQ : Hid (wr.heap.size ≠ p ∧ wr.heap.size ≠ h ∧ wr.heap.size ≠ b ∧ g ≠ some wr.heap.size ∧ w.heap.size ≤ wr.heap.size ∧ lv.ownBlock ≠ some wr.heap.size) := by
        have q1 := HS.out.hi
        refine ⟨by omega, by omega, by omega, fun e => ?_, HS.out.gr.size, fun e => ?_⟩
        · have := q1.2.2.2 _ e; omega
        · have := (own_base HS.out.l _ e).2; omega
      clear hwq e0 e1 e2 e3 HS
      generalize wr.heap.size = q at HQ HNQ ⊢
      go_cut [77] (fun c wc => ∃ cb : Bool, c = .bool cb ∧ (cb = true ↔ K = 4 ∧ 0 < m) ∧ wq = wc)
      case first =>
        have c0 : wq.cell? ⟨q, 0, none⟩ = some (.int .i64 K) := HQ.out.cell 0 (by decide)
        have c3 := HQ.out.here
        obtain ⟨lq, lc, hlv, hlc, hrow⟩ := own_flat HS2.out.l
        subst hlv
        clear hrow
        by_cases hK : K = 4
        · subst hK
          by_cases hm : 0 < m
          · have hm2 : (0 : Int) < (m : Int) := by omega
            as_aux_lemma =>
              go_wp2
              go_meet
              exact ⟨true, rfl, by simp [hm], by first | rfl | trivial⟩
          · have hm2 : ¬ (0 : Int) < (m : Int) := by omega
            as_aux_lemma =>
              go_wp2
              go_meet
              exact ⟨false, rfl, by simp [hm], by first | rfl | trivial⟩
        · have hKb : (K == 4) = false := by simpa using hK
          as_aux_lemma =>
            go_wp2
            go_meet
            exact ⟨false, rfl, by simp [hK], by first | rfl | trivial⟩
      case rest =>
        obtain ⟨cb, rfl, hcb, rfl⟩ := hcut
        have HCB := Hid.in hcb
        clear hcb
        go_upto_if 77 with fail
        go_cut [10, 13] (fun l _ wc => ∃ (lv : Value) (K X Y Z : Int) (m : Nat) (F : Nat → Int), lv = l ∧ m ≤ k ∧ St w wc p h b g n S S lv m F ∧ CellsAt 4 wc q (ov K X Y Z) ∧ lv.ownBlock ≠ some q)
        case first =>
          cases cb
          · as_aux_lemma =>
              go_wp2
              go_meet
              exact ⟨lv, K, X, Y, Z, m, F, rfl, hmk, HS2.out, HQ.out, HNQ.out.2.2.2.2.2⟩
          · obtain ⟨hd1, hd2⟩ := HCB.out.1 rfl
            obtain ⟨m', rfl⟩ : ∃ m', m = m' + 1 := ⟨m - 1, by omega⟩
            obtain ⟨lq, lc, hlv, hlc, hrow⟩ := own_flat HS2.out.l
            subst hlv
            obtain ⟨gl, rfl, g1, g2, r0, r1, r2⟩ := hrow m' (by omega)
            have c0 : wq.cell? ⟨q, 0, none⟩ = some (.int .i64 K) := HQ.out.cell 0 (by decide)
            have c1 : wq.cell? ⟨q, 1, none⟩ = some (.int .i64 X) := HQ.out.cell 1 (by decide)
            have c2 : wq.cell? ⟨q, 2, none⟩ = some (.int .i64 Y) := HQ.out.cell 2 (by decide)
            have c3 : wq.cell? ⟨q, 3, none⟩ = some (.int .i64 Z) := HQ.out.cell 3 (by decide)
            have c4 := HQ.out.here
            have c5 := HQ.out.free
            obtain ⟨hlc1, hlc2⟩ := hlc
            have hmi : ((m' + 1 : Nat) : Int) - 1 = (m' : Int) := by omega
            have hmk2 : m' ≤ 4096 := by omega
            generalize F (m' * 3) = f0 at r0
            generalize F (m' * 3 + 1) = f1 at r1
            generalize F (m' * 3 + 2) = f2 at r2
            have HLQ := Hid.in HNQ.out.2.2.2.2.2
            clear hrow g1 hd1
            as_aux_lemma =>
              go_wp2
              go_meet
              refine ⟨.slice (some ⟨gl, 0, none⟩) m' lc, 2, f0, f1, f2, m', F, rfl, by omega, ?_, ?_, HLQ.out⟩
              · exact ((HS2.out.onQ (sets_t _ q _ _ _ _) ⟨HNQ.out.1, HNQ.out.2.1, HNQ.out.2.2.1, HNQ.out.2.2.2.1, HNQ.out.2.2.2.2.1⟩ HLQ.out).below ((Below.refl _ _).alloc (Nat.le_refl _) _)).less
              · exact (sets_q HQ.out 2 f0 f1 f2).alloc _
        case rest =>
          clear HS2 HQ HCB
          obtain ⟨lv, K, X, Y, Z, m, F, rfl, hmk, hS3, hQ3, hlq⟩ := hcut
          have HS3 := Hid.in hS3
          have HQ3 := Hid.in hQ3
          have HLQ := Hid.in hlq
          have HNQ2 : Hid (q ≠ p ∧ q ≠ h ∧ q ≠ b ∧ g ≠ some q ∧ w.heap.size ≤ q) := ⟨HNQ.out.1, HNQ.out.2.1, HNQ.out.2.2.1, HNQ.out.2.2.2.1, HNQ.out.2.2.2.2.1⟩
          clear hS3 hQ3 hlq HNQ
          go_upto_region 15 with fail
          go_cut [108] (fun c wx => ∃ cb : Bool, c = .bool cb ∧ (cb = true → 0 < m ∧ 0 ≤ X) ∧ wc = wx)
          case first =>
            have c0 : wc.cell? ⟨q, 0, none⟩ = some (.int .i64 K) := HQ3.out.cell 0 (by decide)
            have c1 : wc.cell? ⟨q, 1, none⟩ = some (.int .i64 X) := HQ3.out.cell 1 (by decide)
            have c3 := HQ3.out.here
            obtain ⟨lq, lc, hlv, hlc, hrow⟩ := own_flat HS3.out.l
            subst hlv
            clear hrow hlc
            by_cases hK : K = 5
            · subst hK
              by_cases hm : (0 : Int) < (m : Int)
              · by_cases hX : 0 ≤ X
                · as_aux_lemma =>
                    go_wp2
                    go_meet
                    exact ⟨true, rfl, fun _ => ⟨by omega, hX⟩, by first | rfl | trivial⟩
                · as_aux_lemma =>
                    go_wp2
                    go_meet
                    exact ⟨false, rfl, fun e => (by cases e), by first | rfl | trivial⟩
              · as_aux_lemma =>
                  go_wp2
                  go_meet
                  exact ⟨false, rfl, fun e => (by cases e), by first | rfl | trivial⟩
            · have hKb : (K == 5) = false := by simpa using hK
              as_aux_lemma =>
                go_wp2
                go_meet
                exact ⟨false, rfl, fun e => (by cases e), by first | rfl | trivial⟩
          case rest =>
            obtain ⟨cb2, rfl, hcb, rfl⟩ := hcut
            have HCB := Hid.in hcb
            clear hcb
            go_upto_if 108 with fail
            go_cut [] (fun wx => ∃ (K X Y Z : Int), St w wx p h b g n S S lv m F ∧ CellsAt 4 wx q (ov K X Y Z))
            case first =>
              cases cb2
              · as_aux_lemma =>
                  go_wp2
                  go_meet
                  exact ⟨K, X, Y, Z, HS3.out, HQ3.out⟩
              · obtain ⟨hm, hX⟩ := HCB.out rfl
                obtain ⟨lq, lc, hlv, hlc, hrow⟩ := own_flat HS3.out.l
                subst hlv
                obtain ⟨j, hj⟩ : ∃ j : Nat, (j : Int) = X % (m : Int) := ⟨(X % (m : Int)).toNat, by have := Int.emod_nonneg X (show (m : Int) ≠ 0 by omega); omega⟩
                have hj2 : j < m := by have := Int.emod_lt_of_pos X (show (0 : Int) < (m : Int) by omega); omega
                have hjm : X.tmod (m : Int) = (j : Int) := by rw [Int.tmod_eq_emod_of_nonneg hX]; exact hj.symm
                obtain ⟨gl, rfl, g1, g2, r0, r1, r2⟩ := hrow j hj2
                have c0 : wc.cell? ⟨q, 0, none⟩ = some (.int .i64 K) := HQ3.out.cell 0 (by decide)
                have c1 : wc.cell? ⟨q, 1, none⟩ = some (.int .i64 X) := HQ3.out.cell 1 (by decide)
                have c2 : wc.cell? ⟨q, 2, none⟩ = some (.int .i64 Y) := HQ3.out.cell 2 (by decide)
                have c3 : wc.cell? ⟨q, 3, none⟩ = some (.int .i64 Z) := HQ3.out.cell 3 (by decide)
                have c4 := HQ3.out.here
                have c5 := HQ3.out.free
                generalize F (j * 3 + 2) = f2 at r2
                clear hrow g1 hlc r0 r1 hj
                as_aux_lemma =>
                  go_wp2
                  go_meet
                  exact ⟨3, f2, 0, 0, HS3.out.onQ (sets_t _ q _ _ _ _) HNQ2.out HLQ.out, sets_q HQ3.out 3 f2 0 0⟩
            case rest =>
              clear HS3 HQ3 HCB
              obtain ⟨K, X, Y, Z, hS4, hQ4⟩ := hcut
              have HS4 := Hid.in hS4
              have HQ4 := Hid.in hQ4
              clear hS4 hQ4
              have d0 : wc.cell? ⟨q, 0, none⟩ = some (.int .i64 K) := HQ4.out.cell 0 (by decide)
              have d4 := HQ4.out.here
              go_upto_block 2 with fail
              go_cut [10, 14, 15, 16, 17, 18, 19, 20, 21, 22, 23, 24, 25, 26, 27, 28] (fun l _ _ _ _ _ _ _ _ _ _ _ _ _ _ _ wx => ∃ (lv : Value) (m : Nat) (g : Option Nat) (S : NT) (H : List Nat) (F : Nat → Int), lv = l ∧ m ≤ k + 1 ∧ St w wx p h b g n S S lv m F ∧ Inv S H n)
              case first =>
                obtain ⟨g0, hRT, hg0⟩ := HS4.out.u.to
                have HRT := Hid.in hRT
                clear hRT hg0
                have d1 : wc.cell? ⟨q, 1, none⟩ = some (.int .i64 X) := HQ4.out.cell 1 (by decide)
                have d2 : wc.cell? ⟨q, 2, none⟩ = some (.int .i64 Y) := HQ4.out.cell 2 (by decide)
                have d3 : wc.cell? ⟨q, 3, none⟩ = some (.int .i64 Z) := HQ4.out.cell 3 (by decide)
                have HFL : Hid (S.free.length ≤ 1000) := by have q1 := HV.out.lens; have q2 := HN.out; show _ ≤ _; omega
                by_cases k0 : K = 0
                · subst k0
                  by_cases hx : 0 ≤ X ∧ X < 32
                  · obtain ⟨r, rfl⟩ : ∃ r : Nat, X = (r : Int) := ⟨X.toNat, by omega⟩
                    have hr : r < 32 := by omega
                    as_aux_lemma =>
                      go_wp2_with (first
                        | (go_at_call 23; refine (look_in p h n S r _ HS4.out.t hr).mono ?_; rintro e v1 ⟨rfl, hw⟩; have hw2 := hw.symm; clear hw; subst hw2)
                        | (go_at_call 24; refine (rlook_in b g0 n S.name S.free r _ HRT.out hr).mono ?_; rintro e v1 ⟨rfl, hw⟩; have hw2 := hw.symm; clear hw; subst hw2))
                      go_meet
                      exact ⟨lv, m, g, S, H, F, rfl, by omega, HS4.out, HV.out⟩
                  · have HX := Hid.in hx
                    clear hx
                    as_aux_lemma =>
                      go_wp2_with (first
                        | (go_at_call 23; refine (look_out p X _ HX.out).mono ?_; rintro e v1 ⟨rfl, hw⟩; have hw2 := hw.symm; clear hw; subst hw2)
                        | (go_at_call 24; refine (rlook_out b X _ HX.out).mono ?_; rintro e v1 ⟨rfl, hw⟩; have hw2 := hw.symm; clear hw; subst hw2))
                      go_meet
                      exact ⟨lv, m, g, S, H, F, rfl, by omega, HS4.out, HV.out⟩
                have kb0 : (K == 0) = false := by simpa using k0
                by_cases k1 : K = 1
                · subst k1
                  by_cases hx : 1 ≤ X ∧ X < 32
                  · obtain ⟨r, rfl⟩ : ∃ r : Nat, X = (r : Int) := ⟨X.toNat, by omega⟩
                    have hr1 : 1 ≤ r := by omega
                    have hr2 : r < 32 := by omega
                    clear hx
                    cases hfr : S.free with
                    | nil =>
                      have HE := Hid.in hfr
                      have HRT2 : Hid (RTab wc b g0 n S.name []) := by rw [← hfr]; exact HRT.out
                      clear hfr
                      as_aux_lemma =>
                        go_wp2_with (first
                          | (go_at_call 25; refine (take_full p h n S _ _ HS4.out.t (by unfold regB; simp; omega) HE.out).mono ?_; rintro e v1 ⟨rfl, hw⟩; have hw2 := hw.symm; clear hw; subst hw2)
                          | (go_at_call 26; refine (rtake_full b g0 n S.name r _ HRT2.out ⟨hr1, hr2⟩).mono ?_; rintro e v1 ⟨rfl, hw⟩; have hw2 := hw.symm; clear hw; subst hw2)
                          | (go_at_call 10; refine (told_err 4 _ (HG.out _ HS4.out.gr)).mono ?_; rintro e v5 ⟨rfl, hb5⟩; have HX5 := Hid.in (HS4.out.below hb5); clear hb5))
                        go_meet
                        exact ⟨lv, m, g, S, H, F, rfl, by omega, HX5.out, HV.out⟩
                    | cons x l =>
                      have HE := Hid.in hfr
                      have HU : Hid (RT wc b g n S.name (x :: l)) := by rw [← hfr]; exact HS4.out.u
                      have hll : l.length ≤ 1000 := by have q1 := HFL.out; rw [hfr] at q1; simp at q1; omega
                      have HLL := Hid.in hll
                      clear hfr hll
                      generalize hol : S.name r = old
                      have HOL := Hid.in hol
                      clear hol
                      as_aux_lemma =>
                        go_wp2_with (first
                          | (go_at_call 25; refine (take_good p h n S r x l _ HS4.out.t ⟨hr1, hr2⟩ HE.out (HV.out.name_lt _ hr2)).mono ?_; rw [HOL.out]; rintro e v1 ⟨rfl, hT1, hO1⟩; have HX1 := Hid.in (HS4.out.onT hO1 hT1); have HQ1 := Hid.in (hO1.cells HQ4.out (by have := HNQ2.out; omega)); have HU1 := Hid.in (HU.out.turned hO1 (by have := HS4.out.ne; omega) (fun j hj => by have := HS4.out.ne.2.2 j hj; omega)); have f1 : v1.cell? ⟨q, 1, none⟩ = some (.int .i64 r) := HQ1.out.cell 1 (by decide); have f4 := HQ1.out.here; clear hT1 hO1)
                          | (go_at_call 26; refine (rt_take b g n S.name x l r _ HU1.out ⟨hr1, hr2⟩ HLL.out).mono ?_; rw [HOL.out]; rintro e v2 ⟨rfl, ⟨g', hu2, hg2⟩, hO2⟩; have HX2 := Hid.in (HX1.out.onU (U := S.take r x l) hO2 hu2 hg2); have HQ2 := Hid.in (hO2.cells HQ1.out (by rintro (e | e); exact HNQ2.out.2.2.1 e; exact HNQ2.out.2.2.2.1 e)); clear hu2 hg2 hO2)
                          | (go_at_call 10; refine (told_nil _).mono ?_; rintro e v5 ⟨rfl, hb5⟩; have HX5 := Hid.in (HX2.out.below hb5); have hQ5 := HQ2.out.below hb5; have g1 : v5.cell? ⟨q, 1, none⟩ = some (.int .i64 r) := hQ5.cell 1 (by decide); have g4 := hQ5.here; clear hb5)
                          | (at_builtin; refine append_own3 _ rfl (.tmp 169) (.tmp 175) 74 rfl 78 i0 Tryd.underlying74 hi0 hz0 hz1 hz2 w.heap.size lv m F rfl (HX5.out.l.alloc _) ⟨v5.heap.size, 0, none⟩ 1 r x old rfl ?c1 (by omega) (by have := HX5.out.gr.size; simp; omega) ?_))
                        case c1 =>
                          intro j u hj
                          match j, hj with
                          | 0, hj => simp at hj; subst hj; simp [Addr.add]
                          | 1, hj => simp at hj; subst hj; simp [Addr.add]
                          | 2, hj => simp at hj; subst hj; simp [Addr.add]
                        intro v' w6 G hown6 hT6 hb6
                        have HX6 := Hid.in ((HX5.out.below ((Below.refl _ _).alloc (Nat.le_refl _) _)).onL hT6 hown6 (by intro k hk; have q := hb6 k hk; rw [World.size_alloc]; exact q))
                        clear hown6 hT6 hb6
                        go_wp2
                        go_meet
                        exact ⟨v', m + 1, g', _, _, G, rfl, by omega, HX6.out, HV.out.take (H' := S.name r :: H) HE.out ⟨hr1, hr2⟩ rfl (fun y => count_cons' _ _ _)⟩
                  · have HX := Hid.in hx
                    clear hx
                    as_aux_lemma =>
                      go_wp2_with (first
                        | (go_at_call 25; refine (take_range p X _ (by unfold regB; have := HX.out; simp; omega)).mono ?_; rintro e v1 ⟨rfl, hw⟩; have hw2 := hw.symm; clear hw; subst hw2)
                        | (go_at_call 26; refine (rtake_range b X _ HX.out).mono ?_; rintro e v1 ⟨rfl, hw⟩; have hw2 := hw.symm; clear hw; subst hw2)
                        | (go_at_call 10; refine (told_err 3 _ (HG.out _ HS4.out.gr)).mono ?_; rintro e v5 ⟨rfl, hb5⟩; have HX5 := Hid.in (HS4.out.below hb5); clear hb5))
                      go_meet
                      exact ⟨lv, m, g, S, H, F, rfl, by omega, HX5.out, HV.out⟩
                have kb1 : (K == 1) = false := by simpa using k1
                by_cases k2 : K = 2
                · subst k2
                  by_cases hx : 1 ≤ X ∧ X < 32
                  · obtain ⟨r, rfl⟩ : ∃ r : Nat, X = (r : Int) := ⟨X.toNat, by omega⟩
                    have hr1 : 1 ≤ r := by omega
                    have hr2 : r < 32 := by omega
                    clear hx
                    by_cases hz : 1 ≤ Z ∧ Z < (n : Int)
                    · obtain ⟨old, rfl⟩ : ∃ old : Nat, Z = (old : Int) := ⟨Z.toNat, by omega⟩
                      have ho1 : 1 ≤ old := by omega
                      have ho2 : old < n := by omega
                      clear hz
                      by_cases hy : (S.name r : Int) = Y
                      · subst hy
                        cases hh : S.held old with
                        | false =>
                          have HH := Hid.in hh
                          clear hh
                          as_aux_lemma =>
                            go_wp2_with (first
                              | (go_at_call 27; refine (undo_order2 p h n S r old _ HS4.out.t ⟨hr1, hr2⟩ ⟨ho1, ho2⟩ HH.out).mono ?_; rintro e v1 ⟨rfl, hw⟩; have hw2 := hw.symm; clear hw; subst hw2)
                              | (go_at_call 28; refine (rundo_order b g0 n S.name S.free r (S.name r) old _ HRT.out ⟨hr1, hr2⟩ ⟨ho1, ho2⟩ HFL.out (Or.inr (inv_held_false HV.out HH.out ho2))).mono ?_; rintro e v1 ⟨rfl, hw⟩; have hw2 := hw.symm; clear hw; subst hw2)
                              | (go_at_call 10; refine (told_err 5 _ (HG.out _ HS4.out.gr)).mono ?_; rintro e v5 ⟨rfl, hb5⟩; have HX5 := Hid.in (HS4.out.below hb5); clear hb5))
                            go_meet
                            exact ⟨lv, m, g, S, H, F, rfl, by omega, HX5.out, HV.out⟩
                        | true =>
                          have HH := Hid.in hh
                          have HE3 := Hid.in (inv_held_true HV.out hh)
                          clear hh
                          as_aux_lemma =>
                            go_wp2_with (first
                              | (go_at_call 27; refine (undo_good p h n S r old _ HS4.out.t ⟨hr1, hr2⟩ ⟨ho1, ho2⟩ HH.out (HV.out.room HN.out.2)).mono ?_; rintro e v1 ⟨rfl, hT1, hO1⟩; have HX1 := Hid.in (HS4.out.onT hO1 hT1); have HQ1 := Hid.in (hO1.cells HQ4.out (by have := HNQ2.out; omega)); have HU1 := Hid.in (HS4.out.u.turned hO1 (by have := HS4.out.ne; omega) (fun j hj => by have := HS4.out.ne.2.2 j hj; omega)); have f1 : v1.cell? ⟨q, 1, none⟩ = some (.int .i64 r) := HQ1.out.cell 1 (by decide); have f2 : v1.cell? ⟨q, 2, none⟩ = some (.int .i64 (S.name r)) := HQ1.out.cell 2 (by decide); have f3 : v1.cell? ⟨q, 3, none⟩ = some (.int .i64 old) := HQ1.out.cell 3 (by decide); have f4 := HQ1.out.here; clear hT1 hO1)
                              | (go_at_call 28; refine (rt_undo b g n S.name S.free r old _ HU1.out ⟨hr1, hr2⟩ ⟨ho1, ho2⟩ HFL.out HE3.out.2.1 HE3.out.2.2).mono ?_; rintro e v2 ⟨rfl, ⟨g', hu2, hg2⟩, hO2⟩; have HX2 := Hid.in (HX1.out.onU (U := S.undo r old) hO2 hu2 hg2); clear hu2 hg2 hO2)
                              | (go_at_call 10; refine (told_nil _).mono ?_; rintro e v5 ⟨rfl, hb5⟩; have HX5 := Hid.in (HX2.out.below hb5); clear hb5))
                            go_meet
                            exact ⟨lv, m, g', _, _, F, rfl, by omega, HX5.out, HV.out.undo (H' := H.erase old) ⟨hr1, hr2⟩ (erase_count HE3.out.1).1 (erase_count HE3.out.1).2⟩
                      · have HY := Hid.in hy
                        clear hy
                        as_aux_lemma =>
                          go_wp2_with (first
                            | (go_at_call 27; refine (undo_order1 p h n S r Y old _ HS4.out.t ⟨hr1, hr2⟩ ⟨ho1, ho2⟩ HY.out).mono ?_; rintro e v1 ⟨rfl, hw⟩; have hw2 := hw.symm; clear hw; subst hw2)
                            | (go_at_call 28; refine (rundo_order b g0 n S.name S.free r Y old _ HRT.out ⟨hr1, hr2⟩ ⟨ho1, ho2⟩ HFL.out (Or.inl HY.out)).mono ?_; rintro e v1 ⟨rfl, hw⟩; have hw2 := hw.symm; clear hw; subst hw2)
                            | (go_at_call 10; refine (told_err 5 _ (HG.out _ HS4.out.gr)).mono ?_; rintro e v5 ⟨rfl, hb5⟩; have HX5 := Hid.in (HS4.out.below hb5); clear hb5))
                          go_meet
                          exact ⟨lv, m, g, S, H, F, rfl, by omega, HX5.out, HV.out⟩
                    · have HZ := Hid.in hz
                      clear hz
                      as_aux_lemma =>
                        go_wp2_with (first
                          | (go_at_call 27; refine (undo_range2 p h n S r Y Z _ HS4.out.t (by unfold regB; simp; omega) (by have := HZ.out; simp; omega)).mono ?_; rintro e v1 ⟨rfl, hw⟩; have hw2 := hw.symm; clear hw; subst hw2)
                          | (go_at_call 28; refine (rundo_range b g0 n S.name S.free r Y Z _ HRT.out (by have := HZ.out; omega)).mono ?_; rintro e v1 ⟨rfl, hw⟩; have hw2 := hw.symm; clear hw; subst hw2)
                          | (go_at_call 10; refine (told_err 3 _ (HG.out _ HS4.out.gr)).mono ?_; rintro e v5 ⟨rfl, hb5⟩; have HX5 := Hid.in (HS4.out.below hb5); clear hb5))
                        go_meet
                        exact ⟨lv, m, g, S, H, F, rfl, by omega, HX5.out, HV.out⟩
                  · have HX := Hid.in hx
                    clear hx
                    as_aux_lemma =>
                      go_wp2_with (first
                        | (go_at_call 27; refine (undo_range1 p X Y Z _ (by unfold regB; have := HX.out; simp; omega)).mono ?_; rintro e v1 ⟨rfl, hw⟩; have hw2 := hw.symm; clear hw; subst hw2)
                        | (go_at_call 28; refine (rundo_range b g0 n S.name S.free X Y Z _ HRT.out (by have := HX.out; omega)).mono ?_; rintro e v1 ⟨rfl, hw⟩; have hw2 := hw.symm; clear hw; subst hw2)
                        | (go_at_call 10; refine (told_err 3 _ (HG.out _ HS4.out.gr)).mono ?_; rintro e v5 ⟨rfl, hb5⟩; have HX5 := Hid.in (HS4.out.below hb5); clear hb5))
                      go_meet
                      exact ⟨lv, m, g, S, H, F, rfl, by omega, HX5.out, HV.out⟩
                have kb2 : (K == 2) = false := by simpa using k2
                by_cases k3 : K = 3
                · subst k3
                  by_cases hx : 1 ≤ X ∧ X < (n : Int)
                  · obtain ⟨x, rfl⟩ : ∃ x : Nat, X = (x : Int) := ⟨X.toNat, by omega⟩
                    have hx1 : 1 ≤ x := by omega
                    have hx2 : x < n := by omega
                    clear hx
                    cases hh : S.held x with
                    | false =>
                      have HH := Hid.in hh
                      clear hh
                      as_aux_lemma =>
                        go_wp2_with (first
                          | (go_at_call 29; refine (release_free p h n S x _ HS4.out.t hx1 hx2 HH.out).mono ?_; rintro e v1 ⟨rfl, hw⟩; have hw2 := hw.symm; clear hw; subst hw2)
                          | (go_at_call 30; refine (rrel_free b g0 n S.name S.free x _ HRT.out ⟨hx1, hx2⟩ HFL.out (inv_held_false HV.out HH.out hx2)).mono ?_; rintro e v1 ⟨rfl, hw⟩; have hw2 := hw.symm; clear hw; subst hw2)
                          | (go_at_call 10; refine (told_err 6 _ (HG.out _ HS4.out.gr)).mono ?_; rintro e v5 ⟨rfl, hb5⟩; have HX5 := Hid.in (HS4.out.below hb5); clear hb5))
                        go_meet
                        exact ⟨lv, m, g, S, H, F, rfl, by omega, HX5.out, HV.out⟩
                    | true =>
                      have HH := Hid.in hh
                      have HE3 := Hid.in (inv_held_true HV.out hh)
                      clear hh
                      as_aux_lemma =>
                        go_wp2_with (first
                          | (go_at_call 29; refine (release_good p h n S x _ HS4.out.t hx1 hx2 HH.out (HV.out.room HN.out.2)).mono ?_; rintro e v1 ⟨rfl, hT1, hO1⟩; have HX1 := Hid.in (HS4.out.onT hO1 hT1); have HQ1 := Hid.in (hO1.cells HQ4.out (by have := HNQ2.out; omega)); have HU1 := Hid.in (HS4.out.u.turned hO1 (by have := HS4.out.ne; omega) (fun j hj => by have := HS4.out.ne.2.2 j hj; omega)); have f1 : v1.cell? ⟨q, 1, none⟩ = some (.int .i64 x) := HQ1.out.cell 1 (by decide); have f4 := HQ1.out.here; clear hT1 hO1)
                          | (go_at_call 30; refine (rt_rel b g n S.name S.free x _ HU1.out ⟨hx1, hx2⟩ HFL.out HE3.out.2.1 HE3.out.2.2).mono ?_; rintro e v2 ⟨rfl, ⟨g', hu2, hg2⟩, hO2⟩; have HX2 := Hid.in (HX1.out.onU (U := S.release x) hO2 hu2 hg2); clear hu2 hg2 hO2)
                          | (go_at_call 10; refine (told_nil _).mono ?_; rintro e v5 ⟨rfl, hb5⟩; have HX5 := Hid.in (HX2.out.below hb5); clear hb5))
                        go_meet
                        exact ⟨lv, m, g', _, _, F, rfl, by omega, HX5.out, HV.out.release (H' := H.erase x) (erase_count HE3.out.1).1 (erase_count HE3.out.1).2⟩
                  · have HX := Hid.in hx
                    clear hx
                    as_aux_lemma =>
                      go_wp2_with (first
                        | (go_at_call 29; refine (release_range p h n S X _ HS4.out.t (by have := HX.out; simp; omega)).mono ?_; rintro e v1 ⟨rfl, hw⟩; have hw2 := hw.symm; clear hw; subst hw2)
                        | (go_at_call 30; refine (rrel_range b g0 n S.name S.free X _ HRT.out HX.out).mono ?_; rintro e v1 ⟨rfl, hw⟩; have hw2 := hw.symm; clear hw; subst hw2)
                        | (go_at_call 10; refine (told_err 3 _ (HG.out _ HS4.out.gr)).mono ?_; rintro e v5 ⟨rfl, hb5⟩; have HX5 := Hid.in (HS4.out.below hb5); clear hb5))
                      go_meet
                      exact ⟨lv, m, g, S, H, F, rfl, by omega, HX5.out, HV.out⟩
                have kb3 : (K == 3) = false := by simpa using k3
                as_aux_lemma =>
                  go_wp2
                  go_meet
                  exact ⟨lv, m, g, S, H, F, rfl, by omega, HS4.out, HV.out⟩
              case rest =>
                obtain ⟨lv, m, g, S, H, F, rfl, hm9, hS9, hV9⟩ := hcut
                obtain ⟨g0, hRT, _⟩ := hS9.u.to
                have HRT := Hid.in hRT
                have HS9 := Hid.in hS9
                have HV9 := Hid.in hV9
                clear hRT hS9 hV9 HS4 HQ4 HV d0 d4
                as_aux_lemma =>
                  go_wp2_with (go_at_call 31; refine (same_any p h b g0 n S _ HS9.out.t HRT.out).mono ?_; rintro e v1 ⟨rfl, hw⟩; have hw2 := hw.symm; clear hw; subst hw2)
                  go_roundw
                  case rel => exact ⟨lv, k + 1, m, g, S, H, F, rfl, by go_num, by omega, by omega, HS9.out, HV9.out⟩
                  case measure => simp [intOf]; omega
    · have h2 : ¬ (k : Int) < m1 ∨ ((k : Int) < m1 ∧ ¬ (k : Int) < 4096) := by omega
      have hu : undef = Value.tuple #[] := rfl
      rcases h2 with h2 | ⟨h2, h3⟩
      all_goals
        as_aux_lemma =>
          go_wp2
          go_ret
          exact ⟨rfl, HS.out.gr⟩
end Go.Proofs.YtpolfpebhbkabaaDoor
