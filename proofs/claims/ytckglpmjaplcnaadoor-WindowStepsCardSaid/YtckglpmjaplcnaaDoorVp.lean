/-
  WINDOW's LAW WindowFlows: the walk.
-/
import Derived.Test.YtckglpmjaplcnaaDoorVo
import Derived.Test.YtckglpmjaplcnaaDoorKc
namespace Go.Proofs.YtckglpmjaplcnaaDoor
open Go Go.RowKit
def I64 (c : Int) : Prop := -9223372036854775808 ≤ c ∧ c ≤ 9223372036854775807
theorem pick_k (c n : Int) (hc : 0 ≤ c) (hn : 1 ≤ n) : ∃ k : Nat, (k : Int) < n ∧ c.tmod n = k := by
  refine ⟨(c % n).toNat, ?_, ?_⟩
  · have := Int.emod_lt_of_pos c (show 0 < n by omega)
    have := Int.emod_nonneg c (show n ≠ 0 by omega)
    omega
  · rw [Int.tmod_eq_emod_of_nonneg hc]
    have := Int.emod_nonneg c (show n ≠ 0 by omega)
    omega
set_option maxHeartbeats 1000000 in
theorem pick_any (c n : Int) (w : World) (hc : I64 c) (hn : 1 ≤ n) : Calls Tryd.prog 26 #[.int .i64 c, .int .i64 n] w fun e w' => ∃ k : Nat, (k : Int) < n ∧ e = .returned (.int .i64 k) ∧ w' = w := by
  obtain ⟨hc1, hc2⟩ := hc
  by_cases h0 : c < 0
  · obtain ⟨k, hk, he⟩ := pick_k (-(c + 1)) n (by omega) hn
    have hz : (n == 0) = false := by simp; omega
    have hz2 : ¬ n = 0 := by omega
    have hz3 : ¬ n = -1 := by omega
    have HK := Hid.in hk
    clear hk
    go_enter Tryd.func26, Tryd.ntmps26
    go_wp2
    go_ret
    exact ⟨k, HK.out, rfl, rfl⟩
  · obtain ⟨k, hk, he⟩ := pick_k c n (by omega) hn
    have hz : (n == 0) = false := by simp; omega
    have hz2 : ¬ n = 0 := by omega
    have hz3 : ¬ n = -1 := by omega
    have HK := Hid.in hk
    clear hk
    go_enter Tryd.func26, Tryd.ntmps26
    go_wp2
    go_ret
    exact ⟨k, HK.out, rfl, rfl⟩
theorem stW_zero (f : Nat → Bool) (n : Nat) : newW n 128 = stW f n 0 (fun _ => 0) (fun _ => false) := by
  unfold newW stW
  congr 1
  funext q
  have : ¬ (40 ≤ q ∧ q < 40 + 0) := by omega
  simp [this]
def Bools (w : World) (q : Option Addr) (m : Nat) (g : Nat → Bool) : Prop := ∀ i, i < m → ∃ b o, q = some ⟨b, o, none⟩ ∧ b < w.heap.size ∧ w.cell? ⟨b, o + i, none⟩ = some (.bool (g i))
def inF (m : Nat) (g : Nat → Bool) (k : Nat) : Bool := decide (k < m) && g k
set_option maxRecDepth 100000 in
set_option maxHeartbeats 4000000 in
theorem flows_good (c : Int) (wp : Option Addr) (m cw : Nat) (g : Nat → Bool) (w : World) (hc : I64 c) (hm : m ≤ 9223372036854775807) (hw : Bools w wp m g) (hg : w.cell? ⟨0, 0, none⟩ = some (.iface 100 (.agg #[.pointer (some ⟨1, 25, none⟩)]))) : Calls Tryd.prog 4 #[.int .i64 c, .slice wp m cw] w fun e w' => e = .returned (.bool true) ∧ Below w.heap.size w w' := by
  obtain ⟨f, hf⟩ : ∃ f, f = inF m g := ⟨_, rfl⟩
  have HF := Hid.in hf
  have HW := Hid.in hw
  have HG := Hid.in hg
  have HC := Hid.in hc
  clear hf hw hg hc
  go_enter Tryd.func4, Tryd.ntmps4
  go_wp2_with (first
    | (go_at_call 26; refine (pick_any c 63 _ HC.out (by omega)).mono ?_; rintro e w1 ⟨k0, hk0, rfl, hww⟩; have hww2 := hww.symm; clear hww; subst hww2; obtain ⟨n, hn⟩ : ∃ n, 2 + k0 = n := ⟨_, rfl⟩; have hn2 : (2 : Int) + k0 = n := (by omega))
    | (go_at_call 5; refine (new_good n 128 _ (by omega) (by omega)).mono ?_; rintro e w1 ⟨rfl, kw, kb⟩; have HKW := Hid.in kw; have HKB := Hid.in kb; clear kw kb))
  have K0 : Fl w w1 (w.heap.size + 1) w.heap.size (.slice none 0 0) (stW f n 0 (fun _ => 0) (fun _ => false)) (.slice none 0 0) (.slice none 0 0) [] [] := by
    have kw := HKW.out
    rw [stW_zero f n] at kw
    exact ⟨kw, World.ownsRow_nil _ _ _ _, World.ownsRow_nil _ _ _ _, HKB.out, fun k hk => by simp [Value.ownBlock] at hk, fun k hk => by simp [Value.ownBlock] at hk⟩
  obtain ⟨p, hp⟩ : ∃ p, w.heap.size + 1 = p := ⟨_, rfl⟩
  obtain ⟨h, hh⟩ : ∃ h, w.heap.size = h := ⟨_, rfl⟩
  have HK0 : Hid (Fl w w1 p h (.slice none 0 0) (stW f n 0 (fun _ => 0) (fun _ => false)) (.slice none 0 0) (.slice none 0 0) [] []) := by
    rw [← hp, ← hh]
    exact K0
  rw [hp]
  have hn64 : n ≤ 64 := by omega
  have hn2' : 2 ≤ n := by omega
  clear hp hh K0 HKW HKB hn hn2 hk0
  go_loopw [8, 9, 10, 11] (fun lv cv fv kv wr => ∃ (k : Nat) (v cvv fvv : Value), kv = .int .i64 k ∧ k ≤ n ∧ lv = .int .i64 (la f k) ∧ cvv = cv ∧ fvv = fv ∧ Fl w wr p h v (stW f n k (fun _ => 0) (fun _ => false)) cvv fvv (C f k) (R f k)) (fun _ _ _ kv _ => n + 1 - (intOf kv).toNat)
  case atStart => exact ⟨0, _, _, _, rfl, Nat.zero_le _, rfl, rfl, rfl, HK0.out⟩
  case round =>
    obtain ⟨k, v, cvv, fvv, rfl, hk, rfl, rfl, rfl, K⟩ := hrel
    have HK := Hid.in K
    clear K HK0
    by_cases hlt : k < n
    · have hzr := HK.out.gr.size
      by_cases hkm : k < m
      · obtain ⟨wb, wo, hwp, hwb, hwc⟩ := HW.out k hkm
        subst hwp
        have hwc' : wr.cell? ⟨wb, wo + k, none⟩ = some (.bool (g k)) := (HK.out.gr.cell (p := ⟨wb, wo + k, none⟩) hwb).trans hwc
        have hwb' : wb < wr.heap.size := by omega
        clear hwc
        cases hgk : g k
        · skip
          have hfk : f k = false := by rw [HF.out]; simp [inF, hgk]
          have HFK := Hid.in hfk
          clear hfk
          rw [hgk] at hwc'
          go_wp2_with (first
            | (go_at_call 8; refine (fl_enter_f (HK.out.fresh (by repeat (with_reducible first | exact Turned.refl _ _ | refine Turned.set ?_ rfl _ _ | refine Turned.alloc ?_ _))) HFK.out hlt hn64).mono ?_; rintro e w2 ⟨rfl, v2, K2⟩; have HK2 := Hid.in K2; clear K2)
            | (at_builtin; obtain ⟨g3, cap3, w3, hrun, K3⟩ := fl_appF HK2.out k (by have := R_len (f := f) (n := k); omega); refine wpList_append_run rfl rfl rfl rfl hrun ?_; have HK3 := Hid.in K3; clear K3 hrun))
          go_roundw
          case rel => exact ⟨k + 1, v2, _, _, by simp, by omega, by simp [la, HFK.out], rfl, rfl, by rw [C_succ, if_neg (by rw [HFK.out]; decide), R_succ, if_neg (by rw [HFK.out]; decide)]; exact HK3.out⟩
          case measure => simp [intOf]; omega
        · skip
          have hfk : f k = true := by rw [HF.out]; simp [inF, hkm, hgk]
          have HFK := Hid.in hfk
          clear hfk
          rw [hgk] at hwc'
          go_wp2_with (first
            | (go_at_call 8; refine (fl_enter_t (HK.out.fresh (by repeat (with_reducible first | exact Turned.refl _ _ | refine Turned.set ?_ rfl _ _ | refine Turned.alloc ?_ _))) HFK.out hlt hn64).mono ?_; rintro e w2 ⟨rfl, v2, K2⟩; have HK2 := Hid.in K2; clear K2)
            | (at_builtin; obtain ⟨g3, cap3, w3, hrun, K3⟩ := fl_appC HK2.out k (by have := C_len (f := f) (n := k); omega); refine wpList_append_run rfl rfl rfl rfl hrun ?_; have HK3 := Hid.in K3; clear K3 hrun))
          go_roundw
          case rel => exact ⟨k + 1, v2, _, _, by simp, by omega, by simp [la, HFK.out], rfl, rfl, by rw [C_succ, if_pos HFK.out, R_succ, if_pos HFK.out]; exact HK3.out⟩
          case measure => simp [intOf]; omega
      · have hkd : decide ((k : Int) < (m : Int)) = false := by simp; omega
        have hfk : f k = false := by rw [HF.out]; simp [inF, hkm]
        have HFK := Hid.in hfk
        clear hfk
        go_wp2_with (first
          | (go_at_call 8; refine (fl_enter_f (HK.out.fresh (by repeat (with_reducible first | exact Turned.refl _ _ | refine Turned.set ?_ rfl _ _ | refine Turned.alloc ?_ _))) HFK.out hlt hn64).mono ?_; rintro e w2 ⟨rfl, v2, K2⟩; have HK2 := Hid.in K2; clear K2)
          | (at_builtin; obtain ⟨g3, cap3, w3, hrun, K3⟩ := fl_appF HK2.out k (by have := R_len (f := f) (n := k); omega); refine wpList_append_run rfl rfl rfl rfl hrun ?_; have HK3 := Hid.in K3; clear K3 hrun))
        go_roundw
        case rel => exact ⟨k + 1, v2, _, _, by simp, by omega, by simp [la, HFK.out], rfl, rfl, by rw [C_succ, if_neg (by rw [HFK.out]; decide), R_succ, if_neg (by rw [HFK.out]; decide)]; exact HK3.out⟩
        case measure => simp [intOf]; omega
    · have hkn : n = k := by omega
      subst hkn
      obtain ⟨cq, ccap, hcv, hccap, hcel⟩ := own_nums HK.out.ch
      obtain ⟨fq, fcap, hfv, hfcap, hfel⟩ := own_nums HK.out.fr
      have hCl := C_len (f := f) (n := n)
      have hRl := R_len (f := f) (n := n)
      obtain ⟨cn, hcn⟩ : ∃ cn, (C f n).length = cn := ⟨_, rfl⟩
      obtain ⟨rn, hrn⟩ : ∃ rn, (R f n).length = rn := ⟨_, rfl⟩
      rw [hcn] at hcv hccap hCl
      rw [hrn] at hfv hfcap hRl
      have K1 := HK.out
      rw [hcv, hfv] at K1
      have HK1 := Hid.in K1
      have HCN := Hid.in hcn
      have HRN := Hid.in hrn
      have HL0 : Hid (((stW f n n (fun _ => 0) (fun _ => false)).ready 0 100).length = rn + (if 0 < cn then 1 else 0)) := by rw [← hcn, ← hrn]; exact ready_first hn64
      obtain ⟨L0, hL0⟩ : ∃ L0, (stW f n n (fun _ => 0) (fun _ => false)).ready 0 100 = L0 := ⟨_, rfl⟩
      have HL1 := Hid.in hL0
      have hL2 := HL0.out
      rw [hL0] at hL2
      have HL2 := Hid.in hL2
      have HGR : Hid (∀ y, Below w.heap.size w y → y.cell? ⟨0, 0, none⟩ = some (.iface 100 (.agg #[.pointer (some ⟨1, 25, none⟩)]))) := fun y hy => (hy.cell (p := ⟨0, 0, none⟩) (cell_here HG.out)).trans HG.out
      rw [hcv, hfv]
      clear K1 hcn hrn hL0 hL2 HL0 hcel hfel hcv hfv HK hlt hk HW HC HG hm
      by_cases hc0 : 0 < cn
      · skip
        have hl3 : L0.length = rn + 1 := by have := HL2.out; rw [if_pos hc0] at this; exact this
        have HL3 := Hid.in hl3
        clear hl3
        go_wp2_with (first
          | (go_at_call 8; refine (fl_full HK1.out).mono ?_; rintro e y1 ⟨rfl, K2⟩; have HK2 := Hid.in K2; clear K2)
          | (go_at_call 27; refine (told_err 4 _ (HGR.out _ HK2.out.gr)).mono ?_; rintro e y2 ⟨rfl, hb2⟩; have HK3 := Hid.in (HK2.out.below hb2); clear hb2)
          | (go_at_call 12; refine (fl_ready HK3.out L0 HL1.out).mono ?_; rintro e y3 ⟨lq, lcap, rfl, -, -, K4⟩; rw [HL3.out]; have HK4 := Hid.in K4; clear K4))
        go_loopw [21] (fun kv wr' => ∃ i : Nat, kv = .int .i64 i ∧ i ≤ rn ∧ Fl w wr' p h v (stW f n n (st2 f n i) (fun _ => false)) (.slice cq cn ccap) (.slice fq rn fcap) (C f n) (R f n)) (fun kv _ => rn + 1 - (intOf kv).toNat)
        case atStart => exact ⟨0, rfl, Nat.zero_le _, by rw [st2_zero]; exact HK4.out⟩
        case round =>
          obtain ⟨i, rfl, hi, KA⟩ := hrel
          have HKA := Hid.in KA
          clear KA HK4
          by_cases hlt : i < rn
          · obtain ⟨fq2, fcap2, e1, -, hfel⟩ := own_nums HKA.out.fr
            rw [HRN.out] at hfel
            have hfq : fq = fq2 := by cases e1; rfl
            subst hfq
            obtain ⟨fg, hfg, hfz, hfc⟩ := hfel i hlt
            subst hfg
            obtain ⟨j1, j2⟩ := R_at (f := f) (n := n) i (by rw [HRN.out]; exact hlt)
            have HM := Hid.in (st2_may (f := f) (n := n) (wk := fun _ => false) i (by rw [HRN.out]; exact hlt))
            have HNX := Hid.in (st2_next (f := f) (n := n) (wk := fun _ => false) i (by rw [HRN.out]; exact hlt))
            obtain ⟨jj, hjj⟩ : ∃ jj, (R f n).getD i 0 = jj := ⟨_, rfl⟩
            rw [hjj] at hfc j1 j2 HM HNX
            clear hfel e1 hjj
            go_wp2_with (go_at_call 16; refine (fl_issue HKA.out jj j1 HM.out).mono ?_; rintro e y4 ⟨rfl, K5⟩; have HK5 := Hid.in K5; clear K5)
            go_roundw
            case rel => exact ⟨i + 1, by simp, by omega, by have e := HNX.out; rw [stW_set jj j1] at e; rw [← e]; exact HK5.out⟩
            case measure => simp [intOf]; omega
          · have hin : i = rn := by omega
            have KB : Fl w wr p h v (stW f n n (st3 f n 0) (wk3 f n 0)) (.slice cq cn ccap) (.slice fq rn fcap) (C f n) (R f n) := by
              have := HKA.out
              rw [hin, ← HRN.out, st2_end] at this
              rw [HRN.out] at this
              exact this
            have HKB := Hid.in KB
            clear KB HKA hin
            go_wp2
            go_loopw [23] (fun kv wr2 => ∃ i : Nat, kv = .int .i64 i ∧ i ≤ cn ∧ Fl w wr2 p h v (stW f n n (st3 f n i) (wk3 f n i)) (.slice cq cn ccap) (.slice fq rn fcap) (C f n) (R f n)) (fun kv _ => cn + 1 - (intOf kv).toNat)
            case atStart => exact ⟨0, rfl, Nat.zero_le _, HKB.out⟩
            case round =>
              obtain ⟨i2, rfl, hi2, KA⟩ := hrel
              have HKA := Hid.in KA
              clear KA HKB
              by_cases hlt2 : i2 < cn
              · have hlt3 : i2 < (C f n).length := by rw [HCN.out]; exact hlt2
                obtain ⟨j1, j2⟩ := C_at (f := f) (n := n) i2 hlt3
                have hm1 := st3_may i2 hlt3 _ j1
                have hr1 := st3_ready hn64 i2 hlt3
                have hn1 := st3_next i2 hlt3
                have HCE : Hid (∀ y, Fl w y p h v (stW f n n (st3 f n i2) (wk3 f n i2)) (.slice cq cn ccap) (.slice fq rn fcap) (C f n) (R f n) → ∃ g, cq = some ⟨g, 0, none⟩ ∧ g < y.heap.size ∧ y.cell? ⟨g, i2, none⟩ = some (.int .i64 ((C f n).getD i2 0 : Nat))) := by
                  intro y hy
                  obtain ⟨cq2, ccap2, e1, -, hcel⟩ := own_nums hy.ch
                  have hcq : cq = cq2 := by cases e1; rfl
                  subst hcq
                  exact hcel i2 hlt3
                obtain ⟨jj, hjj⟩ : ∃ jj, (C f n).getD i2 0 = jj := ⟨_, rfl⟩
                rw [hjj] at hm1 hr1 hn1 j1 j2 HCE
                have hm2 : (stW f n n (st3 f n i2) (wk3 f n i2)).may jj = true := by rw [hm1]; simp
                have HM1 := Hid.in hm2
                clear hm2
                have HR1 := Hid.in hr1
                have HN1 := Hid.in hn1
                obtain ⟨cg, hcg, -, -⟩ := HCE.out _ HKA.out
                subst hcg
                have HCF : Hid (∀ y (v : Value) (S : WS), Fl w y p h v S (.slice (some ⟨cg, 0, none⟩) cn ccap) (.slice fq rn fcap) (C f n) (R f n) → cg < y.heap.size ∧ y.cell? ⟨cg, i2, none⟩ = some (.int .i64 (jj : Int))) := by
                  intro y v S hy
                  obtain ⟨cq2, ccap2, e1, -, hcel⟩ := own_nums hy.ch
                  rw [HCN.out] at e1
                  cases e1
                  obtain ⟨g2, e2, e3, e4⟩ := hcel i2 hlt3
                  cases e2
                  rw [hjj] at e4
                  exact ⟨e3, e4⟩
                clear hm1 hr1 hn1 hjj HCE
                go_wp2_with (go_at_call 12; refine (fl_ready HKA.out [(jj : Int)] HR1.out).mono ?_; rintro e y5 ⟨lq5, lcap5, rfl, hl5, hel5, K6⟩; have HK6 := Hid.in K6; clear K6; obtain ⟨lg, hlg, hlz, hlc⟩ := hel5 0 (by simp); subst hlg; clear hel5; simp only [List.length_cons, List.length_nil, Nat.zero_add, List.getD_cons_zero] at hlc hl5 ⊢; obtain ⟨x6, x7⟩ := HCF.out _ _ _ HK6.out)
                go_quiet (fail)
                go_wp2_with (first
                  | (go_at_call 16; refine (fl_issue (HK6.out.below (below_drewN _ _)) jj j1 HM1.out).mono ?_; rintro e y6 ⟨rfl, K7⟩; have HK7 := Hid.in K7; clear K7; obtain ⟨x8, x9⟩ := HCF.out _ _ _ HK7.out)
                  | (go_at_call 19; refine (fl_done HK7.out jj j1 (by rw [stW_st jj j1, upd_same])).mono ?_; rintro e y7 ⟨rfl, K8⟩; have HK8 := Hid.in K8; clear K8; obtain ⟨x10, x11⟩ := HCF.out _ _ _ HK8.out)
                  | (go_at_call 10; refine (fl_wake HK8.out jj j1 hn64).mono ?_; rintro e y8 ⟨rfl, K9⟩; have HK9 := Hid.in K9; clear K9))
                go_roundw
                case rel => exact ⟨i2 + 1, by simp, by omega, by rw [← HN1.out]; exact HK9.out⟩
                case measure => simp [intOf]; omega
              · have hin2 : i2 = cn := by omega
                obtain ⟨wk, hwk⟩ : ∃ wk, wk3 f n i2 = wk := ⟨_, rfl⟩
                have KB : Fl w wr p h v (stW f n n (st4 f n rn) wk) (.slice cq cn ccap) (.slice fq rn fcap) (C f n) (R f n) := by
                  have := HKA.out
                  rw [hwk, hin2, ← HCN.out, st3_end, HCN.out, HRN.out] at this
                  exact this
                have HKB := Hid.in KB
                clear KB HKA hwk hin2
                go_wp2
                go_loopw [28] (fun kv wr3 => ∃ i : Nat, kv = .int .i64 ((i : Int) - 1) ∧ i ≤ rn ∧ Fl w wr3 p h v (stW f n n (st4 f n i) wk) (.slice cq cn ccap) (.slice fq rn fcap) (C f n) (R f n)) (fun kv _ => (intOf kv + 1).toNat)
                case atStart => exact ⟨rn, by simp, Nat.le_refl _, HKB.out⟩
                case round =>
                  obtain ⟨i3, rfl, hi3, KA⟩ := hrel
                  have HKA := Hid.in KA
                  clear KA HKB
                  cases i3 with
                  | succ i4 =>
                    have hz : ((i4 + 1 : Nat) : Int) - 1 = (i4 : Int) := by omega
                    rw [hz]
                    obtain ⟨fq2, fcap2, e1, -, hfel⟩ := own_nums HKA.out.fr
                    rw [HRN.out] at hfel
                    have hfq : fq = fq2 := by cases e1; rfl
                    subst hfq
                    obtain ⟨fg, hfg, hfz, hfc⟩ := hfel i4 (by omega)
                    subst hfg
                    obtain ⟨j1, j2⟩ := R_at (f := f) (n := n) i4 (by rw [HRN.out]; omega)
                    have HM := Hid.in (st4_one (f := f) (n := n) (wk := wk) i4 (by rw [HRN.out]; omega))
                    have HNX := Hid.in (st4_next (f := f) (n := n) (wk := wk) i4 (by rw [HRN.out]; omega))
                    obtain ⟨jj, hjj⟩ : ∃ jj, (R f n).getD i4 0 = jj := ⟨_, rfl⟩
                    rw [hjj] at hfc j1 j2 HM HNX
                    clear hfel e1 hjj hz
                    go_wp2_with (go_at_call 19; refine (fl_done HKA.out jj j1 HM.out).mono ?_; rintro e y9 ⟨rfl, K5⟩; have HK5 := Hid.in K5; clear K5)
                    go_roundw
                    case rel => exact ⟨i4, rfl, by omega, by have e := HNX.out; rw [stW_set jj j1] at e; rw [← e]; exact HK5.out⟩
                    case measure => simp [intOf]
                  | zero =>
                    have hz : ((0 : Nat) : Int) - 1 = -1 := by omega
                    rw [hz]
                    have KB : Fl w wr p h v (popW (stW f n n (st4 f n 0) wk) 0) (.slice cq cn ccap) (.slice fq rn fcap) (C f n) (R f n) := HKA.out
                    have HKB := Hid.in KB
                    clear KB HKA hz
                    go_wp2
                    go_loopw [30] (fun kv wr4 => ∃ (i : Nat) (v' : Value), kv = .int .i64 i ∧ i ≤ n ∧ Fl w wr4 p h v' (popW (stW f n n (st4 f n 0) wk) i) (.slice cq cn ccap) (.slice fq rn fcap) (C f n) (R f n)) (fun kv _ => n + 1 - (intOf kv).toNat)
                    case atStart => exact ⟨0, v, rfl, Nat.zero_le _, HKB.out⟩
                    case round =>
                      obtain ⟨i5, v5, rfl, hi5, KA⟩ := hrel
                      have HKA := Hid.in KA
                      clear KA HKB
                      by_cases hlt5 : i5 < n
                      · go_wp2_with (go_at_call 20; refine (fl_retire HKA.out hlt5 (st4_end i5 hlt5)).mono ?_; rintro e y10 ⟨rfl, v6, K5⟩; have HK5 := Hid.in K5; clear K5)
                        go_roundw
                        case rel => exact ⟨i5 + 1, v6, by simp, by omega, HK5.out⟩
                        case measure => simp [intOf]; omega
                      · have hpl : (popW (stW f n n (st4 f n 0) wk) i5).on.length = 0 := by rw [popW_len]; omega
                        go_wp2_with (go_at_call 24; refine (len_any w.heap.size p h 128 v5 _ _ HKA.out.win).mono ?_; rintro e y11 ⟨rfl, hy11⟩; rw [hpl]; have hy12 := hy11.symm; clear hy11; subst hy12)
                        go_ret
                        exact ⟨rfl, HKA.out.gr⟩
      · skip
        have hl3 : L0.length = rn := by have := HL2.out; rw [if_neg hc0] at this; exact this
        have HL3 := Hid.in hl3
        clear hl3
        go_wp2_with (first
          | (go_at_call 8; refine (fl_full HK1.out).mono ?_; rintro e y1 ⟨rfl, K2⟩; have HK2 := Hid.in K2; clear K2)
          | (go_at_call 27; refine (told_err 4 _ (HGR.out _ HK2.out.gr)).mono ?_; rintro e y2 ⟨rfl, hb2⟩; have HK3 := Hid.in (HK2.out.below hb2); clear hb2)
          | (go_at_call 12; refine (fl_ready HK3.out L0 HL1.out).mono ?_; rintro e y3 ⟨lq, lcap, rfl, -, -, K4⟩; rw [HL3.out]; have HK4 := Hid.in K4; clear K4))
        go_loopw [21] (fun kv wr' => ∃ i : Nat, kv = .int .i64 i ∧ i ≤ rn ∧ Fl w wr' p h v (stW f n n (st2 f n i) (fun _ => false)) (.slice cq cn ccap) (.slice fq rn fcap) (C f n) (R f n)) (fun kv _ => rn + 1 - (intOf kv).toNat)
        case atStart => exact ⟨0, rfl, Nat.zero_le _, by rw [st2_zero]; exact HK4.out⟩
        case round =>
          obtain ⟨i, rfl, hi, KA⟩ := hrel
          have HKA := Hid.in KA
          clear KA HK4
          by_cases hlt : i < rn
          · obtain ⟨fq2, fcap2, e1, -, hfel⟩ := own_nums HKA.out.fr
            rw [HRN.out] at hfel
            have hfq : fq = fq2 := by cases e1; rfl
            subst hfq
            obtain ⟨fg, hfg, hfz, hfc⟩ := hfel i hlt
            subst hfg
            obtain ⟨j1, j2⟩ := R_at (f := f) (n := n) i (by rw [HRN.out]; exact hlt)
            have HM := Hid.in (st2_may (f := f) (n := n) (wk := fun _ => false) i (by rw [HRN.out]; exact hlt))
            have HNX := Hid.in (st2_next (f := f) (n := n) (wk := fun _ => false) i (by rw [HRN.out]; exact hlt))
            obtain ⟨jj, hjj⟩ : ∃ jj, (R f n).getD i 0 = jj := ⟨_, rfl⟩
            rw [hjj] at hfc j1 j2 HM HNX
            clear hfel e1 hjj
            go_wp2_with (go_at_call 16; refine (fl_issue HKA.out jj j1 HM.out).mono ?_; rintro e y4 ⟨rfl, K5⟩; have HK5 := Hid.in K5; clear K5)
            go_roundw
            case rel => exact ⟨i + 1, by simp, by omega, by have e := HNX.out; rw [stW_set jj j1] at e; rw [← e]; exact HK5.out⟩
            case measure => simp [intOf]; omega
          · have hin : i = rn := by omega
            have KB : Fl w wr p h v (stW f n n (st3 f n 0) (wk3 f n 0)) (.slice cq cn ccap) (.slice fq rn fcap) (C f n) (R f n) := by
              have := HKA.out
              rw [hin, ← HRN.out, st2_end] at this
              rw [HRN.out] at this
              exact this
            have HKB := Hid.in KB
            clear KB HKA hin
            go_wp2
            go_loopw [23] (fun kv wr2 => ∃ i : Nat, kv = .int .i64 i ∧ i ≤ cn ∧ Fl w wr2 p h v (stW f n n (st3 f n i) (wk3 f n i)) (.slice cq cn ccap) (.slice fq rn fcap) (C f n) (R f n)) (fun kv _ => cn + 1 - (intOf kv).toNat)
            case atStart => exact ⟨0, rfl, Nat.zero_le _, HKB.out⟩
            case round =>
              obtain ⟨i2, rfl, hi2, KA⟩ := hrel
              have HKA := Hid.in KA
              clear KA HKB
              by_cases hlt2 : i2 < cn
              · have hlt3 : i2 < (C f n).length := by rw [HCN.out]; exact hlt2
                obtain ⟨j1, j2⟩ := C_at (f := f) (n := n) i2 hlt3
                have hm1 := st3_may i2 hlt3 _ j1
                have hr1 := st3_ready hn64 i2 hlt3
                have hn1 := st3_next i2 hlt3
                have HCE : Hid (∀ y, Fl w y p h v (stW f n n (st3 f n i2) (wk3 f n i2)) (.slice cq cn ccap) (.slice fq rn fcap) (C f n) (R f n) → ∃ g, cq = some ⟨g, 0, none⟩ ∧ g < y.heap.size ∧ y.cell? ⟨g, i2, none⟩ = some (.int .i64 ((C f n).getD i2 0 : Nat))) := by
                  intro y hy
                  obtain ⟨cq2, ccap2, e1, -, hcel⟩ := own_nums hy.ch
                  have hcq : cq = cq2 := by cases e1; rfl
                  subst hcq
                  exact hcel i2 hlt3
                obtain ⟨jj, hjj⟩ : ∃ jj, (C f n).getD i2 0 = jj := ⟨_, rfl⟩
                rw [hjj] at hm1 hr1 hn1 j1 j2 HCE
                have hm2 : (stW f n n (st3 f n i2) (wk3 f n i2)).may jj = true := by rw [hm1]; simp
                have HM1 := Hid.in hm2
                clear hm2
                have HR1 := Hid.in hr1
                have HN1 := Hid.in hn1
                obtain ⟨cg, hcg, -, -⟩ := HCE.out _ HKA.out
                subst hcg
                have HCF : Hid (∀ y (v : Value) (S : WS), Fl w y p h v S (.slice (some ⟨cg, 0, none⟩) cn ccap) (.slice fq rn fcap) (C f n) (R f n) → cg < y.heap.size ∧ y.cell? ⟨cg, i2, none⟩ = some (.int .i64 (jj : Int))) := by
                  intro y v S hy
                  obtain ⟨cq2, ccap2, e1, -, hcel⟩ := own_nums hy.ch
                  rw [HCN.out] at e1
                  cases e1
                  obtain ⟨g2, e2, e3, e4⟩ := hcel i2 hlt3
                  cases e2
                  rw [hjj] at e4
                  exact ⟨e3, e4⟩
                clear hm1 hr1 hn1 hjj HCE
                go_wp2_with (go_at_call 12; refine (fl_ready HKA.out [(jj : Int)] HR1.out).mono ?_; rintro e y5 ⟨lq5, lcap5, rfl, hl5, hel5, K6⟩; have HK6 := Hid.in K6; clear K6; obtain ⟨lg, hlg, hlz, hlc⟩ := hel5 0 (by simp); subst hlg; clear hel5; simp only [List.length_cons, List.length_nil, Nat.zero_add, List.getD_cons_zero] at hlc hl5 ⊢; obtain ⟨x6, x7⟩ := HCF.out _ _ _ HK6.out)
                go_quiet (fail)
                go_wp2_with (first
                  | (go_at_call 16; refine (fl_issue (HK6.out.below (below_drewN _ _)) jj j1 HM1.out).mono ?_; rintro e y6 ⟨rfl, K7⟩; have HK7 := Hid.in K7; clear K7; obtain ⟨x8, x9⟩ := HCF.out _ _ _ HK7.out)
                  | (go_at_call 19; refine (fl_done HK7.out jj j1 (by rw [stW_st jj j1, upd_same])).mono ?_; rintro e y7 ⟨rfl, K8⟩; have HK8 := Hid.in K8; clear K8; obtain ⟨x10, x11⟩ := HCF.out _ _ _ HK8.out)
                  | (go_at_call 10; refine (fl_wake HK8.out jj j1 hn64).mono ?_; rintro e y8 ⟨rfl, K9⟩; have HK9 := Hid.in K9; clear K9))
                go_roundw
                case rel => exact ⟨i2 + 1, by simp, by omega, by rw [← HN1.out]; exact HK9.out⟩
                case measure => simp [intOf]; omega
              · have hin2 : i2 = cn := by omega
                obtain ⟨wk, hwk⟩ : ∃ wk, wk3 f n i2 = wk := ⟨_, rfl⟩
                have KB : Fl w wr p h v (stW f n n (st4 f n rn) wk) (.slice cq cn ccap) (.slice fq rn fcap) (C f n) (R f n) := by
                  have := HKA.out
                  rw [hwk, hin2, ← HCN.out, st3_end, HCN.out, HRN.out] at this
                  exact this
                have HKB := Hid.in KB
                clear KB HKA hwk hin2
                go_wp2
                go_loopw [28] (fun kv wr3 => ∃ i : Nat, kv = .int .i64 ((i : Int) - 1) ∧ i ≤ rn ∧ Fl w wr3 p h v (stW f n n (st4 f n i) wk) (.slice cq cn ccap) (.slice fq rn fcap) (C f n) (R f n)) (fun kv _ => (intOf kv + 1).toNat)
                case atStart => exact ⟨rn, by simp, Nat.le_refl _, HKB.out⟩
                case round =>
                  obtain ⟨i3, rfl, hi3, KA⟩ := hrel
                  have HKA := Hid.in KA
                  clear KA HKB
                  cases i3 with
                  | succ i4 =>
                    have hz : ((i4 + 1 : Nat) : Int) - 1 = (i4 : Int) := by omega
                    rw [hz]
                    obtain ⟨fq2, fcap2, e1, -, hfel⟩ := own_nums HKA.out.fr
                    rw [HRN.out] at hfel
                    have hfq : fq = fq2 := by cases e1; rfl
                    subst hfq
                    obtain ⟨fg, hfg, hfz, hfc⟩ := hfel i4 (by omega)
                    subst hfg
                    obtain ⟨j1, j2⟩ := R_at (f := f) (n := n) i4 (by rw [HRN.out]; omega)
                    have HM := Hid.in (st4_one (f := f) (n := n) (wk := wk) i4 (by rw [HRN.out]; omega))
                    have HNX := Hid.in (st4_next (f := f) (n := n) (wk := wk) i4 (by rw [HRN.out]; omega))
                    obtain ⟨jj, hjj⟩ : ∃ jj, (R f n).getD i4 0 = jj := ⟨_, rfl⟩
                    rw [hjj] at hfc j1 j2 HM HNX
                    clear hfel e1 hjj hz
                    go_wp2_with (go_at_call 19; refine (fl_done HKA.out jj j1 HM.out).mono ?_; rintro e y9 ⟨rfl, K5⟩; have HK5 := Hid.in K5; clear K5)
                    go_roundw
                    case rel => exact ⟨i4, rfl, by omega, by have e := HNX.out; rw [stW_set jj j1] at e; rw [← e]; exact HK5.out⟩
                    case measure => simp [intOf]
                  | zero =>
                    have hz : ((0 : Nat) : Int) - 1 = -1 := by omega
                    rw [hz]
                    have KB : Fl w wr p h v (popW (stW f n n (st4 f n 0) wk) 0) (.slice cq cn ccap) (.slice fq rn fcap) (C f n) (R f n) := HKA.out
                    have HKB := Hid.in KB
                    clear KB HKA hz
                    go_wp2
                    go_loopw [30] (fun kv wr4 => ∃ (i : Nat) (v' : Value), kv = .int .i64 i ∧ i ≤ n ∧ Fl w wr4 p h v' (popW (stW f n n (st4 f n 0) wk) i) (.slice cq cn ccap) (.slice fq rn fcap) (C f n) (R f n)) (fun kv _ => n + 1 - (intOf kv).toNat)
                    case atStart => exact ⟨0, v, rfl, Nat.zero_le _, HKB.out⟩
                    case round =>
                      obtain ⟨i5, v5, rfl, hi5, KA⟩ := hrel
                      have HKA := Hid.in KA
                      clear KA HKB
                      by_cases hlt5 : i5 < n
                      · go_wp2_with (go_at_call 20; refine (fl_retire HKA.out hlt5 (st4_end i5 hlt5)).mono ?_; rintro e y10 ⟨rfl, v6, K5⟩; have HK5 := Hid.in K5; clear K5)
                        go_roundw
                        case rel => exact ⟨i5 + 1, v6, by simp, by omega, HK5.out⟩
                        case measure => simp [intOf]; omega
                      · have hpl : (popW (stW f n n (st4 f n 0) wk) i5).on.length = 0 := by rw [popW_len]; omega
                        go_wp2_with (go_at_call 24; refine (len_any w.heap.size p h 128 v5 _ _ HKA.out.win).mono ?_; rintro e y11 ⟨rfl, hy11⟩; rw [hpl]; have hy12 := hy11.symm; clear hy11; subst hy12)
                        go_ret
                        exact ⟨rfl, HKA.out.gr⟩
end Go.Proofs.YtckglpmjaplcnaaDoor
