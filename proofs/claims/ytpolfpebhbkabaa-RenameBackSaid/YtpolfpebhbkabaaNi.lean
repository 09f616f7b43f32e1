/-
  RENAME's LAW RenameBack.
-/
import Derived.Test.YtpolfpebhbkabaaNj
import Derived.Deep.CutBlock
import Derived.Deep.DeepCutAuto
import Derived.OwnWalk
namespace Go.Proofs.Ytpolfpebhbkabaa
open Go Go.RowKit
theorem Tab.here {w : World} {p h n : Nat} {A : NT} (t : Tab w p h n A) : p < w.heap.size ∧ h < w.heap.size := by
  obtain ⟨⟨ring, first, hr, hc⟩, hh, ne⟩ := t
  exact ⟨hc.here, hh.here⟩
theorem two_new {w w1 w2 : World} {n : Nat} (a : Tab w1 (w.heap.size + 1) w.heap.size n (newT n)) (b1 : Below w.heap.size w w1) (b : Tab w2 (w1.heap.size + 1) w1.heap.size n (newT n)) (b2 : Below w1.heap.size w1 w2) : Two w w2 w2.heap.size (w.heap.size + 1) w.heap.size (w1.heap.size + 1) w1.heap.size n (newT n) (newT n) := by
  have h1 := a.here
  have h2 := b.here
  have h3 := b1.size
  have h4 := b2.size
  exact ⟨a.below b2, b, below2 b1 b2, by omega, by omega, by omega, by omega⟩
/-- the tables are alike, and as they ought to be -/
def Alike (w wr : World) (B p h q g n : Nat) : Prop := ∃ S H, Two w wr B p h q g n S S ∧ Inv S H n
theorem held_taken (S : NT) (r x : Nat) (l : List Nat) : (S.take r x l).held (S.name r) = true := upd_same _ _ _
set_option maxRecDepth 100000 in
set_option maxHeartbeats 4000000 in
theorem back_any (c : Int) (hc : I64 c) (fp : Option Addr) (m1 c1 : Nat) (g1 : Nat → Int) (tp : Option Addr) (m2 c2 : Nat) (g2 : Nat → Int) (w : World) (hf : Ints w fp m1 g1) (ht : Ints w tp m2 g2) (_hm1 : m1 ≤ 9223372036854775807) (_hm2 : m2 ≤ 9223372036854775807) : Calls Try.prog 4 #[.int .i64 c, .slice fp m1 c1, .slice tp m2 c2] w fun e w' => e = .returned (.bool true) ∧ Below w.heap.size w w' := by
  have HC := Hid.in hc
  have HF := Hid.in hf
  have HT := Hid.in ht
  clear hc hf ht
  go_enter Try.func4, Try.ntmps4
  go_upto_block 0 with (first
    | (go_at_call 5; refine (pick_any c 95 _ HC.out (by decide)).mono ?_; rintro e w0 ⟨k, hk, rfl, hw⟩; have hw2 := hw.symm; clear hw; subst hw2)
    | (go_at_call 6; rw [show (34 : Int) + (k : Int) = ((34 + k : Nat) : Int) by omega]; refine (new_good (34 + k) w1 (by omega) (by omega)).mono ?_; rintro e w2 ⟨rfl, hT2, hB2⟩)
    | (go_at_call 6; rw [show (34 : Int) + (k : Int) = ((34 + k : Nat) : Int) by omega]; refine (new_good (34 + k) w (by omega) (by omega)).mono ?_; rintro e w1 ⟨rfl, hT1, hB1⟩; have HT1 := Hid.in hT1; have HB1 := Hid.in hB1; clear hT1 hB1))
  have HW := Hid.in (two_new HT1.out HB1.out hT2 hB2)
  clear HT1 HB1 hT2 hB2
  obtain ⟨n, hn⟩ : ∃ n, n = 34 + k := ⟨_, rfl⟩
  rw [← hn] at HW
  have hn1 : 34 ≤ n ∧ n ≤ 128 := by omega
  have HN := Hid.in hn1
  have HI : Hid (Alike w w2 w2.heap.size (w.heap.size + 1) w.heap.size (w1.heap.size + 1) w1.heap.size n) := ⟨_, _, HW.out, new_inv n hn1.1⟩
  clear HW hn hn1 hk
  generalize w2.heap.size = B at HI
  generalize w.heap.size + 1 = p at HI ⊢
  generalize w1.heap.size + 1 = q at HI ⊢
  generalize w1.heap.size = g at HI ⊢
  obtain ⟨h, hh⟩ : ∃ h, h = w.heap.size := ⟨_, rfl⟩
  have HI2 : Hid (Alike w w2 B p h q g n) := by rw [hh]; exact HI
  clear HI hh
  go_cut [12, 13, 14, 15, 16, 17, 18, 19] (fun _ _ _ _ _ _ _ _ wc => Alike w wc B p h q g n)
  case rest =>
    obtain ⟨S, H, hS, hI⟩ := hcut
    have HS := Hid.in hS
    have HV := Hid.in hI
    clear hS hI HI2
    obtain ⟨i0, hi0, hz0, hz1, hz2⟩ := info_parts (show (Try.prog.info? 38).map (fun i => (i.zero, i.size, i.bytes)) = some (some (.agg #[.int .i64 0, .int .i64 0, .int .i64 0]), 3, 24) by kernel_rfl)
    go_upto_block 2 with fail
    go_cut [20, 21, 22, 23, 24, 25] (fun v _ _ _ _ _ wc' => ∃ m s R X, m ≤ 200 ∧ Chain S n m s R X ∧ wc'.ownsRow B 38 3 v m (trips s R X m) ∧ Two w wc' B p h q g n (s m) S)
    case first =>
      go_wp2_with fail
      go_loopw [20, 21] (fun v kk wr => ∃ k m : Nat, kk = .int .i64 k ∧ k ≤ 200 ∧ m ≤ k ∧ ∃ s R X, Chain S n m s R X ∧ wr.ownsRow B 38 3 v m (trips s R X m) ∧ Two w wr B p h q g n (s m) S) (fun _ kk _ => 201 - (intOf kk).toNat)
      case atStart => exact ⟨0, 0, rfl, by omega, by omega, fun _ => S, fun _ => 0, fun _ => 0, ⟨rfl, fun i hi => absurd hi (by omega), fun i _ => ⟨H, HV.out⟩⟩, World.ownsRow_nil _ _ _ _, HS.out⟩
      case round =>
        obtain ⟨k', m, rfl, hk, hmk, s, R, X, hch, hown, hT⟩ := hrel
        have HCH := Hid.in hch
        have HO := Hid.in hown
        have HT2 := Hid.in hT
        clear hch hown hT HS
        by_cases hlt : k' < m2 ∧ k' < 200
        · obtain ⟨hi1, hi2⟩ := hlt
          obtain ⟨b, o, rfl, hb, hcell, hI64⟩ := HT.out k' hi1
          have hcell2 := (HT2.out.gr.cell (p := ⟨b, o + k', none⟩) hb).trans hcell
          have HD := Hid.in hI64
          clear hb hcell hI64
          cases hfr : (s m).free with
          | nil =>
            have HE := Hid.in hfr
            clear hfr
            go_wp2_with (first
              | (go_at_call 5; refine (pick_any (g2 k') 31 _ HD.out (by decide)).mono ?_; rintro e v0 ⟨r, hr, rfl, hw⟩; have hw2 := hw.symm; clear hw; subst hw2)
              | (go_at_call 7; refine (take_full p h n (s m) _ _ HT2.out.s (by unfold regB; simp; omega) HE.out).mono ?_; rintro e v1 ⟨rfl, hw⟩; have hw2 := hw.symm; clear hw; subst hw2))
            go_roundw
            case rel => exact ⟨k' + 1, m, by go_num, by omega, by omega, s, R, X, HCH.out, HO.out, HT2.out⟩
            case measure => simp [intOf]; omega
          | cons x l =>
            have HE := Hid.in hfr
            clear hfr
            go_wp2_with (first
              | (go_at_call 5; refine (pick_any (g2 k') 31 _ HD.out (by decide)).mono ?_; rintro e v0 ⟨r, hr, rfl, hw⟩; have hw2 := hw.symm; clear hw; subst hw2)
              | (go_at_call 7; rw [show (1 : Int) + (r : Int) = ((1 + r : Nat) : Int) by omega]; refine (take_good p h n (s m) (1 + r) x l _ HT2.out.s (by omega) HE.out (by obtain ⟨H2, hH2⟩ := HCH.out.inv m (Nat.le_refl _); exact hH2.name_lt _ (by omega))).mono ?_; rintro e v1 ⟨rfl, hT1, hO1⟩; have HX1 := Hid.in (HT2.out.onS hO1 hT1); have HO1 := Hid.in (own_turned HO.out hO1 (by have := HT2.out.b0; rintro k (e | e) <;> omega)); clear hT1 hO1)
              | (at_builtin; refine wpList_append_own _ rfl (.tmp 143) (.tmp 148) 36 rfl B 38 i0 (.agg #[.int .i64 0, .int .i64 0, .int .i64 0]) 3 24 Try.underlying36 hi0 hz0 hz1 hz2 rfl (by decide) _ _ _ rfl (HO1.out.alloc _) ⟨v1.heap.size, 0, none⟩ 1 1 [.int .i64 (1 + (r : Int)), .int .i64 x, .int .i64 ((s m).name (1 + r))] rfl rfl ?c1 ?c2 ?c3 ?c4 ?c5 ?_))
            case c1 =>
              intro j u hj
              match j, hj with
              | 0, hj => simp at hj; subst hj; simp [Addr.add]
              | 1, hj => simp at hj; subst hj; simp [Addr.add]
              | 2, hj => simp at hj; subst hj; simp [Addr.add]
            case c2 =>
              intro u hu
              simp at hu
              rcases hu with rfl | rfl | rfl <;> rfl
            case c3 => unfold maxLen; omega
            case c4 => omega
            case c5 => have := HX1.out.bz; simp; omega
            intro v' w5 hown5 hgrow5 _
            obtain ⟨s', R', X', hc', hs', ht'⟩ := chain_more HCH.out HE.out (show 1 ≤ 1 + r ∧ 1 + r < 32 by omega)
            have hB5 : Below B v1 w5 := by
              refine Below.grown ((Below.refl B v1).alloc HX1.out.bz _) hgrow5 (by have := HX1.out.bz; simp; omega) (own_block HO1.out)
            have HX5 := Hid.in (HX1.out.below hB5)
            have hx : (1 : Int) + (r : Int) = ((1 + r : Nat) : Int) := by omega
            rw [hx] at hown5
            have HO5 : Hid (w5.ownsRow B 38 3 v' (m + 1) (trips s' R' X' (m + 1))) := by rw [ht']; exact hown5
            have HCH5 := Hid.in hc'
            have HS5 := Hid.in hs'
            clear hown5 hgrow5 hB5 hc' hs' ht' hx
            go_wp2
            go_roundw
            case rel => exact ⟨k' + 1, m + 1, by go_num, by omega, by omega, s', R', X', HCH5.out, HO5.out, by rw [HS5.out]; exact HX5.out⟩
            case measure => simp [intOf]; omega
        · have h2 : ¬ (k' : Int) < m2 ∨ ((k' : Int) < m2 ∧ ¬ (k' : Int) < 200) := by omega
          have hu : undef = Value.tuple #[] := rfl
          rcases h2 with h2 | ⟨h2, h3⟩
          · go_wp2
            go_meet
            exact ⟨m, s, R, X, by omega, HCH.out, HO.out, HT2.out⟩
          · go_wp2
            go_meet
            exact ⟨m, s, R, X, by omega, HCH.out, HO.out, HT2.out⟩
    case rest =>
      obtain ⟨m, s, R, X, hm, hch, hown, hT⟩ := hcut
      obtain ⟨lq, lc, rfl, hrow⟩ := own_trips hown
      have HCH := Hid.in hch
      have HR := Hid.in hrow
      have HT2 := Hid.in hT
      clear hch hown hrow hT HS
      go_wp2
      go_loopw [26] (fun v wr => ∃ (j : Nat) (z : Int), v = .int .i64 z ∧ z = (j : Int) - 1 ∧ j ≤ m ∧ Two w wr B p h q g n (s j) S ∧ Turned (fun k => k = p ∨ k = h) wc wr) (fun v _ => (intOf v + 1).toNat)
      case atStart => exact ⟨m, _, rfl, rfl, Nat.le_refl _, HT2.out, Turned.refl _ _⟩
      case round =>
        obtain ⟨j, z, rfl, hz, hj, hT, hO⟩ := hrel
        have HT3 := Hid.in hT
        have HO3 := Hid.in hO
        clear hT hO HT2
        cases j with
        | succ i =>
          obtain rfl : z = (i : Int) := by omega
          obtain ⟨gl, rfl, hg1, hg2, r0, r1, r2⟩ := HR.out i (by omega)
          obtain ⟨c1', c2', c3', c4', c5', c6'⟩ := chain_back HCH.out i (by omega)
          have hnq : ¬ (gl = p ∨ gl = h) := by have := HT3.out.b0; omega
          have d0 := HO3.out.to_cell hg2 hnq r0
          have d1 := HO3.out.to_cell hg2 hnq r1
          have d2 := HO3.out.to_cell hg2 hnq r2
          rw [← c4'] at d1
          have hgs : gl < wr.heap.size := Nat.lt_of_lt_of_le hg2 HO3.out.size
          have K1 := Hid.in c1'
          have K2 := Hid.in c2'
          have K3 := Hid.in c3'
          have K5 := Hid.in c5'
          have K6 := Hid.in (c6' HN.out.2)
          have him : i < m := by omega
          clear c1' c2' c3' c4' c5' c6' hz hg1 hg2 r0 r1 r2 hnq
          go_wp2
          first
            | go_region_with (go_at_call 11; refine (undo_good p h n (s (i + 1)) (R i) ((s i).name (R i)) _ HT3.out.drew.s K1.out K2.out K3.out K6.out).mono ?_; rintro e v6 ⟨rfl, hT6, hO6⟩; rw [K5.out] at hT6; have HX6 := Hid.in (HT3.out.drew.onS hO6 hT6); have HO6 := Hid.in ((HO3.out.drew).trans hO6); clear hT6 hO6)
            | fail
          all_goals (try go_wp2)
          all_goals
            go_roundw
            case rel => exact ⟨i, (i : Int) - 1, by go_num, by omega, by omega, by first | exact HX6.out | exact HX6.out.drew, by first | exact HO6.out | exact HO6.out.drew⟩
            case measure => simp [intOf]
        | zero =>
          obtain rfl : z = -1 := by omega
          have hs0 := HCH.out.zero
          rw [hs0] at HT3
          clear hs0 hz HR HCH
          go_wp2
          go_loopw [28] (fun v wr' => ∃ i : Nat, v = .int .i64 i ∧ i ≤ 32 ∧ Two w wr' B p h q g n S S) (fun v _ => 33 - (intOf v).toNat)
          case atStart => exact ⟨0, rfl, by omega, HT3.out⟩
          case round =>
            obtain ⟨i, rfl, hi, hT⟩ := hrel
            have HT4 := Hid.in hT
            clear hT HT3
            by_cases hi2 : i < 32
            · go_wp2_with (first
                | (go_at_call 10; have := HX1.out; refine (look_in q g n S i _ HT4.out.t hi2).mono ?_; rintro e v1 ⟨rfl, hw⟩; have hw2 := hw.symm; clear hw; subst hw2)
                | (go_at_call 10; refine (look_in p h n S i _ HT4.out.s hi2).mono ?_; rintro e v1 ⟨rfl, hw⟩; have hw2 := hw.symm; clear hw; subst hw2; have HX1 : Hid True := trivial))
              go_roundw
              case rel => exact ⟨i + 1, by go_num, by omega, HT4.out⟩
              case measure => simp [intOf]; omega
            · go_wp2
              go_loopw [31] (fun v wr' => ∃ i : Nat, v = .int .i64 i ∧ i ≤ 40 ∧ Alike w wr' B p h q g n) (fun v _ => 41 - (intOf v).toNat)
              case atStart => exact ⟨0, rfl, by omega, S, H, HT4.out, HV.out⟩
              case round =>
                obtain ⟨i', rfl, hi', S5, H5, hT5, hI5⟩ := hrel
                have HT5 := Hid.in hT5
                have HI5 := Hid.in hI5
                clear hT5 hI5 HT4 HV
                by_cases hi3 : i' < 40
                · obtain ⟨r, hr⟩ : ∃ r, r = i' % 31 := ⟨_, rfl⟩
                  have e31 : (i' : Int).tmod 31 = (r : Int) := by
                    rw [Int.tmod_eq_emod_of_nonneg (by omega)]; omega
                  have hr2 : r < 31 := by omega
                  clear hr
                  cases hfr : S5.free with
                  | nil =>
                    have HE := Hid.in hfr
                    clear hfr
                    go_wp2_with (first
                      | (go_at_call 7; have := HX1.out; refine (take_full q g n S5 _ _ HT5.out.t (by unfold regB; simp; omega) HE.out).mono ?_; rintro e v1 ⟨rfl, hw⟩; have hw2 := hw.symm; clear hw; subst hw2)
                      | (go_at_call 7; refine (take_full p h n S5 _ _ HT5.out.s (by unfold regB; simp; omega) HE.out).mono ?_; rintro e v1 ⟨rfl, hw⟩; have hw2 := hw.symm; clear hw; subst hw2; have HX1 : Hid True := trivial))
                    go_quiet (fail)
                    go_wp2
                    go_roundw
                    case rel => exact ⟨i' + 1, by go_num, by omega, S5, H5, HT5.out.drewN _, HI5.out⟩
                    case measure => simp [intOf]; omega
                  | cons x l =>
                    have HE := Hid.in hfr
                    clear hfr
                    go_wp2_with (first
                      | (go_at_call 7; rw [show (1 : Int) + (r : Int) = ((1 + r : Nat) : Int) by omega]; refine (take_good q g n S5 (1 + r) x l _ HX1.out.t (by omega) HE.out (HI5.out.name_lt _ (by omega))).mono ?_; rintro e v2 ⟨rfl, hT2, hO2⟩; have HX2 := Hid.in (HX1.out.onT hO2 hT2); clear hT2 hO2)
                      | (go_at_call 7; rw [show (1 : Int) + (r : Int) = ((1 + r : Nat) : Int) by omega]; refine (take_good p h n S5 (1 + r) x l _ HT5.out.s (by omega) HE.out (HI5.out.name_lt _ (by omega))).mono ?_; rintro e v1 ⟨rfl, hT1, hO1⟩; have HX1 := Hid.in (HT5.out.onS hO1 hT1); clear hT1 hO1))
                    go_quiet (fail)
                    go_wp2
                    go_roundw
                    case rel => exact ⟨i' + 1, by go_num, by omega, _, _, HX2.out.drewN _, HI5.out.take (H' := S5.name (1 + r) :: H5) HE.out (by omega) rfl (fun y => count_cons' _ _ _)⟩
                    case measure => simp [intOf]; omega
                · go_wp2
                  go_ret
                  exact ⟨rfl, HT5.out.gr⟩
  case first =>
   go_wp2_with fail
   go_loopw [12] (fun v wr => ∃ i : Nat, v = .int .i64 i ∧ i ≤ 200 ∧ Alike w wr B p h q g n) (fun v _ => 201 - (intOf v).toNat)
   case atStart => exact ⟨0, rfl, by omega, HI2.out⟩
   case round =>
    obtain ⟨i, rfl, hi, S, H, hS, hI⟩ := hrel
    have HS := Hid.in hS
    have HV := Hid.in hI
    clear hS hI HI2
    by_cases hlt : i < m1 ∧ i < 200
    · obtain ⟨hi1, hi2⟩ := hlt
      obtain ⟨b, o, rfl, hb, hcell, hI64⟩ := HF.out i hi1
      have hcell2 := (HS.out.gr.cell (p := ⟨b, o + i, none⟩) hb).trans hcell
      have HD := Hid.in hI64
      clear hb hcell hI64
      have e3 : (i : Int).tmod 3 = (i : Int) % 3 := Int.tmod_eq_emod_of_nonneg (by omega)
      cases hfr : S.free with
      | nil =>
        have HE := Hid.in hfr
        clear hfr
        go_wp2_with (first
          | (go_at_call 5; refine (pick_any (g1 i) 31 _ HD.out (by decide)).mono ?_; rintro e v0 ⟨r, hr, rfl, hw⟩; have hw2 := hw.symm; clear hw; subst hw2)
          | (go_at_call 7; have := HX1.out; refine (take_full q g n S _ _ HS.out.t (by unfold regB; simp; omega) HE.out).mono ?_; rintro e v1 ⟨rfl, hw⟩; have hw2 := hw.symm; clear hw; subst hw2)
          | (go_at_call 7; refine (take_full p h n S _ _ HS.out.s (by unfold regB; simp; omega) HE.out).mono ?_; rintro e v1 ⟨rfl, hw⟩; have hw2 := hw.symm; clear hw; subst hw2; have HX1 : Hid True := trivial))
        go_quiet (fail)
        go_wp2
        go_roundw
        case rel => exact ⟨i + 1, by go_num, by omega, S, H, HS.out.drewN _, HV.out⟩
        case measure => simp [intOf]; omega
      | cons x l =>
        have HE := Hid.in hfr
        clear hfr
        have h3 : (i : Int) % 3 = 0 ∨ 0 < (i : Int) % 3 := by omega
        rcases h3 with h3 | h3
        · go_wp2_with (first
            | (go_at_call 5; refine (pick_any (g1 i) 31 _ HD.out (by decide)).mono ?_; rintro e v0 ⟨r, hr, rfl, hw⟩; have hw2 := hw.symm; clear hw; subst hw2)
            | (go_at_call 7; rw [show (1 : Int) + (r : Int) = ((1 + r : Nat) : Int) by omega]; refine (take_good q g n S (1 + r) x l _ HX1.out.t (by omega) HE.out (HV.out.name_lt _ (by omega))).mono ?_; rintro e v2 ⟨rfl, hT2, hO2⟩; have HX2 := Hid.in (HX1.out.onT hO2 hT2); clear hT2 hO2)
            | (go_at_call 7; rw [show (1 : Int) + (r : Int) = ((1 + r : Nat) : Int) by omega]; refine (take_good p h n S (1 + r) x l _ HS.out.s (by omega) HE.out (HV.out.name_lt _ (by omega))).mono ?_; rintro e v1 ⟨rfl, hT1, hO1⟩; have HX1 := Hid.in (HS.out.onS hO1 hT1); clear hT1 hO1))
          go_quiet (fail)
          go_wp2
          go_roundw
          case rel => exact ⟨i + 1, by go_num, by omega, _, _, HX2.out.drewN _, HV.out.take (H' := S.name (1 + r) :: H) HE.out (by omega) rfl (fun y => count_cons' _ _ _)⟩
          case measure => simp [intOf]; omega
        · go_wp2_with (first
            | (go_at_call 5; refine (pick_any (g1 i) 31 _ HD.out (by decide)).mono ?_; rintro e v0 ⟨r, hr, rfl, hw⟩; have hw2 := hw.symm; clear hw; subst hw2)
            | (go_at_call 7; rw [show (1 : Int) + (r : Int) = ((1 + r : Nat) : Int) by omega]; refine (take_good q g n S (1 + r) x l _ HX1.out.t (by omega) HE.out (HV.out.name_lt _ (by omega))).mono ?_; rintro e v2 ⟨rfl, hT2, hO2⟩; have HX2 := Hid.in (HX1.out.onT hO2 hT2); clear hT2 hO2)
            | (go_at_call 7; rw [show (1 : Int) + (r : Int) = ((1 + r : Nat) : Int) by omega]; refine (take_good p h n S (1 + r) x l _ HS.out.s (by omega) HE.out (HV.out.name_lt _ (by omega))).mono ?_; rintro e v1 ⟨rfl, hT1, hO1⟩; have HX1 := Hid.in (HS.out.onS hO1 hT1); clear hT1 hO1))
          have HV2 := Hid.in (HV.out.take (H' := S.name (1 + r) :: H) HE.out (show 1 ≤ 1 + r ∧ 1 + r < 32 by omega) rfl (fun y => count_cons' _ _ _))
          have hrr : 1 + r < 32 := by omega
          go_quiet (fail)
          go_wp2_with (first
            | (go_at_call 9; refine (release_good q g n (S.take (1 + r) x l) (S.name (1 + r)) _ HX3.out.t (HV.out.name_pos _ hrr (by omega)) (HV.out.name_lt _ hrr) (held_taken _ _ _ _) (HV2.out.room HN.out.2)).mono ?_; rintro e v4 ⟨rfl, hT4, hO4⟩; have HX4 := Hid.in (HX3.out.onT hO4 hT4); clear hT4 hO4)
            | (go_at_call 9; refine (release_good p h n (S.take (1 + r) x l) (S.name (1 + r)) _ (HX2.out.drewN _).s (HV.out.name_pos _ hrr (by omega)) (HV.out.name_lt _ hrr) (held_taken _ _ _ _) (HV2.out.room HN.out.2)).mono ?_; rintro e v3 ⟨rfl, hT3, hO3⟩; have HX3 := Hid.in ((HX2.out.drewN _).onS hO3 hT3); clear hT3 hO3))
          go_roundw
          case rel => exact ⟨i + 1, by go_num, by omega, _, _, HX4.out, HV2.out.release (H' := H) rfl (fun y => count_cons' _ _ _)⟩
          case measure => simp [intOf]; omega
    · have h2 : ¬ (i : Int) < m1 ∨ ((i : Int) < m1 ∧ ¬ (i : Int) < 200) := by omega
      have hu : undef = Value.tuple #[] := rfl
      rcases h2 with h2 | ⟨h2, h3⟩
      · go_wp2
        go_meet
        exact ⟨S, H, HS.out, HV.out⟩
      · go_wp2
        go_meet
        exact ⟨S, H, HS.out, HV.out⟩
end Go.Proofs.Ytpolfpebhbkabaa
