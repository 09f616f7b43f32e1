/-
  RENAME's LAW RenameApart.
-/
import Derived.Test.YtpolfpebhbkabaaNl
import Derived.Deep.CutBlock
import Derived.Deep.DeepCutAuto
namespace Go.Proofs.Ytpolfpebhbkabaa
open Go Go.RowKit
/-- a row of Booleans that was handed in -/
def Bools (w : World) (p : Option Addr) (m : Nat) (g : Nat → Bool) : Prop := ∀ i, i < m → ∃ b o, p = some ⟨b, o, none⟩ ∧ b < w.heap.size ∧ w.cell? ⟨b, o + i, none⟩ = some (.bool (g i))
/-- a table in the world wr, w being that of the call; B: above it -/
structure One (w wr : World) (B p h n : Nat) (S : NT) : Prop where
  s : Tab wr p h n S
  gr : Below w.heap.size w wr
  p0 : w.heap.size ≤ p ∧ w.heap.size ≤ h
  b0 : p < B ∧ h < B
  bz : B ≤ wr.heap.size
theorem One.on {w x y : World} {B p h n : Nat} {S U : NT} (k : One w x B p h n S) (c : Turned (fun k => k = p ∨ k = h) x y) (t : Tab y p h n U) : One w y B p h n U := by
  obtain ⟨a1, a3, a4, a5, a6⟩ := k
  exact ⟨t, a3.trans (c.below a3.size (by rintro k (e | e) <;> omega)), a4, a5, Nat.le_trans a6 c.size⟩
theorem One.below {w x y : World} {B p h n : Nat} {S : NT} (k : One w x B p h n S) (c : Below B x y) : One w y B p h n S := by
  obtain ⟨a1, a3, a4, a5, a6⟩ := k
  have c2 : Turned (fun k => B ≤ k) x y := ⟨c.os, c.tape, c.output, c.size, fun k _ hk => c.block k (by omega)⟩
  exact ⟨a1.turned c2 (by omega) (by omega), a3.trans (c.mono (by omega)), a4, a5, Nat.le_trans a6 c.size⟩
theorem one_new {w w1 : World} {n : Nat} (a : Tab w1 (w.heap.size + 1) w.heap.size n (newT n)) (b1 : Below w.heap.size w w1) : One w w1 w1.heap.size (w.heap.size + 1) w.heap.size n (newT n) := by
  obtain ⟨⟨ring, first, hr, hc⟩, hh, ne⟩ := a
  have h1 := hc.here
  have h2 := hh.here
  exact ⟨⟨⟨ring, first, hr, hc⟩, hh, ne⟩, b1, by omega, by omega, by omega⟩
theorem Inv.held_head {S : NT} {y : Nat} {l : List Nat} {n : Nat} (h : Inv S (y :: l) n) : 1 ≤ y ∧ y < n ∧ S.held y = true := by
  have h1 := h.cnt y
  rw [count_cons', one_pos rfl] at h1
  have h2 := one_le (b := y < n)
  refine ⟨?_, one_1 (by omega), ?_⟩
  · rcases Nat.eq_zero_or_pos y with q | q
    · subst q
      have := cnt_mem S.name 0 0 h.zero 32 (by omega)
      omega
    · exact q
  · rw [h.held, count_cons', one_pos rfl]; simp
theorem x_ne {S : NT} {x r old : Nat} (h : ∀ r, r < 32 → S.name r ≠ x) (hr : (r : Int) < 31) (hold : old = S.name (1 + r)) : ((x : Int) == (old : Int)) = false := by
  have h1 := h (1 + r) (by omega)
  rw [← hold] at h1
  have h2 : ¬ (x : Int) = (old : Int) := by omega
  simpa using h2
theorem y_ne {x y j : Nat} {H : List Nat} (h : H.count x = 0 ∧ True) (hj : j < H.length) (hy : y = H.getD j 0) : ((y : Int) == (x : Int)) = false := by
  have h1 : y ∈ H := by
    rw [hy, List.getD_eq_getElem?_getD, List.getElem?_eq_getElem hj]
    exact List.getElem_mem hj
  have h2 : y ≠ x := by
    intro e
    rw [e] at h1
    have := List.count_pos_iff.2 h1
    omega
  have h3 : ¬ (y : Int) = (x : Int) := by omega
  simpa using h3
theorem z_ne {S : NT} {H l : List Nat} {n x r old j z : Nat} (h : ∀ r, r < 32 → S.name r ≠ x) (hv : Inv S H n) (hr : 1 + r < 32) (hold : old = S.name (1 + r)) (hj : j < 32) (hz : z = (S.take (1 + r) x l).name j) : (¬ j = 1 + r → ((z : Int) == (x : Int)) = false) ∧ ((z : Int) == (old : Int)) = false := by
  by_cases e : j = 1 + r
  · have h1 : z = x := by rw [hz, e]; exact upd_same _ _ _
    have h2 := h (1 + r) hr
    have h3 : ¬ (z : Int) = (old : Int) := by omega
    exact ⟨fun q => absurd e q, by simpa using h3⟩
  · have h1 : z = S.name j := by rw [hz]; exact upd_other _ _ _ _ e
    have h2 := h j hj
    have h3 : ¬ (z : Int) = (x : Int) := by omega
    have h4 : z ≠ old := by
      intro q
      exact e (hv.name_inj j (1 + r) hj hr (by omega))
    have h5 : ¬ (z : Int) = (old : Int) := by omega
    exact ⟨fun _ => by simpa using h3, by simpa using h5⟩
set_option maxRecDepth 100000 in
set_option maxHeartbeats 4000000 in
theorem apart_any (c : Int) (hc : I64 c) (fp : Option Addr) (m1 c1 : Nat) (g1 : Nat → Int) (kp : Option Addr) (m2 c2 : Nat) (g2 : Nat → Bool) (w : World) (hf : Ints w fp m1 g1) (hk : Bools w kp m2 g2) (_hm1 : m1 ≤ 9223372036854775807) (_hm2 : m2 ≤ 9223372036854775807) : Calls Try.prog 3 #[.int .i64 c, .slice fp m1 c1, .slice kp m2 c2] w fun e w' => e = .returned (.bool true) ∧ Below w.heap.size w w' := by
  have HC := Hid.in hc
  have HF := Hid.in hf
  have HK := Hid.in hk
  clear hc hf hk
  obtain ⟨i0, hi0, hz0, hz1, hz2⟩ := info_parts (show (Try.prog.info? 3).map (fun i => (i.zero, i.size, i.bytes)) = some (some (.int .i64 0), 1, 8) by kernel_rfl)
  go_enter Try.func3, Try.ntmps3
  go_wp2_with (first
    | (go_at_call 5; refine (pick_any c 95 _ HC.out (by decide)).mono ?_; rintro e w0 ⟨k, hk, rfl, hw⟩; have hw2 := hw.symm; clear hw; subst hw2)
    | (go_at_call 6; rw [show (34 : Int) + (k : Int) = ((34 + k : Nat) : Int) by omega]; refine (new_good (34 + k) w (by omega) (by omega)).mono ?_; rintro e w1 ⟨rfl, hT1, hB1⟩))
  have HW := Hid.in (one_new hT1 hB1)
  clear hT1 hB1
  obtain ⟨n, hn⟩ : ∃ n, n = 34 + k := ⟨_, rfl⟩
  rw [← hn] at HW
  have HI : Hid (Inv (newT n) [] n) := new_inv n (by omega)
  have HN := Hid.in hn
  have hkk : (k : Int) ≤ 94 := by omega
  clear hn hk
  generalize w1.heap.size = B at HW
  generalize w.heap.size + 1 = p at HW ⊢
  obtain ⟨h, hh⟩ : ∃ h, h = w.heap.size := ⟨_, rfl⟩
  have HW2 : Hid (One w w1 B p h n (newT n)) := by rw [hh]; exact HW
  clear HW hh
  go_loopw [10, 11] (fun v kk wr => ∃ (i : Nat) (S : NT) (ao : Option Addr) (cap : Nat) (H : List Nat), kk = .int .i64 i ∧ i ≤ 300 ∧ Own1 wr B v ao cap H ∧ Inv S H n ∧ One w wr B p h n S) (fun _ kk _ => 301 - (intOf kk).toNat)
  case atStart => exact ⟨0, _, _, _, _, rfl, by omega, Own1.nil _ _, HI.out, HW2.out⟩
  case round =>
    obtain ⟨i, S, ao, cap, H, rfl, hi, hO, hI, hS⟩ := hrel
    obtain rfl := hO.val
    have HO := Hid.in hO
    have HV := Hid.in hI
    have HS := Hid.in hS
    clear hO hI hS HI HW2
    by_cases hlt : i < m1 ∧ i < 300
    · obtain ⟨hi1, hi2⟩ := hlt
      obtain ⟨b, o, rfl, hb, hcell, hI64⟩ := HF.out i hi1
      have hcell2 := (HS.out.gr.cell (p := ⟨b, o + i, none⟩) hb).trans hcell
      have HD := Hid.in hI64
      clear hb hcell hI64
      cases hfr : S.free with
      | nil =>
        cases H with
        | nil =>
          exfalso
          have := HV.out.lens
          have := HN.out
          rw [hfr] at *
          simp at *
          omega
        | cons y l =>
          have hle := HO.out.le
          simp only [List.length_cons] at hle
          obtain ⟨g, off, rfl, b2, b3, b4, b5, b6⟩ := HO.out.at' (by omega)
          have hc0 : wr.cell? ⟨g, off, none⟩ = some (.int .i64 y) := b5 0 (by simp)
          have HY := Hid.in HV.out.held_head
          have hf0 : (S.free.length : Int) = 0 := by rw [hfr]; rfl
          have HE := Hid.in hfr
          have HF0 := Hid.in hf0
          have hl1 : ((y :: l).length : Int) = (l.length : Int) + 1 := by simp
          have hln : (l.length : Int) ≤ 200 := by have := HV.out.lens; have := HN.out; simp at *; omega
          have hcapm : cap ≤ 9223372036854775807 := by have := HO.out.max; unfold maxLen at this; omega
          clear hfr b2 b4 b5 b6 hf0
          go_wp2_with (first
            | (go_at_call 5; refine (pick_any (g1 i) 31 _ HD.out (by decide)).mono ?_; rintro e v0 ⟨r, hr, rfl, hw⟩; have hw2 := hw.symm; clear hw; subst hw2)
            | (go_at_call 7; refine (take_full p h n S _ _ HS.out.s (by unfold regB; simp; omega) HE.out).mono ?_; rintro e v1 ⟨rfl, hw⟩; have hw2 := hw.symm; clear hw; subst hw2)
            | (go_at_call 8; refine (free_any p h n S _ HS.out.s).mono ?_; rintro e v1 ⟨rfl, hw⟩; have hw2 := hw.symm; clear hw; subst hw2; rw [HF0.out])
            | (go_at_call 9; refine (release_good p h n S y _ HS.out.s HY.out.1 HY.out.2.1 HY.out.2.2 (HV.out.room (by have := HN.out; omega))).mono ?_; rintro e v3 ⟨rfl, hT3, hO3⟩; have HX3 := Hid.in (HS.out.on hO3 hT3); have HO3 := Hid.in (HO.out.turned hO3 (by have := HS.out.b0; rintro k (e | e) <;> omega)); clear hT3 hO3))
          refine ⟨⟨i + 1, _, _, _, l, by go_num, by omega, HO3.out.cut ?_ ?_, HV.out.release (H' := l) rfl (fun y => count_cons' _ _ _), HX3.out⟩, ?_⟩
          · intro g' off' e hc
            cases e
            rw [if_neg (by omega)]
          · intro e
            split at e <;> simp at e
          · simp [intOf]; omega
      | cons x l =>
        have HE := Hid.in hfr
        obtain ⟨x1, x2, x3, x4, x5⟩ := HV.out.free_head hfr
        have hx1 : ¬ (x : Int) < 1 := by omega
        have hx2 : ¬ (x : Int) ≥ 34 + (k : Int) := by have := HN.out; omega
        have HX := Hid.in (And.intro x3 (And.intro x4 trivial))
        clear hfr x1 x2 x3 x4 x5
        go_upto_block 2 with (first
          | (go_at_call 5; refine (pick_any (g1 i) 31 _ HD.out (by decide)).mono ?_; rintro e v0 ⟨r, hr, rfl, hw⟩; have hw2 := hw.symm; clear hw; subst hw2; obtain ⟨old, hold⟩ : ∃ old, old = S.name (1 + r) := ⟨_, rfl⟩; have hxo := x_ne HX.out.1 hr hold; have HOL := Hid.in hold; clear hold)
          | (go_at_call 7; rw [show (1 : Int) + (r : Int) = ((1 + r : Nat) : Int) by omega]; refine (take_good p h n S (1 + r) x l _ HS.out.s (by omega) HE.out (HV.out.name_lt _ (by omega))).mono ?_; rw [← HOL.out]; rintro e v1 ⟨rfl, hT1, hO1⟩; have HX1 := Hid.in (HS.out.on hO1 hT1); have HO1 := Hid.in (HO.out.turned hO1 (by have := HS.out.b0; rintro k (e | e) <;> omega)); clear hT1 hO1)
          | (go_at_call 10; rw [show (1 : Int) + (r : Int) = ((1 + r : Nat) : Int) by omega]; refine (look_in p h n (S.take (1 + r) x l) (1 + r) _ HX1.out.s (by omega)).mono ?_; rw [show (S.take (1 + r) x l).name (1 + r) = x from upd_same _ _ _]; rintro e v2 ⟨rfl, hw⟩; have hw2 := hw.symm; clear hw; subst hw2))
        have hrr : 1 + r < 32 := by omega
        have HRR := Hid.in hrr
        have hHl : H.length ≤ 128 := by have := HV.out.lens; have := HN.out; omega
        clear hrr
        go_wp2_with fail
        go_loopw [18] (fun v wr' => ∃ j : Nat, v = .int .i64 j ∧ j ≤ H.length ∧ v1 = wr') (fun v _ => H.length + 1 - (intOf v).toNat)
        case atStart => exact ⟨0, rfl, by omega, rfl⟩
        case round =>
          obtain ⟨j, rfl, hj, rfl⟩ := hrel
          by_cases hj2 : j < H.length
          · have hle := HO1.out.le
            obtain ⟨g, off, rfl, b2, b3, b4, b5, b6⟩ := HO1.out.at' (by omega)
            have hcj := b5 j hj2
            obtain ⟨y, hy⟩ : ∃ y, y = H.getD j 0 := ⟨_, rfl⟩
            rw [← hy] at hcj
            have hyx := y_ne HX.out.2 hj2 hy
            clear hy b2 b4 b5 b6
            go_wp2
            go_roundw
            case rel => exact ⟨j + 1, by go_num, by omega, by first | rfl | trivial⟩
            case measure => simp [intOf]; omega
          · go_wp2
            go_loopw [19] (fun v wr' => ∃ j : Nat, v = .int .i64 j ∧ j ≤ 32 ∧ v1 = wr') (fun v _ => 33 - (intOf v).toNat)
            case atStart => exact ⟨0, rfl, by omega, rfl⟩
            case round =>
              obtain ⟨j', rfl, hj', rfl⟩ := hrel
              by_cases hj3 : j' < 32
              · obtain ⟨z, hz⟩ : ∃ z, z = (S.take (1 + r) x l).name j' := ⟨_, rfl⟩
                obtain ⟨z1, z2⟩ := z_ne HX.out.1 HV.out HRR.out HOL.out hj3 hz
                have HZ := Hid.in hz
                clear hz
                by_cases hjr : j' = 1 + r
                · have hjn : ((j' : Int) != 1 + (r : Int)) = false := by rw [hjr]; simp
                  have HJR := Hid.in hjr
                  clear hjr z1
                  go_wp2_with (go_at_call 10; refine (look_in p h n (S.take (1 + r) x l) j' _ HX1.out.s hj3).mono ?_; rw [← HZ.out]; rintro e v2 ⟨rfl, hw⟩; have hw2 := hw.symm; clear hw; subst hw2)
                  go_roundw
                  case rel => exact ⟨j' + 1, by go_num, by omega, by first | rfl | trivial⟩
                  case measure => simp [intOf]; omega
                · have hjn : ((j' : Int) != 1 + (r : Int)) = true := by simp; omega
                  have z1' := z1 hjr
                  clear hjr z1
                  go_wp2_with (go_at_call 10; refine (look_in p h n (S.take (1 + r) x l) j' _ HX1.out.s hj3).mono ?_; rw [← HZ.out]; rintro e v2 ⟨rfl, hw⟩; have hw2 := hw.symm; clear hw; subst hw2)
                  go_roundw
                  case rel => exact ⟨j' + 1, by go_num, by omega, by first | rfl | trivial⟩
                  case measure => simp [intOf]; omega
              · have HV2 : ∀ H', H'.length = H.length + 1 → (∀ y, H'.count y = H.count y + one (old = y)) → Inv (S.take (1 + r) x l) H' n := fun H' h1 h2 => HV.out.take HE.out (by have := HRR.out; omega) h1 (by rw [← HOL.out]; exact h2)
                have HV3 := Hid.in HV2
                have HOP : Hid (1 ≤ old ∧ old < n) := by (rw [HOL.out]; exact ⟨HV.out.name_pos _ HRR.out (by omega), HV.out.name_lt _ HRR.out⟩)
                have HHE : Hid ((S.take (1 + r) x l).held old = true) := by (rw [HOL.out]; exact upd_same _ _ _)
                clear HV2
                by_cases hkeep : i < m2 ∧ g2 i = true
                · obtain ⟨hk1, hk2⟩ := hkeep
                  obtain ⟨kb, ko, rfl, kb1, kb2⟩ := HK.out i hk1
                  have kb3 := (HX1.out.gr.cell (p := ⟨kb, ko + i, none⟩) kb1).trans kb2
                  rw [hk2] at kb3
                  clear kb1 kb2 hk2
                  go_wp2_with (at_builtin; refine append_own1 _ rfl (.tmp 141) (.tmp 143) 22 rfl 3 i0 Try.underlying22 hi0 hz0 hz1 hz2 B _ ao cap H rfl (HO1.out.alloc _) ⟨v1.heap.size, 0, none⟩ 1 old rfl (by simp) rfl (by omega) (by have := HX1.out.bz; simp; omega) ?_; intro v' w5 ao' cap' hO5 hB5; have HO5 := Hid.in hO5; have HX5 := Hid.in (HX1.out.below (((Below.refl B v1).alloc HX1.out.bz _).trans hB5)); clear hO5 hB5)
                  refine ⟨⟨i + 1, _, _, _, _, by go_num, by omega, HO5.out, HV3.out (H ++ [old]) (by simp) (fun y => ?_), HX5.out⟩, ?_⟩
                  · rw [List.count_append, count_cons' old y []]; simp
                  · simp [intOf]; omega
                · have hkc : (¬ (i : Int) < (m2 : Int)) ∨ (i < m2 ∧ g2 i = false) := by
                    by_cases q : i < m2
                    · right
                      refine ⟨q, ?_⟩
                      cases q2 : g2 i
                      · rfl
                      · exact absurd ⟨q, q2⟩ hkeep
                    · left; omega
                  rcases hkc with hk1 | ⟨hk1, hk2⟩
                  · go_wp2_with (go_at_call 9; refine (release_good p h n (S.take (1 + r) x l) old _ HX1.out.s HOP.out.1 HOP.out.2 HHE.out ((HV3.out (old :: H) rfl (fun y => count_cons' _ _ _)).room (by have := HN.out; omega))).mono ?_; rintro e v3 ⟨rfl, hT3, hO3⟩; have HX3 := Hid.in (HX1.out.on hO3 hT3); have HO3 := Hid.in (HO1.out.turned hO3 (by have := HS.out.b0; rintro k (e | e) <;> omega)); clear hT3 hO3)
                    refine ⟨⟨i + 1, _, _, _, _, by go_num, by omega, HO3.out, (HV3.out (old :: H) rfl (fun y => count_cons' _ _ _)).release (H' := H) rfl (fun y => count_cons' _ _ _), HX3.out⟩, ?_⟩
                    simp [intOf]; omega
                  · obtain ⟨kb, ko, rfl, kb1, kb2⟩ := HK.out i hk1
                    have kb3 := (HX1.out.gr.cell (p := ⟨kb, ko + i, none⟩) kb1).trans kb2
                    rw [hk2] at kb3
                    clear kb1 kb2 hk2
                    go_wp2_with (go_at_call 9; refine (release_good p h n (S.take (1 + r) x l) old _ HX1.out.s HOP.out.1 HOP.out.2 HHE.out ((HV3.out (old :: H) rfl (fun y => count_cons' _ _ _)).room (by have := HN.out; omega))).mono ?_; rintro e v3 ⟨rfl, hT3, hO3⟩; have HX3 := Hid.in (HX1.out.on hO3 hT3); have HO3 := Hid.in (HO1.out.turned hO3 (by have := HS.out.b0; rintro k (e | e) <;> omega)); clear hT3 hO3)
                    refine ⟨⟨i + 1, _, _, _, _, by go_num, by omega, HO3.out, (HV3.out (old :: H) rfl (fun y => count_cons' _ _ _)).release (H' := H) rfl (fun y => count_cons' _ _ _), HX3.out⟩, ?_⟩
                    simp [intOf]; omega
    · have h2 : ¬ (i : Int) < m1 ∨ ((i : Int) < m1 ∧ ¬ (i : Int) < 300) := by omega
      have hu : undef = Value.tuple #[] := rfl
      have hlens := HV.out.lens
      have hnn := HN.out
      have hHl : H.length ≤ 128 := by omega
      have heq : (S.free.length : Int) = 34 + (k : Int) - 32 - (H.length : Int) := by omega
      have HEQ := Hid.in heq
      clear heq hlens hnn
      rcases h2 with h2 | ⟨h2, h3⟩
      all_goals
        go_wp2_with (go_at_call 8; refine (free_any p h n S _ HS.out.s).mono ?_; rintro e v1 ⟨rfl, hw⟩; have hw2 := hw.symm; clear hw; subst hw2; rw [HEQ.out])
        go_ret
        exact ⟨by simp, HS.out.gr⟩
end Go.Proofs.Ytpolfpebhbkabaa
