/-
  LSQ: Address.
-/
import Derived.Test.YthbffonedpeeiaaDoorMm
namespace Go.Proofs.YthbffonedpeeiaaDoor
open Go Go.RowKit
/-- what holds of a row wherever only new blocks are made -/
theorem Qm.rows {w : World} {B p : Nat} {v : Value} {S : QS} (k : Qm w B p v S) (i : Nat) (hi : i < S.on.length) : ∃ g cap, v = .slice (some ⟨g, 0, none⟩) S.on.length cap ∧ p ≠ g ∧ ∀ w2, Below w.heap.size w w2 → w2.cell? ⟨p, 1, none⟩ = some (.slice (some ⟨g, 0, none⟩) S.on.length cap) ∧ w2.rangeAt g (i * 8) (S.at i).vs ∧ (∀ o, w2.frozen? ⟨g, o, none⟩ = false) ∧ g < w2.heap.size := by
  obtain ⟨g, cap, hv, hg, hr, hf, -⟩ := k.row i hi
  refine ⟨g, cap, hv, fun e => k.vp (by rw [hv, e]; rfl), fun w2 hb => ?_⟩
  have t := Turned.of_below (Q := fun _ => False) hb
  refine ⟨?_, range_turned hr t hg (fun q => q), fun o => (World.frozen?_of_block (t.block g hg (fun q => q))).trans (hf o), Nat.lt_of_lt_of_le hg hb.size⟩
  have := (k.below hb).cells.2.2.1
  rw [hv] at this
  exact this
def QS.mayA (S : QS) (r : Int) : Prop := r ≠ -1 ∧ (S.at r.toNat).z = 0
set_option maxRecDepth 100000 in
set_option maxHeartbeats 1000000 in
theorem addr_state (B p : Nat) (v : Value) (S : QS) (seq r z : Int) (a : Nat) (w : World) (k : Qm w B p v S) (hr : First (S.pend seq) S.on.length r) (h : ¬ S.mayA r) : Calls Tryd.prog 10 #[.pointer (some ⟨p, 0, none⟩), .int .i64 seq, .int .u32 a, .int .i64 z] w fun e w' => e = .returned (.tuple #[.int .i64 (-1), errV 7]) ∧ Below w.heap.size w w' := by
  have HC := Hid.in (pending_any B p v S seq w k)
  have HR := Hid.in hr
  by_cases h1 : r = -1
  · subst h1
    clear k hr h
    go_enter Tryd.func10, Tryd.ntmps10
    go_wp2_with (first | (refine HC.out.mono ?_; rintro e w2 ⟨r2, rfl, h1, h2⟩; obtain rfl := h1.uniq HR.out; have H2 := Hid.in h2; clear h1 h2))
    refine bodyPost_ret (results_tmp2 Tryd.results10 _ _ _) rfl ?_
    exact ⟨rfl, H2.out⟩
  · obtain ⟨i, hi, -, rfl⟩ := hr.some h1
    have hs := k.small.1
    have hmul : (i : Int) * 8 = ((i * 8 : Nat) : Int) := by omega
    have hne : ((i : Int) == -1) = false := by simp
    have hpl : (S.at i).placed = true := by
      unfold Ac.placed
      refine decide_eq_true ?_
      rcases Nat.eq_zero_or_pos (S.at i).z with q | q
      · exact absurd ⟨h1, by rw [Int.toNat_natCast]; exact q⟩ h
      · exact q
    obtain ⟨g, cap, hv, hpg, hrow⟩ := k.rows i hi
    have HRW := Hid.in hrow
    have HPL := Hid.in hpl
    clear k hr h hrow hpl hv
    go_enter Tryd.func10, Tryd.ntmps10
    go_wp2_with (first
      | (go_at_call 38; refine HC.out.mono ?_; rintro e w2 ⟨r2, rfl, h1, h2⟩; obtain rfl := h1.uniq HR.out; obtain ⟨x1, x2, x3, x4⟩ := HRW.out w2 h2; have X2 := Hid.in x2; have H2 := Hid.in h2; clear h1 h2 x2 x3)
      | (refine ld_accG g (i * 8) (S.at i) X2.out rfl _ rfl rfl ?_)
      | (go_at_call 39; refine (isPlaced_any (S.at i) _).mono ?_; rintro r w3 ⟨rfl, hb2⟩; rw [HPL.out]; have HB2 := Hid.in hb2; clear hb2))
    refine bodyPost_ret (results_tmp2 Tryd.results10 _ _ _) rfl ?_
    exact ⟨rfl, below2 H2.out HB2.out⟩
set_option maxRecDepth 100000 in
set_option maxHeartbeats 1000000 in
theorem addr_range (B p : Nat) (v : Value) (S : QS) (seq z : Int) (i a : Nat) (w : World) (k : Qm w B p v S) (hr : First (S.pend seq) S.on.length i) (hi : i < S.on.length) (hz : (S.at i).z = 0) (ha : a < 4294967296) (hm : ¬ ((z = 1 ∨ z = 2 ∨ z = 4) ∧ (a : Int) % z = 0)) : Calls Tryd.prog 10 #[.pointer (some ⟨p, 0, none⟩), .int .i64 seq, .int .u32 a, .int .i64 z] w fun e w' => e = .returned (.tuple #[.int .i64 (-1), errV 3]) ∧ Below w.heap.size w w' := by
  have HC := Hid.in (pending_any B p v S seq w k)
  have HR := Hid.in hr
  have hs := k.small.1
  have hmul : (i : Int) * 8 = ((i * 8 : Nat) : Int) := by omega
  have hne : ((i : Int) == -1) = false := by simp
  have hpl : (S.at i).placed = false := by unfold Ac.placed; rw [hz]; rfl
  obtain ⟨g, cap, hv, hpg, hrow⟩ := k.rows i hi
  have HRW := Hid.in hrow
  have HPL := Hid.in hpl
  have HM := Hid.in (decide_eq_false hm)
  clear k hr hrow hpl hv hz hm
  go_enter Tryd.func10, Tryd.ntmps10
  go_wp2_with (first
    | (go_at_call 38; refine HC.out.mono ?_; rintro e w2 ⟨r2, rfl, h1, h2⟩; obtain rfl := h1.uniq HR.out; obtain ⟨x1, x2, x3, x4⟩ := HRW.out w2 h2; have X2 := Hid.in x2; have H2 := Hid.in h2; clear h1 h2 x2 x3)
    | (refine ld_accG g (i * 8) (S.at i) X2.out rfl _ rfl rfl ?_)
    | (go_at_call 39; refine (isPlaced_any (S.at i) _).mono ?_; rintro r w3 ⟨rfl, hb2⟩; rw [HPL.out]; have HB2 := Hid.in hb2; clear hb2)
    | (go_at_call 40; refine (mayStand_any a z _ ha).mono ?_; rintro r w4 ⟨rfl, rfl⟩; rw [HM.out]))
  refine bodyPost_ret (results_tmp2 Tryd.results10 _ _ _) rfl ?_
  exact ⟨rfl, below2 H2.out HB2.out⟩
def Ac.put (e : Ac) (a z : Nat) : Ac := { e with a := a, z := z }
theorem fit_put {e : Ac} (f : e.Fit) (hz : e.z = 0) {a z : Nat} (ha : a < 4294967296) (hm : (z = 1 ∨ z = 2 ∨ z = 4) ∧ a % z = 0) : (e.put a z).Fit := by
  have hfr : e.fr = [] := List.eq_nil_of_length_eq_zero (by have := f.fz; omega)
  refine ⟨f.n0, f.n1, ha, f.d, Or.inr hm.1, ?_, f.f, ?_, by show e.fr.length ≤ z; rw [hfr]; simp⟩
  · show a + z ≤ 4294967296
    have h2 := hm.2
    rcases hm.1 with rfl | rfl | rfl <;> omega
  · show a + e.fr.length ≤ 4294967296
    rw [hfr]
    simp
    omega
set_option maxRecDepth 100000 in
set_option maxHeartbeats 1000000 in
theorem addr_load (B p : Nat) (v : Value) (S : QS) (seq : Int) (i a z : Nat) (w : World) (k : Qm w B p v S) (hr : First (S.pend seq) S.on.length i) (hi : i < S.on.length) (hz : (S.at i).z = 0) (hst : (S.at i).st = false) (ha : a < 4294967296) (hm : (z = 1 ∨ z = 2 ∨ z = 4) ∧ a % z = 0) : Calls Tryd.prog 10 #[.pointer (some ⟨p, 0, none⟩), .int .i64 seq, .int .u32 a, .int .i64 z] w fun e w' => e = .returned (.tuple #[.int .i64 (-1), .nilIface]) ∧ Step w w' B p v S v (S.set i ((S.at i).put a z)) := by
  have HC := Hid.in (pending_any B p v S seq w k)
  have HR := Hid.in hr
  have HK := Hid.in k
  have hs := k.small.1
  have hmul : (i : Int) * 8 = ((i * 8 : Nat) : Int) := by omega
  have hne : ((i : Int) == -1) = false := by simp
  have hpl : (S.at i).placed = false := by unfold Ac.placed; rw [hz]; rfl
  obtain ⟨g, cap, hv, hpg, hrow⟩ := k.rows i hi
  have HV := Hid.in hv
  have HRW := Hid.in hrow
  have HPL := Hid.in hpl
  have HM : Hid (decide (((z : Int) = 1 ∨ (z : Int) = 2 ∨ (z : Int) = 4) ∧ (a : Int) % (z : Int) = 0) = true) := decide_eq_true ⟨by omega, by have := hm.2; omega⟩
  have HMM := Hid.in hm
  have HST := Hid.in hst
  have HZZ := Hid.in hz
  clear k hr hrow hpl hv hz hm hst
  go_enter Tryd.func10, Tryd.ntmps10
  go_wp2_with (first
    | (go_at_call 38; refine HC.out.mono ?_; rintro e w2 ⟨r2, rfl, h1, h2⟩; obtain rfl := h1.uniq HR.out; obtain ⟨x1, x2, x3, x4⟩ := HRW.out w2 h2; have X2 := Hid.in x2; have H2 := Hid.in h2; clear h1 h2 x2 x3)
    | (refine ld_accG g (i * 8) (S.at i) X2.out rfl _ rfl rfl ?_)
    | (go_at_call 39; refine (isPlaced_any (S.at i) _).mono ?_; rintro r w3 ⟨rfl, hb2⟩; rw [HPL.out]; clear x1; obtain ⟨x1, x2, x3, x4⟩ := HRW.out w3 (below2 H2.out hb2); obtain ⟨-, y1, y2, y3, -⟩ := row_cells x2; rw [HST.out] at y1; have x5 := x3 (i * 8 + 2); have x6 := x3 (i * 8 + 3); have HB2 := Hid.in hb2; clear hb2 x2 x3)
    | (go_at_call 40; refine (mayStand_any a z _ ha).mono ?_; rintro r w4 ⟨rfl, rfl⟩; rw [HM.out]))
  go_region
  go_wp2
  refine bodyPost_ret (results_tmp2 Tryd.results10 _ _ _) rfl ?_
  refine ⟨rfl, ?_⟩
  have b3 := below2 H2.out HB2.out
  have s1 := (Step.same HK.out b3).trans ((HK.out.below b3).set2 HV.out i hi 2 3 (by decide) (by decide) (.int .u32 a) (.int .i64 z) { S.at i with a := a } ((S.at i).put a z) rfl rfl (fit_put (HK.out.fit i hi) HZZ.out ha HMM.out) rfl rfl rfl)
  exact s1.trans (Step.same s1.q (Below.refl _ _).drew)
set_option maxRecDepth 100000 in
set_option maxHeartbeats 1000000 in
theorem addr_store (B p : Nat) (v : Value) (S : QS) (seq : Int) (i a z : Nat) (w : World) (k : Qm w B p v S) (hr : First (S.pend seq) S.on.length i) (hi : i < S.on.length) (hz : (S.at i).z = 0) (hst : (S.at i).st = true) (ha : a < 4294967296) (hm : (z = 1 ∨ z = 2 ∨ z = 4) ∧ a % z = 0) : Calls Tryd.prog 10 #[.pointer (some ⟨p, 0, none⟩), .int .i64 seq, .int .u32 a, .int .i64 z] w fun e w' => ∃ r, First ((S.set i ((S.at i).put a z)).went ((S.at i).put a z)) S.on.length r ∧ e = .returned (.tuple #[.int .i64 ((S.set i ((S.at i).put a z)).num r), .nilIface]) ∧ Step w w' B p v S v (S.set i ((S.at i).put a z)) := by
  have HC := Hid.in (pending_any B p v S seq w k)
  have HR := Hid.in hr
  have HK := Hid.in k
  have hs := k.small.1
  have hmul : (i : Int) * 8 = ((i * 8 : Nat) : Int) := by omega
  have hne : ((i : Int) == -1) = false := by simp
  have hpl : (S.at i).placed = false := by unfold Ac.placed; rw [hz]; rfl
  obtain ⟨g, cap, hv, hpg, hrow⟩ := k.rows i hi
  have HV := Hid.in hv
  have HRW := Hid.in hrow
  have HPL := Hid.in hpl
  have HM : Hid (decide (((z : Int) = 1 ∨ (z : Int) = 2 ∨ (z : Int) = 4) ∧ (a : Int) % (z : Int) = 0) = true) := decide_eq_true ⟨by omega, by have := hm.2; omega⟩
  have HFP := Hid.in (fit_put (k.fit i hi) hz ha hm)
  have HST := Hid.in hst
  clear k hr hrow hpl hv hz hm hst
  go_enter Tryd.func10, Tryd.ntmps10
  go_upto_region 7 with (first
    | (go_at_call 38; refine HC.out.mono ?_; rintro e w2 ⟨r2, rfl, h1, h2⟩; obtain rfl := h1.uniq HR.out; obtain ⟨x1, x2, x3, x4⟩ := HRW.out w2 h2; have X2 := Hid.in x2; have H2 := Hid.in h2; clear h1 h2 x2 x3)
    | (refine ld_accG g (i * 8) (S.at i) X2.out rfl _ rfl rfl ?_)
    | (go_at_call 39; refine (isPlaced_any (S.at i) _).mono ?_; rintro r w3 ⟨rfl, hb2⟩; rw [HPL.out]; clear x1; obtain ⟨x1, x2, x3, x4⟩ := HRW.out w3 (below2 H2.out hb2); obtain ⟨-, y1, y2, y3, -⟩ := row_cells x2; rw [HST.out] at y1; have x5 := x3 (i * 8 + 2); have x6 := x3 (i * 8 + 3); have HB2 := Hid.in hb2; clear hb2 x2 x3)
    | (go_at_call 40; refine (mayStand_any a z _ ha).mono ?_; rintro r w4 ⟨rfl, rfl⟩; rw [HM.out]))
  go_region
  go_upto_region 7 with fail
  obtain ⟨W, hW⟩ : ∃ W, ((w4.setCell ⟨g, i * 8 + 2, none⟩ (.int .u32 a)).setCell ⟨g, i * 8 + 3, none⟩ (.int .i64 z)).drew = W := ⟨_, rfl⟩
  rw [hW]
  have b3 := below2 H2.out HB2.out
  have s1 := (Step.same HK.out b3).trans ((HK.out.below b3).set2 HV.out i hi 2 3 (by decide) (by decide) (.int .u32 a) (.int .i64 z) { S.at i with a := a } ((S.at i).put a z) rfl rfl HFP.out rfl rfl rfl)
  have s2 := s1.trans (Step.same s1.q (Below.refl _ _).drew)
  rw [hW] at s2
  have HS2 := Hid.in s2
  have hl : (S.set i ((S.at i).put a z)).on.length = S.on.length := S.set_len i _
  obtain ⟨g', cap', hv', -, hrow'⟩ := s2.q.rows i (by omega)
  rw [HV.out, hl] at hv'
  cases hv'
  have HRW' := Hid.in hrow'
  obtain ⟨x1', x2', -, -⟩ := hrow' W (Below.refl _ _)
  rw [S.at_set i _ hi] at x2'
  rw [hl] at x1'
  have X2' := Hid.in x2'
  obtain ⟨-, y1', -⟩ := row_cells x2'
  have HST' : Hid (((S.at i).put a z).st = true) := HST.out
  rw [HST'.out] at y1'
  have HWA := Hid.in (wentAhead_any B p v _ ((S.at i).put a z) W s2.q HFP.out)
  clear hW s1 s2 b3 x1 x4 x5 x6 y1 y2 y3 hrow' x2'
  go_wp2_with (first
    | (refine ld_accG g (i * 8) ((S.at i).put a z) X2'.out rfl _ rfl rfl ?_)
    | (go_at_call 41; refine HWA.out.mono ?_; rintro e w5 ⟨r, rfl, h1, h2⟩; have H1 := Hid.in h1; have H5 := Hid.in h2; clear h1 h2)
    | (go_at_call 37; refine (numberAt_any B p v _ r _ (HS2.out.q.below H5.out) H1.out.range).mono ?_; rintro e w6 ⟨rfl, rfl⟩))
  refine bodyPost_ret (results_tmp2 Tryd.results10 _ _ _) rfl ?_
  have h1 := H1.out
  rw [hl] at h1
  exact ⟨r, h1, rfl, HS2.out.trans (Step.same HS2.out.q H5.out)⟩
end Go.Proofs.YthbffonedpeeiaaDoor
