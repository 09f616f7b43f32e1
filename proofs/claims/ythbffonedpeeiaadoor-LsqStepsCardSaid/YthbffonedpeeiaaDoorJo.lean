/-
  THE ANSWER: Drain.
-/
import Derived.Test.YthbffonedpeeiaaDoorJn
namespace Go.Proofs.YthbffonedpeeiaaDoor
open Go Go.RowKit
def RS.top (S : RS) : Bool := decide (0 < S.on.length) && (S.at 0).rt
set_option maxRecDepth 100000 in
set_option maxHeartbeats 1000000 in
theorem rdrain_bad (B p : Nat) (v : Value) (S : RS) (w : World) (k : Rm w B p v S) (h : S.top = false) : Calls Tryd.prog 23 #[.pointer (some ⟨p, 0, none⟩)] w fun e w' => e = .returned (.bool false) ∧ w' = w := by
  have hs := k.small.1
  obtain ⟨hp, -, c1, -⟩ := k.cells
  by_cases h0 : S.on.length = 0
  · obtain ⟨q, cap, hv, -, -⟩ := own_rrow k.l
    rw [hv, h0] at c1
    clear k h hv
    go_enter Tryd.func23, Tryd.ntmps23
    go_wp2
    go_ret
    exact ⟨rfl, rfl⟩
  · obtain ⟨g, cap, hv, hpg, -, -, hrow⟩ := k.rows 0 (by omega)
    obtain ⟨x1, x2, -⟩ := hrow w (Below.refl _ _)
    obtain ⟨-, -, -, -, -, -, -, -, y12⟩ := rrow_cells x2
    have hrt : (S.at 0).rt = false := by
      unfold RS.top at h
      rw [decide_eq_true (by omega)] at h
      exact h
    rw [hrt] at y12
    rw [Nat.zero_mul, Nat.zero_add] at y12
    obtain ⟨m, hm⟩ : ∃ m, S.on.length = m := ⟨_, rfl⟩
    rw [hm] at x1 hs h0
    have hne : ((m : Int) == 0) = false := by
      rw [beq_eq_false_iff_ne]
      omega
    have hpos : 0 < m := by omega
    clear k h hv hrow x2 c1 hrt hm h0
    go_enter Tryd.func23, Tryd.ntmps23
    go_wp2
    go_ret
    exact ⟨rfl, rfl⟩
/-- bytes of a store are memory's now -/
def Re.memB (e : Re) (n : Int) : Nat → Re
  | 0 => e
  | b + 1 => if (Re.memB e n b).f b = n ∧ e.ld = true then (Re.memB e n b).setf b (-1) else Re.memB e n b
theorem Re.memB_ld (e : Re) (n : Int) : ∀ b, (e.memB n b).ld = e.ld
  | 0 => rfl
  | b + 1 => by
    unfold Re.memB
    split
    · exact Re.memB_ld e n b
    · exact Re.memB_ld e n b
def RS.memT (S : RS) (n : Int) : Nat → RS
  | 0 => S
  | t + 1 => (RS.memT S n t).set t ((S.at t).memB n 4)
theorem RS.memT_len (S : RS) (n : Int) : ∀ t, (S.memT n t).on.length = S.on.length
  | 0 => rfl
  | t + 1 => by
    unfold RS.memT
    rw [RS.set_len, RS.memT_len S n t]
theorem RS.memT_hi (S : RS) (n : Int) (j : Nat) : ∀ t, t ≤ j → (S.memT n t).at j = S.at j
  | 0, _ => rfl
  | t + 1, h => by
    unfold RS.memT
    rw [RS.at_set' _ _ _ _ (by omega), RS.memT_hi S n j t (by omega)]
theorem RS.memT_lo (S : RS) (n : Int) (j : Nat) (hj : j < S.on.length) : ∀ t, j < t → t ≤ S.on.length → (S.memT n t).at j = (S.at j).memB n 4
  | 0, h, _ => by omega
  | t + 1, h, h2 => by
    unfold RS.memT
    by_cases e : j = t
    · subst e
      rw [RS.at_set _ _ _ (by rw [RS.memT_len]; exact hj)]
    · rw [RS.at_set' _ _ _ _ e, RS.memT_lo S n j hj t (by omega) (by omega)]
def RS.drained (S : RS) : RS := (S.del 0).memT (S.at 0).n (S.on.length - 1)
set_option maxRecDepth 100000 in
set_option maxHeartbeats 1000000 in
theorem rdrain_good (B p : Nat) (v : Value) (S : RS) (w : World) (k : Rm w B p v S) (h : S.top = true) : Calls Tryd.prog 23 #[.pointer (some ⟨p, 0, none⟩)] w fun e w' => e = .returned (.bool true) ∧ ∃ v', RStep w w' B p v v' S.drained := by
  have hs := k.small.1
  unfold RS.top at h
  rw [Bool.and_eq_true, decide_eq_true_eq] at h
  obtain ⟨h0, hrt⟩ := h
  obtain ⟨g, cap, hv, hpg, -, -, hrow⟩ := k.rows 0 h0
  obtain ⟨x1, x2, -⟩ := hrow w (Below.refl _ _)
  obtain ⟨y0, -, -, -, -, -, -, -, y12⟩ := rrow_cells x2
  rw [hrt] at y12
  rw [Nat.zero_mul] at y0
  rw [Nat.zero_mul, Nat.zero_add] at y12
  have HW := Hid.in (rwithout_any B p v S 0 w k h0)
  obtain ⟨m, hm⟩ : ∃ m, S.on.length = m := ⟨_, rfl⟩
  have hdl : (S.del 0).on.length = m - 1 := by rw [S.del_len 0 h0, hm]
  have HD : Hid (S.drained = (S.del 0).memT (S.at 0).n (m - 1)) := by
    show S.drained = _
    rw [← hm]
    rfl
  rw [hm] at x1 hs h0
  have hne : ((m : Int) == 0) = false := by
    rw [beq_eq_false_iff_ne]
    omega
  rw [HD.out]
  obtain ⟨n, hn⟩ : ∃ n, (S.at 0).n = n := ⟨_, rfl⟩
  rw [hn] at y0 ⊢
  obtain ⟨M, hM⟩ : ∃ M, S.del 0 = M := ⟨_, rfl⟩
  rw [hM] at HW hdl ⊢
  have HDL := Hid.in hdl
  clear k hv hrow x2 hrt hm HD hn hM hdl
  go_enter Tryd.func23, Tryd.ntmps23
  go_upto_region 5 with (first | (go_at_call 55; refine HW.out.mono ?_; rintro e w2 ⟨rfl, v2, h2⟩; have H2 := Hid.in h2; clear h2))
  clear x1 y0 y12 hne
  go_wp2
  go_loopw [4] (fun u wr => ∃ t : Nat, u = .int .i64 t ∧ t ≤ m - 1 ∧ RStep w2 wr B p v2 v2 (M.memT n t)) (fun v _ => 33 - (intOf v).toNat)
  case atStart => exact ⟨0, rfl, by omega, RStep.same H2.out.q (Below.refl _ _)⟩
  case round =>
    obtain ⟨t, rfl, ht, hst⟩ := hrel
    have HST := Hid.in hst
    obtain ⟨hp, -, c1, -⟩ := hst.q.cells
    obtain ⟨q2, cap2, hv2, -, -⟩ := own_rrow hst.q.l
    rw [RS.memT_len, HDL.out] at hv2
    rw [hv2] at c1
    have HV2 := Hid.in hv2
    clear hv2
    by_cases htm : t < m - 1
    · clear hst
      have htm' : (t : Int) < ((m - 1 : Nat) : Int) := by omega
      go_wp2
      clear c1
      go_loopw [5] (fun u wr2 => ∃ b : Nat, u = .int .i64 b ∧ b ≤ 4 ∧ RStep w2 wr2 B p v2 v2 ((M.memT n t).set t ((M.at t).memB n b))) (fun v _ => 5 - (intOf v).toNat)
      case atStart =>
        refine ⟨0, rfl, by omega, ?_⟩
        rw [show (M.at t).memB n 0 = M.at t from rfl, ← M.memT_hi n t t (Nat.le_refl _), RS.set_self _ _ (by rw [RS.memT_len, HDL.out]; exact htm)]
        exact HST.out
      case round =>
        obtain ⟨b, rfl, hb, hst⟩ := hrel
        have HSB := Hid.in hst
        obtain ⟨T, hT⟩ : ∃ T, (M.memT n t).set t ((M.at t).memB n b) = T := ⟨_, rfl⟩
        have hTl : T.on.length = m - 1 := by rw [← hT, RS.set_len, RS.memT_len, HDL.out]
        have hTi : T.at t = (M.at t).memB n b := by rw [← hT]; exact RS.at_set _ _ _ (by rw [RS.memT_len, HDL.out]; exact htm)
        rw [hT] at hst
        by_cases hb4 : b < 4
        · have hvT : ∃ g, v2 = .slice (some ⟨g, 0, none⟩) T.on.length cap2 := by
            obtain ⟨g', cap', hv', -⟩ := hst.q.rows t (by rw [hTl]; exact htm)
            have h2 := HV2.out
            rw [hv', hTl] at h2
            cases h2
            exact ⟨g', by rw [hv', hTl]⟩
          obtain ⟨g2, hvT⟩ := hvT
          obtain ⟨g', cap', hv', hpg2, -, -, hrow⟩ := hst.q.rows t (by rw [hTl]; exact htm)
          rw [hvT] at hv'
          cases hv'
          obtain ⟨x1, x2, x3, x4⟩ := hrow wr (Below.refl _ _)
          rw [hTl] at x1
          rw [hTi] at x2
          obtain ⟨-, -, -, -, -, -, -, y7, -⟩ := rrow_cells x2
          rw [Re.memB_ld] at y7
          have yb := rrow_from x2 b hb4
          rw [← Nat.add_assoc] at yb
          have fb := x3 (t * 13 + 8 + b)
          have hmul : (t : Int) * 13 = ((t * 13 : Nat) : Int) := by omega
          have hb4' : (b : Int) < 4 := by omega
          have HS1 : Hid (RStep w2 (wr.setCell ⟨g2, t * 13 + 8 + b, none⟩ (.int .i64 (-1))) B p v2 v2 ((M.memT n t).set t (((M.at t).memB n b).setf b (-1)))) := by
            have s := hst.trans (hst.q.setf hvT t (by rw [hTl]; exact htm) b hb4 (-1))
            rw [hTi, ← hT, RS.set_set, ← Nat.add_assoc] at s
            exact s
          have HMB : Hid ((M.at t).memB n (b + 1) = if ((M.at t).memB n b).f b = n ∧ (M.at t).ld = true then ((M.at t).memB n b).setf b (-1) else (M.at t).memB n b) := rfl
          obtain ⟨x, hx⟩ : ∃ x, ((M.at t).memB n b).f b = x := ⟨_, rfl⟩
          rw [hx] at yb
          have HX := Hid.in hx
          obtain ⟨lb, hlb⟩ : ∃ lb, (M.at t).ld = lb := ⟨_, rfl⟩
          rw [hlb] at y7
          have HLB := Hid.in hlb
          clear hst hT hTl hTi hvT hrow x2 x3 hx hlb
          by_cases hxn : x = n
          · have hxn2 : (x == n) = true := by simpa using hxn
            cases lb
            · go_wp2
              go_roundw
              case rel =>
                refine ⟨b + 1, by simp, by omega, ?_⟩
                rw [HMB.out, HX.out, HLB.out, if_neg (by simp)]
                exact HSB.out
              case measure =>
                simp [intOf]
                omega
            · go_wp2
              go_roundw
              case rel =>
                refine ⟨b + 1, by simp, by omega, ?_⟩
                rw [HMB.out, HX.out, HLB.out, if_pos ⟨hxn, rfl⟩]
                exact HS1.out
              case measure =>
                simp [intOf]
                omega
          · have hxn2 : (x == n) = false := by simpa using hxn
            go_wp2
            go_roundw
            case rel =>
              refine ⟨b + 1, by simp, by omega, ?_⟩
              rw [HMB.out, HX.out, if_neg (fun q => hxn q.1)]
              exact HSB.out
            case measure =>
              simp [intOf]
              omega
        · obtain rfl : b = 4 := by omega
          clear hst hT hTl hTi
          go_wp2
          go_roundw
          case rel => exact ⟨t + 1, by simp, by omega, HSB.out⟩
          case measure =>
            simp [intOf]
            omega
    · obtain rfl : t = m - 1 := by omega
      clear hst
      go_wp2
      go_ret
      exact ⟨rfl, v2, H2.out.trans HST.out⟩
end Go.Proofs.YthbffonedpeeiaaDoor
