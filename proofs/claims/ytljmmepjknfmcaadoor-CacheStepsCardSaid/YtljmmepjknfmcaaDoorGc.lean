/-
  CACHE: New, refused; the answer's New.
-/
import Derived.Test.YtljmmepjknfmcaaDoorGb
import Derived.Test.YtljmmepjknfmcaaDoorBh
namespace Go.Proofs.YtljmmepjknfmcaaDoor
open Go Go.RowKit
def isN (n : Int) : Prop := n = 1 ∨ n = 2 ∨ n = 4 ∨ n = 8 ∨ n = 16
set_option maxRecDepth 100000 in
set_option maxHeartbeats 2000000 in
theorem isShape_bad (n k : Int) (w : World) (hn63 : -9223372036854775808 ≤ n ∧ n ≤ 9223372036854775807) (h : ¬ (isN n ∧ 1 ≤ k ∧ k ≤ 4)) : Calls Tryd.prog 19 #[.agg #[.int .i64 n, .int .i64 k]] w fun e w' => e = .returned (.bool false) ∧ Below w.heap.size w w' := by
  have hu : undef = Value.tuple #[] := rfl
  have main : n ≤ 0 ∨ 16 < n ∨ (n = 3 ∨ n = 5 ∨ n = 6 ∨ n = 7 ∨ n = 9 ∨ n = 10 ∨ n = 11 ∨ n = 12 ∨ n = 13 ∨ n = 14 ∨ n = 15) ∨ (isN n ∧ k < 1) ∨ (isN n ∧ 1 ≤ k ∧ 4 < k) := by
    unfold isN at *
    omega
  obtain ⟨hn1, hn2⟩ := hn63
  rcases main with h0 | h0 | h0 | ⟨h0, hk⟩ | ⟨h0, hk, hk4⟩
  · have hd : decide (0 < n) = false := by simp; omega
    go_enter Tryd.func19, Tryd.ntmps19
    go_wp2
    go_ret
    exact ⟨by simp, (Below.refl _ _).alloc (Nat.le_refl _) _⟩
  · have hd : decide (0 < n) = true := by simp; omega
    have hd2 : decide (n ≤ 16) = false := by simp; omega
    obtain ⟨y, hy⟩ : ∃ y, bits .and .i64 n (n - 1) = y := ⟨_, rfl⟩
    by_cases hy0 : y = 0
    · subst hy0
      go_enter Tryd.func19, Tryd.ntmps19
      go_wp2
      go_ret
      exact ⟨by simp, (Below.refl _ _).alloc (Nat.le_refl _) _⟩
    · have hyd : (y == 0) = false := by simp [hy0]
      go_enter Tryd.func19, Tryd.ntmps19
      go_wp2
      go_ret
      exact ⟨by simp, (Below.refl _ _).alloc (Nat.le_refl _) _⟩
  · have e3 : (bits .and .i64 3 2 == 0) = false := by decide +kernel
    have e5 : (bits .and .i64 5 4 == 0) = false := by decide +kernel
    have e6 : (bits .and .i64 6 5 == 0) = false := by decide +kernel
    have e7 : (bits .and .i64 7 6 == 0) = false := by decide +kernel
    have e9 : (bits .and .i64 9 8 == 0) = false := by decide +kernel
    have e10 : (bits .and .i64 10 9 == 0) = false := by decide +kernel
    have e11 : (bits .and .i64 11 10 == 0) = false := by decide +kernel
    have e12 : (bits .and .i64 12 11 == 0) = false := by decide +kernel
    have e13 : (bits .and .i64 13 12 == 0) = false := by decide +kernel
    have e14 : (bits .and .i64 14 13 == 0) = false := by decide +kernel
    have e15 : (bits .and .i64 15 14 == 0) = false := by decide +kernel
    rcases h0 with rfl | rfl | rfl | rfl | rfl | rfl | rfl | rfl | rfl | rfl | rfl
    all_goals
      go_enter Tryd.func19, Tryd.ntmps19
      go_wp2
      go_ret
      exact ⟨by simp, (Below.refl _ _).alloc (Nat.le_refl _) _⟩
  · have e1 : bits .and .i64 1 0 = 0 := by decide +kernel
    have e2 : bits .and .i64 2 1 = 0 := by decide +kernel
    have e4 : bits .and .i64 4 3 = 0 := by decide +kernel
    have e8 : bits .and .i64 8 7 = 0 := by decide +kernel
    have e16 : bits .and .i64 16 15 = 0 := by decide +kernel
    have hkd : decide (1 ≤ k) = false := by simp; omega
    rcases h0 with rfl | rfl | rfl | rfl | rfl
    all_goals
      go_enter Tryd.func19, Tryd.ntmps19
      go_wp2
      go_ret
      exact ⟨by simp, (Below.refl _ _).alloc (Nat.le_refl _) _⟩
  · have e1 : bits .and .i64 1 0 = 0 := by decide +kernel
    have e2 : bits .and .i64 2 1 = 0 := by decide +kernel
    have e4 : bits .and .i64 4 3 = 0 := by decide +kernel
    have e8 : bits .and .i64 8 7 = 0 := by decide +kernel
    have e16 : bits .and .i64 16 15 = 0 := by decide +kernel
    have hkd : decide (1 ≤ k) = true := by simp; omega
    have hkd4 : decide (k ≤ 4) = false := by simp; omega
    rcases h0 with rfl | rfl | rfl | rfl | rfl
    all_goals
      go_enter Tryd.func19, Tryd.ntmps19
      go_wp2
      go_ret
      exact ⟨by simp, (Below.refl _ _).alloc (Nat.le_refl _) _⟩
set_option maxRecDepth 100000 in
set_option maxHeartbeats 2000000 in
theorem new_bad (n k : Int) (w : World) (hn63 : -9223372036854775808 ≤ n ∧ n ≤ 9223372036854775807) (h : ¬ (isN n ∧ 1 ≤ k ∧ k ≤ 4)) : Calls Tryd.prog 4 #[.agg #[.int .i64 n, .int .i64 k]] w fun e w' => e = .returned (.tuple #[.pointer none, errV 2]) ∧ Below w.heap.size w w' := by
  have HN := Hid.in hn63
  have HH := Hid.in h
  have HB0 := Hid.in ((Below.refl _ w).alloc (Nat.le_refl _) (.cells #[.int .i64 n, .int .i64 k] 29))
  clear hn63 h
  go_enter Tryd.func4, Tryd.ntmps4
  go_wp2_with (go_at_call 19; refine (isShape_bad n k _ HN.out HH.out).mono ?_; rintro e w1 ⟨rfl, hb⟩; have HB := Hid.in hb; clear hb)
  refine bodyPost_ret (results_tmp2 Tryd.results4 _ _ _) rfl ?_
  exact ⟨rfl, HB0.out.trans (HB.out.mono HB0.out.size)⟩
set_option maxRecDepth 100000 in
set_option maxHeartbeats 2000000 in
theorem rnew_good (B n k : Nat) (w : World) (hB : B ≤ w.heap.size) (hn : n = 1 ∨ n = 2 ∨ n = 4 ∨ n = 8 ∨ n = 16) (hk : 1 ≤ k ∧ k ≤ 4) : Calls Tryd.prog 5 #[.int .i64 n, .int .i64 k] w fun e w' => e = .returned (.tuple #[.pointer (some ⟨w.heap.size, 0, none⟩), .int .i64 0]) ∧ RC w' B w.heap.size (.slice none 0 0) n k [] ∧ Below w.heap.size w w' := by
  have hu : undef = Value.tuple #[] := rfl
  have HF : Hid (RC (w.alloc (.cells #[.int .i64 n, .int .i64 k, .slice none 0 0] 67)) B w.heap.size (.slice none 0 0) n k [] ∧ Below w.heap.size w (w.alloc (.cells #[.int .i64 n, .int .i64 k, .slice none 0 0] 67))) := by
    refine ⟨⟨cells_new w (fun i hi => ?_), World.ownsRow_nil _ _ _ _, by simp [Value.ownBlock], by simp; omega, hB⟩, (Below.refl _ _).alloc (Nat.le_refl _) _⟩
    match i, hi with
    | 0, _ => rfl
    | 1, _ => rfl
    | 2, _ => rfl
  obtain ⟨k1, k4⟩ := hk
  have hd1 : decide ((k : Int) < 1) = false := by simp; omega
  have hd4 : decide ((4 : Int) < k) = false := by simp; omega
  rcases hn with rfl | rfl | rfl | rfl | rfl
  all_goals
    go_enter Tryd.func5, Tryd.ntmps5
    go_wp2
    refine bodyPost_ret (results_tmp2 Tryd.results5 _ _ _) rfl ?_
    exact ⟨rfl, HF.out⟩
set_option maxRecDepth 100000 in
set_option maxHeartbeats 2000000 in
theorem rnew_bad (n k : Int) (w : World) (h : ¬ (isN n ∧ 1 ≤ k ∧ k ≤ 4)) : Calls Tryd.prog 5 #[.int .i64 n, .int .i64 k] w fun e w' => e = .returned (.tuple #[.pointer none, .int .i64 2]) ∧ w' = w := by
  have hu : undef = Value.tuple #[] := rfl
  by_cases hn : isN n
  · have hk : k < 1 ∨ (1 ≤ k ∧ 4 < k) := by
      have : ¬ (1 ≤ k ∧ k ≤ 4) := fun q => h ⟨hn, q⟩
      omega
    rcases hk with hk | ⟨hk, hk4⟩
    · have hd1 : decide (k < 1) = true := by simp [hk]
      rcases hn with rfl | rfl | rfl | rfl | rfl
      all_goals
        go_enter Tryd.func5, Tryd.ntmps5
        go_wp2
        refine bodyPost_ret (results_tmp2 Tryd.results5 _ _ _) rfl ?_
        exact ⟨rfl, rfl⟩
    · have hd1 : decide (k < 1) = false := by simp; omega
      have hd4 : decide (4 < k) = true := by simp [hk4]
      rcases hn with rfl | rfl | rfl | rfl | rfl
      all_goals
        go_enter Tryd.func5, Tryd.ntmps5
        go_wp2
        refine bodyPost_ret (results_tmp2 Tryd.results5 _ _ _) rfl ?_
        exact ⟨rfl, rfl⟩
  · have d1 : (n != 1) = true := by unfold isN at hn; simp; omega
    have d2 : (n != 2) = true := by unfold isN at hn; simp; omega
    have d4 : (n != 4) = true := by unfold isN at hn; simp; omega
    have d8 : (n != 8) = true := by unfold isN at hn; simp; omega
    have d16 : (n != 16) = true := by unfold isN at hn; simp; omega
    clear hn h
    go_enter Tryd.func5, Tryd.ntmps5
    go_wp2
    refine bodyPost_ret (results_tmp2 Tryd.results5 _ _ _) rfl ?_
    exact ⟨rfl, rfl⟩
end Go.Proofs.YtljmmepjknfmcaaDoor
