/-
  WHAT THE PROGRAM's SMALL FUNCTIONS COMPUTE.
-/
import Derived.Test.YtcepcjodhmjghabPa
namespace Go.Proofs.Ytcepcjodhmjghab
open Go Go.RowKit
theorem not_lt_dec (x y : Int) : (!decide (x < y)) = decide (y ≤ x) := by
  by_cases h : x < y
  · rw [decide_eq_true h, decide_eq_false (by omega)]; rfl
  · rw [decide_eq_false h, decide_eq_true (by omega)]; rfl
theorem p_signed (a : Int) (w : World) : Calls Try.prog 46 #[.int .u32 a] w fun e w' => e = .returned (.int .i64 (wrap32 a)) ∧ w' = w := by
  go_enter Try.func46, Try.ntmps46
  go_wp2
  go_ret
  exact ⟨ret_int (by unfold wrap64 wrap32; omega), rfl⟩
theorem p_bit (b : Bool) (w : World) : Calls Try.prog 45 #[.bool b] w fun e w' => e = .returned (.int .u32 (bitI b)) ∧ w' = w := by
  cases b
  all_goals
    go_enter Try.func45, Try.ntmps45
    go_wp2
    go_ret
    exact ⟨rfl, rfl⟩
theorem p_same (a b : Int) (w : World) : Calls Try.prog 37 #[.int .u32 a, .int .u32 b] w fun e w' => e = .returned (.bool (a == b)) ∧ w' = w := by
  go_enter Try.func37, Try.ntmps37
  go_wp2
  go_ret
  exact ⟨rfl, rfl⟩
theorem p_below (a b : Int) (w : World) : Calls Try.prog 41 #[.int .u32 a, .int .u32 b] w fun e w' => e = .returned (.bool (decide (a < b))) ∧ w' = w := by
  go_enter Try.func41, Try.ntmps41
  go_wp2
  go_ret
  exact ⟨rfl, rfl⟩
theorem p_less (a b : Int) (w : World) : Calls Try.prog 39 #[.int .u32 a, .int .u32 b] w fun e w' => e = .returned (.bool (decide (wrap32 a < wrap32 b))) ∧ w' = w := by
  go_enter Try.func39, Try.ntmps39
  go_wp2_with (first
    | (go_at_call 46; refine (p_signed _ _).mono ?_; rintro e w1 ⟨rfl, rfl⟩))
  go_ret
  exact ⟨rfl, rfl⟩
theorem p_upper (a b : Int) (w : World) : Calls Try.prog 16 #[.int .u32 a, .int .u32 b] w fun e w' => e = .returned (.int .u32 (b * 4096 % 4294967296)) ∧ w' = w := by
  go_enter Try.func16, Try.ntmps16
  go_wp2
  go_ret
  exact ⟨ret_int rfl, rfl⟩
theorem p_addUpper (a b : Int) (w : World) : Calls Try.prog 17 #[.int .u32 a, .int .u32 b] w fun e w' => e = .returned (.int .u32 ((a + b * 4096) % 4294967296)) ∧ w' = w := by
  go_enter Try.func17, Try.ntmps17
  go_wp2
  go_ret
  exact ⟨ret_int (by omega), rfl⟩
theorem p_add (a b : Int) (w : World) : Calls Try.prog 18 #[.int .u32 a, .int .u32 b] w fun e w' => e = .returned (.int .u32 ((a + b) % 4294967296)) ∧ w' = w := by
  go_enter Try.func18, Try.ntmps18
  go_wp2
  go_ret
  exact ⟨ret_int rfl, rfl⟩
theorem p_sub (a b : Int) (w : World) : Calls Try.prog 27 #[.int .u32 a, .int .u32 b] w fun e w' => e = .returned (.int .u32 ((a - b) % 4294967296)) ∧ w' = w := by
  go_enter Try.func27, Try.ntmps27
  go_wp2
  go_ret
  exact ⟨ret_int rfl, rfl⟩
theorem p_setLess (a b : Int) (w : World) : Calls Try.prog 19 #[.int .u32 a, .int .u32 b] w fun e w' => e = .returned (.int .u32 (bitI (decide (wrap32 a < wrap32 b)))) ∧ w' = w := by
  go_enter Try.func19, Try.ntmps19
  go_wp2_with (first
    | (go_at_call 45; refine (p_bit _ _).mono ?_; rintro e w1 ⟨rfl, rfl⟩)
    | (go_at_call 39; refine (p_less _ _ _).mono ?_; rintro e w1 ⟨rfl, rfl⟩))
  go_ret
  exact ⟨rfl, rfl⟩
theorem p_setBelow (a b : Int) (w : World) : Calls Try.prog 20 #[.int .u32 a, .int .u32 b] w fun e w' => e = .returned (.int .u32 (bitI (decide (a < b)))) ∧ w' = w := by
  go_enter Try.func20, Try.ntmps20
  go_wp2_with (first
    | (go_at_call 45; refine (p_bit _ _).mono ?_; rintro e w1 ⟨rfl, rfl⟩)
    | (go_at_call 41; refine (p_below _ _ _).mono ?_; rintro e w1 ⟨rfl, rfl⟩))
  go_ret
  exact ⟨rfl, rfl⟩
theorem p_xor (a b : Int) (w : World) : Calls Try.prog 21 #[.int .u32 a, .int .u32 b] w fun e w' => e = .returned (.int .u32 (bits .xor .u32 a b)) ∧ w' = w := by
  go_enter Try.func21, Try.ntmps21
  go_wp2
  go_ret
  exact ⟨rfl, rfl⟩
theorem p_or (a b : Int) (w : World) : Calls Try.prog 22 #[.int .u32 a, .int .u32 b] w fun e w' => e = .returned (.int .u32 (bits .or .u32 a b)) ∧ w' = w := by
  go_enter Try.func22, Try.ntmps22
  go_wp2
  go_ret
  exact ⟨rfl, rfl⟩
theorem p_and (a b : Int) (w : World) : Calls Try.prog 23 #[.int .u32 a, .int .u32 b] w fun e w' => e = .returned (.int .u32 (bits .and .u32 a b)) ∧ w' = w := by
  go_enter Try.func23, Try.ntmps23
  go_wp2
  go_ret
  exact ⟨rfl, rfl⟩
theorem p_left (a b : Int) (w : World) (hb : 0 ≤ b ∧ b < 4294967296) : Calls Try.prog 24 #[.int .u32 a, .int .u32 b] w fun e w' => e = .returned (.int .u32 (a * 2 ^ (b % 32).toNat % 4294967296)) ∧ w' = w := by
  have HM : Hid (bits .and .u32 b 31 = b % 32) := and31 b hb
  have hm0 : 0 ≤ bits .and .u32 b 31 := by rw [HM.out]; omega
  have hm1 : bits .and .u32 b 31 ≤ 31 := by rw [HM.out]; omega
  go_enter Try.func24, Try.ntmps24
  go_wp2
  go_ret
  exact ⟨ret_int (by rw [HM.out]), rfl⟩
theorem p_right (a b : Int) (w : World) (hb : 0 ≤ b ∧ b < 4294967296) : Calls Try.prog 25 #[.int .u32 a, .int .u32 b] w fun e w' => e = .returned (.int .u32 (a / 2 ^ (b % 32).toNat)) ∧ w' = w := by
  have HM : Hid (bits .and .u32 b 31 = b % 32) := and31 b hb
  have hm0 : 0 ≤ bits .and .u32 b 31 := by rw [HM.out]; omega
  have hm1 : bits .and .u32 b 31 ≤ 31 := by rw [HM.out]; omega
  go_enter Try.func25, Try.ntmps25
  go_wp2
  go_ret
  exact ⟨ret_int (by rw [HM.out]), rfl⟩
theorem p_rightSigned (a b : Int) (w : World) (hb : 0 ≤ b ∧ b < 4294967296) : Calls Try.prog 26 #[.int .u32 a, .int .u32 b] w fun e w' => e = .returned (.int .u32 (wrap32 a / 2 ^ (b % 32).toNat % 4294967296)) ∧ w' = w := by
  have HM : Hid (bits .and .u32 b 31 = b % 32) := and31 b hb
  have hm0 : 0 ≤ bits .and .u32 b 31 := by rw [HM.out]; omega
  have hm1 : bits .and .u32 b 31 ≤ 31 := by rw [HM.out]; omega
  go_enter Try.func26, Try.ntmps26
  go_wp2_with (first
    | (go_at_call 46; refine (p_signed _ _).mono ?_; rintro e w1 ⟨rfl, rfl⟩))
  go_ret
  exact ⟨ret_int (by rw [HM.out]), rfl⟩
theorem p_mul (a b : Int) (w : World) : Calls Try.prog 28 #[.int .u32 a, .int .u32 b] w fun e w' => e = .returned (.int .u32 (a * b % 4294967296)) ∧ w' = w := by
  go_enter Try.func28, Try.ntmps28
  go_wp2
  go_ret
  exact ⟨ret_int rfl, rfl⟩
theorem p_mulHigh (a b : Int) (w : World) : Calls Try.prog 29 #[.int .u32 a, .int .u32 b] w fun e w' => e = .returned (.int .u32 (wrap32 a * wrap32 b / 4294967296 % 4294967296)) ∧ w' = w := by
  go_enter Try.func29, Try.ntmps29
  go_wp2_with (first
    | (go_at_call 46; refine (p_signed _ _).mono ?_; rintro e w1 ⟨rfl, rfl⟩))
  go_ret
  exact ⟨ret_int (w64_high _), rfl⟩
theorem p_mulHighMixed (a b : Int) (w : World) (hb : 0 ≤ b ∧ b < 4294967296) : Calls Try.prog 30 #[.int .u32 a, .int .u32 b] w fun e w' => e = .returned (.int .u32 (wrap32 a * b / 4294967296 % 4294967296)) ∧ w' = w := by
  go_enter Try.func30, Try.ntmps30
  go_wp2_with (first
    | (go_at_call 46; refine (p_signed _ _).mono ?_; rintro e w1 ⟨rfl, rfl⟩))
  go_ret
  exact ⟨ret_int (w64_high _), rfl⟩
theorem p_mulHighUnsigned (a b : Int) (w : World) (ha : 0 ≤ a ∧ a < 4294967296) (hb : 0 ≤ b ∧ b < 4294967296) : Calls Try.prog 31 #[.int .u32 a, .int .u32 b] w fun e w' => e = .returned (.int .u32 (a * b / 4294967296 % 4294967296)) ∧ w' = w := by
  go_enter Try.func31, Try.ntmps31
  go_wp2
  go_ret
  exact ⟨ret_int (u64_high _), rfl⟩
theorem p_div0 (a : Int) (w : World) : Calls Try.prog 32 #[.int .u32 a, .int .u32 0] w fun e w' => e = .returned (.int .u32 (4294967295)) ∧ w' = w := by
  go_enter Try.func32, Try.ntmps32
  go_wp2_with (first
    | (go_at_call 46; refine (p_signed _ _).mono ?_; rintro e w1 ⟨rfl, rfl⟩))
  go_ret
  exact ⟨rfl, rfl⟩
theorem p_div1 (a b : Int) (w : World) (hb : 0 < b ∧ b < 4294967296) : Calls Try.prog 32 #[.int .u32 a, .int .u32 b] w fun e w' => e = .returned (.int .u32 ((wrap32 a).tdiv (wrap32 b) % 4294967296)) ∧ w' = w := by
  have h0 : (b == 0) = false := by simp; omega
  have hB0 : ¬ wrap32 b = 0 := by unfold wrap32; omega
  go_enter Try.func32, Try.ntmps32
  go_wp2_with (first
    | (go_at_call 46; refine (p_signed _ _).mono ?_; rintro e w1 ⟨rfl, rfl⟩))
  go_ret
  exact ⟨ret_int (w64_mod _), rfl⟩
theorem p_div (a b : Int) (w : World) (hb : 0 ≤ b ∧ b < 4294967296) : Calls Try.prog 32 #[.int .u32 a, .int .u32 b] w fun e w' => e = .returned (.int .u32 (exI 42 a b)) ∧ w' = w := by
  by_cases h : b = 0
  · subst h
    exact p_div0 a w
  · rw [show exI 42 a b = (if b = 0 then 4294967295 else (wrap32 a).tdiv (wrap32 b) % 4294967296) from rfl, if_neg h]
    exact p_div1 a b w ⟨by omega, hb.2⟩
theorem p_divUnsigned0 (a : Int) (w : World) : Calls Try.prog 33 #[.int .u32 a, .int .u32 0] w fun e w' => e = .returned (.int .u32 (4294967295)) ∧ w' = w := by
  go_enter Try.func33, Try.ntmps33
  go_wp2
  go_ret
  exact ⟨rfl, rfl⟩
theorem p_divUnsigned1 (a b : Int) (w : World) (ha : 0 ≤ a ∧ a < 4294967296) (hb : 0 < b ∧ b < 4294967296) : Calls Try.prog 33 #[.int .u32 a, .int .u32 b] w fun e w' => e = .returned (.int .u32 (a / b)) ∧ w' = w := by
  have h0 : (b == 0) = false := by simp; omega
  have hB0 : ¬ b = 0 := by omega
  have h4 : a.tdiv b = a / b := Int.tdiv_eq_ediv_of_nonneg ha.1
  go_enter Try.func33, Try.ntmps33
  go_wp2
  go_ret
  exact ⟨ret_int (udiv_mod a b ha hb.1), rfl⟩
theorem p_divUnsigned (a b : Int) (w : World) (ha : 0 ≤ a ∧ a < 4294967296) (hb : 0 ≤ b ∧ b < 4294967296) : Calls Try.prog 33 #[.int .u32 a, .int .u32 b] w fun e w' => e = .returned (.int .u32 (exI 43 a b)) ∧ w' = w := by
  by_cases h : b = 0
  · subst h
    exact p_divUnsigned0 a w
  · rw [show exI 43 a b = (if b = 0 then 4294967295 else a / b) from rfl, if_neg h]
    exact p_divUnsigned1 a b w ha ⟨by omega, hb.2⟩
theorem p_rem0 (a : Int) (w : World) : Calls Try.prog 34 #[.int .u32 a, .int .u32 0] w fun e w' => e = .returned (.int .u32 (a)) ∧ w' = w := by
  go_enter Try.func34, Try.ntmps34
  go_wp2_with (first
    | (go_at_call 46; refine (p_signed _ _).mono ?_; rintro e w1 ⟨rfl, rfl⟩))
  go_ret
  exact ⟨rfl, rfl⟩
theorem p_rem1 (a b : Int) (w : World) (hb : 0 < b ∧ b < 4294967296) : Calls Try.prog 34 #[.int .u32 a, .int .u32 b] w fun e w' => e = .returned (.int .u32 ((wrap32 a).tmod (wrap32 b) % 4294967296)) ∧ w' = w := by
  have h0 : (b == 0) = false := by simp; omega
  have hB0 : ¬ wrap32 b = 0 := by unfold wrap32; omega
  go_enter Try.func34, Try.ntmps34
  go_wp2_with (first
    | (go_at_call 46; refine (p_signed _ _).mono ?_; rintro e w1 ⟨rfl, rfl⟩))
  go_ret
  exact ⟨ret_int rfl, rfl⟩
theorem p_rem (a b : Int) (w : World) (hb : 0 ≤ b ∧ b < 4294967296) : Calls Try.prog 34 #[.int .u32 a, .int .u32 b] w fun e w' => e = .returned (.int .u32 (exI 44 a b)) ∧ w' = w := by
  by_cases h : b = 0
  · subst h
    exact p_rem0 a w
  · rw [show exI 44 a b = (if b = 0 then a else (wrap32 a).tmod (wrap32 b) % 4294967296) from rfl, if_neg h]
    exact p_rem1 a b w ⟨by omega, hb.2⟩
theorem p_remUnsigned0 (a : Int) (w : World) : Calls Try.prog 35 #[.int .u32 a, .int .u32 0] w fun e w' => e = .returned (.int .u32 (a)) ∧ w' = w := by
  go_enter Try.func35, Try.ntmps35
  go_wp2
  go_ret
  exact ⟨rfl, rfl⟩
theorem p_remUnsigned1 (a b : Int) (w : World) (ha : 0 ≤ a ∧ a < 4294967296) (hb : 0 < b ∧ b < 4294967296) : Calls Try.prog 35 #[.int .u32 a, .int .u32 b] w fun e w' => e = .returned (.int .u32 (a % b)) ∧ w' = w := by
  have h0 : (b == 0) = false := by simp; omega
  have hB0 : ¬ b = 0 := by omega
  have h5 : a.tmod b = a % b := Int.tmod_eq_emod_of_nonneg ha.1
  go_enter Try.func35, Try.ntmps35
  go_wp2
  go_ret
  exact ⟨ret_int rfl, rfl⟩
theorem p_remUnsigned (a b : Int) (w : World) (ha : 0 ≤ a ∧ a < 4294967296) (hb : 0 ≤ b ∧ b < 4294967296) : Calls Try.prog 35 #[.int .u32 a, .int .u32 b] w fun e w' => e = .returned (.int .u32 (exI 45 a b)) ∧ w' = w := by
  by_cases h : b = 0
  · subst h
    exact p_remUnsigned0 a w
  · rw [show exI 45 a b = (if b = 0 then a else a % b) from rfl, if_neg h]
    exact p_remUnsigned1 a b w ha ⟨by omega, hb.2⟩
theorem p_asking1 (a b : Int) (w : World) : Calls Try.prog 38 #[.int .u32 a, .int .u32 b] w fun e w' => e = .returned (.bool (a != b)) ∧ w' = w := by
  go_enter Try.func38, Try.ntmps38
  go_wp2_with (first
    | (go_at_call 37; refine (p_same _ _ _).mono ?_; rintro e w1 ⟨rfl, rfl⟩))
  go_ret
  exact ⟨rfl, rfl⟩
theorem p_asking2 (a b : Int) (w : World) : Calls Try.prog 40 #[.int .u32 a, .int .u32 b] w fun e w' => e = .returned (.bool (decide (wrap32 b ≤ wrap32 a))) ∧ w' = w := by
  go_enter Try.func40, Try.ntmps40
  go_wp2_with (first
    | (go_at_call 39; refine (p_less _ _ _).mono ?_; rintro e w1 ⟨rfl, rfl⟩))
  go_ret
  exact ⟨by rw [not_lt_dec]; rfl, rfl⟩
theorem p_asking3 (a b : Int) (w : World) : Calls Try.prog 42 #[.int .u32 a, .int .u32 b] w fun e w' => e = .returned (.bool (decide (b ≤ a))) ∧ w' = w := by
  go_enter Try.func42, Try.ntmps42
  go_wp2_with (first
    | (go_at_call 41; refine (p_below _ _ _).mono ?_; rintro e w1 ⟨rfl, rfl⟩))
  go_ret
  exact ⟨by rw [not_lt_dec]; rfl, rfl⟩
end Go.Proofs.Ytcepcjodhmjghab
