/-
  WHAT THE PROGRAM's SMALL FUNCTIONS COMPUTE.
-/
import Derived.Test.YtnlagbiikpbjdaaGreatDoorPa
namespace Go.Proofs.YtnlagbiikpbjdaaGreatDoor
open Go Go.RowKit
theorem not_lt_dec (x y : Int) : (!decide (x < y)) = decide (y ≤ x) := by
  by_cases h : x < y
  · rw [decide_eq_true h, decide_eq_false (by omega)]; rfl
  · rw [decide_eq_false h, decide_eq_true (by omega)]; rfl
theorem p_signed (a : Int) (w : World) : Calls Tryz.prog 170 #[.int .u32 a] w fun e w' => e = .returned (.int .i64 (wrap32 a)) ∧ w' = w := by
  go_enter Tryz.func170, Tryz.ntmps170
  go_wp2
  go_ret
  exact ⟨ret_int (by unfold wrap64 wrap32; omega), rfl⟩
theorem p_bit (b : Bool) (w : World) : Calls Tryz.prog 169 #[.bool b] w fun e w' => e = .returned (.int .u32 (bitI b)) ∧ w' = w := by
  cases b
  all_goals
    go_enter Tryz.func169, Tryz.ntmps169
    go_wp2
    go_ret
    exact ⟨rfl, rfl⟩
theorem p_same (a b : Int) (w : World) : Calls Tryz.prog 163 #[.int .u32 a, .int .u32 b] w fun e w' => e = .returned (.bool (a == b)) ∧ w' = w := by
  go_enter Tryz.func163, Tryz.ntmps163
  go_wp2
  go_ret
  exact ⟨rfl, rfl⟩
theorem p_below (a b : Int) (w : World) : Calls Tryz.prog 166 #[.int .u32 a, .int .u32 b] w fun e w' => e = .returned (.bool (decide (a < b))) ∧ w' = w := by
  go_enter Tryz.func166, Tryz.ntmps166
  go_wp2
  go_ret
  exact ⟨rfl, rfl⟩
theorem p_less (a b : Int) (w : World) : Calls Tryz.prog 159 #[.int .u32 a, .int .u32 b] w fun e w' => e = .returned (.bool (decide (wrap32 a < wrap32 b))) ∧ w' = w := by
  go_enter Tryz.func159, Tryz.ntmps159
  go_wp2_with (first
    | (go_at_call 170; refine (p_signed _ _).mono ?_; rintro e w1 ⟨rfl, rfl⟩))
  go_ret
  exact ⟨rfl, rfl⟩
theorem p_upper (a b : Int) (w : World) : Calls Tryz.prog 132 #[.int .u32 a, .int .u32 b] w fun e w' => e = .returned (.int .u32 (b * 4096 % 4294967296)) ∧ w' = w := by
  go_enter Tryz.func132, Tryz.ntmps132
  go_wp2
  go_ret
  exact ⟨ret_int rfl, rfl⟩
theorem p_addUpper (a b : Int) (w : World) : Calls Tryz.prog 133 #[.int .u32 a, .int .u32 b] w fun e w' => e = .returned (.int .u32 ((a + b * 4096) % 4294967296)) ∧ w' = w := by
  go_enter Tryz.func133, Tryz.ntmps133
  go_wp2
  go_ret
  exact ⟨ret_int (by omega), rfl⟩
theorem p_add (a b : Int) (w : World) : Calls Tryz.prog 115 #[.int .u32 a, .int .u32 b] w fun e w' => e = .returned (.int .u32 ((a + b) % 4294967296)) ∧ w' = w := by
  go_enter Tryz.func115, Tryz.ntmps115
  go_wp2
  go_ret
  exact ⟨ret_int rfl, rfl⟩
theorem p_sub (a b : Int) (w : World) : Calls Tryz.prog 139 #[.int .u32 a, .int .u32 b] w fun e w' => e = .returned (.int .u32 ((a - b) % 4294967296)) ∧ w' = w := by
  go_enter Tryz.func139, Tryz.ntmps139
  go_wp2
  go_ret
  exact ⟨ret_int rfl, rfl⟩
theorem p_setLess (a b : Int) (w : World) : Calls Tryz.prog 134 #[.int .u32 a, .int .u32 b] w fun e w' => e = .returned (.int .u32 (bitI (decide (wrap32 a < wrap32 b)))) ∧ w' = w := by
  go_enter Tryz.func134, Tryz.ntmps134
  go_wp2_with (first
    | (go_at_call 169; refine (p_bit _ _).mono ?_; rintro e w1 ⟨rfl, rfl⟩)
    | (go_at_call 159; refine (p_less _ _ _).mono ?_; rintro e w1 ⟨rfl, rfl⟩))
  go_ret
  exact ⟨rfl, rfl⟩
theorem p_setBelow (a b : Int) (w : World) : Calls Tryz.prog 135 #[.int .u32 a, .int .u32 b] w fun e w' => e = .returned (.int .u32 (bitI (decide (a < b)))) ∧ w' = w := by
  go_enter Tryz.func135, Tryz.ntmps135
  go_wp2_with (first
    | (go_at_call 169; refine (p_bit _ _).mono ?_; rintro e w1 ⟨rfl, rfl⟩)
    | (go_at_call 166; refine (p_below _ _ _).mono ?_; rintro e w1 ⟨rfl, rfl⟩))
  go_ret
  exact ⟨rfl, rfl⟩
theorem p_xor (a b : Int) (w : World) : Calls Tryz.prog 116 #[.int .u32 a, .int .u32 b] w fun e w' => e = .returned (.int .u32 (bits .xor .u32 a b)) ∧ w' = w := by
  go_enter Tryz.func116, Tryz.ntmps116
  go_wp2
  go_ret
  exact ⟨rfl, rfl⟩
theorem p_or (a b : Int) (w : World) : Calls Tryz.prog 118 #[.int .u32 a, .int .u32 b] w fun e w' => e = .returned (.int .u32 (bits .or .u32 a b)) ∧ w' = w := by
  go_enter Tryz.func118, Tryz.ntmps118
  go_wp2
  go_ret
  exact ⟨rfl, rfl⟩
theorem p_and (a b : Int) (w : World) : Calls Tryz.prog 117 #[.int .u32 a, .int .u32 b] w fun e w' => e = .returned (.int .u32 (bits .and .u32 a b)) ∧ w' = w := by
  go_enter Tryz.func117, Tryz.ntmps117
  go_wp2
  go_ret
  exact ⟨rfl, rfl⟩
theorem p_left (a b : Int) (w : World) (hb : 0 ≤ b ∧ b < 4294967296) : Calls Tryz.prog 136 #[.int .u32 a, .int .u32 b] w fun e w' => e = .returned (.int .u32 (a * 2 ^ (b % 32).toNat % 4294967296)) ∧ w' = w := by
  have HM : Hid (bits .and .u32 b 31 = b % 32) := and31 b hb
  have hm0 : 0 ≤ bits .and .u32 b 31 := by rw [HM.out]; omega
  have hm1 : bits .and .u32 b 31 ≤ 31 := by rw [HM.out]; omega
  go_enter Tryz.func136, Tryz.ntmps136
  go_wp2
  go_ret
  exact ⟨ret_int (by rw [HM.out]), rfl⟩
theorem p_right (a b : Int) (w : World) (hb : 0 ≤ b ∧ b < 4294967296) : Calls Tryz.prog 137 #[.int .u32 a, .int .u32 b] w fun e w' => e = .returned (.int .u32 (a / 2 ^ (b % 32).toNat)) ∧ w' = w := by
  have HM : Hid (bits .and .u32 b 31 = b % 32) := and31 b hb
  have hm0 : 0 ≤ bits .and .u32 b 31 := by rw [HM.out]; omega
  have hm1 : bits .and .u32 b 31 ≤ 31 := by rw [HM.out]; omega
  go_enter Tryz.func137, Tryz.ntmps137
  go_wp2
  go_ret
  exact ⟨ret_int (by rw [HM.out]), rfl⟩
theorem p_rightSigned (a b : Int) (w : World) (hb : 0 ≤ b ∧ b < 4294967296) : Calls Tryz.prog 138 #[.int .u32 a, .int .u32 b] w fun e w' => e = .returned (.int .u32 (wrap32 a / 2 ^ (b % 32).toNat % 4294967296)) ∧ w' = w := by
  have HM : Hid (bits .and .u32 b 31 = b % 32) := and31 b hb
  have hm0 : 0 ≤ bits .and .u32 b 31 := by rw [HM.out]; omega
  have hm1 : bits .and .u32 b 31 ≤ 31 := by rw [HM.out]; omega
  go_enter Tryz.func138, Tryz.ntmps138
  go_wp2_with (first
    | (go_at_call 170; refine (p_signed _ _).mono ?_; rintro e w1 ⟨rfl, rfl⟩))
  go_ret
  exact ⟨ret_int (by rw [HM.out]), rfl⟩
theorem p_mul (a b : Int) (w : World) : Calls Tryz.prog 140 #[.int .u32 a, .int .u32 b] w fun e w' => e = .returned (.int .u32 (a * b % 4294967296)) ∧ w' = w := by
  go_enter Tryz.func140, Tryz.ntmps140
  go_wp2
  go_ret
  exact ⟨ret_int rfl, rfl⟩
theorem p_mulHigh (a b : Int) (w : World) : Calls Tryz.prog 141 #[.int .u32 a, .int .u32 b] w fun e w' => e = .returned (.int .u32 (wrap32 a * wrap32 b / 4294967296 % 4294967296)) ∧ w' = w := by
  go_enter Tryz.func141, Tryz.ntmps141
  go_wp2_with (first
    | (go_at_call 170; refine (p_signed _ _).mono ?_; rintro e w1 ⟨rfl, rfl⟩))
  go_ret
  exact ⟨ret_int (w64_high _), rfl⟩
theorem p_mulHighMixed (a b : Int) (w : World) (hb : 0 ≤ b ∧ b < 4294967296) : Calls Tryz.prog 142 #[.int .u32 a, .int .u32 b] w fun e w' => e = .returned (.int .u32 (wrap32 a * b / 4294967296 % 4294967296)) ∧ w' = w := by
  go_enter Tryz.func142, Tryz.ntmps142
  go_wp2_with (first
    | (go_at_call 170; refine (p_signed _ _).mono ?_; rintro e w1 ⟨rfl, rfl⟩))
  go_ret
  exact ⟨ret_int (w64_high _), rfl⟩
theorem p_mulHighUnsigned (a b : Int) (w : World) (ha : 0 ≤ a ∧ a < 4294967296) (hb : 0 ≤ b ∧ b < 4294967296) : Calls Tryz.prog 143 #[.int .u32 a, .int .u32 b] w fun e w' => e = .returned (.int .u32 (a * b / 4294967296 % 4294967296)) ∧ w' = w := by
  go_enter Tryz.func143, Tryz.ntmps143
  go_wp2
  go_ret
  exact ⟨ret_int (u64_high _), rfl⟩
theorem p_div0 (a : Int) (w : World) : Calls Tryz.prog 144 #[.int .u32 a, .int .u32 0] w fun e w' => e = .returned (.int .u32 (4294967295)) ∧ w' = w := by
  go_enter Tryz.func144, Tryz.ntmps144
  go_wp2_with (first
    | (go_at_call 170; refine (p_signed _ _).mono ?_; rintro e w1 ⟨rfl, rfl⟩))
  go_ret
  exact ⟨rfl, rfl⟩
theorem p_div1 (a b : Int) (w : World) (hb : 0 < b ∧ b < 4294967296) : Calls Tryz.prog 144 #[.int .u32 a, .int .u32 b] w fun e w' => e = .returned (.int .u32 ((wrap32 a).tdiv (wrap32 b) % 4294967296)) ∧ w' = w := by
  have h0 : (b == 0) = false := by simp; omega
  have hB0 : ¬ wrap32 b = 0 := by unfold wrap32; omega
  go_enter Tryz.func144, Tryz.ntmps144
  go_wp2_with (first
    | (go_at_call 170; refine (p_signed _ _).mono ?_; rintro e w1 ⟨rfl, rfl⟩))
  go_ret
  exact ⟨ret_int (w64_mod _), rfl⟩
theorem p_div (a b : Int) (w : World) (hb : 0 ≤ b ∧ b < 4294967296) : Calls Tryz.prog 144 #[.int .u32 a, .int .u32 b] w fun e w' => e = .returned (.int .u32 (exI 42 a b)) ∧ w' = w := by
  by_cases h : b = 0
  · subst h
    exact p_div0 a w
  · rw [show exI 42 a b = (if b = 0 then 4294967295 else (wrap32 a).tdiv (wrap32 b) % 4294967296) from rfl, if_neg h]
    exact p_div1 a b w ⟨by omega, hb.2⟩
theorem p_divUnsigned0 (a : Int) (w : World) : Calls Tryz.prog 145 #[.int .u32 a, .int .u32 0] w fun e w' => e = .returned (.int .u32 (4294967295)) ∧ w' = w := by
  go_enter Tryz.func145, Tryz.ntmps145
  go_wp2
  go_ret
  exact ⟨rfl, rfl⟩
theorem p_divUnsigned1 (a b : Int) (w : World) (ha : 0 ≤ a ∧ a < 4294967296) (hb : 0 < b ∧ b < 4294967296) : Calls Tryz.prog 145 #[.int .u32 a, .int .u32 b] w fun e w' => e = .returned (.int .u32 (a / b)) ∧ w' = w := by
  have h0 : (b == 0) = false := by simp; omega
  have hB0 : ¬ b = 0 := by omega
  have h4 : a.tdiv b = a / b := Int.tdiv_eq_ediv_of_nonneg ha.1
  go_enter Tryz.func145, Tryz.ntmps145
  go_wp2
  go_ret
  exact ⟨ret_int (udiv_mod a b ha hb.1), rfl⟩
theorem p_divUnsigned (a b : Int) (w : World) (ha : 0 ≤ a ∧ a < 4294967296) (hb : 0 ≤ b ∧ b < 4294967296) : Calls Tryz.prog 145 #[.int .u32 a, .int .u32 b] w fun e w' => e = .returned (.int .u32 (exI 43 a b)) ∧ w' = w := by
  by_cases h : b = 0
  · subst h
    exact p_divUnsigned0 a w
  · rw [show exI 43 a b = (if b = 0 then 4294967295 else a / b) from rfl, if_neg h]
    exact p_divUnsigned1 a b w ha ⟨by omega, hb.2⟩
theorem p_rem0 (a : Int) (w : World) : Calls Tryz.prog 146 #[.int .u32 a, .int .u32 0] w fun e w' => e = .returned (.int .u32 (a)) ∧ w' = w := by
  go_enter Tryz.func146, Tryz.ntmps146
  go_wp2_with (first
    | (go_at_call 170; refine (p_signed _ _).mono ?_; rintro e w1 ⟨rfl, rfl⟩))
  go_ret
  exact ⟨rfl, rfl⟩
theorem p_rem1 (a b : Int) (w : World) (hb : 0 < b ∧ b < 4294967296) : Calls Tryz.prog 146 #[.int .u32 a, .int .u32 b] w fun e w' => e = .returned (.int .u32 ((wrap32 a).tmod (wrap32 b) % 4294967296)) ∧ w' = w := by
  have h0 : (b == 0) = false := by simp; omega
  have hB0 : ¬ wrap32 b = 0 := by unfold wrap32; omega
  go_enter Tryz.func146, Tryz.ntmps146
  go_wp2_with (first
    | (go_at_call 170; refine (p_signed _ _).mono ?_; rintro e w1 ⟨rfl, rfl⟩))
  go_ret
  exact ⟨ret_int rfl, rfl⟩
theorem p_rem (a b : Int) (w : World) (hb : 0 ≤ b ∧ b < 4294967296) : Calls Tryz.prog 146 #[.int .u32 a, .int .u32 b] w fun e w' => e = .returned (.int .u32 (exI 44 a b)) ∧ w' = w := by
  by_cases h : b = 0
  · subst h
    exact p_rem0 a w
  · rw [show exI 44 a b = (if b = 0 then a else (wrap32 a).tmod (wrap32 b) % 4294967296) from rfl, if_neg h]
    exact p_rem1 a b w ⟨by omega, hb.2⟩
theorem p_remUnsigned0 (a : Int) (w : World) : Calls Tryz.prog 147 #[.int .u32 a, .int .u32 0] w fun e w' => e = .returned (.int .u32 (a)) ∧ w' = w := by
  go_enter Tryz.func147, Tryz.ntmps147
  go_wp2
  go_ret
  exact ⟨rfl, rfl⟩
theorem p_remUnsigned1 (a b : Int) (w : World) (ha : 0 ≤ a ∧ a < 4294967296) (hb : 0 < b ∧ b < 4294967296) : Calls Tryz.prog 147 #[.int .u32 a, .int .u32 b] w fun e w' => e = .returned (.int .u32 (a % b)) ∧ w' = w := by
  have h0 : (b == 0) = false := by simp; omega
  have hB0 : ¬ b = 0 := by omega
  have h5 : a.tmod b = a % b := Int.tmod_eq_emod_of_nonneg ha.1
  go_enter Tryz.func147, Tryz.ntmps147
  go_wp2
  go_ret
  exact ⟨ret_int rfl, rfl⟩
theorem p_remUnsigned (a b : Int) (w : World) (ha : 0 ≤ a ∧ a < 4294967296) (hb : 0 ≤ b ∧ b < 4294967296) : Calls Tryz.prog 147 #[.int .u32 a, .int .u32 b] w fun e w' => e = .returned (.int .u32 (exI 45 a b)) ∧ w' = w := by
  by_cases h : b = 0
  · subst h
    exact p_remUnsigned0 a w
  · rw [show exI 45 a b = (if b = 0 then a else a % b) from rfl, if_neg h]
    exact p_remUnsigned1 a b w ha ⟨by omega, hb.2⟩
theorem p_asking1 (a b : Int) (w : World) : Calls Tryz.prog 164 #[.int .u32 a, .int .u32 b] w fun e w' => e = .returned (.bool (a != b)) ∧ w' = w := by
  go_enter Tryz.func164, Tryz.ntmps164
  go_wp2_with (first
    | (go_at_call 163; refine (p_same _ _ _).mono ?_; rintro e w1 ⟨rfl, rfl⟩))
  go_ret
  exact ⟨rfl, rfl⟩
theorem p_asking2 (a b : Int) (w : World) : Calls Tryz.prog 165 #[.int .u32 a, .int .u32 b] w fun e w' => e = .returned (.bool (decide (wrap32 b ≤ wrap32 a))) ∧ w' = w := by
  go_enter Tryz.func165, Tryz.ntmps165
  go_wp2_with (first
    | (go_at_call 159; refine (p_less _ _ _).mono ?_; rintro e w1 ⟨rfl, rfl⟩))
  go_ret
  exact ⟨by rw [not_lt_dec]; rfl, rfl⟩
theorem p_asking3 (a b : Int) (w : World) : Calls Tryz.prog 167 #[.int .u32 a, .int .u32 b] w fun e w' => e = .returned (.bool (decide (b ≤ a))) ∧ w' = w := by
  go_enter Tryz.func167, Tryz.ntmps167
  go_wp2_with (first
    | (go_at_call 166; refine (p_below _ _ _).mono ?_; rintro e w1 ⟨rfl, rfl⟩))
  go_ret
  exact ⟨by rw [not_lt_dec]; rfl, rfl⟩
end Go.Proofs.YtnlagbiikpbjdaaGreatDoor
