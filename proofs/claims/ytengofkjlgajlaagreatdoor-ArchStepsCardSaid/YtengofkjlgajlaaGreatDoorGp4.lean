import Derived.Test.YtengofkjlgajlaaGreatDoorGp2
/-
  THE ANSWER's Exec, OPERATION BY OPERATION.
-/
namespace Go.Proofs.YtengofkjlgajlaaGreatDoor
open Go Go.RowKit
set_option maxHeartbeats 4000000 in
theorem exec_1 (a b : Int) (w : World) (ha : 0 ≤ a ∧ a < 4294967296) (hb : 0 ≤ b ∧ b < 4294967296) : Calls Tryz.prog 87 #[.int .i64 1, .int .u32 a, .int .u32 b] w fun e w' => e = .returned (.int .u32 (b * 4096 % 4294967296)) ∧ Below w.heap.size w w' := by
  have hs : nameOp 1 = ⟨#[108, 117, 105]⟩ := by kernel_rfl
  go_enter Tryz.func87, Tryz.ntmps87
  go_wp2_with (first
    | (go_at_call 88; refine (signed3_any _ _).mono ?_; rintro e w1 ⟨rfl, rfl⟩)
    | (go_at_call 111; refine (bit_any _ _).mono ?_; rintro e w1 ⟨rfl, rfl⟩)
    | (go_at_call 74; refine (name_any _ _).mono ?_; rintro e w1 ⟨rfl, hb1⟩; rw [hs]))
  go_ret
  exact ⟨ret_int (rfl), hb1⟩
set_option maxHeartbeats 4000000 in
theorem exec_2 (a b : Int) (w : World) (ha : 0 ≤ a ∧ a < 4294967296) (hb : 0 ≤ b ∧ b < 4294967296) : Calls Tryz.prog 87 #[.int .i64 2, .int .u32 a, .int .u32 b] w fun e w' => e = .returned (.int .u32 ((a + b * 4096) % 4294967296)) ∧ Below w.heap.size w w' := by
  have hs : nameOp 2 = ⟨#[97, 117, 105, 112, 99]⟩ := by kernel_rfl
  go_enter Tryz.func87, Tryz.ntmps87
  go_wp2_with (first
    | (go_at_call 88; refine (signed3_any _ _).mono ?_; rintro e w1 ⟨rfl, rfl⟩)
    | (go_at_call 111; refine (bit_any _ _).mono ?_; rintro e w1 ⟨rfl, rfl⟩)
    | (go_at_call 74; refine (name_any _ _).mono ?_; rintro e w1 ⟨rfl, hb1⟩; rw [hs]))
  go_ret
  exact ⟨ret_int (by omega), hb1⟩
set_option maxHeartbeats 4000000 in
theorem exec_19 (a b : Int) (w : World) (ha : 0 ≤ a ∧ a < 4294967296) (hb : 0 ≤ b ∧ b < 4294967296) : Calls Tryz.prog 87 #[.int .i64 19, .int .u32 a, .int .u32 b] w fun e w' => e = .returned (.int .u32 ((a + b) % 4294967296)) ∧ Below w.heap.size w w' := by
  have hs : nameOp 19 = ⟨#[97, 100, 100, 105]⟩ := by kernel_rfl
  go_enter Tryz.func87, Tryz.ntmps87
  go_wp2_with (first
    | (go_at_call 88; refine (signed3_any _ _).mono ?_; rintro e w1 ⟨rfl, rfl⟩)
    | (go_at_call 111; refine (bit_any _ _).mono ?_; rintro e w1 ⟨rfl, rfl⟩)
    | (go_at_call 74; refine (name_any _ _).mono ?_; rintro e w1 ⟨rfl, hb1⟩; rw [hs]))
  go_ret
  exact ⟨ret_int (by rw [w64_mod, w32_add]), hb1⟩
set_option maxHeartbeats 4000000 in
theorem exec_28 (a b : Int) (w : World) (ha : 0 ≤ a ∧ a < 4294967296) (hb : 0 ≤ b ∧ b < 4294967296) : Calls Tryz.prog 87 #[.int .i64 28, .int .u32 a, .int .u32 b] w fun e w' => e = .returned (.int .u32 ((a + b) % 4294967296)) ∧ Below w.heap.size w w' := by
  have hs : nameOp 28 = ⟨#[97, 100, 100]⟩ := by kernel_rfl
  go_enter Tryz.func87, Tryz.ntmps87
  go_wp2_with (first
    | (go_at_call 88; refine (signed3_any _ _).mono ?_; rintro e w1 ⟨rfl, rfl⟩)
    | (go_at_call 111; refine (bit_any _ _).mono ?_; rintro e w1 ⟨rfl, rfl⟩)
    | (go_at_call 74; refine (name_any _ _).mono ?_; rintro e w1 ⟨rfl, hb1⟩; rw [hs]))
  go_ret
  exact ⟨ret_int (by rw [w64_mod, w32_add]), hb1⟩
set_option maxHeartbeats 4000000 in
theorem exec_29 (a b : Int) (w : World) (ha : 0 ≤ a ∧ a < 4294967296) (hb : 0 ≤ b ∧ b < 4294967296) : Calls Tryz.prog 87 #[.int .i64 29, .int .u32 a, .int .u32 b] w fun e w' => e = .returned (.int .u32 ((a - b) % 4294967296)) ∧ Below w.heap.size w w' := by
  have hs : nameOp 29 = ⟨#[115, 117, 98]⟩ := by kernel_rfl
  go_enter Tryz.func87, Tryz.ntmps87
  go_wp2_with (first
    | (go_at_call 88; refine (signed3_any _ _).mono ?_; rintro e w1 ⟨rfl, rfl⟩)
    | (go_at_call 111; refine (bit_any _ _).mono ?_; rintro e w1 ⟨rfl, rfl⟩)
    | (go_at_call 74; refine (name_any _ _).mono ?_; rintro e w1 ⟨rfl, hb1⟩; rw [hs]))
  go_ret
  exact ⟨ret_int (by rw [w64_mod, w32_sub]), hb1⟩
set_option maxHeartbeats 4000000 in
theorem exec_20 (a b : Int) (w : World) (ha : 0 ≤ a ∧ a < 4294967296) (hb : 0 ≤ b ∧ b < 4294967296) : Calls Tryz.prog 87 #[.int .i64 20, .int .u32 a, .int .u32 b] w fun e w' => e = .returned (.int .u32 (bitI (decide (wrap32 a < wrap32 b)))) ∧ Below w.heap.size w w' := by
  have hs : nameOp 20 = ⟨#[115, 108, 116, 105]⟩ := by kernel_rfl
  go_enter Tryz.func87, Tryz.ntmps87
  go_wp2_with (first
    | (go_at_call 88; refine (signed3_any _ _).mono ?_; rintro e w1 ⟨rfl, rfl⟩)
    | (go_at_call 111; refine (bit_any _ _).mono ?_; rintro e w1 ⟨rfl, rfl⟩)
    | (go_at_call 74; refine (name_any _ _).mono ?_; rintro e w1 ⟨rfl, hb1⟩; rw [hs]))
  go_ret
  exact ⟨ret_int (rfl), hb1⟩
set_option maxHeartbeats 4000000 in
theorem exec_31 (a b : Int) (w : World) (ha : 0 ≤ a ∧ a < 4294967296) (hb : 0 ≤ b ∧ b < 4294967296) : Calls Tryz.prog 87 #[.int .i64 31, .int .u32 a, .int .u32 b] w fun e w' => e = .returned (.int .u32 (bitI (decide (wrap32 a < wrap32 b)))) ∧ Below w.heap.size w w' := by
  have hs : nameOp 31 = ⟨#[115, 108, 116]⟩ := by kernel_rfl
  go_enter Tryz.func87, Tryz.ntmps87
  go_wp2_with (first
    | (go_at_call 88; refine (signed3_any _ _).mono ?_; rintro e w1 ⟨rfl, rfl⟩)
    | (go_at_call 111; refine (bit_any _ _).mono ?_; rintro e w1 ⟨rfl, rfl⟩)
    | (go_at_call 74; refine (name_any _ _).mono ?_; rintro e w1 ⟨rfl, hb1⟩; rw [hs]))
  go_ret
  exact ⟨ret_int (rfl), hb1⟩
set_option maxHeartbeats 4000000 in
theorem exec_21 (a b : Int) (w : World) (ha : 0 ≤ a ∧ a < 4294967296) (hb : 0 ≤ b ∧ b < 4294967296) : Calls Tryz.prog 87 #[.int .i64 21, .int .u32 a, .int .u32 b] w fun e w' => e = .returned (.int .u32 (bitI (decide (a < b)))) ∧ Below w.heap.size w w' := by
  have hs : nameOp 21 = ⟨#[115, 108, 116, 105, 117]⟩ := by kernel_rfl
  go_enter Tryz.func87, Tryz.ntmps87
  go_wp2_with (first
    | (go_at_call 88; refine (signed3_any _ _).mono ?_; rintro e w1 ⟨rfl, rfl⟩)
    | (go_at_call 111; refine (bit_any _ _).mono ?_; rintro e w1 ⟨rfl, rfl⟩)
    | (go_at_call 74; refine (name_any _ _).mono ?_; rintro e w1 ⟨rfl, hb1⟩; rw [hs]))
  go_ret
  exact ⟨ret_int (rfl), hb1⟩
set_option maxHeartbeats 4000000 in
theorem exec_32 (a b : Int) (w : World) (ha : 0 ≤ a ∧ a < 4294967296) (hb : 0 ≤ b ∧ b < 4294967296) : Calls Tryz.prog 87 #[.int .i64 32, .int .u32 a, .int .u32 b] w fun e w' => e = .returned (.int .u32 (bitI (decide (a < b)))) ∧ Below w.heap.size w w' := by
  have hs : nameOp 32 = ⟨#[115, 108, 116, 117]⟩ := by kernel_rfl
  go_enter Tryz.func87, Tryz.ntmps87
  go_wp2_with (first
    | (go_at_call 88; refine (signed3_any _ _).mono ?_; rintro e w1 ⟨rfl, rfl⟩)
    | (go_at_call 111; refine (bit_any _ _).mono ?_; rintro e w1 ⟨rfl, rfl⟩)
    | (go_at_call 74; refine (name_any _ _).mono ?_; rintro e w1 ⟨rfl, hb1⟩; rw [hs]))
  go_ret
  exact ⟨ret_int (rfl), hb1⟩
set_option maxHeartbeats 4000000 in
theorem exec_22 (a b : Int) (w : World) (ha : 0 ≤ a ∧ a < 4294967296) (hb : 0 ≤ b ∧ b < 4294967296) : Calls Tryz.prog 87 #[.int .i64 22, .int .u32 a, .int .u32 b] w fun e w' => e = .returned (.int .u32 (bits .xor .u32 a b)) ∧ Below w.heap.size w w' := by
  have hs : nameOp 22 = ⟨#[120, 111, 114, 105]⟩ := by kernel_rfl
  go_enter Tryz.func87, Tryz.ntmps87
  go_wp2_with (first
    | (go_at_call 88; refine (signed3_any _ _).mono ?_; rintro e w1 ⟨rfl, rfl⟩)
    | (go_at_call 111; refine (bit_any _ _).mono ?_; rintro e w1 ⟨rfl, rfl⟩)
    | (go_at_call 74; refine (name_any _ _).mono ?_; rintro e w1 ⟨rfl, hb1⟩; rw [hs]))
  go_ret
  exact ⟨ret_int (or_less_and a b), hb1⟩
set_option maxHeartbeats 4000000 in
theorem exec_33 (a b : Int) (w : World) (ha : 0 ≤ a ∧ a < 4294967296) (hb : 0 ≤ b ∧ b < 4294967296) : Calls Tryz.prog 87 #[.int .i64 33, .int .u32 a, .int .u32 b] w fun e w' => e = .returned (.int .u32 (bits .xor .u32 a b)) ∧ Below w.heap.size w w' := by
  have hs : nameOp 33 = ⟨#[120, 111, 114]⟩ := by kernel_rfl
  go_enter Tryz.func87, Tryz.ntmps87
  go_wp2_with (first
    | (go_at_call 88; refine (signed3_any _ _).mono ?_; rintro e w1 ⟨rfl, rfl⟩)
    | (go_at_call 111; refine (bit_any _ _).mono ?_; rintro e w1 ⟨rfl, rfl⟩)
    | (go_at_call 74; refine (name_any _ _).mono ?_; rintro e w1 ⟨rfl, hb1⟩; rw [hs]))
  go_ret
  exact ⟨ret_int (or_less_and a b), hb1⟩
set_option maxHeartbeats 4000000 in
theorem exec_23 (a b : Int) (w : World) (ha : 0 ≤ a ∧ a < 4294967296) (hb : 0 ≤ b ∧ b < 4294967296) : Calls Tryz.prog 87 #[.int .i64 23, .int .u32 a, .int .u32 b] w fun e w' => e = .returned (.int .u32 (bits .or .u32 a b)) ∧ Below w.heap.size w w' := by
  have hs : nameOp 23 = ⟨#[111, 114, 105]⟩ := by kernel_rfl
  go_enter Tryz.func87, Tryz.ntmps87
  go_wp2_with (first
    | (go_at_call 88; refine (signed3_any _ _).mono ?_; rintro e w1 ⟨rfl, rfl⟩)
    | (go_at_call 111; refine (bit_any _ _).mono ?_; rintro e w1 ⟨rfl, rfl⟩)
    | (go_at_call 74; refine (name_any _ _).mono ?_; rintro e w1 ⟨rfl, hb1⟩; rw [hs]))
  go_ret
  exact ⟨ret_int (rfl), hb1⟩
set_option maxHeartbeats 4000000 in
theorem exec_36 (a b : Int) (w : World) (ha : 0 ≤ a ∧ a < 4294967296) (hb : 0 ≤ b ∧ b < 4294967296) : Calls Tryz.prog 87 #[.int .i64 36, .int .u32 a, .int .u32 b] w fun e w' => e = .returned (.int .u32 (bits .or .u32 a b)) ∧ Below w.heap.size w w' := by
  have hs : nameOp 36 = ⟨#[111, 114]⟩ := by kernel_rfl
  go_enter Tryz.func87, Tryz.ntmps87
  go_wp2_with (first
    | (go_at_call 88; refine (signed3_any _ _).mono ?_; rintro e w1 ⟨rfl, rfl⟩)
    | (go_at_call 111; refine (bit_any _ _).mono ?_; rintro e w1 ⟨rfl, rfl⟩)
    | (go_at_call 74; refine (name_any _ _).mono ?_; rintro e w1 ⟨rfl, hb1⟩; rw [hs]))
  go_ret
  exact ⟨ret_int (rfl), hb1⟩
set_option maxHeartbeats 4000000 in
theorem exec_24 (a b : Int) (w : World) (ha : 0 ≤ a ∧ a < 4294967296) (hb : 0 ≤ b ∧ b < 4294967296) : Calls Tryz.prog 87 #[.int .i64 24, .int .u32 a, .int .u32 b] w fun e w' => e = .returned (.int .u32 (bits .and .u32 a b)) ∧ Below w.heap.size w w' := by
  have hs : nameOp 24 = ⟨#[97, 110, 100, 105]⟩ := by kernel_rfl
  go_enter Tryz.func87, Tryz.ntmps87
  go_wp2_with (first
    | (go_at_call 88; refine (signed3_any _ _).mono ?_; rintro e w1 ⟨rfl, rfl⟩)
    | (go_at_call 111; refine (bit_any _ _).mono ?_; rintro e w1 ⟨rfl, rfl⟩)
    | (go_at_call 74; refine (name_any _ _).mono ?_; rintro e w1 ⟨rfl, hb1⟩; rw [hs]))
  go_ret
  exact ⟨ret_int (rfl), hb1⟩
set_option maxHeartbeats 4000000 in
theorem exec_37 (a b : Int) (w : World) (ha : 0 ≤ a ∧ a < 4294967296) (hb : 0 ≤ b ∧ b < 4294967296) : Calls Tryz.prog 87 #[.int .i64 37, .int .u32 a, .int .u32 b] w fun e w' => e = .returned (.int .u32 (bits .and .u32 a b)) ∧ Below w.heap.size w w' := by
  have hs : nameOp 37 = ⟨#[97, 110, 100]⟩ := by kernel_rfl
  go_enter Tryz.func87, Tryz.ntmps87
  go_wp2_with (first
    | (go_at_call 88; refine (signed3_any _ _).mono ?_; rintro e w1 ⟨rfl, rfl⟩)
    | (go_at_call 111; refine (bit_any _ _).mono ?_; rintro e w1 ⟨rfl, rfl⟩)
    | (go_at_call 74; refine (name_any _ _).mono ?_; rintro e w1 ⟨rfl, hb1⟩; rw [hs]))
  go_ret
  exact ⟨ret_int (rfl), hb1⟩
set_option maxHeartbeats 4000000 in
theorem exec_25 (a b : Int) (w : World) (ha : 0 ≤ a ∧ a < 4294967296) (hb : 0 ≤ b ∧ b < 4294967296) : Calls Tryz.prog 87 #[.int .i64 25, .int .u32 a, .int .u32 b] w fun e w' => e = .returned (.int .u32 (a * 2 ^ (b % 32).toNat % 4294967296)) ∧ Below w.heap.size w w' := by
  have hs : nameOp 25 = ⟨#[115, 108, 108, 105]⟩ := by kernel_rfl
  have HM : Hid (bits .and .u32 b 31 = b % 32) := and31 b hb
  have hm0 : 0 ≤ bits .and .u32 b 31 := by rw [HM.out]; omega
  have hm1 : bits .and .u32 b 31 ≤ 31 := by rw [HM.out]; omega
  go_enter Tryz.func87, Tryz.ntmps87
  go_wp2_with (first
    | (go_at_call 88; refine (signed3_any _ _).mono ?_; rintro e w1 ⟨rfl, rfl⟩)
    | (go_at_call 111; refine (bit_any _ _).mono ?_; rintro e w1 ⟨rfl, rfl⟩)
    | (go_at_call 74; refine (name_any _ _).mono ?_; rintro e w1 ⟨rfl, hb1⟩; rw [hs]))
  go_ret
  exact ⟨ret_int (by rw [HM.out]; exact w64_mod _), hb1⟩
set_option maxHeartbeats 4000000 in
theorem exec_30 (a b : Int) (w : World) (ha : 0 ≤ a ∧ a < 4294967296) (hb : 0 ≤ b ∧ b < 4294967296) : Calls Tryz.prog 87 #[.int .i64 30, .int .u32 a, .int .u32 b] w fun e w' => e = .returned (.int .u32 (a * 2 ^ (b % 32).toNat % 4294967296)) ∧ Below w.heap.size w w' := by
  have hs : nameOp 30 = ⟨#[115, 108, 108]⟩ := by kernel_rfl
  have HM : Hid (bits .and .u32 b 31 = b % 32) := and31 b hb
  have hm0 : 0 ≤ bits .and .u32 b 31 := by rw [HM.out]; omega
  have hm1 : bits .and .u32 b 31 ≤ 31 := by rw [HM.out]; omega
  go_enter Tryz.func87, Tryz.ntmps87
  go_wp2_with (first
    | (go_at_call 88; refine (signed3_any _ _).mono ?_; rintro e w1 ⟨rfl, rfl⟩)
    | (go_at_call 111; refine (bit_any _ _).mono ?_; rintro e w1 ⟨rfl, rfl⟩)
    | (go_at_call 74; refine (name_any _ _).mono ?_; rintro e w1 ⟨rfl, hb1⟩; rw [hs]))
  go_ret
  exact ⟨ret_int (by rw [HM.out]; exact w64_mod _), hb1⟩
set_option maxHeartbeats 4000000 in
theorem exec_26 (a b : Int) (w : World) (ha : 0 ≤ a ∧ a < 4294967296) (hb : 0 ≤ b ∧ b < 4294967296) : Calls Tryz.prog 87 #[.int .i64 26, .int .u32 a, .int .u32 b] w fun e w' => e = .returned (.int .u32 (a / 2 ^ (b % 32).toNat)) ∧ Below w.heap.size w w' := by
  have hs : nameOp 26 = ⟨#[115, 114, 108, 105]⟩ := by kernel_rfl
  have HM : Hid (bits .and .u32 b 31 = b % 32) := and31 b hb
  have hm0 : 0 ≤ bits .and .u32 b 31 := by rw [HM.out]; omega
  have hm1 : bits .and .u32 b 31 ≤ 31 := by rw [HM.out]; omega
  go_enter Tryz.func87, Tryz.ntmps87
  go_wp2_with (first
    | (go_at_call 88; refine (signed3_any _ _).mono ?_; rintro e w1 ⟨rfl, rfl⟩)
    | (go_at_call 111; refine (bit_any _ _).mono ?_; rintro e w1 ⟨rfl, rfl⟩)
    | (go_at_call 74; refine (name_any _ _).mono ?_; rintro e w1 ⟨rfl, hb1⟩; rw [hs]))
  go_ret
  exact ⟨ret_int (by rw [HM.out]; exact shr_mod _ _ ha), hb1⟩
set_option maxHeartbeats 4000000 in
theorem exec_34 (a b : Int) (w : World) (ha : 0 ≤ a ∧ a < 4294967296) (hb : 0 ≤ b ∧ b < 4294967296) : Calls Tryz.prog 87 #[.int .i64 34, .int .u32 a, .int .u32 b] w fun e w' => e = .returned (.int .u32 (a / 2 ^ (b % 32).toNat)) ∧ Below w.heap.size w w' := by
  have hs : nameOp 34 = ⟨#[115, 114, 108]⟩ := by kernel_rfl
  have HM : Hid (bits .and .u32 b 31 = b % 32) := and31 b hb
  have hm0 : 0 ≤ bits .and .u32 b 31 := by rw [HM.out]; omega
  have hm1 : bits .and .u32 b 31 ≤ 31 := by rw [HM.out]; omega
  go_enter Tryz.func87, Tryz.ntmps87
  go_wp2_with (first
    | (go_at_call 88; refine (signed3_any _ _).mono ?_; rintro e w1 ⟨rfl, rfl⟩)
    | (go_at_call 111; refine (bit_any _ _).mono ?_; rintro e w1 ⟨rfl, rfl⟩)
    | (go_at_call 74; refine (name_any _ _).mono ?_; rintro e w1 ⟨rfl, hb1⟩; rw [hs]))
  go_ret
  exact ⟨ret_int (by rw [HM.out]; exact shr_mod _ _ ha), hb1⟩
set_option maxHeartbeats 4000000 in
theorem exec_27 (a b : Int) (w : World) (ha : 0 ≤ a ∧ a < 4294967296) (hb : 0 ≤ b ∧ b < 4294967296) : Calls Tryz.prog 87 #[.int .i64 27, .int .u32 a, .int .u32 b] w fun e w' => e = .returned (.int .u32 (wrap32 a / 2 ^ (b % 32).toNat % 4294967296)) ∧ Below w.heap.size w w' := by
  have hs : nameOp 27 = ⟨#[115, 114, 97, 105]⟩ := by kernel_rfl
  have HM : Hid (bits .and .u32 b 31 = b % 32) := and31 b hb
  have hm0 : 0 ≤ bits .and .u32 b 31 := by rw [HM.out]; omega
  have hm1 : bits .and .u32 b 31 ≤ 31 := by rw [HM.out]; omega
  go_enter Tryz.func87, Tryz.ntmps87
  go_wp2_with (first
    | (go_at_call 88; refine (signed3_any _ _).mono ?_; rintro e w1 ⟨rfl, rfl⟩)
    | (go_at_call 111; refine (bit_any _ _).mono ?_; rintro e w1 ⟨rfl, rfl⟩)
    | (go_at_call 74; refine (name_any _ _).mono ?_; rintro e w1 ⟨rfl, hb1⟩; rw [hs]))
  go_ret
  exact ⟨ret_int (by rw [HM.out]), hb1⟩
set_option maxHeartbeats 4000000 in
theorem exec_35 (a b : Int) (w : World) (ha : 0 ≤ a ∧ a < 4294967296) (hb : 0 ≤ b ∧ b < 4294967296) : Calls Tryz.prog 87 #[.int .i64 35, .int .u32 a, .int .u32 b] w fun e w' => e = .returned (.int .u32 (wrap32 a / 2 ^ (b % 32).toNat % 4294967296)) ∧ Below w.heap.size w w' := by
  have hs : nameOp 35 = ⟨#[115, 114, 97]⟩ := by kernel_rfl
  have HM : Hid (bits .and .u32 b 31 = b % 32) := and31 b hb
  have hm0 : 0 ≤ bits .and .u32 b 31 := by rw [HM.out]; omega
  have hm1 : bits .and .u32 b 31 ≤ 31 := by rw [HM.out]; omega
  go_enter Tryz.func87, Tryz.ntmps87
  go_wp2_with (first
    | (go_at_call 88; refine (signed3_any _ _).mono ?_; rintro e w1 ⟨rfl, rfl⟩)
    | (go_at_call 111; refine (bit_any _ _).mono ?_; rintro e w1 ⟨rfl, rfl⟩)
    | (go_at_call 74; refine (name_any _ _).mono ?_; rintro e w1 ⟨rfl, hb1⟩; rw [hs]))
  go_ret
  exact ⟨ret_int (by rw [HM.out]), hb1⟩
set_option maxHeartbeats 4000000 in
theorem exec_38 (a b : Int) (w : World) (ha : 0 ≤ a ∧ a < 4294967296) (hb : 0 ≤ b ∧ b < 4294967296) : Calls Tryz.prog 87 #[.int .i64 38, .int .u32 a, .int .u32 b] w fun e w' => e = .returned (.int .u32 (a * b % 4294967296)) ∧ Below w.heap.size w w' := by
  have hs : nameOp 38 = ⟨#[109, 117, 108]⟩ := by kernel_rfl
  go_enter Tryz.func87, Tryz.ntmps87
  go_wp2_with (first
    | (go_at_call 88; refine (signed3_any _ _).mono ?_; rintro e w1 ⟨rfl, rfl⟩)
    | (go_at_call 111; refine (bit_any _ _).mono ?_; rintro e w1 ⟨rfl, rfl⟩)
    | (go_at_call 74; refine (name_any _ _).mono ?_; rintro e w1 ⟨rfl, hb1⟩; rw [hs]))
  go_ret
  exact ⟨ret_int (by rw [w64_mod, w32_mul]), hb1⟩
set_option maxHeartbeats 4000000 in
theorem exec_39 (a b : Int) (w : World) (ha : 0 ≤ a ∧ a < 4294967296) (hb : 0 ≤ b ∧ b < 4294967296) : Calls Tryz.prog 87 #[.int .i64 39, .int .u32 a, .int .u32 b] w fun e w' => e = .returned (.int .u32 (wrap32 a * wrap32 b / 4294967296 % 4294967296)) ∧ Below w.heap.size w w' := by
  have hs : nameOp 39 = ⟨#[109, 117, 108, 104]⟩ := by kernel_rfl
  go_enter Tryz.func87, Tryz.ntmps87
  go_wp2_with (first
    | (go_at_call 88; refine (signed3_any _ _).mono ?_; rintro e w1 ⟨rfl, rfl⟩)
    | (go_at_call 111; refine (bit_any _ _).mono ?_; rintro e w1 ⟨rfl, rfl⟩)
    | (go_at_call 74; refine (name_any _ _).mono ?_; rintro e w1 ⟨rfl, hb1⟩; rw [hs]))
  go_ret
  exact ⟨ret_int (by rw [w64_high]), hb1⟩
set_option maxHeartbeats 4000000 in
theorem exec_40 (a b : Int) (w : World) (ha : 0 ≤ a ∧ a < 4294967296) (hb : 0 ≤ b ∧ b < 4294967296) : Calls Tryz.prog 87 #[.int .i64 40, .int .u32 a, .int .u32 b] w fun e w' => e = .returned (.int .u32 (wrap32 a * b / 4294967296 % 4294967296)) ∧ Below w.heap.size w w' := by
  have hs : nameOp 40 = ⟨#[109, 117, 108, 104, 115, 117]⟩ := by kernel_rfl
  go_enter Tryz.func87, Tryz.ntmps87
  go_wp2_with (first
    | (go_at_call 88; refine (signed3_any _ _).mono ?_; rintro e w1 ⟨rfl, rfl⟩)
    | (go_at_call 111; refine (bit_any _ _).mono ?_; rintro e w1 ⟨rfl, rfl⟩)
    | (go_at_call 74; refine (name_any _ _).mono ?_; rintro e w1 ⟨rfl, hb1⟩; rw [hs]))
  go_ret
  exact ⟨ret_int (by rw [w64_high]), hb1⟩
set_option maxHeartbeats 4000000 in
theorem exec_41 (a b : Int) (w : World) (ha : 0 ≤ a ∧ a < 4294967296) (hb : 0 ≤ b ∧ b < 4294967296) : Calls Tryz.prog 87 #[.int .i64 41, .int .u32 a, .int .u32 b] w fun e w' => e = .returned (.int .u32 (a * b / 4294967296 % 4294967296)) ∧ Below w.heap.size w w' := by
  have hs : nameOp 41 = ⟨#[109, 117, 108, 104, 117]⟩ := by kernel_rfl
  go_enter Tryz.func87, Tryz.ntmps87
  go_wp2_with (first
    | (go_at_call 88; refine (signed3_any _ _).mono ?_; rintro e w1 ⟨rfl, rfl⟩)
    | (go_at_call 111; refine (bit_any _ _).mono ?_; rintro e w1 ⟨rfl, rfl⟩)
    | (go_at_call 74; refine (name_any _ _).mono ?_; rintro e w1 ⟨rfl, hb1⟩; rw [hs]))
  go_ret
  exact ⟨ret_int (by rw [u64_high]), hb1⟩
end Go.Proofs.YtengofkjlgajlaaGreatDoor
/-
  THE ANSWER's Exec, WHOLE; ITS Taken.
-/
namespace Go.Proofs.YtengofkjlgajlaaGreatDoor
open Go Go.RowKit
/-- quotients and remainders, by the name -/
def dvS (s : ByteArray) (a b : Int) : Int :=
  if s.toList == [100, 105, 118] then (if b = 0 then 4294967295 else (wrap32 a).tdiv (wrap32 b) % 4294967296)
  else if s.toList == [100, 105, 118, 117] then (if b = 0 then 4294967295 else a / b)
  else if s.toList == [114, 101, 109] then (if b = 0 then a else (wrap32 a).tmod (wrap32 b) % 4294967296)
  else if s.toList == [114, 101, 109, 117] then (if b = 0 then a else a % b)
  else 0
set_option maxHeartbeats 1000000 in
theorem divided_0 (s : ByteArray) (a : Int) (w : World) : Calls Tryz.prog 112 #[.string s, .int .u32 a, .int .u32 0] w fun e w' => e = .returned (.int .u32 (dvS s a 0)) ∧ w' = w := by
  go_enter Tryz.func112, Tryz.ntmps112
  go_wp2_with (first | (go_at_call 88; refine (signed3_any _ _).mono ?_; rintro e w1 ⟨rfl, rfl⟩))
  all_goals
    go_ret
    exact ⟨ret_int (by simp [dvS, *]), rfl⟩
set_option maxHeartbeats 1000000 in
theorem divided_1 (s : ByteArray) (a b : Int) (w : World) (ha : 0 ≤ a ∧ a < 4294967296) (hb : 0 < b ∧ b < 4294967296) : Calls Tryz.prog 112 #[.string s, .int .u32 a, .int .u32 b] w fun e w' => e = .returned (.int .u32 (dvS s a b)) ∧ w' = w := by
  have h1 : (b == 0) = false := by simp; omega
  have h2 : ¬ wrap32 b = 0 := by unfold wrap32; omega
  have h3 : ¬ b = 0 := by omega
  have h6 := udiv_mod a b ha hb.1
  have h4 : a.tdiv b = a / b := Int.tdiv_eq_ediv_of_nonneg ha.1
  have h5 : a.tmod b = a % b := Int.tmod_eq_emod_of_nonneg ha.1
  go_enter Tryz.func112, Tryz.ntmps112
  go_wp2_with (first | (go_at_call 88; refine (signed3_any _ _).mono ?_; rintro e w1 ⟨rfl, rfl⟩))
  all_goals
    go_ret
    refine ⟨ret_int ?_, rfl⟩
    simp [dvS, w64_mod, *]
theorem divided_any (s : ByteArray) (a b : Int) (w : World) (ha : 0 ≤ a ∧ a < 4294967296) (hb : 0 ≤ b ∧ b < 4294967296) : Calls Tryz.prog 112 #[.string s, .int .u32 a, .int .u32 b] w fun e w' => e = .returned (.int .u32 (dvS s a b)) ∧ w' = w := by
  by_cases h : b = 0
  · subst h; exact divided_0 s a w
  · exact divided_1 s a b w ha (by omega)
set_option maxHeartbeats 4000000 in
theorem exec_rest (op a b : Int) (s : ByteArray) (hs : nameOp op = s) (n0 : (s.toList == [108, 117, 105]) = false) (n1 : (s.toList == [97, 117, 105, 112, 99]) = false) (n2 : (s.toList == [97, 100, 100, 105]) = false) (n3 : (s.toList == [97, 100, 100]) = false) (n4 : (s.toList == [115, 117, 98]) = false) (n5 : (s.toList == [115, 108, 116, 105]) = false) (n6 : (s.toList == [115, 108, 116]) = false) (n7 : (s.toList == [115, 108, 116, 105, 117]) = false) (n8 : (s.toList == [115, 108, 116, 117]) = false) (n9 : (s.toList == [120, 111, 114, 105]) = false) (n10 : (s.toList == [120, 111, 114]) = false) (n11 : (s.toList == [111, 114, 105]) = false) (n12 : (s.toList == [111, 114]) = false) (n13 : (s.toList == [97, 110, 100, 105]) = false) (n14 : (s.toList == [97, 110, 100]) = false) (n15 : (s.toList == [115, 108, 108, 105]) = false) (n16 : (s.toList == [115, 108, 108]) = false) (n17 : (s.toList == [115, 114, 108, 105]) = false) (n18 : (s.toList == [115, 114, 108]) = false) (n19 : (s.toList == [115, 114, 97, 105]) = false) (n20 : (s.toList == [115, 114, 97]) = false) (n21 : (s.toList == [109, 117, 108]) = false) (n22 : (s.toList == [109, 117, 108, 104]) = false) (n23 : (s.toList == [109, 117, 108, 104, 115, 117]) = false) (n24 : (s.toList == [109, 117, 108, 104, 117]) = false) (w : World) (ha : 0 ≤ a ∧ a < 4294967296) (hb : 0 ≤ b ∧ b < 4294967296) : Calls Tryz.prog 87 #[.int .i64 op, .int .u32 a, .int .u32 b] w fun e w' => e = .returned (.int .u32 (dvS s a b)) ∧ Below w.heap.size w w' := by
  go_enter Tryz.func87, Tryz.ntmps87
  go_wp2_with (first
    | (go_at_call 88; refine (signed3_any _ _).mono ?_; rintro e w1 ⟨rfl, rfl⟩)
    | (go_at_call 111; refine (bit_any _ _).mono ?_; rintro e w1 ⟨rfl, rfl⟩)
    | (go_at_call 74; refine (name_any _ _).mono ?_; rintro e w1 ⟨rfl, hb1⟩; rw [hs])
    | (go_at_call 112; refine (divided_any _ _ _ _ ha hb).mono ?_; rintro e w2 ⟨rfl, rfl⟩))
  go_ret
  exact ⟨rfl, below2 (by assumption) hb1⟩
def xnB (s : List UInt8) : Bool := !(s == [108, 117, 105]) && !(s == [97, 117, 105, 112, 99]) && !(s == [97, 100, 100, 105]) && !(s == [97, 100, 100]) && !(s == [115, 117, 98]) && !(s == [115, 108, 116, 105]) && !(s == [115, 108, 116]) && !(s == [115, 108, 116, 105, 117]) && !(s == [115, 108, 116, 117]) && !(s == [120, 111, 114, 105]) && !(s == [120, 111, 114]) && !(s == [111, 114, 105]) && !(s == [111, 114]) && !(s == [97, 110, 100, 105]) && !(s == [97, 110, 100]) && !(s == [115, 108, 108, 105]) && !(s == [115, 108, 108]) && !(s == [115, 114, 108, 105]) && !(s == [115, 114, 108]) && !(s == [115, 114, 97, 105]) && !(s == [115, 114, 97]) && !(s == [109, 117, 108]) && !(s == [109, 117, 108, 104]) && !(s == [109, 117, 108, 104, 115, 117]) && !(s == [109, 117, 108, 104, 117])
theorem xn_all : ((List.range 67).all fun i => ((i == 0) || (i == 1) || (i == 18) || (i == 27) || (i == 28) || (i == 19) || (i == 30) || (i == 20) || (i == 31) || (i == 21) || (i == 32) || (i == 22) || (i == 35) || (i == 23) || (i == 36) || (i == 24) || (i == 29) || (i == 25) || (i == 33) || (i == 26) || (i == 34) || (i == 37) || (i == 38) || (i == 39) || (i == 40)) || xnB (nameAt i).toList) = true := by kernel_rfl
theorem xn_not (op : Int) (h : ¬ op = 1 ∧ ¬ op = 2 ∧ ¬ op = 19 ∧ ¬ op = 28 ∧ ¬ op = 29 ∧ ¬ op = 20 ∧ ¬ op = 31 ∧ ¬ op = 21 ∧ ¬ op = 32 ∧ ¬ op = 22 ∧ ¬ op = 33 ∧ ¬ op = 23 ∧ ¬ op = 36 ∧ ¬ op = 24 ∧ ¬ op = 37 ∧ ¬ op = 25 ∧ ¬ op = 30 ∧ ¬ op = 26 ∧ ¬ op = 34 ∧ ¬ op = 27 ∧ ¬ op = 35 ∧ ¬ op = 38 ∧ ¬ op = 39 ∧ ¬ op = 40 ∧ ¬ op = 41) : xnB (nameOp op).toList = true := by
  unfold nameOp
  split
  · have := List.all_eq_true.1 xn_all (op - 1).toNat (List.mem_range.2 (by omega))
    simp only [Bool.or_eq_true, beq_iff_eq] at this
    rcases this with this | this
    · exfalso; omega
    · exact this
  · kernel_rfl
theorem exI_rest (op a b : Int) (h : ¬ op = 1 ∧ ¬ op = 2 ∧ ¬ op = 19 ∧ ¬ op = 28 ∧ ¬ op = 29 ∧ ¬ op = 20 ∧ ¬ op = 31 ∧ ¬ op = 21 ∧ ¬ op = 32 ∧ ¬ op = 22 ∧ ¬ op = 33 ∧ ¬ op = 23 ∧ ¬ op = 36 ∧ ¬ op = 24 ∧ ¬ op = 37 ∧ ¬ op = 25 ∧ ¬ op = 30 ∧ ¬ op = 26 ∧ ¬ op = 34 ∧ ¬ op = 27 ∧ ¬ op = 35 ∧ ¬ op = 38 ∧ ¬ op = 39 ∧ ¬ op = 40 ∧ ¬ op = 41) : dvS (nameOp op) a b = exI op a b := by
  by_cases h1 : 1 ≤ op ∧ op ≤ 67
  · have hm : op = 3 ∨ op = 4 ∨ op = 5 ∨ op = 6 ∨ op = 7 ∨ op = 8 ∨ op = 9 ∨ op = 10 ∨ op = 11 ∨ op = 12 ∨ op = 13 ∨ op = 14 ∨ op = 15 ∨ op = 16 ∨ op = 17 ∨ op = 18 ∨ op = 42 ∨ op = 43 ∨ op = 44 ∨ op = 45 ∨ op = 46 ∨ op = 47 ∨ op = 48 ∨ op = 49 ∨ op = 50 ∨ op = 51 ∨ op = 52 ∨ op = 53 ∨ op = 54 ∨ op = 55 ∨ op = 56 ∨ op = 57 ∨ op = 58 ∨ op = 59 ∨ op = 60 ∨ op = 61 ∨ op = 62 ∨ op = 63 ∨ op = 64 ∨ op = 65 ∨ op = 66 ∨ op = 67 := by omega
    rcases hm with rfl | rfl | rfl | rfl | rfl | rfl | rfl | rfl | rfl | rfl | rfl | rfl | rfl | rfl | rfl | rfl | rfl | rfl | rfl | rfl | rfl | rfl | rfl | rfl | rfl | rfl | rfl | rfl | rfl | rfl | rfl | rfl | rfl | rfl | rfl | rfl | rfl | rfl | rfl | rfl | rfl | rfl
    all_goals
      show dvS _ a b = exI _ a b
      kernel_rfl
  · have e : nameOp op = ⟨#[]⟩ := by unfold nameOp; rw [if_neg h1]
    have e0 : dvS ⟨#[]⟩ a b = 0 := by kernel_rfl
    rw [e, e0]
    unfold exI
    split
    · obtain ⟨n, rfl⟩ : ∃ n : Nat, op = n := ⟨op.toNat, by omega⟩
      rw [Int.toNat_natCast]
      unfold exN
      split <;> first | rfl | (exfalso; omega)
    · rfl
theorem exec_any (op a b : Int) (w : World) (ha : 0 ≤ a ∧ a < 4294967296) (hb : 0 ≤ b ∧ b < 4294967296) : Calls Tryz.prog 87 #[.int .i64 op, .int .u32 a, .int .u32 b] w fun e w' => e = .returned (.int .u32 (exI op a b)) ∧ Below w.heap.size w w' := by
  by_cases h1 : op = 1
  · subst h1; exact exec_1 a b w ha hb
  by_cases h2 : op = 2
  · subst h2; exact exec_2 a b w ha hb
  by_cases h19 : op = 19
  · subst h19; exact exec_19 a b w ha hb
  by_cases h28 : op = 28
  · subst h28; exact exec_28 a b w ha hb
  by_cases h29 : op = 29
  · subst h29; exact exec_29 a b w ha hb
  by_cases h20 : op = 20
  · subst h20; exact exec_20 a b w ha hb
  by_cases h31 : op = 31
  · subst h31; exact exec_31 a b w ha hb
  by_cases h21 : op = 21
  · subst h21; exact exec_21 a b w ha hb
  by_cases h32 : op = 32
  · subst h32; exact exec_32 a b w ha hb
  by_cases h22 : op = 22
  · subst h22; exact exec_22 a b w ha hb
  by_cases h33 : op = 33
  · subst h33; exact exec_33 a b w ha hb
  by_cases h23 : op = 23
  · subst h23; exact exec_23 a b w ha hb
  by_cases h36 : op = 36
  · subst h36; exact exec_36 a b w ha hb
  by_cases h24 : op = 24
  · subst h24; exact exec_24 a b w ha hb
  by_cases h37 : op = 37
  · subst h37; exact exec_37 a b w ha hb
  by_cases h25 : op = 25
  · subst h25; exact exec_25 a b w ha hb
  by_cases h30 : op = 30
  · subst h30; exact exec_30 a b w ha hb
  by_cases h26 : op = 26
  · subst h26; exact exec_26 a b w ha hb
  by_cases h34 : op = 34
  · subst h34; exact exec_34 a b w ha hb
  by_cases h27 : op = 27
  · subst h27; exact exec_27 a b w ha hb
  by_cases h35 : op = 35
  · subst h35; exact exec_35 a b w ha hb
  by_cases h38 : op = 38
  · subst h38; exact exec_38 a b w ha hb
  by_cases h39 : op = 39
  · subst h39; exact exec_39 a b w ha hb
  by_cases h40 : op = 40
  · subst h40; exact exec_40 a b w ha hb
  by_cases h41 : op = 41
  · subst h41; exact exec_41 a b w ha hb
  have hn := xn_not op ⟨h1, h2, h19, h28, h29, h20, h31, h21, h32, h22, h33, h23, h36, h24, h37, h25, h30, h26, h34, h27, h35, h38, h39, h40, h41⟩
  simp only [xnB, Bool.and_eq_true, Bool.not_eq_true'] at hn
  obtain ⟨⟨⟨⟨⟨⟨⟨⟨⟨⟨⟨⟨⟨⟨⟨⟨⟨⟨⟨⟨⟨⟨⟨⟨n0, n1⟩, n2⟩, n3⟩, n4⟩, n5⟩, n6⟩, n7⟩, n8⟩, n9⟩, n10⟩, n11⟩, n12⟩, n13⟩, n14⟩, n15⟩, n16⟩, n17⟩, n18⟩, n19⟩, n20⟩, n21⟩, n22⟩, n23⟩, n24⟩ := hn
  rw [← exI_rest op a b ⟨h1, h2, h19, h28, h29, h20, h31, h21, h32, h22, h33, h23, h36, h24, h37, h25, h30, h26, h34, h27, h35, h38, h39, h40, h41⟩]
  exact exec_rest op a b _ rfl n0 n1 n2 n3 n4 n5 n6 n7 n8 n9 n10 n11 n12 n13 n14 n15 n16 n17 n18 n19 n20 n21 n22 n23 n24 w ha hb
set_option maxHeartbeats 1000000 in
theorem taken_5 (a b : Int) (w : World) : Calls Tryz.prog 55 #[.int .i64 5, .int .u32 a, .int .u32 b] w fun e w' => e = .returned (.bool (tkI 5 a b)) ∧ Below w.heap.size w w' := by
  have hs : nameOp 5 = ⟨#[98, 101, 113]⟩ := by kernel_rfl
  go_enter Tryz.func55, Tryz.ntmps55
  go_wp2_with (first
    | (go_at_call 88; refine (signed3_any _ _).mono ?_; rintro e w1 ⟨rfl, rfl⟩)
    | (go_at_call 111; refine (bit_any _ _).mono ?_; rintro e w1 ⟨rfl, rfl⟩)
    | (go_at_call 74; refine (name_any _ _).mono ?_; rintro e w1 ⟨rfl, hb1⟩; rw [hs]))
  go_ret
  exact ⟨rfl, hb1⟩
set_option maxHeartbeats 1000000 in
theorem taken_6 (a b : Int) (w : World) : Calls Tryz.prog 55 #[.int .i64 6, .int .u32 a, .int .u32 b] w fun e w' => e = .returned (.bool (tkI 6 a b)) ∧ Below w.heap.size w w' := by
  have hs : nameOp 6 = ⟨#[98, 110, 101]⟩ := by kernel_rfl
  go_enter Tryz.func55, Tryz.ntmps55
  go_wp2_with (first
    | (go_at_call 88; refine (signed3_any _ _).mono ?_; rintro e w1 ⟨rfl, rfl⟩)
    | (go_at_call 111; refine (bit_any _ _).mono ?_; rintro e w1 ⟨rfl, rfl⟩)
    | (go_at_call 74; refine (name_any _ _).mono ?_; rintro e w1 ⟨rfl, hb1⟩; rw [hs]))
  go_ret
  exact ⟨rfl, hb1⟩
set_option maxHeartbeats 1000000 in
theorem taken_7 (a b : Int) (w : World) : Calls Tryz.prog 55 #[.int .i64 7, .int .u32 a, .int .u32 b] w fun e w' => e = .returned (.bool (tkI 7 a b)) ∧ Below w.heap.size w w' := by
  have hs : nameOp 7 = ⟨#[98, 108, 116]⟩ := by kernel_rfl
  go_enter Tryz.func55, Tryz.ntmps55
  go_wp2_with (first
    | (go_at_call 88; refine (signed3_any _ _).mono ?_; rintro e w1 ⟨rfl, rfl⟩)
    | (go_at_call 111; refine (bit_any _ _).mono ?_; rintro e w1 ⟨rfl, rfl⟩)
    | (go_at_call 74; refine (name_any _ _).mono ?_; rintro e w1 ⟨rfl, hb1⟩; rw [hs]))
  go_ret
  exact ⟨rfl, hb1⟩
set_option maxHeartbeats 1000000 in
theorem taken_8 (a b : Int) (w : World) : Calls Tryz.prog 55 #[.int .i64 8, .int .u32 a, .int .u32 b] w fun e w' => e = .returned (.bool (tkI 8 a b)) ∧ Below w.heap.size w w' := by
  have hs : nameOp 8 = ⟨#[98, 103, 101]⟩ := by kernel_rfl
  go_enter Tryz.func55, Tryz.ntmps55
  go_wp2_with (first
    | (go_at_call 88; refine (signed3_any _ _).mono ?_; rintro e w1 ⟨rfl, rfl⟩)
    | (go_at_call 111; refine (bit_any _ _).mono ?_; rintro e w1 ⟨rfl, rfl⟩)
    | (go_at_call 74; refine (name_any _ _).mono ?_; rintro e w1 ⟨rfl, hb1⟩; rw [hs]))
  go_ret
  exact ⟨rfl, hb1⟩
set_option maxHeartbeats 1000000 in
theorem taken_9 (a b : Int) (w : World) : Calls Tryz.prog 55 #[.int .i64 9, .int .u32 a, .int .u32 b] w fun e w' => e = .returned (.bool (tkI 9 a b)) ∧ Below w.heap.size w w' := by
  have hs : nameOp 9 = ⟨#[98, 108, 116, 117]⟩ := by kernel_rfl
  go_enter Tryz.func55, Tryz.ntmps55
  go_wp2_with (first
    | (go_at_call 88; refine (signed3_any _ _).mono ?_; rintro e w1 ⟨rfl, rfl⟩)
    | (go_at_call 111; refine (bit_any _ _).mono ?_; rintro e w1 ⟨rfl, rfl⟩)
    | (go_at_call 74; refine (name_any _ _).mono ?_; rintro e w1 ⟨rfl, hb1⟩; rw [hs]))
  go_ret
  exact ⟨rfl, hb1⟩
set_option maxHeartbeats 1000000 in
theorem taken_10 (a b : Int) (w : World) : Calls Tryz.prog 55 #[.int .i64 10, .int .u32 a, .int .u32 b] w fun e w' => e = .returned (.bool (tkI 10 a b)) ∧ Below w.heap.size w w' := by
  have hs : nameOp 10 = ⟨#[98, 103, 101, 117]⟩ := by kernel_rfl
  go_enter Tryz.func55, Tryz.ntmps55
  go_wp2_with (first
    | (go_at_call 88; refine (signed3_any _ _).mono ?_; rintro e w1 ⟨rfl, rfl⟩)
    | (go_at_call 111; refine (bit_any _ _).mono ?_; rintro e w1 ⟨rfl, rfl⟩)
    | (go_at_call 74; refine (name_any _ _).mono ?_; rintro e w1 ⟨rfl, hb1⟩; rw [hs]))
  go_ret
  exact ⟨rfl, hb1⟩
set_option maxHeartbeats 1000000 in
theorem taken_rest (op a b : Int) (s : ByteArray) (hs : nameOp op = s) (n0 : (s.toList == [98, 101, 113]) = false) (n1 : (s.toList == [98, 110, 101]) = false) (n2 : (s.toList == [98, 108, 116]) = false) (n3 : (s.toList == [98, 103, 101]) = false) (n4 : (s.toList == [98, 108, 116, 117]) = false) (n5 : (s.toList == [98, 103, 101, 117]) = false) (w : World) : Calls Tryz.prog 55 #[.int .i64 op, .int .u32 a, .int .u32 b] w fun e w' => e = .returned (.bool false) ∧ Below w.heap.size w w' := by
  go_enter Tryz.func55, Tryz.ntmps55
  go_wp2_with (first
    | (go_at_call 88; refine (signed3_any _ _).mono ?_; rintro e w1 ⟨rfl, rfl⟩)
    | (go_at_call 111; refine (bit_any _ _).mono ?_; rintro e w1 ⟨rfl, rfl⟩)
    | (go_at_call 74; refine (name_any _ _).mono ?_; rintro e w1 ⟨rfl, hb1⟩; rw [hs]))
  go_ret
  exact ⟨rfl, hb1⟩
def tnB (s : List UInt8) : Bool := !(s == [98, 101, 113]) && !(s == [98, 110, 101]) && !(s == [98, 108, 116]) && !(s == [98, 103, 101]) && !(s == [98, 108, 116, 117]) && !(s == [98, 103, 101, 117])
theorem tn_all : ((List.range 67).all fun i => ((i == 4) || (i == 5) || (i == 6) || (i == 7) || (i == 8) || (i == 9)) || tnB (nameAt i).toList) = true := by kernel_rfl
theorem tn_not (op : Int) (h : ¬ op = 5 ∧ ¬ op = 6 ∧ ¬ op = 7 ∧ ¬ op = 8 ∧ ¬ op = 9 ∧ ¬ op = 10) : tnB (nameOp op).toList = true := by
  unfold nameOp
  split
  · have := List.all_eq_true.1 tn_all (op - 1).toNat (List.mem_range.2 (by omega))
    simp only [Bool.or_eq_true, beq_iff_eq] at this
    rcases this with this | this
    · exfalso; omega
    · exact this
  · kernel_rfl
theorem tkI_rest (op a b : Int) (h : ¬ op = 5 ∧ ¬ op = 6 ∧ ¬ op = 7 ∧ ¬ op = 8 ∧ ¬ op = 9 ∧ ¬ op = 10) : false = tkI op a b := by
  unfold tkI
  split
  · obtain ⟨n, rfl⟩ : ∃ n : Nat, op = n := ⟨op.toNat, by omega⟩
    rw [Int.toNat_natCast]
    unfold tkN
    split <;> first | rfl | (exfalso; omega)
  · rfl
theorem taken_any (op a b : Int) (w : World) : Calls Tryz.prog 55 #[.int .i64 op, .int .u32 a, .int .u32 b] w fun e w' => e = .returned (.bool (tkI op a b)) ∧ Below w.heap.size w w' := by
  by_cases h5 : op = 5
  · subst h5; exact taken_5 a b w
  by_cases h6 : op = 6
  · subst h6; exact taken_6 a b w
  by_cases h7 : op = 7
  · subst h7; exact taken_7 a b w
  by_cases h8 : op = 8
  · subst h8; exact taken_8 a b w
  by_cases h9 : op = 9
  · subst h9; exact taken_9 a b w
  by_cases h10 : op = 10
  · subst h10; exact taken_10 a b w
  have hn := tn_not op ⟨h5, h6, h7, h8, h9, h10⟩
  simp only [tnB, Bool.and_eq_true, Bool.not_eq_true'] at hn
  obtain ⟨⟨⟨⟨⟨n0, n1⟩, n2⟩, n3⟩, n4⟩, n5⟩ := hn
  rw [← tkI_rest op a b ⟨h5, h6, h7, h8, h9, h10⟩]
  exact taken_rest op a b _ rfl n0 n1 n2 n3 n4 n5 w
end Go.Proofs.YtengofkjlgajlaaGreatDoor
