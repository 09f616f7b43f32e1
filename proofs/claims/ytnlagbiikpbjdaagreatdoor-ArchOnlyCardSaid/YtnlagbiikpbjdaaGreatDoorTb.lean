/-
  THE ANSWER's Exec, OPERATION BY OPERATION.
-/
import Derived.Test.YtnlagbiikpbjdaaGreatDoorTa
namespace Go.Proofs.YtnlagbiikpbjdaaGreatDoor
open Go Go.RowKit
set_option maxHeartbeats 4000000 in
theorem exec_1 (a b : Int) (w : World) (ha : 0 ≤ a ∧ a < 4294967296) (hb : 0 ≤ b ∧ b < 4294967296) : Calls Tryz.prog 95 #[.int .i64 1, .int .u32 a, .int .u32 b] w fun e w' => e = .returned (.int .u32 (b * 4096 % 4294967296)) ∧ Below w.heap.size w w' := by
  have hs : nameOp 1 = ⟨#[108, 117, 105]⟩ := by kernel_rfl
  go_enter Tryz.func95, Tryz.ntmps95
  go_wp2_with (first
    | (go_at_call 94; refine (signed3_any _ _).mono ?_; rintro e w1 ⟨rfl, rfl⟩)
    | (go_at_call 112; refine (bit_any _ _).mono ?_; rintro e w1 ⟨rfl, rfl⟩)
    | (go_at_call 93; refine (name_any _ _).mono ?_; rintro e w1 ⟨rfl, hb1⟩; rw [hs]))
  go_ret
  exact ⟨ret_int (rfl), hb1⟩
set_option maxHeartbeats 4000000 in
theorem exec_2 (a b : Int) (w : World) (ha : 0 ≤ a ∧ a < 4294967296) (hb : 0 ≤ b ∧ b < 4294967296) : Calls Tryz.prog 95 #[.int .i64 2, .int .u32 a, .int .u32 b] w fun e w' => e = .returned (.int .u32 ((a + b * 4096) % 4294967296)) ∧ Below w.heap.size w w' := by
  have hs : nameOp 2 = ⟨#[97, 117, 105, 112, 99]⟩ := by kernel_rfl
  go_enter Tryz.func95, Tryz.ntmps95
  go_wp2_with (first
    | (go_at_call 94; refine (signed3_any _ _).mono ?_; rintro e w1 ⟨rfl, rfl⟩)
    | (go_at_call 112; refine (bit_any _ _).mono ?_; rintro e w1 ⟨rfl, rfl⟩)
    | (go_at_call 93; refine (name_any _ _).mono ?_; rintro e w1 ⟨rfl, hb1⟩; rw [hs]))
  go_ret
  exact ⟨ret_int (by omega), hb1⟩
set_option maxHeartbeats 4000000 in
theorem exec_19 (a b : Int) (w : World) (ha : 0 ≤ a ∧ a < 4294967296) (hb : 0 ≤ b ∧ b < 4294967296) : Calls Tryz.prog 95 #[.int .i64 19, .int .u32 a, .int .u32 b] w fun e w' => e = .returned (.int .u32 ((a + b) % 4294967296)) ∧ Below w.heap.size w w' := by
  have hs : nameOp 19 = ⟨#[97, 100, 100, 105]⟩ := by kernel_rfl
  go_enter Tryz.func95, Tryz.ntmps95
  go_wp2_with (first
    | (go_at_call 94; refine (signed3_any _ _).mono ?_; rintro e w1 ⟨rfl, rfl⟩)
    | (go_at_call 112; refine (bit_any _ _).mono ?_; rintro e w1 ⟨rfl, rfl⟩)
    | (go_at_call 93; refine (name_any _ _).mono ?_; rintro e w1 ⟨rfl, hb1⟩; rw [hs]))
  go_ret
  exact ⟨ret_int (by rw [w64_mod, w32_add]), hb1⟩
set_option maxHeartbeats 4000000 in
theorem exec_28 (a b : Int) (w : World) (ha : 0 ≤ a ∧ a < 4294967296) (hb : 0 ≤ b ∧ b < 4294967296) : Calls Tryz.prog 95 #[.int .i64 28, .int .u32 a, .int .u32 b] w fun e w' => e = .returned (.int .u32 ((a + b) % 4294967296)) ∧ Below w.heap.size w w' := by
  have hs : nameOp 28 = ⟨#[97, 100, 100]⟩ := by kernel_rfl
  go_enter Tryz.func95, Tryz.ntmps95
  go_wp2_with (first
    | (go_at_call 94; refine (signed3_any _ _).mono ?_; rintro e w1 ⟨rfl, rfl⟩)
    | (go_at_call 112; refine (bit_any _ _).mono ?_; rintro e w1 ⟨rfl, rfl⟩)
    | (go_at_call 93; refine (name_any _ _).mono ?_; rintro e w1 ⟨rfl, hb1⟩; rw [hs]))
  go_ret
  exact ⟨ret_int (by rw [w64_mod, w32_add]), hb1⟩
set_option maxHeartbeats 4000000 in
theorem exec_29 (a b : Int) (w : World) (ha : 0 ≤ a ∧ a < 4294967296) (hb : 0 ≤ b ∧ b < 4294967296) : Calls Tryz.prog 95 #[.int .i64 29, .int .u32 a, .int .u32 b] w fun e w' => e = .returned (.int .u32 ((a - b) % 4294967296)) ∧ Below w.heap.size w w' := by
  have hs : nameOp 29 = ⟨#[115, 117, 98]⟩ := by kernel_rfl
  go_enter Tryz.func95, Tryz.ntmps95
  go_wp2_with (first
    | (go_at_call 94; refine (signed3_any _ _).mono ?_; rintro e w1 ⟨rfl, rfl⟩)
    | (go_at_call 112; refine (bit_any _ _).mono ?_; rintro e w1 ⟨rfl, rfl⟩)
    | (go_at_call 93; refine (name_any _ _).mono ?_; rintro e w1 ⟨rfl, hb1⟩; rw [hs]))
  go_ret
  exact ⟨ret_int (by rw [w64_mod, w32_sub]), hb1⟩
set_option maxHeartbeats 4000000 in
theorem exec_20 (a b : Int) (w : World) (ha : 0 ≤ a ∧ a < 4294967296) (hb : 0 ≤ b ∧ b < 4294967296) : Calls Tryz.prog 95 #[.int .i64 20, .int .u32 a, .int .u32 b] w fun e w' => e = .returned (.int .u32 (bitI (decide (wrap32 a < wrap32 b)))) ∧ Below w.heap.size w w' := by
  have hs : nameOp 20 = ⟨#[115, 108, 116, 105]⟩ := by kernel_rfl
  go_enter Tryz.func95, Tryz.ntmps95
  go_wp2_with (first
    | (go_at_call 94; refine (signed3_any _ _).mono ?_; rintro e w1 ⟨rfl, rfl⟩)
    | (go_at_call 112; refine (bit_any _ _).mono ?_; rintro e w1 ⟨rfl, rfl⟩)
    | (go_at_call 93; refine (name_any _ _).mono ?_; rintro e w1 ⟨rfl, hb1⟩; rw [hs]))
  go_ret
  exact ⟨ret_int (rfl), hb1⟩
set_option maxHeartbeats 4000000 in
theorem exec_31 (a b : Int) (w : World) (ha : 0 ≤ a ∧ a < 4294967296) (hb : 0 ≤ b ∧ b < 4294967296) : Calls Tryz.prog 95 #[.int .i64 31, .int .u32 a, .int .u32 b] w fun e w' => e = .returned (.int .u32 (bitI (decide (wrap32 a < wrap32 b)))) ∧ Below w.heap.size w w' := by
  have hs : nameOp 31 = ⟨#[115, 108, 116]⟩ := by kernel_rfl
  go_enter Tryz.func95, Tryz.ntmps95
  go_wp2_with (first
    | (go_at_call 94; refine (signed3_any _ _).mono ?_; rintro e w1 ⟨rfl, rfl⟩)
    | (go_at_call 112; refine (bit_any _ _).mono ?_; rintro e w1 ⟨rfl, rfl⟩)
    | (go_at_call 93; refine (name_any _ _).mono ?_; rintro e w1 ⟨rfl, hb1⟩; rw [hs]))
  go_ret
  exact ⟨ret_int (rfl), hb1⟩
set_option maxHeartbeats 4000000 in
theorem exec_21 (a b : Int) (w : World) (ha : 0 ≤ a ∧ a < 4294967296) (hb : 0 ≤ b ∧ b < 4294967296) : Calls Tryz.prog 95 #[.int .i64 21, .int .u32 a, .int .u32 b] w fun e w' => e = .returned (.int .u32 (bitI (decide (a < b)))) ∧ Below w.heap.size w w' := by
  have hs : nameOp 21 = ⟨#[115, 108, 116, 105, 117]⟩ := by kernel_rfl
  go_enter Tryz.func95, Tryz.ntmps95
  go_wp2_with (first
    | (go_at_call 94; refine (signed3_any _ _).mono ?_; rintro e w1 ⟨rfl, rfl⟩)
    | (go_at_call 112; refine (bit_any _ _).mono ?_; rintro e w1 ⟨rfl, rfl⟩)
    | (go_at_call 93; refine (name_any _ _).mono ?_; rintro e w1 ⟨rfl, hb1⟩; rw [hs]))
  go_ret
  exact ⟨ret_int (rfl), hb1⟩
set_option maxHeartbeats 4000000 in
theorem exec_32 (a b : Int) (w : World) (ha : 0 ≤ a ∧ a < 4294967296) (hb : 0 ≤ b ∧ b < 4294967296) : Calls Tryz.prog 95 #[.int .i64 32, .int .u32 a, .int .u32 b] w fun e w' => e = .returned (.int .u32 (bitI (decide (a < b)))) ∧ Below w.heap.size w w' := by
  have hs : nameOp 32 = ⟨#[115, 108, 116, 117]⟩ := by kernel_rfl
  go_enter Tryz.func95, Tryz.ntmps95
  go_wp2_with (first
    | (go_at_call 94; refine (signed3_any _ _).mono ?_; rintro e w1 ⟨rfl, rfl⟩)
    | (go_at_call 112; refine (bit_any _ _).mono ?_; rintro e w1 ⟨rfl, rfl⟩)
    | (go_at_call 93; refine (name_any _ _).mono ?_; rintro e w1 ⟨rfl, hb1⟩; rw [hs]))
  go_ret
  exact ⟨ret_int (rfl), hb1⟩
set_option maxHeartbeats 4000000 in
theorem exec_22 (a b : Int) (w : World) (ha : 0 ≤ a ∧ a < 4294967296) (hb : 0 ≤ b ∧ b < 4294967296) : Calls Tryz.prog 95 #[.int .i64 22, .int .u32 a, .int .u32 b] w fun e w' => e = .returned (.int .u32 (bits .xor .u32 a b)) ∧ Below w.heap.size w w' := by
  have hs : nameOp 22 = ⟨#[120, 111, 114, 105]⟩ := by kernel_rfl
  go_enter Tryz.func95, Tryz.ntmps95
  go_wp2_with (first
    | (go_at_call 94; refine (signed3_any _ _).mono ?_; rintro e w1 ⟨rfl, rfl⟩)
    | (go_at_call 112; refine (bit_any _ _).mono ?_; rintro e w1 ⟨rfl, rfl⟩)
    | (go_at_call 93; refine (name_any _ _).mono ?_; rintro e w1 ⟨rfl, hb1⟩; rw [hs]))
  go_ret
  exact ⟨ret_int (or_less_and a b), hb1⟩
set_option maxHeartbeats 4000000 in
theorem exec_33 (a b : Int) (w : World) (ha : 0 ≤ a ∧ a < 4294967296) (hb : 0 ≤ b ∧ b < 4294967296) : Calls Tryz.prog 95 #[.int .i64 33, .int .u32 a, .int .u32 b] w fun e w' => e = .returned (.int .u32 (bits .xor .u32 a b)) ∧ Below w.heap.size w w' := by
  have hs : nameOp 33 = ⟨#[120, 111, 114]⟩ := by kernel_rfl
  go_enter Tryz.func95, Tryz.ntmps95
  go_wp2_with (first
    | (go_at_call 94; refine (signed3_any _ _).mono ?_; rintro e w1 ⟨rfl, rfl⟩)
    | (go_at_call 112; refine (bit_any _ _).mono ?_; rintro e w1 ⟨rfl, rfl⟩)
    | (go_at_call 93; refine (name_any _ _).mono ?_; rintro e w1 ⟨rfl, hb1⟩; rw [hs]))
  go_ret
  exact ⟨ret_int (or_less_and a b), hb1⟩
set_option maxHeartbeats 4000000 in
theorem exec_23 (a b : Int) (w : World) (ha : 0 ≤ a ∧ a < 4294967296) (hb : 0 ≤ b ∧ b < 4294967296) : Calls Tryz.prog 95 #[.int .i64 23, .int .u32 a, .int .u32 b] w fun e w' => e = .returned (.int .u32 (bits .or .u32 a b)) ∧ Below w.heap.size w w' := by
  have hs : nameOp 23 = ⟨#[111, 114, 105]⟩ := by kernel_rfl
  go_enter Tryz.func95, Tryz.ntmps95
  go_wp2_with (first
    | (go_at_call 94; refine (signed3_any _ _).mono ?_; rintro e w1 ⟨rfl, rfl⟩)
    | (go_at_call 112; refine (bit_any _ _).mono ?_; rintro e w1 ⟨rfl, rfl⟩)
    | (go_at_call 93; refine (name_any _ _).mono ?_; rintro e w1 ⟨rfl, hb1⟩; rw [hs]))
  go_ret
  exact ⟨ret_int (rfl), hb1⟩
set_option maxHeartbeats 4000000 in
theorem exec_36 (a b : Int) (w : World) (ha : 0 ≤ a ∧ a < 4294967296) (hb : 0 ≤ b ∧ b < 4294967296) : Calls Tryz.prog 95 #[.int .i64 36, .int .u32 a, .int .u32 b] w fun e w' => e = .returned (.int .u32 (bits .or .u32 a b)) ∧ Below w.heap.size w w' := by
  have hs : nameOp 36 = ⟨#[111, 114]⟩ := by kernel_rfl
  go_enter Tryz.func95, Tryz.ntmps95
  go_wp2_with (first
    | (go_at_call 94; refine (signed3_any _ _).mono ?_; rintro e w1 ⟨rfl, rfl⟩)
    | (go_at_call 112; refine (bit_any _ _).mono ?_; rintro e w1 ⟨rfl, rfl⟩)
    | (go_at_call 93; refine (name_any _ _).mono ?_; rintro e w1 ⟨rfl, hb1⟩; rw [hs]))
  go_ret
  exact ⟨ret_int (rfl), hb1⟩
set_option maxHeartbeats 4000000 in
theorem exec_24 (a b : Int) (w : World) (ha : 0 ≤ a ∧ a < 4294967296) (hb : 0 ≤ b ∧ b < 4294967296) : Calls Tryz.prog 95 #[.int .i64 24, .int .u32 a, .int .u32 b] w fun e w' => e = .returned (.int .u32 (bits .and .u32 a b)) ∧ Below w.heap.size w w' := by
  have hs : nameOp 24 = ⟨#[97, 110, 100, 105]⟩ := by kernel_rfl
  go_enter Tryz.func95, Tryz.ntmps95
  go_wp2_with (first
    | (go_at_call 94; refine (signed3_any _ _).mono ?_; rintro e w1 ⟨rfl, rfl⟩)
    | (go_at_call 112; refine (bit_any _ _).mono ?_; rintro e w1 ⟨rfl, rfl⟩)
    | (go_at_call 93; refine (name_any _ _).mono ?_; rintro e w1 ⟨rfl, hb1⟩; rw [hs]))
  go_ret
  exact ⟨ret_int (rfl), hb1⟩
set_option maxHeartbeats 4000000 in
theorem exec_37 (a b : Int) (w : World) (ha : 0 ≤ a ∧ a < 4294967296) (hb : 0 ≤ b ∧ b < 4294967296) : Calls Tryz.prog 95 #[.int .i64 37, .int .u32 a, .int .u32 b] w fun e w' => e = .returned (.int .u32 (bits .and .u32 a b)) ∧ Below w.heap.size w w' := by
  have hs : nameOp 37 = ⟨#[97, 110, 100]⟩ := by kernel_rfl
  go_enter Tryz.func95, Tryz.ntmps95
  go_wp2_with (first
    | (go_at_call 94; refine (signed3_any _ _).mono ?_; rintro e w1 ⟨rfl, rfl⟩)
    | (go_at_call 112; refine (bit_any _ _).mono ?_; rintro e w1 ⟨rfl, rfl⟩)
    | (go_at_call 93; refine (name_any _ _).mono ?_; rintro e w1 ⟨rfl, hb1⟩; rw [hs]))
  go_ret
  exact ⟨ret_int (rfl), hb1⟩
set_option maxHeartbeats 4000000 in
theorem exec_25 (a b : Int) (w : World) (ha : 0 ≤ a ∧ a < 4294967296) (hb : 0 ≤ b ∧ b < 4294967296) : Calls Tryz.prog 95 #[.int .i64 25, .int .u32 a, .int .u32 b] w fun e w' => e = .returned (.int .u32 (a * 2 ^ (b % 32).toNat % 4294967296)) ∧ Below w.heap.size w w' := by
  have hs : nameOp 25 = ⟨#[115, 108, 108, 105]⟩ := by kernel_rfl
  have HM : Hid (bits .and .u32 b 31 = b % 32) := and31 b hb
  have hm0 : 0 ≤ bits .and .u32 b 31 := by rw [HM.out]; omega
  have hm1 : bits .and .u32 b 31 ≤ 31 := by rw [HM.out]; omega
  go_enter Tryz.func95, Tryz.ntmps95
  go_wp2_with (first
    | (go_at_call 94; refine (signed3_any _ _).mono ?_; rintro e w1 ⟨rfl, rfl⟩)
    | (go_at_call 112; refine (bit_any _ _).mono ?_; rintro e w1 ⟨rfl, rfl⟩)
    | (go_at_call 93; refine (name_any _ _).mono ?_; rintro e w1 ⟨rfl, hb1⟩; rw [hs]))
  go_ret
  exact ⟨ret_int (by rw [HM.out]; exact w64_mod _), hb1⟩
set_option maxHeartbeats 4000000 in
theorem exec_30 (a b : Int) (w : World) (ha : 0 ≤ a ∧ a < 4294967296) (hb : 0 ≤ b ∧ b < 4294967296) : Calls Tryz.prog 95 #[.int .i64 30, .int .u32 a, .int .u32 b] w fun e w' => e = .returned (.int .u32 (a * 2 ^ (b % 32).toNat % 4294967296)) ∧ Below w.heap.size w w' := by
  have hs : nameOp 30 = ⟨#[115, 108, 108]⟩ := by kernel_rfl
  have HM : Hid (bits .and .u32 b 31 = b % 32) := and31 b hb
  have hm0 : 0 ≤ bits .and .u32 b 31 := by rw [HM.out]; omega
  have hm1 : bits .and .u32 b 31 ≤ 31 := by rw [HM.out]; omega
  go_enter Tryz.func95, Tryz.ntmps95
  go_wp2_with (first
    | (go_at_call 94; refine (signed3_any _ _).mono ?_; rintro e w1 ⟨rfl, rfl⟩)
    | (go_at_call 112; refine (bit_any _ _).mono ?_; rintro e w1 ⟨rfl, rfl⟩)
    | (go_at_call 93; refine (name_any _ _).mono ?_; rintro e w1 ⟨rfl, hb1⟩; rw [hs]))
  go_ret
  exact ⟨ret_int (by rw [HM.out]; exact w64_mod _), hb1⟩
set_option maxHeartbeats 4000000 in
theorem exec_26 (a b : Int) (w : World) (ha : 0 ≤ a ∧ a < 4294967296) (hb : 0 ≤ b ∧ b < 4294967296) : Calls Tryz.prog 95 #[.int .i64 26, .int .u32 a, .int .u32 b] w fun e w' => e = .returned (.int .u32 (a / 2 ^ (b % 32).toNat)) ∧ Below w.heap.size w w' := by
  have hs : nameOp 26 = ⟨#[115, 114, 108, 105]⟩ := by kernel_rfl
  have HM : Hid (bits .and .u32 b 31 = b % 32) := and31 b hb
  have hm0 : 0 ≤ bits .and .u32 b 31 := by rw [HM.out]; omega
  have hm1 : bits .and .u32 b 31 ≤ 31 := by rw [HM.out]; omega
  go_enter Tryz.func95, Tryz.ntmps95
  go_wp2_with (first
    | (go_at_call 94; refine (signed3_any _ _).mono ?_; rintro e w1 ⟨rfl, rfl⟩)
    | (go_at_call 112; refine (bit_any _ _).mono ?_; rintro e w1 ⟨rfl, rfl⟩)
    | (go_at_call 93; refine (name_any _ _).mono ?_; rintro e w1 ⟨rfl, hb1⟩; rw [hs]))
  go_ret
  exact ⟨ret_int (by rw [HM.out]; exact shr_mod _ _ ha), hb1⟩
set_option maxHeartbeats 4000000 in
theorem exec_34 (a b : Int) (w : World) (ha : 0 ≤ a ∧ a < 4294967296) (hb : 0 ≤ b ∧ b < 4294967296) : Calls Tryz.prog 95 #[.int .i64 34, .int .u32 a, .int .u32 b] w fun e w' => e = .returned (.int .u32 (a / 2 ^ (b % 32).toNat)) ∧ Below w.heap.size w w' := by
  have hs : nameOp 34 = ⟨#[115, 114, 108]⟩ := by kernel_rfl
  have HM : Hid (bits .and .u32 b 31 = b % 32) := and31 b hb
  have hm0 : 0 ≤ bits .and .u32 b 31 := by rw [HM.out]; omega
  have hm1 : bits .and .u32 b 31 ≤ 31 := by rw [HM.out]; omega
  go_enter Tryz.func95, Tryz.ntmps95
  go_wp2_with (first
    | (go_at_call 94; refine (signed3_any _ _).mono ?_; rintro e w1 ⟨rfl, rfl⟩)
    | (go_at_call 112; refine (bit_any _ _).mono ?_; rintro e w1 ⟨rfl, rfl⟩)
    | (go_at_call 93; refine (name_any _ _).mono ?_; rintro e w1 ⟨rfl, hb1⟩; rw [hs]))
  go_ret
  exact ⟨ret_int (by rw [HM.out]; exact shr_mod _ _ ha), hb1⟩
set_option maxHeartbeats 4000000 in
theorem exec_27 (a b : Int) (w : World) (ha : 0 ≤ a ∧ a < 4294967296) (hb : 0 ≤ b ∧ b < 4294967296) : Calls Tryz.prog 95 #[.int .i64 27, .int .u32 a, .int .u32 b] w fun e w' => e = .returned (.int .u32 (wrap32 a / 2 ^ (b % 32).toNat % 4294967296)) ∧ Below w.heap.size w w' := by
  have hs : nameOp 27 = ⟨#[115, 114, 97, 105]⟩ := by kernel_rfl
  have HM : Hid (bits .and .u32 b 31 = b % 32) := and31 b hb
  have hm0 : 0 ≤ bits .and .u32 b 31 := by rw [HM.out]; omega
  have hm1 : bits .and .u32 b 31 ≤ 31 := by rw [HM.out]; omega
  go_enter Tryz.func95, Tryz.ntmps95
  go_wp2_with (first
    | (go_at_call 94; refine (signed3_any _ _).mono ?_; rintro e w1 ⟨rfl, rfl⟩)
    | (go_at_call 112; refine (bit_any _ _).mono ?_; rintro e w1 ⟨rfl, rfl⟩)
    | (go_at_call 93; refine (name_any _ _).mono ?_; rintro e w1 ⟨rfl, hb1⟩; rw [hs]))
  go_ret
  exact ⟨ret_int (by rw [HM.out]), hb1⟩
set_option maxHeartbeats 4000000 in
theorem exec_35 (a b : Int) (w : World) (ha : 0 ≤ a ∧ a < 4294967296) (hb : 0 ≤ b ∧ b < 4294967296) : Calls Tryz.prog 95 #[.int .i64 35, .int .u32 a, .int .u32 b] w fun e w' => e = .returned (.int .u32 (wrap32 a / 2 ^ (b % 32).toNat % 4294967296)) ∧ Below w.heap.size w w' := by
  have hs : nameOp 35 = ⟨#[115, 114, 97]⟩ := by kernel_rfl
  have HM : Hid (bits .and .u32 b 31 = b % 32) := and31 b hb
  have hm0 : 0 ≤ bits .and .u32 b 31 := by rw [HM.out]; omega
  have hm1 : bits .and .u32 b 31 ≤ 31 := by rw [HM.out]; omega
  go_enter Tryz.func95, Tryz.ntmps95
  go_wp2_with (first
    | (go_at_call 94; refine (signed3_any _ _).mono ?_; rintro e w1 ⟨rfl, rfl⟩)
    | (go_at_call 112; refine (bit_any _ _).mono ?_; rintro e w1 ⟨rfl, rfl⟩)
    | (go_at_call 93; refine (name_any _ _).mono ?_; rintro e w1 ⟨rfl, hb1⟩; rw [hs]))
  go_ret
  exact ⟨ret_int (by rw [HM.out]), hb1⟩
set_option maxHeartbeats 4000000 in
theorem exec_38 (a b : Int) (w : World) (ha : 0 ≤ a ∧ a < 4294967296) (hb : 0 ≤ b ∧ b < 4294967296) : Calls Tryz.prog 95 #[.int .i64 38, .int .u32 a, .int .u32 b] w fun e w' => e = .returned (.int .u32 (a * b % 4294967296)) ∧ Below w.heap.size w w' := by
  have hs : nameOp 38 = ⟨#[109, 117, 108]⟩ := by kernel_rfl
  go_enter Tryz.func95, Tryz.ntmps95
  go_wp2_with (first
    | (go_at_call 94; refine (signed3_any _ _).mono ?_; rintro e w1 ⟨rfl, rfl⟩)
    | (go_at_call 112; refine (bit_any _ _).mono ?_; rintro e w1 ⟨rfl, rfl⟩)
    | (go_at_call 93; refine (name_any _ _).mono ?_; rintro e w1 ⟨rfl, hb1⟩; rw [hs]))
  go_ret
  exact ⟨ret_int (by rw [w64_mod, w32_mul]), hb1⟩
set_option maxHeartbeats 4000000 in
theorem exec_39 (a b : Int) (w : World) (ha : 0 ≤ a ∧ a < 4294967296) (hb : 0 ≤ b ∧ b < 4294967296) : Calls Tryz.prog 95 #[.int .i64 39, .int .u32 a, .int .u32 b] w fun e w' => e = .returned (.int .u32 (wrap32 a * wrap32 b / 4294967296 % 4294967296)) ∧ Below w.heap.size w w' := by
  have hs : nameOp 39 = ⟨#[109, 117, 108, 104]⟩ := by kernel_rfl
  go_enter Tryz.func95, Tryz.ntmps95
  go_wp2_with (first
    | (go_at_call 94; refine (signed3_any _ _).mono ?_; rintro e w1 ⟨rfl, rfl⟩)
    | (go_at_call 112; refine (bit_any _ _).mono ?_; rintro e w1 ⟨rfl, rfl⟩)
    | (go_at_call 93; refine (name_any _ _).mono ?_; rintro e w1 ⟨rfl, hb1⟩; rw [hs]))
  go_ret
  exact ⟨ret_int (by rw [w64_high]), hb1⟩
set_option maxHeartbeats 4000000 in
theorem exec_40 (a b : Int) (w : World) (ha : 0 ≤ a ∧ a < 4294967296) (hb : 0 ≤ b ∧ b < 4294967296) : Calls Tryz.prog 95 #[.int .i64 40, .int .u32 a, .int .u32 b] w fun e w' => e = .returned (.int .u32 (wrap32 a * b / 4294967296 % 4294967296)) ∧ Below w.heap.size w w' := by
  have hs : nameOp 40 = ⟨#[109, 117, 108, 104, 115, 117]⟩ := by kernel_rfl
  go_enter Tryz.func95, Tryz.ntmps95
  go_wp2_with (first
    | (go_at_call 94; refine (signed3_any _ _).mono ?_; rintro e w1 ⟨rfl, rfl⟩)
    | (go_at_call 112; refine (bit_any _ _).mono ?_; rintro e w1 ⟨rfl, rfl⟩)
    | (go_at_call 93; refine (name_any _ _).mono ?_; rintro e w1 ⟨rfl, hb1⟩; rw [hs]))
  go_ret
  exact ⟨ret_int (by rw [w64_high]), hb1⟩
set_option maxHeartbeats 4000000 in
theorem exec_41 (a b : Int) (w : World) (ha : 0 ≤ a ∧ a < 4294967296) (hb : 0 ≤ b ∧ b < 4294967296) : Calls Tryz.prog 95 #[.int .i64 41, .int .u32 a, .int .u32 b] w fun e w' => e = .returned (.int .u32 (a * b / 4294967296 % 4294967296)) ∧ Below w.heap.size w w' := by
  have hs : nameOp 41 = ⟨#[109, 117, 108, 104, 117]⟩ := by kernel_rfl
  go_enter Tryz.func95, Tryz.ntmps95
  go_wp2_with (first
    | (go_at_call 94; refine (signed3_any _ _).mono ?_; rintro e w1 ⟨rfl, rfl⟩)
    | (go_at_call 112; refine (bit_any _ _).mono ?_; rintro e w1 ⟨rfl, rfl⟩)
    | (go_at_call 93; refine (name_any _ _).mono ?_; rintro e w1 ⟨rfl, hb1⟩; rw [hs]))
  go_ret
  exact ⟨ret_int (by rw [u64_high]), hb1⟩
end Go.Proofs.YtnlagbiikpbjdaaGreatDoor
