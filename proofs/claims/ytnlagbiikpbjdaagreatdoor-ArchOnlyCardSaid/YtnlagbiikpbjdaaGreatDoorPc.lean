/-
  THE PROGRAM's Exec AND Taken.
-/
import Derived.Test.YtnlagbiikpbjdaaGreatDoorPb
import Derived.Shelf.Abstract
namespace Go.Proofs.YtnlagbiikpbjdaaGreatDoor
open Go Go.RowKit
theorem exec_by (op a b : Int) (k : FuncId) (x : Int) (w : World) (hk : compV op = .func (.func k) #[] #[]) (he : ∀ (args : Array Value) (w : World), (callFunc k args).run Tryz.prog w = .ok (.enter k args) w) (hc : ∀ w, Calls Tryz.prog k #[.int .u32 a, .int .u32 b] w fun e w' => e = .returned (.int .u32 x) ∧ w' = w) : Calls Tryz.prog 85 #[.int .i64 op, .int .u32 a, .int .u32 b] w fun e w' => e = .returned (.int .u32 x) ∧ Below w.heap.size w w' := by
  have HC : Hid (∀ w, Calls Tryz.prog k #[.int .u32 a, .int .u32 b] w fun e w' => e = .returned (.int .u32 x) ∧ w' = w) := hc
  clear hc
  have hrun : ∀ w : World, (binOp BinOp.neq 186 (.func (.func k) #[] #[]) .nilFunc).run Tryz.prog w = .ok (.bool true) w := fun _ => by kernel_rfl
  go_enter Tryz.func85, Tryz.ntmps85
  go_wp2_with (first
    | (go_at_call 107; refine (comp_any _ _).mono ?_; rintro e w1 ⟨rfl, hb1⟩; rw [hk])
    | (go_at_fn k; refine (HC.out _).mono ?_; rintro e w2 ⟨rfl, rfl⟩))
  go_ret
  exact ⟨rfl, hb1⟩
theorem exec_none (op a b : Int) (w : World) (hk : compV op = .nilFunc) : Calls Tryz.prog 85 #[.int .i64 op, .int .u32 a, .int .u32 b] w fun e w' => e = .returned (.int .u32 0) ∧ Below w.heap.size w w' := by
  have hrun : ∀ w : World, (binOp BinOp.neq 186 .nilFunc .nilFunc).run Tryz.prog w = .ok (.bool false) w := fun _ => by kernel_rfl
  go_enter Tryz.func85, Tryz.ntmps85
  go_wp2_with (go_at_call 107; refine (comp_any _ _).mono ?_; rintro e w1 ⟨rfl, hb1⟩; rw [hk])
  go_ret
  exact ⟨rfl, hb1⟩
theorem taken_by (op a b : Int) (k : FuncId) (x : Bool) (w : World) (hk : asksV op = .func (.func k) #[] #[]) (he : ∀ (args : Array Value) (w : World), (callFunc k args).run Tryz.prog w = .ok (.enter k args) w) (hc : ∀ w, Calls Tryz.prog k #[.int .u32 a, .int .u32 b] w fun e w' => e = .returned (.bool x) ∧ w' = w) : Calls Tryz.prog 105 #[.int .i64 op, .int .u32 a, .int .u32 b] w fun e w' => e = .returned (.bool x) ∧ Below w.heap.size w w' := by
  have HC : Hid (∀ w, Calls Tryz.prog k #[.int .u32 a, .int .u32 b] w fun e w' => e = .returned (.bool x) ∧ w' = w) := hc
  clear hc
  have hrun : ∀ w : World, (binOp BinOp.neq 209 (.func (.func k) #[] #[]) .nilFunc).run Tryz.prog w = .ok (.bool true) w := fun _ => by kernel_rfl
  go_enter Tryz.func105, Tryz.ntmps105
  go_wp2_with (first
    | (go_at_call 129; refine (asks_any _ _).mono ?_; rintro e w1 ⟨rfl, hb1⟩; rw [hk])
    | (go_at_fn k; refine (HC.out _).mono ?_; rintro e w2 ⟨rfl, rfl⟩))
  go_ret
  exact ⟨rfl, hb1⟩
theorem taken_none (op a b : Int) (w : World) (hk : asksV op = .nilFunc) : Calls Tryz.prog 105 #[.int .i64 op, .int .u32 a, .int .u32 b] w fun e w' => e = .returned (.bool false) ∧ Below w.heap.size w w' := by
  have hrun : ∀ w : World, (binOp BinOp.neq 209 .nilFunc .nilFunc).run Tryz.prog w = .ok (.bool false) w := fun _ => by kernel_rfl
  go_enter Tryz.func105, Tryz.ntmps105
  go_wp2_with (go_at_call 129; refine (asks_any _ _).mono ?_; rintro e w1 ⟨rfl, hb1⟩; rw [hk])
  go_ret
  exact ⟨rfl, hb1⟩
theorem compV_out (op : Int) (h : ¬ (0 ≤ op ∧ op < 46)) : compV op = .nilFunc := by unfold compV; rw [if_neg h]
theorem compV_in (i : Nat) (hi : i < 46) : compV (i : Int) = compA.getD i .nilFunc := by
  unfold compV
  rw [if_pos (by omega)]
  rfl
theorem asksV_out (op : Int) (h : ¬ (0 ≤ op ∧ op < 11)) : asksV op = .nilFunc := by unfold asksV; rw [if_neg h]
theorem asksV_in (i : Nat) (hi : i < 11) : asksV (i : Int) = askA.getD i .nilFunc := by
  unfold asksV
  rw [if_pos (by omega)]
  rfl
theorem exN_big (n : Nat) (a b : Int) (h : 46 ≤ n) : exN n a b = 0 := by
  unfold exN
  split
  all_goals first | rfl | (exfalso; omega)
theorem tkN_big (n : Nat) (a b : Int) (h : 11 ≤ n) : tkN n a b = false := by
  unfold tkN
  split
  all_goals first | rfl | (exfalso; omega)
theorem p_exec (op a b : Int) (w : World) (ha : 0 ≤ a ∧ a < 4294967296) (hb : 0 ≤ b ∧ b < 4294967296) : Calls Tryz.prog 85 #[.int .i64 op, .int .u32 a, .int .u32 b] w fun e w' => e = .returned (.int .u32 (exI op a b)) ∧ Below w.heap.size w w' := by
  by_cases h : 0 ≤ op ∧ op < 46
  · obtain ⟨i, rfl⟩ : ∃ i : Nat, op = i := ⟨op.toNat, by omega⟩
    have hi : i < 46 := by omega
    have e := compV_in i hi
    match i, hi, e with
    | 0, _, e => exact exec_none _ _ _ w e
    | 1, _, e => exact exec_by _ _ _ _ _ w e (enters_of Tryz.func132 (by kernel_rfl) rfl) (fun w => p_upper a b w)
    | 2, _, e => exact exec_by _ _ _ _ _ w e (enters_of Tryz.func133 (by kernel_rfl) rfl) (fun w => p_addUpper a b w)
    | 3, _, e => exact exec_none _ _ _ w e
    | 4, _, e => exact exec_none _ _ _ w e
    | 5, _, e => exact exec_none _ _ _ w e
    | 6, _, e => exact exec_none _ _ _ w e
    | 7, _, e => exact exec_none _ _ _ w e
    | 8, _, e => exact exec_none _ _ _ w e
    | 9, _, e => exact exec_none _ _ _ w e
    | 10, _, e => exact exec_none _ _ _ w e
    | 11, _, e => exact exec_none _ _ _ w e
    | 12, _, e => exact exec_none _ _ _ w e
    | 13, _, e => exact exec_none _ _ _ w e
    | 14, _, e => exact exec_none _ _ _ w e
    | 15, _, e => exact exec_none _ _ _ w e
    | 16, _, e => exact exec_none _ _ _ w e
    | 17, _, e => exact exec_none _ _ _ w e
    | 18, _, e => exact exec_none _ _ _ w e
    | 19, _, e => exact exec_by _ _ _ _ _ w e (enters_of Tryz.func115 (by kernel_rfl) rfl) (fun w => p_add a b w)
    | 20, _, e => exact exec_by _ _ _ _ _ w e (enters_of Tryz.func134 (by kernel_rfl) rfl) (fun w => p_setLess a b w)
    | 21, _, e => exact exec_by _ _ _ _ _ w e (enters_of Tryz.func135 (by kernel_rfl) rfl) (fun w => p_setBelow a b w)
    | 22, _, e => exact exec_by _ _ _ _ _ w e (enters_of Tryz.func116 (by kernel_rfl) rfl) (fun w => p_xor a b w)
    | 23, _, e => exact exec_by _ _ _ _ _ w e (enters_of Tryz.func118 (by kernel_rfl) rfl) (fun w => p_or a b w)
    | 24, _, e => exact exec_by _ _ _ _ _ w e (enters_of Tryz.func117 (by kernel_rfl) rfl) (fun w => p_and a b w)
    | 25, _, e => exact exec_by _ _ _ _ _ w e (enters_of Tryz.func136 (by kernel_rfl) rfl) (fun w => p_left a b w hb)
    | 26, _, e => exact exec_by _ _ _ _ _ w e (enters_of Tryz.func137 (by kernel_rfl) rfl) (fun w => p_right a b w hb)
    | 27, _, e => exact exec_by _ _ _ _ _ w e (enters_of Tryz.func138 (by kernel_rfl) rfl) (fun w => p_rightSigned a b w hb)
    | 28, _, e => exact exec_by _ _ _ _ _ w e (enters_of Tryz.func115 (by kernel_rfl) rfl) (fun w => p_add a b w)
    | 29, _, e => exact exec_by _ _ _ _ _ w e (enters_of Tryz.func139 (by kernel_rfl) rfl) (fun w => p_sub a b w)
    | 30, _, e => exact exec_by _ _ _ _ _ w e (enters_of Tryz.func136 (by kernel_rfl) rfl) (fun w => p_left a b w hb)
    | 31, _, e => exact exec_by _ _ _ _ _ w e (enters_of Tryz.func134 (by kernel_rfl) rfl) (fun w => p_setLess a b w)
    | 32, _, e => exact exec_by _ _ _ _ _ w e (enters_of Tryz.func135 (by kernel_rfl) rfl) (fun w => p_setBelow a b w)
    | 33, _, e => exact exec_by _ _ _ _ _ w e (enters_of Tryz.func116 (by kernel_rfl) rfl) (fun w => p_xor a b w)
    | 34, _, e => exact exec_by _ _ _ _ _ w e (enters_of Tryz.func137 (by kernel_rfl) rfl) (fun w => p_right a b w hb)
    | 35, _, e => exact exec_by _ _ _ _ _ w e (enters_of Tryz.func138 (by kernel_rfl) rfl) (fun w => p_rightSigned a b w hb)
    | 36, _, e => exact exec_by _ _ _ _ _ w e (enters_of Tryz.func118 (by kernel_rfl) rfl) (fun w => p_or a b w)
    | 37, _, e => exact exec_by _ _ _ _ _ w e (enters_of Tryz.func117 (by kernel_rfl) rfl) (fun w => p_and a b w)
    | 38, _, e => exact exec_by _ _ _ _ _ w e (enters_of Tryz.func140 (by kernel_rfl) rfl) (fun w => p_mul a b w)
    | 39, _, e => exact exec_by _ _ _ _ _ w e (enters_of Tryz.func141 (by kernel_rfl) rfl) (fun w => p_mulHigh a b w)
    | 40, _, e => exact exec_by _ _ _ _ _ w e (enters_of Tryz.func142 (by kernel_rfl) rfl) (fun w => p_mulHighMixed a b w hb)
    | 41, _, e => exact exec_by _ _ _ _ _ w e (enters_of Tryz.func143 (by kernel_rfl) rfl) (fun w => p_mulHighUnsigned a b w ha hb)
    | 42, _, e => exact exec_by _ _ _ _ _ w e (enters_of Tryz.func144 (by kernel_rfl) rfl) (fun w => p_div a b w hb)
    | 43, _, e => exact exec_by _ _ _ _ _ w e (enters_of Tryz.func145 (by kernel_rfl) rfl) (fun w => p_divUnsigned a b w ha hb)
    | 44, _, e => exact exec_by _ _ _ _ _ w e (enters_of Tryz.func146 (by kernel_rfl) rfl) (fun w => p_rem a b w hb)
    | 45, _, e => exact exec_by _ _ _ _ _ w e (enters_of Tryz.func147 (by kernel_rfl) rfl) (fun w => p_remUnsigned a b w ha hb)
  · have hx : exI op a b = 0 := by
      unfold exI
      split
      · exact exN_big _ _ _ (by omega)
      · rfl
    rw [hx]
    exact exec_none _ _ _ w (compV_out op h)
theorem p_taken (op a b : Int) (w : World) : Calls Tryz.prog 105 #[.int .i64 op, .int .u32 a, .int .u32 b] w fun e w' => e = .returned (.bool (tkI op a b)) ∧ Below w.heap.size w w' := by
  by_cases h : 0 ≤ op ∧ op < 11
  · obtain ⟨i, rfl⟩ : ∃ i : Nat, op = i := ⟨op.toNat, by omega⟩
    have hi : i < 11 := by omega
    have e := asksV_in i hi
    match i, hi, e with
    | 0, _, e => exact taken_none _ _ _ w e
    | 1, _, e => exact taken_none _ _ _ w e
    | 2, _, e => exact taken_none _ _ _ w e
    | 3, _, e => exact taken_none _ _ _ w e
    | 4, _, e => exact taken_none _ _ _ w e
    | 5, _, e => exact taken_by _ _ _ _ _ w e (enters_of Tryz.func163 (by kernel_rfl) rfl) (fun w => p_same a b w)
    | 6, _, e => exact taken_by _ _ _ _ _ w e (enters_of Tryz.func164 (by kernel_rfl) rfl) (fun w => p_asking1 a b w)
    | 7, _, e => exact taken_by _ _ _ _ _ w e (enters_of Tryz.func159 (by kernel_rfl) rfl) (fun w => p_less a b w)
    | 8, _, e => exact taken_by _ _ _ _ _ w e (enters_of Tryz.func165 (by kernel_rfl) rfl) (fun w => p_asking2 a b w)
    | 9, _, e => exact taken_by _ _ _ _ _ w e (enters_of Tryz.func166 (by kernel_rfl) rfl) (fun w => p_below a b w)
    | 10, _, e => exact taken_by _ _ _ _ _ w e (enters_of Tryz.func167 (by kernel_rfl) rfl) (fun w => p_asking3 a b w)
  · have hx : tkI op a b = false := by
      unfold tkI
      split
      · exact tkN_big _ _ _ (by omega)
      · rfl
    rw [hx]
    exact taken_none _ _ _ w (asksV_out op h)
end Go.Proofs.YtnlagbiikpbjdaaGreatDoor
