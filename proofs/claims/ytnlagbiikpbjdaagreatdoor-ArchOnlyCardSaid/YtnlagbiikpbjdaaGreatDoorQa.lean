/-
  THE PROGRAM's Swap.
-/
import Derived.Test.YtnlagbiikpbjdaaGreatDoorPb
import Derived.Shelf.Abstract
namespace Go.Proofs.YtnlagbiikpbjdaaGreatDoor
open Go Go.RowKit
def swpA : Array Value := #[.nilFunc, .nilFunc, .nilFunc, .nilFunc, .nilFunc, .nilFunc, .nilFunc, .nilFunc, .nilFunc, .nilFunc, .nilFunc, .nilFunc, .nilFunc, .nilFunc, .nilFunc, .nilFunc, .nilFunc, .nilFunc, .nilFunc, .nilFunc, .nilFunc, .nilFunc, .nilFunc, .nilFunc, .nilFunc, .nilFunc, .nilFunc, .nilFunc, .nilFunc, .nilFunc, .nilFunc, .nilFunc, .nilFunc, .nilFunc, .nilFunc, .nilFunc, .nilFunc, .nilFunc, .nilFunc, .nilFunc, .nilFunc, .nilFunc, .nilFunc, .nilFunc, .nilFunc, .nilFunc, .nilFunc, .func (.func 114) #[] #[], .func (.func 114) #[] #[], .func (.func 115) #[] #[], .func (.func 116) #[] #[], .func (.func 117) #[] #[], .func (.func 118) #[] #[], .func (.func 119) #[] #[], .func (.func 120) #[] #[], .func (.func 121) #[] #[], .func (.func 122) #[] #[]]
def swpV (op : Int) : Value := if 0 ≤ op ∧ op < 57 then swpA.getD op.toNat .nilFunc else .nilFunc
theorem swpA_at (i : Nat) (hi : i < 57) : swpA[i]? = some (swpA.getD i .nilFunc) := by
  have hs : swpA.size = 57 := by kernel_rfl
  rw [Array.getD_eq_getD_getElem?, Array.getElem?_eq_getElem (by omega)]
  rfl
theorem swp_any (op : Int) (w : World) : Calls Tryz.prog 98 #[.int .i64 op] w fun e w' => e = .returned (swpV op) ∧ Below w.heap.size w w' := by
  have hg : (w.alloc (.cells (Array.replicate 57 .nilFunc) 204)).heap[w.heap.size]? = some (.cells (Array.replicate 57 .nilFunc) 204 (0, 0)) := by show (w.heap.push _)[w.heap.size]? = _; simp
  have hW : ∀ i, i < 57 → ((w.alloc (.cells (Array.replicate 57 .nilFunc) 204)).setRow w.heap.size swpA).cell? ⟨w.heap.size, i, none⟩ = some (swpA.getD i .nilFunc) := fun i hi => (cell_setRow_same _ _ i _ _ _ _ hg).trans (swpA_at i hi)
  have hb : Below w.heap.size w ((w.alloc (.cells (Array.replicate 57 .nilFunc) 204)).setRow w.heap.size swpA) := below_setRow ((Below.refl _ _).alloc (Nat.le_refl _) _) (Nat.le_refl _) _
  refine calls_of_wp Tryz.func98 rfl ?_
  refine wp_head (a' := ⟨#[.int .i64 op, undef, .nilFunc, undef, undef, undef, undef, undef], []⟩) (w' := w) (by kernel_rfl) ?_
  refine wp_seq (wp_region_list ?_)
  refine wpList_head (l := [_, _]) (l2 := [_]) (a' := ⟨#[.int .i64 op, undef, .nilFunc, .pointer (some ⟨w.heap.size, 0, none⟩), .agg swpA, undef, undef, undef], []⟩) (w' := w.alloc (.cells (Array.replicate 57 .nilFunc) 204)) (by kernel_rfl) ?_
  refine wpList_store_row rfl 204 _ _ rfl w.heap.size swpA rfl rfl 204 _ hg (by kernel_rfl) (by kernel_rfl) (by kernel_rfl) ?_
  generalize (w.alloc (.cells (Array.replicate 57 .nilFunc) 204)).setRow w.heap.size swpA = W at hW hb ⊢
  clear hg
  generalize w.heap.size = z at hW hb ⊢
  show Code.wp _ _ _ ⟨#[.int .i64 op, undef, .nilFunc, .pointer (some ⟨z, 0, none⟩), .agg swpA, undef, undef, undef], []⟩ W
  by_cases h : 0 ≤ op ∧ op < 57
  · rw [swpV, if_pos h]
    obtain ⟨i, rfl⟩ : ∃ i : Nat, op = i := ⟨op.toNat, by omega⟩
    have hi : i < 57 := by omega
    rw [show ((i : Int)).toNat = i from rfl]
    have hc := hW i hi
    clear hW h
    generalize swpA.getD i .nilFunc = v at hc ⊢
    generalize swpA = A0
    go_wp2_with (go_at_call 123; refine (pick2_in _ 57 i v _ hi hc).mono ?_; rintro e w1 ⟨rfl, rfl⟩)
    go_ret
    exact ⟨rfl, hb⟩
  · rw [swpV, if_neg h]
    clear hW
    generalize swpA = A0
    go_wp2_with (go_at_call 123; refine (pick2_out _ 57 op _ h).mono ?_; rintro e w1 ⟨rfl, rfl⟩)
    go_ret
    exact ⟨rfl, hb⟩
theorem p_second (a b : Int) (w : World) : Calls Tryz.prog 114 #[.int .u32 a, .int .u32 b] w fun e w' => e = .returned (.int .u32 b) ∧ w' = w := by
  go_enter Tryz.func114, Tryz.ntmps114
  go_wp2
  go_ret
  exact ⟨rfl, rfl⟩
theorem p_lesser (a b : Int) (w : World) : Calls Tryz.prog 119 #[.int .u32 a, .int .u32 b] w fun e w' => e = .returned (.int .u32 (if wrap32 a < wrap32 b then a else b)) ∧ w' = w := by
  by_cases h : wrap32 a < wrap32 b
  · rw [if_pos h]
    have hd : decide (wrap32 a < wrap32 b) = true := decide_eq_true h
    clear h
    go_enter Tryz.func119, Tryz.ntmps119
    go_wp2_with (go_at_call 159; refine (p_less _ _ _).mono ?_; rintro e w1 ⟨rfl, rfl⟩; rw [hd])
    go_ret
    exact ⟨rfl, rfl⟩
  · rw [if_neg h]
    have hd : decide (wrap32 a < wrap32 b) = false := decide_eq_false h
    clear h
    go_enter Tryz.func119, Tryz.ntmps119
    go_wp2_with (go_at_call 159; refine (p_less _ _ _).mono ?_; rintro e w1 ⟨rfl, rfl⟩; rw [hd])
    go_ret
    exact ⟨rfl, rfl⟩
theorem p_greater (a b : Int) (w : World) : Calls Tryz.prog 120 #[.int .u32 a, .int .u32 b] w fun e w' => e = .returned (.int .u32 (if wrap32 a < wrap32 b then b else a)) ∧ w' = w := by
  by_cases h : wrap32 a < wrap32 b
  · rw [if_pos h]
    have hd : decide (wrap32 a < wrap32 b) = true := decide_eq_true h
    clear h
    go_enter Tryz.func120, Tryz.ntmps120
    go_wp2_with (go_at_call 159; refine (p_less _ _ _).mono ?_; rintro e w1 ⟨rfl, rfl⟩; rw [hd])
    go_ret
    exact ⟨rfl, rfl⟩
  · rw [if_neg h]
    have hd : decide (wrap32 a < wrap32 b) = false := decide_eq_false h
    clear h
    go_enter Tryz.func120, Tryz.ntmps120
    go_wp2_with (go_at_call 159; refine (p_less _ _ _).mono ?_; rintro e w1 ⟨rfl, rfl⟩; rw [hd])
    go_ret
    exact ⟨rfl, rfl⟩
theorem p_swapping1 (a b : Int) (w : World) : Calls Tryz.prog 121 #[.int .u32 a, .int .u32 b] w fun e w' => e = .returned (.int .u32 (if a < b then a else b)) ∧ w' = w := by
  go_enter Tryz.func121, Tryz.ntmps121
  go_wp2
  all_goals
    go_ret
    exact ⟨ret_int (by omega), rfl⟩
theorem p_swapping2 (a b : Int) (w : World) : Calls Tryz.prog 122 #[.int .u32 a, .int .u32 b] w fun e w' => e = .returned (.int .u32 (if a < b then b else a)) ∧ w' = w := by
  go_enter Tryz.func122, Tryz.ntmps122
  go_wp2
  all_goals
    go_ret
    exact ⟨ret_int (by omega), rfl⟩
theorem swap_by (op a b : Int) (k : FuncId) (x : Int) (w : World) (hk : swpV op = .func (.func k) #[] #[]) (he : ∀ (args : Array Value) (w : World), (callFunc k args).run Tryz.prog w = .ok (.enter k args) w) (hc : ∀ w, Calls Tryz.prog k #[.int .u32 a, .int .u32 b] w fun e w' => e = .returned (.int .u32 x) ∧ w' = w) : Calls Tryz.prog 78 #[.int .i64 op, .int .u32 a, .int .u32 b] w fun e w' => e = .returned (.int .u32 x) ∧ Below w.heap.size w w' := by
  have HC : Hid (∀ w, Calls Tryz.prog k #[.int .u32 a, .int .u32 b] w fun e w' => e = .returned (.int .u32 x) ∧ w' = w) := hc
  clear hc
  have hrun : ∀ w : World, (binOp BinOp.neq 186 (.func (.func k) #[] #[]) .nilFunc).run Tryz.prog w = .ok (.bool true) w := fun _ => by kernel_rfl
  go_enter Tryz.func78, Tryz.ntmps78
  go_wp2_with (first
    | (go_at_call 98; refine (swp_any _ _).mono ?_; rintro e w1 ⟨rfl, hb1⟩; rw [hk])
    | (go_at_fn k; refine (HC.out _).mono ?_; rintro e w2 ⟨rfl, rfl⟩))
  go_ret
  exact ⟨rfl, hb1⟩
theorem swap_none (op a b : Int) (w : World) (hk : swpV op = .nilFunc) : Calls Tryz.prog 78 #[.int .i64 op, .int .u32 a, .int .u32 b] w fun e w' => e = .returned (.int .u32 a) ∧ Below w.heap.size w w' := by
  have hrun : ∀ w : World, (binOp BinOp.neq 186 .nilFunc .nilFunc).run Tryz.prog w = .ok (.bool false) w := fun _ => by kernel_rfl
  go_enter Tryz.func78, Tryz.ntmps78
  go_wp2_with (go_at_call 98; refine (swp_any _ _).mono ?_; rintro e w1 ⟨rfl, hb1⟩; rw [hk])
  go_ret
  exact ⟨rfl, hb1⟩
theorem swpV_out (op : Int) (h : ¬ (0 ≤ op ∧ op < 57)) : swpV op = .nilFunc := by unfold swpV; rw [if_neg h]
theorem swpV_in (i : Nat) (hi : i < 57) : swpV (i : Int) = swpA.getD i .nilFunc := by
  unfold swpV
  rw [if_pos (by omega)]
  rfl
theorem swN_big (n : Nat) (a b : Int) (h : 57 ≤ n) : swN n a b = a := by
  unfold swN
  split
  all_goals first | rfl | (exfalso; omega)
theorem p_swap (op a b : Int) (w : World) : Calls Tryz.prog 78 #[.int .i64 op, .int .u32 a, .int .u32 b] w fun e w' => e = .returned (.int .u32 (swI op a b)) ∧ Below w.heap.size w w' := by
  by_cases h : 0 ≤ op ∧ op < 57
  · obtain ⟨i, rfl⟩ : ∃ i : Nat, op = i := ⟨op.toNat, by omega⟩
    have hi : i < 57 := by omega
    have e := swpV_in i hi
    match i, hi, e with
    | 0, _, e => exact swap_none _ _ _ w e
    | 1, _, e => exact swap_none _ _ _ w e
    | 2, _, e => exact swap_none _ _ _ w e
    | 3, _, e => exact swap_none _ _ _ w e
    | 4, _, e => exact swap_none _ _ _ w e
    | 5, _, e => exact swap_none _ _ _ w e
    | 6, _, e => exact swap_none _ _ _ w e
    | 7, _, e => exact swap_none _ _ _ w e
    | 8, _, e => exact swap_none _ _ _ w e
    | 9, _, e => exact swap_none _ _ _ w e
    | 10, _, e => exact swap_none _ _ _ w e
    | 11, _, e => exact swap_none _ _ _ w e
    | 12, _, e => exact swap_none _ _ _ w e
    | 13, _, e => exact swap_none _ _ _ w e
    | 14, _, e => exact swap_none _ _ _ w e
    | 15, _, e => exact swap_none _ _ _ w e
    | 16, _, e => exact swap_none _ _ _ w e
    | 17, _, e => exact swap_none _ _ _ w e
    | 18, _, e => exact swap_none _ _ _ w e
    | 19, _, e => exact swap_none _ _ _ w e
    | 20, _, e => exact swap_none _ _ _ w e
    | 21, _, e => exact swap_none _ _ _ w e
    | 22, _, e => exact swap_none _ _ _ w e
    | 23, _, e => exact swap_none _ _ _ w e
    | 24, _, e => exact swap_none _ _ _ w e
    | 25, _, e => exact swap_none _ _ _ w e
    | 26, _, e => exact swap_none _ _ _ w e
    | 27, _, e => exact swap_none _ _ _ w e
    | 28, _, e => exact swap_none _ _ _ w e
    | 29, _, e => exact swap_none _ _ _ w e
    | 30, _, e => exact swap_none _ _ _ w e
    | 31, _, e => exact swap_none _ _ _ w e
    | 32, _, e => exact swap_none _ _ _ w e
    | 33, _, e => exact swap_none _ _ _ w e
    | 34, _, e => exact swap_none _ _ _ w e
    | 35, _, e => exact swap_none _ _ _ w e
    | 36, _, e => exact swap_none _ _ _ w e
    | 37, _, e => exact swap_none _ _ _ w e
    | 38, _, e => exact swap_none _ _ _ w e
    | 39, _, e => exact swap_none _ _ _ w e
    | 40, _, e => exact swap_none _ _ _ w e
    | 41, _, e => exact swap_none _ _ _ w e
    | 42, _, e => exact swap_none _ _ _ w e
    | 43, _, e => exact swap_none _ _ _ w e
    | 44, _, e => exact swap_none _ _ _ w e
    | 45, _, e => exact swap_none _ _ _ w e
    | 46, _, e => exact swap_none _ _ _ w e
    | 47, _, e => exact swap_by _ _ _ _ _ w e (enters_of Tryz.func114 (by kernel_rfl) rfl) (fun w => p_second a b w)
    | 48, _, e => exact swap_by _ _ _ _ _ w e (enters_of Tryz.func114 (by kernel_rfl) rfl) (fun w => p_second a b w)
    | 49, _, e => exact swap_by _ _ _ _ _ w e (enters_of Tryz.func115 (by kernel_rfl) rfl) (fun w => p_add a b w)
    | 50, _, e => exact swap_by _ _ _ _ _ w e (enters_of Tryz.func116 (by kernel_rfl) rfl) (fun w => p_xor a b w)
    | 51, _, e => exact swap_by _ _ _ _ _ w e (enters_of Tryz.func117 (by kernel_rfl) rfl) (fun w => p_and a b w)
    | 52, _, e => exact swap_by _ _ _ _ _ w e (enters_of Tryz.func118 (by kernel_rfl) rfl) (fun w => p_or a b w)
    | 53, _, e => exact swap_by _ _ _ _ _ w e (enters_of Tryz.func119 (by kernel_rfl) rfl) (fun w => p_lesser a b w)
    | 54, _, e => exact swap_by _ _ _ _ _ w e (enters_of Tryz.func120 (by kernel_rfl) rfl) (fun w => p_greater a b w)
    | 55, _, e => exact swap_by _ _ _ _ _ w e (enters_of Tryz.func121 (by kernel_rfl) rfl) (fun w => p_swapping1 a b w)
    | 56, _, e => exact swap_by _ _ _ _ _ w e (enters_of Tryz.func122 (by kernel_rfl) rfl) (fun w => p_swapping2 a b w)
  · have hx : swI op a b = a := by
      unfold swI
      split
      · exact swN_big _ _ _ (by omega)
      · rfl
    rw [hx]
    exact swap_none _ _ _ w (swpV_out op h)
end Go.Proofs.YtnlagbiikpbjdaaGreatDoor
