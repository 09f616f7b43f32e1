import Derived.Test.YtengofkjlgajlaaGreatDoorGp2
import Derived.Laws.Tables
import Derived.Laws.CopyOwn
import Derived.Shelf.Abstract
import Derived.BigQuiet
import Derived.Deep.QuietTactic
import Derived.WalkSmall
import Derived.Test.YtengofkjlgajlaaGreatDoorTd
/-
  THE PROGRAM's TABLES OF FUNCTIONS.
-/
namespace Go.Proofs.YtengofkjlgajlaaGreatDoor
open Go Go.RowKit
theorem wp_head {P : Program} {i : Nat} {ops : Array Oper} {rest : Code} {Q : Exit → Act → World → Prop} {a a' : Act} {w w' : World} (h : runOps P ops ops.toList a w = some (a', w')) (k : rest.wp P Q a' w') : (Code.seq (.region i ops false) rest).wp P Q a w :=
  wp_seq (wp_region_list (wpList_of_runOps h k))
theorem wpList_head {P : Program} {ops : Array Oper} {Q : Exit → Act → World → Prop} : ∀ {l l2 : List Oper} {a : Act} {w : World} {a' : Act} {w' : World}, runOps P ops l a w = some (a', w') → wpList P ops Q l2 a' w' → wpList P ops Q (l ++ l2) a w
  | [], l2, a, w, a', w', h, hQ => by
    simp only [runOps, Option.some.injEq, Prod.mk.injEq] at h
    obtain ⟨rfl, rfl⟩ := h
    exact hQ
  | o :: rest, l2, a, w, a', w', h, hQ => by
    unfold runOps at h
    show wpList P ops Q (o :: (rest ++ l2)) a w
    unfold wpList
    split at h
    · rename_i hw
      rw [if_pos hw]
      refine Or.inl ?_
      unfold Oper.wp
      split at h
      · rename_i e; rw [e]; exact wpList_head h hQ
      · rename_i e; rw [e]; exact wpList_head h hQ
      · cases h
    · rename_i hw
      rw [if_neg hw]
      exact wpList_head h hQ
theorem pick2_in (b n i : Nat) (v : Value) (w : World) (hi : i < n) (hc : w.cell? ⟨b, i, none⟩ = some v) : Calls Tryz.prog 144 #[.slice (some ⟨b, 0, none⟩) n n, .int .i64 i] w fun e w' => e = .returned v ∧ w' = w := by
  go_enter Tryz.func144, Tryz.ntmps144
  go_wp2
  go_ret
  exact ⟨rfl, rfl⟩
theorem pick2_out (b n : Nat) (i : Int) (w : World) (hi : ¬ (0 ≤ i ∧ i < n)) : Calls Tryz.prog 144 #[.slice (some ⟨b, 0, none⟩) n n, .int .i64 i] w fun e w' => e = .returned .nilFunc ∧ w' = w := by
  by_cases h : 0 ≤ i
  all_goals
    go_enter Tryz.func144, Tryz.ntmps144
    go_wp2
    go_ret
    exact ⟨rfl, rfl⟩
def compA : Array Value := #[.nilFunc, .func (.func 124) #[] #[], .func (.func 125) #[] #[], .nilFunc, .nilFunc, .nilFunc, .nilFunc, .nilFunc, .nilFunc, .nilFunc, .nilFunc, .nilFunc, .nilFunc, .nilFunc, .nilFunc, .nilFunc, .nilFunc, .nilFunc, .nilFunc, .func (.func 126) #[] #[], .func (.func 127) #[] #[], .func (.func 128) #[] #[], .func (.func 129) #[] #[], .func (.func 130) #[] #[], .func (.func 131) #[] #[], .func (.func 132) #[] #[], .func (.func 133) #[] #[], .func (.func 134) #[] #[], .func (.func 126) #[] #[], .func (.func 135) #[] #[], .func (.func 132) #[] #[], .func (.func 127) #[] #[], .func (.func 128) #[] #[], .func (.func 129) #[] #[], .func (.func 133) #[] #[], .func (.func 134) #[] #[], .func (.func 130) #[] #[], .func (.func 131) #[] #[], .func (.func 136) #[] #[], .func (.func 137) #[] #[], .func (.func 138) #[] #[], .func (.func 139) #[] #[], .func (.func 140) #[] #[], .func (.func 141) #[] #[], .func (.func 142) #[] #[], .func (.func 143) #[] #[]]
def compV (op : Int) : Value := if 0 ≤ op ∧ op < 46 then compA.getD op.toNat .nilFunc else .nilFunc
theorem compA_at (i : Nat) (hi : i < 46) : compA[i]? = some (compA.getD i .nilFunc) := by
  have hs : compA.size = 46 := by kernel_rfl
  rw [Array.getD_eq_getD_getElem?, Array.getElem?_eq_getElem (by omega)]
  rfl
theorem comp_any (op : Int) (w : World) : Calls Tryz.prog 108 #[.int .i64 op] w fun e w' => e = .returned (compV op) ∧ Below w.heap.size w w' := by
  have hg : (w.alloc (.cells (Array.replicate 46 .nilFunc) 211)).heap[w.heap.size]? = some (.cells (Array.replicate 46 .nilFunc) 211 (0, 0)) := by show (w.heap.push _)[w.heap.size]? = _; simp
  have hW : ∀ i, i < 46 → ((w.alloc (.cells (Array.replicate 46 .nilFunc) 211)).setRow w.heap.size compA).cell? ⟨w.heap.size, i, none⟩ = some (compA.getD i .nilFunc) := fun i hi => (cell_setRow_same _ _ i _ _ _ _ hg).trans (compA_at i hi)
  have hb : Below w.heap.size w ((w.alloc (.cells (Array.replicate 46 .nilFunc) 211)).setRow w.heap.size compA) := below_setRow ((Below.refl _ _).alloc (Nat.le_refl _) _) (Nat.le_refl _) _
  refine calls_of_wp Tryz.func108 rfl ?_
  refine wp_head (a' := ⟨#[.int .i64 op, undef, .nilFunc, undef, undef, undef, undef, undef], []⟩) (w' := w) (by kernel_rfl) ?_
  refine wp_seq (wp_region_list ?_)
  refine wpList_head (l := [_, _]) (l2 := [_]) (a' := ⟨#[.int .i64 op, undef, .nilFunc, .pointer (some ⟨w.heap.size, 0, none⟩), .agg compA, undef, undef, undef], []⟩) (w' := w.alloc (.cells (Array.replicate 46 .nilFunc) 211)) (by kernel_rfl) ?_
  refine wpList_store_row rfl 211 _ _ rfl w.heap.size compA rfl rfl 211 _ hg (by kernel_rfl) (by kernel_rfl) (by kernel_rfl) ?_
  generalize (w.alloc (.cells (Array.replicate 46 .nilFunc) 211)).setRow w.heap.size compA = W at hW hb ⊢
  clear hg
  generalize w.heap.size = z at hW hb ⊢
  show Code.wp _ _ _ ⟨#[.int .i64 op, undef, .nilFunc, .pointer (some ⟨z, 0, none⟩), .agg compA, undef, undef, undef], []⟩ W
  by_cases h : 0 ≤ op ∧ op < 46
  · rw [compV, if_pos h]
    obtain ⟨i, rfl⟩ : ∃ i : Nat, op = i := ⟨op.toNat, by omega⟩
    have hi : i < 46 := by omega
    rw [show ((i : Int)).toNat = i from rfl]
    have hc := hW i hi
    clear hW h
    generalize compA.getD i .nilFunc = v at hc ⊢
    generalize compA = A0
    go_wp2_with (go_at_call 144; refine (pick2_in _ 46 i v _ hi hc).mono ?_; rintro e w1 ⟨rfl, rfl⟩)
    go_ret
    exact ⟨rfl, hb⟩
  · rw [compV, if_neg h]
    clear hW
    generalize compA = A0
    go_wp2_with (go_at_call 144; refine (pick2_out _ 46 op _ h).mono ?_; rintro e w1 ⟨rfl, rfl⟩)
    go_ret
    exact ⟨rfl, hb⟩
theorem pickB_in (b n i : Nat) (v : Value) (w : World) (hi : i < n) (hc : w.cell? ⟨b, i, none⟩ = some v) : Calls Tryz.prog 168 #[.slice (some ⟨b, 0, none⟩) n n, .int .i64 i] w fun e w' => e = .returned v ∧ w' = w := by
  go_enter Tryz.func168, Tryz.ntmps168
  go_wp2
  go_ret
  exact ⟨rfl, rfl⟩
theorem pickB_out (b n : Nat) (i : Int) (w : World) (hi : ¬ (0 ≤ i ∧ i < n)) : Calls Tryz.prog 168 #[.slice (some ⟨b, 0, none⟩) n n, .int .i64 i] w fun e w' => e = .returned .nilFunc ∧ w' = w := by
  by_cases h : 0 ≤ i
  all_goals
    go_enter Tryz.func168, Tryz.ntmps168
    go_wp2
    go_ret
    exact ⟨rfl, rfl⟩
def askA : Array Value := #[.nilFunc, .nilFunc, .nilFunc, .nilFunc, .nilFunc, .func (.func 162) #[] #[], .func (.func 163) #[] #[], .func (.func 164) #[] #[], .func (.func 165) #[] #[], .func (.func 166) #[] #[], .func (.func 167) #[] #[]]
def asksV (op : Int) : Value := if 0 ≤ op ∧ op < 11 then askA.getD op.toNat .nilFunc else .nilFunc
theorem askA_at (i : Nat) (hi : i < 11) : askA[i]? = some (askA.getD i .nilFunc) := by
  have hs : askA.size = 11 := by kernel_rfl
  rw [Array.getD_eq_getD_getElem?, Array.getElem?_eq_getElem (by omega)]
  rfl
theorem asks_any (op : Int) (w : World) : Calls Tryz.prog 121 #[.int .i64 op] w fun e w' => e = .returned (asksV op) ∧ Below w.heap.size w w' := by
  have hg : (w.alloc (.cells (Array.replicate 11 .nilFunc) 223)).heap[w.heap.size]? = some (.cells (Array.replicate 11 .nilFunc) 223 (0, 0)) := by show (w.heap.push _)[w.heap.size]? = _; simp
  have hW : ∀ i, i < 11 → ((w.alloc (.cells (Array.replicate 11 .nilFunc) 223)).setRow w.heap.size askA).cell? ⟨w.heap.size, i, none⟩ = some (askA.getD i .nilFunc) := fun i hi => (cell_setRow_same _ _ i _ _ _ _ hg).trans (askA_at i hi)
  have hb : Below w.heap.size w ((w.alloc (.cells (Array.replicate 11 .nilFunc) 223)).setRow w.heap.size askA) := below_setRow ((Below.refl _ _).alloc (Nat.le_refl _) _) (Nat.le_refl _) _
  refine calls_of_wp Tryz.func121 rfl ?_
  refine wp_head (a' := ⟨#[.int .i64 op, undef, .nilFunc, undef, undef, undef, undef, undef], []⟩) (w' := w) (by kernel_rfl) ?_
  refine wp_seq (wp_region_list ?_)
  refine wpList_head (l := [_, _]) (l2 := [_]) (a' := ⟨#[.int .i64 op, undef, .nilFunc, .pointer (some ⟨w.heap.size, 0, none⟩), .agg askA, undef, undef, undef], []⟩) (w' := w.alloc (.cells (Array.replicate 11 .nilFunc) 223)) (by kernel_rfl) ?_
  refine wpList_store_row rfl 223 _ _ rfl w.heap.size askA rfl rfl 223 _ hg (by kernel_rfl) (by kernel_rfl) (by kernel_rfl) ?_
  generalize (w.alloc (.cells (Array.replicate 11 .nilFunc) 223)).setRow w.heap.size askA = W at hW hb ⊢
  clear hg
  generalize w.heap.size = z at hW hb ⊢
  show Code.wp _ _ _ ⟨#[.int .i64 op, undef, .nilFunc, .pointer (some ⟨z, 0, none⟩), .agg askA, undef, undef, undef], []⟩ W
  by_cases h : 0 ≤ op ∧ op < 11
  · rw [asksV, if_pos h]
    obtain ⟨i, rfl⟩ : ∃ i : Nat, op = i := ⟨op.toNat, by omega⟩
    have hi : i < 11 := by omega
    rw [show ((i : Int)).toNat = i from rfl]
    have hc := hW i hi
    clear hW h
    generalize askA.getD i .nilFunc = v at hc ⊢
    generalize askA = A0
    go_wp2_with (go_at_call 168; refine (pickB_in _ 11 i v _ hi hc).mono ?_; rintro e w1 ⟨rfl, rfl⟩)
    go_ret
    exact ⟨rfl, hb⟩
  · rw [asksV, if_neg h]
    clear hW
    generalize askA = A0
    go_wp2_with (go_at_call 168; refine (pickB_out _ 11 op _ h).mono ?_; rintro e w1 ⟨rfl, rfl⟩)
    go_ret
    exact ⟨rfl, hb⟩
end Go.Proofs.YtengofkjlgajlaaGreatDoor
/-
  WHAT THE PROGRAM's SMALL FUNCTIONS COMPUTE.
-/
namespace Go.Proofs.YtengofkjlgajlaaGreatDoor
open Go Go.RowKit
theorem not_lt_dec (x y : Int) : (!decide (x < y)) = decide (y ≤ x) := by
  by_cases h : x < y
  · rw [decide_eq_true h, decide_eq_false (by omega)]; rfl
  · rw [decide_eq_false h, decide_eq_true (by omega)]; rfl
theorem p_signed (a : Int) (w : World) : Calls Tryz.prog 170 #[.int .u32 a] w fun e w' => e = .returned (.int .i64 (wrap32 a)) ∧ w' = w := by
  go_enter Tryz.func170, Tryz.ntmps170
  go_wp2
  go_ret
  exact ⟨ret_int (by unfold wrap64 wrap32; omega), rfl⟩
theorem p_bit (b : Bool) (w : World) : Calls Tryz.prog 169 #[.bool b] w fun e w' => e = .returned (.int .u32 (bitI b)) ∧ w' = w := by
  cases b
  all_goals
    go_enter Tryz.func169, Tryz.ntmps169
    go_wp2
    go_ret
    exact ⟨rfl, rfl⟩
theorem p_same (a b : Int) (w : World) : Calls Tryz.prog 162 #[.int .u32 a, .int .u32 b] w fun e w' => e = .returned (.bool (a == b)) ∧ w' = w := by
  go_enter Tryz.func162, Tryz.ntmps162
  go_wp2
  go_ret
  exact ⟨rfl, rfl⟩
theorem p_below (a b : Int) (w : World) : Calls Tryz.prog 166 #[.int .u32 a, .int .u32 b] w fun e w' => e = .returned (.bool (decide (a < b))) ∧ w' = w := by
  go_enter Tryz.func166, Tryz.ntmps166
  go_wp2
  go_ret
  exact ⟨rfl, rfl⟩
theorem p_less (a b : Int) (w : World) : Calls Tryz.prog 164 #[.int .u32 a, .int .u32 b] w fun e w' => e = .returned (.bool (decide (wrap32 a < wrap32 b))) ∧ w' = w := by
  go_enter Tryz.func164, Tryz.ntmps164
  go_wp2_with (first
    | (go_at_call 170; refine (p_signed _ _).mono ?_; rintro e w1 ⟨rfl, rfl⟩))
  go_ret
  exact ⟨rfl, rfl⟩
theorem p_upper (a b : Int) (w : World) : Calls Tryz.prog 124 #[.int .u32 a, .int .u32 b] w fun e w' => e = .returned (.int .u32 (b * 4096 % 4294967296)) ∧ w' = w := by
  go_enter Tryz.func124, Tryz.ntmps124
  go_wp2
  go_ret
  exact ⟨ret_int rfl, rfl⟩
theorem p_addUpper (a b : Int) (w : World) : Calls Tryz.prog 125 #[.int .u32 a, .int .u32 b] w fun e w' => e = .returned (.int .u32 ((a + b * 4096) % 4294967296)) ∧ w' = w := by
  go_enter Tryz.func125, Tryz.ntmps125
  go_wp2
  go_ret
  exact ⟨ret_int (by omega), rfl⟩
theorem p_add (a b : Int) (w : World) : Calls Tryz.prog 126 #[.int .u32 a, .int .u32 b] w fun e w' => e = .returned (.int .u32 ((a + b) % 4294967296)) ∧ w' = w := by
  go_enter Tryz.func126, Tryz.ntmps126
  go_wp2
  go_ret
  exact ⟨ret_int rfl, rfl⟩
theorem p_sub (a b : Int) (w : World) : Calls Tryz.prog 135 #[.int .u32 a, .int .u32 b] w fun e w' => e = .returned (.int .u32 ((a - b) % 4294967296)) ∧ w' = w := by
  go_enter Tryz.func135, Tryz.ntmps135
  go_wp2
  go_ret
  exact ⟨ret_int rfl, rfl⟩
theorem p_setLess (a b : Int) (w : World) : Calls Tryz.prog 127 #[.int .u32 a, .int .u32 b] w fun e w' => e = .returned (.int .u32 (bitI (decide (wrap32 a < wrap32 b)))) ∧ w' = w := by
  go_enter Tryz.func127, Tryz.ntmps127
  go_wp2_with (first
    | (go_at_call 169; refine (p_bit _ _).mono ?_; rintro e w1 ⟨rfl, rfl⟩)
    | (go_at_call 164; refine (p_less _ _ _).mono ?_; rintro e w1 ⟨rfl, rfl⟩))
  go_ret
  exact ⟨rfl, rfl⟩
theorem p_setBelow (a b : Int) (w : World) : Calls Tryz.prog 128 #[.int .u32 a, .int .u32 b] w fun e w' => e = .returned (.int .u32 (bitI (decide (a < b)))) ∧ w' = w := by
  go_enter Tryz.func128, Tryz.ntmps128
  go_wp2_with (first
    | (go_at_call 169; refine (p_bit _ _).mono ?_; rintro e w1 ⟨rfl, rfl⟩)
    | (go_at_call 166; refine (p_below _ _ _).mono ?_; rintro e w1 ⟨rfl, rfl⟩))
  go_ret
  exact ⟨rfl, rfl⟩
theorem p_xor (a b : Int) (w : World) : Calls Tryz.prog 129 #[.int .u32 a, .int .u32 b] w fun e w' => e = .returned (.int .u32 (bits .xor .u32 a b)) ∧ w' = w := by
  go_enter Tryz.func129, Tryz.ntmps129
  go_wp2
  go_ret
  exact ⟨rfl, rfl⟩
theorem p_or (a b : Int) (w : World) : Calls Tryz.prog 130 #[.int .u32 a, .int .u32 b] w fun e w' => e = .returned (.int .u32 (bits .or .u32 a b)) ∧ w' = w := by
  go_enter Tryz.func130, Tryz.ntmps130
  go_wp2
  go_ret
  exact ⟨rfl, rfl⟩
theorem p_and (a b : Int) (w : World) : Calls Tryz.prog 131 #[.int .u32 a, .int .u32 b] w fun e w' => e = .returned (.int .u32 (bits .and .u32 a b)) ∧ w' = w := by
  go_enter Tryz.func131, Tryz.ntmps131
  go_wp2
  go_ret
  exact ⟨rfl, rfl⟩
theorem p_left (a b : Int) (w : World) (hb : 0 ≤ b ∧ b < 4294967296) : Calls Tryz.prog 132 #[.int .u32 a, .int .u32 b] w fun e w' => e = .returned (.int .u32 (a * 2 ^ (b % 32).toNat % 4294967296)) ∧ w' = w := by
  have HM : Hid (bits .and .u32 b 31 = b % 32) := and31 b hb
  have hm0 : 0 ≤ bits .and .u32 b 31 := by rw [HM.out]; omega
  have hm1 : bits .and .u32 b 31 ≤ 31 := by rw [HM.out]; omega
  go_enter Tryz.func132, Tryz.ntmps132
  go_wp2
  go_ret
  exact ⟨ret_int (by rw [HM.out]), rfl⟩
theorem p_right (a b : Int) (w : World) (hb : 0 ≤ b ∧ b < 4294967296) : Calls Tryz.prog 133 #[.int .u32 a, .int .u32 b] w fun e w' => e = .returned (.int .u32 (a / 2 ^ (b % 32).toNat)) ∧ w' = w := by
  have HM : Hid (bits .and .u32 b 31 = b % 32) := and31 b hb
  have hm0 : 0 ≤ bits .and .u32 b 31 := by rw [HM.out]; omega
  have hm1 : bits .and .u32 b 31 ≤ 31 := by rw [HM.out]; omega
  go_enter Tryz.func133, Tryz.ntmps133
  go_wp2
  go_ret
  exact ⟨ret_int (by rw [HM.out]), rfl⟩
theorem p_rightSigned (a b : Int) (w : World) (hb : 0 ≤ b ∧ b < 4294967296) : Calls Tryz.prog 134 #[.int .u32 a, .int .u32 b] w fun e w' => e = .returned (.int .u32 (wrap32 a / 2 ^ (b % 32).toNat % 4294967296)) ∧ w' = w := by
  have HM : Hid (bits .and .u32 b 31 = b % 32) := and31 b hb
  have hm0 : 0 ≤ bits .and .u32 b 31 := by rw [HM.out]; omega
  have hm1 : bits .and .u32 b 31 ≤ 31 := by rw [HM.out]; omega
  go_enter Tryz.func134, Tryz.ntmps134
  go_wp2_with (first
    | (go_at_call 170; refine (p_signed _ _).mono ?_; rintro e w1 ⟨rfl, rfl⟩))
  go_ret
  exact ⟨ret_int (by rw [HM.out]), rfl⟩
theorem p_mul (a b : Int) (w : World) : Calls Tryz.prog 136 #[.int .u32 a, .int .u32 b] w fun e w' => e = .returned (.int .u32 (a * b % 4294967296)) ∧ w' = w := by
  go_enter Tryz.func136, Tryz.ntmps136
  go_wp2
  go_ret
  exact ⟨ret_int rfl, rfl⟩
theorem p_mulHigh (a b : Int) (w : World) : Calls Tryz.prog 137 #[.int .u32 a, .int .u32 b] w fun e w' => e = .returned (.int .u32 (wrap32 a * wrap32 b / 4294967296 % 4294967296)) ∧ w' = w := by
  go_enter Tryz.func137, Tryz.ntmps137
  go_wp2_with (first
    | (go_at_call 170; refine (p_signed _ _).mono ?_; rintro e w1 ⟨rfl, rfl⟩))
  go_ret
  exact ⟨ret_int (w64_high _), rfl⟩
theorem p_mulHighMixed (a b : Int) (w : World) (hb : 0 ≤ b ∧ b < 4294967296) : Calls Tryz.prog 138 #[.int .u32 a, .int .u32 b] w fun e w' => e = .returned (.int .u32 (wrap32 a * b / 4294967296 % 4294967296)) ∧ w' = w := by
  go_enter Tryz.func138, Tryz.ntmps138
  go_wp2_with (first
    | (go_at_call 170; refine (p_signed _ _).mono ?_; rintro e w1 ⟨rfl, rfl⟩))
  go_ret
  exact ⟨ret_int (w64_high _), rfl⟩
theorem p_mulHighUnsigned (a b : Int) (w : World) (ha : 0 ≤ a ∧ a < 4294967296) (hb : 0 ≤ b ∧ b < 4294967296) : Calls Tryz.prog 139 #[.int .u32 a, .int .u32 b] w fun e w' => e = .returned (.int .u32 (a * b / 4294967296 % 4294967296)) ∧ w' = w := by
  go_enter Tryz.func139, Tryz.ntmps139
  go_wp2
  go_ret
  exact ⟨ret_int (u64_high _), rfl⟩
theorem p_div0 (a : Int) (w : World) : Calls Tryz.prog 140 #[.int .u32 a, .int .u32 0] w fun e w' => e = .returned (.int .u32 (4294967295)) ∧ w' = w := by
  go_enter Tryz.func140, Tryz.ntmps140
  go_wp2_with (first
    | (go_at_call 170; refine (p_signed _ _).mono ?_; rintro e w1 ⟨rfl, rfl⟩))
  go_ret
  exact ⟨rfl, rfl⟩
theorem p_div1 (a b : Int) (w : World) (hb : 0 < b ∧ b < 4294967296) : Calls Tryz.prog 140 #[.int .u32 a, .int .u32 b] w fun e w' => e = .returned (.int .u32 ((wrap32 a).tdiv (wrap32 b) % 4294967296)) ∧ w' = w := by
  have h0 : (b == 0) = false := by simp; omega
  have hB0 : ¬ wrap32 b = 0 := by unfold wrap32; omega
  go_enter Tryz.func140, Tryz.ntmps140
  go_wp2_with (first
    | (go_at_call 170; refine (p_signed _ _).mono ?_; rintro e w1 ⟨rfl, rfl⟩))
  go_ret
  exact ⟨ret_int (w64_mod _), rfl⟩
theorem p_div (a b : Int) (w : World) (hb : 0 ≤ b ∧ b < 4294967296) : Calls Tryz.prog 140 #[.int .u32 a, .int .u32 b] w fun e w' => e = .returned (.int .u32 (exI 42 a b)) ∧ w' = w := by
  by_cases h : b = 0
  · subst h
    exact p_div0 a w
  · rw [show exI 42 a b = (if b = 0 then 4294967295 else (wrap32 a).tdiv (wrap32 b) % 4294967296) from rfl, if_neg h]
    exact p_div1 a b w ⟨by omega, hb.2⟩
theorem p_divUnsigned0 (a : Int) (w : World) : Calls Tryz.prog 141 #[.int .u32 a, .int .u32 0] w fun e w' => e = .returned (.int .u32 (4294967295)) ∧ w' = w := by
  go_enter Tryz.func141, Tryz.ntmps141
  go_wp2
  go_ret
  exact ⟨rfl, rfl⟩
theorem p_divUnsigned1 (a b : Int) (w : World) (ha : 0 ≤ a ∧ a < 4294967296) (hb : 0 < b ∧ b < 4294967296) : Calls Tryz.prog 141 #[.int .u32 a, .int .u32 b] w fun e w' => e = .returned (.int .u32 (a / b)) ∧ w' = w := by
  have h0 : (b == 0) = false := by simp; omega
  have hB0 : ¬ b = 0 := by omega
  have h4 : a.tdiv b = a / b := Int.tdiv_eq_ediv_of_nonneg ha.1
  go_enter Tryz.func141, Tryz.ntmps141
  go_wp2
  go_ret
  exact ⟨ret_int (udiv_mod a b ha hb.1), rfl⟩
theorem p_divUnsigned (a b : Int) (w : World) (ha : 0 ≤ a ∧ a < 4294967296) (hb : 0 ≤ b ∧ b < 4294967296) : Calls Tryz.prog 141 #[.int .u32 a, .int .u32 b] w fun e w' => e = .returned (.int .u32 (exI 43 a b)) ∧ w' = w := by
  by_cases h : b = 0
  · subst h
    exact p_divUnsigned0 a w
  · rw [show exI 43 a b = (if b = 0 then 4294967295 else a / b) from rfl, if_neg h]
    exact p_divUnsigned1 a b w ha ⟨by omega, hb.2⟩
theorem p_rem0 (a : Int) (w : World) : Calls Tryz.prog 142 #[.int .u32 a, .int .u32 0] w fun e w' => e = .returned (.int .u32 (a)) ∧ w' = w := by
  go_enter Tryz.func142, Tryz.ntmps142
  go_wp2_with (first
    | (go_at_call 170; refine (p_signed _ _).mono ?_; rintro e w1 ⟨rfl, rfl⟩))
  go_ret
  exact ⟨rfl, rfl⟩
theorem p_rem1 (a b : Int) (w : World) (hb : 0 < b ∧ b < 4294967296) : Calls Tryz.prog 142 #[.int .u32 a, .int .u32 b] w fun e w' => e = .returned (.int .u32 ((wrap32 a).tmod (wrap32 b) % 4294967296)) ∧ w' = w := by
  have h0 : (b == 0) = false := by simp; omega
  have hB0 : ¬ wrap32 b = 0 := by unfold wrap32; omega
  go_enter Tryz.func142, Tryz.ntmps142
  go_wp2_with (first
    | (go_at_call 170; refine (p_signed _ _).mono ?_; rintro e w1 ⟨rfl, rfl⟩))
  go_ret
  exact ⟨ret_int rfl, rfl⟩
theorem p_rem (a b : Int) (w : World) (hb : 0 ≤ b ∧ b < 4294967296) : Calls Tryz.prog 142 #[.int .u32 a, .int .u32 b] w fun e w' => e = .returned (.int .u32 (exI 44 a b)) ∧ w' = w := by
  by_cases h : b = 0
  · subst h
    exact p_rem0 a w
  · rw [show exI 44 a b = (if b = 0 then a else (wrap32 a).tmod (wrap32 b) % 4294967296) from rfl, if_neg h]
    exact p_rem1 a b w ⟨by omega, hb.2⟩
theorem p_remUnsigned0 (a : Int) (w : World) : Calls Tryz.prog 143 #[.int .u32 a, .int .u32 0] w fun e w' => e = .returned (.int .u32 (a)) ∧ w' = w := by
  go_enter Tryz.func143, Tryz.ntmps143
  go_wp2
  go_ret
  exact ⟨rfl, rfl⟩
theorem p_remUnsigned1 (a b : Int) (w : World) (ha : 0 ≤ a ∧ a < 4294967296) (hb : 0 < b ∧ b < 4294967296) : Calls Tryz.prog 143 #[.int .u32 a, .int .u32 b] w fun e w' => e = .returned (.int .u32 (a % b)) ∧ w' = w := by
  have h0 : (b == 0) = false := by simp; omega
  have hB0 : ¬ b = 0 := by omega
  have h5 : a.tmod b = a % b := Int.tmod_eq_emod_of_nonneg ha.1
  go_enter Tryz.func143, Tryz.ntmps143
  go_wp2
  go_ret
  exact ⟨ret_int rfl, rfl⟩
theorem p_remUnsigned (a b : Int) (w : World) (ha : 0 ≤ a ∧ a < 4294967296) (hb : 0 ≤ b ∧ b < 4294967296) : Calls Tryz.prog 143 #[.int .u32 a, .int .u32 b] w fun e w' => e = .returned (.int .u32 (exI 45 a b)) ∧ w' = w := by
  by_cases h : b = 0
  · subst h
    exact p_remUnsigned0 a w
  · rw [show exI 45 a b = (if b = 0 then a else a % b) from rfl, if_neg h]
    exact p_remUnsigned1 a b w ha ⟨by omega, hb.2⟩
theorem p_asking1 (a b : Int) (w : World) : Calls Tryz.prog 163 #[.int .u32 a, .int .u32 b] w fun e w' => e = .returned (.bool (a != b)) ∧ w' = w := by
  go_enter Tryz.func163, Tryz.ntmps163
  go_wp2_with (first
    | (go_at_call 162; refine (p_same _ _ _).mono ?_; rintro e w1 ⟨rfl, rfl⟩))
  go_ret
  exact ⟨rfl, rfl⟩
theorem p_asking2 (a b : Int) (w : World) : Calls Tryz.prog 165 #[.int .u32 a, .int .u32 b] w fun e w' => e = .returned (.bool (decide (wrap32 b ≤ wrap32 a))) ∧ w' = w := by
  go_enter Tryz.func165, Tryz.ntmps165
  go_wp2_with (first
    | (go_at_call 164; refine (p_less _ _ _).mono ?_; rintro e w1 ⟨rfl, rfl⟩))
  go_ret
  exact ⟨by rw [not_lt_dec]; rfl, rfl⟩
theorem p_asking3 (a b : Int) (w : World) : Calls Tryz.prog 167 #[.int .u32 a, .int .u32 b] w fun e w' => e = .returned (.bool (decide (b ≤ a))) ∧ w' = w := by
  go_enter Tryz.func167, Tryz.ntmps167
  go_wp2_with (first
    | (go_at_call 166; refine (p_below _ _ _).mono ?_; rintro e w1 ⟨rfl, rfl⟩))
  go_ret
  exact ⟨by rw [not_lt_dec]; rfl, rfl⟩
end Go.Proofs.YtengofkjlgajlaaGreatDoor
/-
  THE PROGRAM's Exec AND Taken.
-/
namespace Go.Proofs.YtengofkjlgajlaaGreatDoor
open Go Go.RowKit
theorem exec_by (op a b : Int) (k : FuncId) (x : Int) (w : World) (hk : compV op = .func (.func k) #[] #[]) (he : ∀ (args : Array Value) (w : World), (callFunc k args).run Tryz.prog w = .ok (.enter k args) w) (hc : ∀ w, Calls Tryz.prog k #[.int .u32 a, .int .u32 b] w fun e w' => e = .returned (.int .u32 x) ∧ w' = w) : Calls Tryz.prog 80 #[.int .i64 op, .int .u32 a, .int .u32 b] w fun e w' => e = .returned (.int .u32 x) ∧ Below w.heap.size w w' := by
  have HC : Hid (∀ w, Calls Tryz.prog k #[.int .u32 a, .int .u32 b] w fun e w' => e = .returned (.int .u32 x) ∧ w' = w) := hc
  clear hc
  have hrun : ∀ w : World, (binOp BinOp.neq 194 (.func (.func k) #[] #[]) .nilFunc).run Tryz.prog w = .ok (.bool true) w := fun _ => by kernel_rfl
  go_enter Tryz.func80, Tryz.ntmps80
  go_wp2_with (first
    | (go_at_call 108; refine (comp_any _ _).mono ?_; rintro e w1 ⟨rfl, hb1⟩; rw [hk])
    | (go_at_fn k; refine (HC.out _).mono ?_; rintro e w2 ⟨rfl, rfl⟩))
  go_ret
  exact ⟨rfl, hb1⟩
theorem exec_none (op a b : Int) (w : World) (hk : compV op = .nilFunc) : Calls Tryz.prog 80 #[.int .i64 op, .int .u32 a, .int .u32 b] w fun e w' => e = .returned (.int .u32 0) ∧ Below w.heap.size w w' := by
  have hrun : ∀ w : World, (binOp BinOp.neq 194 .nilFunc .nilFunc).run Tryz.prog w = .ok (.bool false) w := fun _ => by kernel_rfl
  go_enter Tryz.func80, Tryz.ntmps80
  go_wp2_with (go_at_call 108; refine (comp_any _ _).mono ?_; rintro e w1 ⟨rfl, hb1⟩; rw [hk])
  go_ret
  exact ⟨rfl, hb1⟩
theorem taken_by (op a b : Int) (k : FuncId) (x : Bool) (w : World) (hk : asksV op = .func (.func k) #[] #[]) (he : ∀ (args : Array Value) (w : World), (callFunc k args).run Tryz.prog w = .ok (.enter k args) w) (hc : ∀ w, Calls Tryz.prog k #[.int .u32 a, .int .u32 b] w fun e w' => e = .returned (.bool x) ∧ w' = w) : Calls Tryz.prog 106 #[.int .i64 op, .int .u32 a, .int .u32 b] w fun e w' => e = .returned (.bool x) ∧ Below w.heap.size w w' := by
  have HC : Hid (∀ w, Calls Tryz.prog k #[.int .u32 a, .int .u32 b] w fun e w' => e = .returned (.bool x) ∧ w' = w) := hc
  clear hc
  have hrun : ∀ w : World, (binOp BinOp.neq 209 (.func (.func k) #[] #[]) .nilFunc).run Tryz.prog w = .ok (.bool true) w := fun _ => by kernel_rfl
  go_enter Tryz.func106, Tryz.ntmps106
  go_wp2_with (first
    | (go_at_call 121; refine (asks_any _ _).mono ?_; rintro e w1 ⟨rfl, hb1⟩; rw [hk])
    | (go_at_fn k; refine (HC.out _).mono ?_; rintro e w2 ⟨rfl, rfl⟩))
  go_ret
  exact ⟨rfl, hb1⟩
theorem taken_none (op a b : Int) (w : World) (hk : asksV op = .nilFunc) : Calls Tryz.prog 106 #[.int .i64 op, .int .u32 a, .int .u32 b] w fun e w' => e = .returned (.bool false) ∧ Below w.heap.size w w' := by
  have hrun : ∀ w : World, (binOp BinOp.neq 209 .nilFunc .nilFunc).run Tryz.prog w = .ok (.bool false) w := fun _ => by kernel_rfl
  go_enter Tryz.func106, Tryz.ntmps106
  go_wp2_with (go_at_call 121; refine (asks_any _ _).mono ?_; rintro e w1 ⟨rfl, hb1⟩; rw [hk])
  go_ret
  exact ⟨rfl, hb1⟩
theorem compV_out (op : Int) (h : ¬ (0 ≤ op ∧ op < 46)) : compV op = .nilFunc := by unfold compV; rw [if_neg h]
theorem compV_in (i : Nat) (hi : i < 46) : compV (i : Int) = compA.getD i .nilFunc := by
  unfold compV
  rw [if_pos (by omega)]
  rfl
theorem asksV_out (op : Int) (h : ¬ (0 ≤ op ∧ op < 11)) : asksV op = .nilFunc := by unfold asksV; rw [if_neg h]
theorem asksV_in (i : Nat) (hi : i < 11) : asksV (i : Int) = askA.getD i .nilFunc := by
  unfold asksV
  rw [if_pos (by omega)]
  rfl
theorem exN_big (n : Nat) (a b : Int) (h : 46 ≤ n) : exN n a b = 0 := by
  unfold exN
  split
  all_goals first | rfl | (exfalso; omega)
theorem tkN_big (n : Nat) (a b : Int) (h : 11 ≤ n) : tkN n a b = false := by
  unfold tkN
  split
  all_goals first | rfl | (exfalso; omega)
theorem p_exec (op a b : Int) (w : World) (ha : 0 ≤ a ∧ a < 4294967296) (hb : 0 ≤ b ∧ b < 4294967296) : Calls Tryz.prog 80 #[.int .i64 op, .int .u32 a, .int .u32 b] w fun e w' => e = .returned (.int .u32 (exI op a b)) ∧ Below w.heap.size w w' := by
  by_cases h : 0 ≤ op ∧ op < 46
  · obtain ⟨i, rfl⟩ : ∃ i : Nat, op = i := ⟨op.toNat, by omega⟩
    have hi : i < 46 := by omega
    have e := compV_in i hi
    match i, hi, e with
    | 0, _, e => exact exec_none _ _ _ w e
    | 1, _, e => exact exec_by _ _ _ _ _ w e (enters_of Tryz.func124 (by kernel_rfl) rfl) (fun w => p_upper a b w)
    | 2, _, e => exact exec_by _ _ _ _ _ w e (enters_of Tryz.func125 (by kernel_rfl) rfl) (fun w => p_addUpper a b w)
    | 3, _, e => exact exec_none _ _ _ w e
    | 4, _, e => exact exec_none _ _ _ w e
    | 5, _, e => exact exec_none _ _ _ w e
    | 6, _, e => exact exec_none _ _ _ w e
    | 7, _, e => exact exec_none _ _ _ w e
    | 8, _, e => exact exec_none _ _ _ w e
    | 9, _, e => exact exec_none _ _ _ w e
    | 10, _, e => exact exec_none _ _ _ w e
    | 11, _, e => exact exec_none _ _ _ w e
    | 12, _, e => exact exec_none _ _ _ w e
    | 13, _, e => exact exec_none _ _ _ w e
    | 14, _, e => exact exec_none _ _ _ w e
    | 15, _, e => exact exec_none _ _ _ w e
    | 16, _, e => exact exec_none _ _ _ w e
    | 17, _, e => exact exec_none _ _ _ w e
    | 18, _, e => exact exec_none _ _ _ w e
    | 19, _, e => exact exec_by _ _ _ _ _ w e (enters_of Tryz.func126 (by kernel_rfl) rfl) (fun w => p_add a b w)
    | 20, _, e => exact exec_by _ _ _ _ _ w e (enters_of Tryz.func127 (by kernel_rfl) rfl) (fun w => p_setLess a b w)
    | 21, _, e => exact exec_by _ _ _ _ _ w e (enters_of Tryz.func128 (by kernel_rfl) rfl) (fun w => p_setBelow a b w)
    | 22, _, e => exact exec_by _ _ _ _ _ w e (enters_of Tryz.func129 (by kernel_rfl) rfl) (fun w => p_xor a b w)
    | 23, _, e => exact exec_by _ _ _ _ _ w e (enters_of Tryz.func130 (by kernel_rfl) rfl) (fun w => p_or a b w)
    | 24, _, e => exact exec_by _ _ _ _ _ w e (enters_of Tryz.func131 (by kernel_rfl) rfl) (fun w => p_and a b w)
    | 25, _, e => exact exec_by _ _ _ _ _ w e (enters_of Tryz.func132 (by kernel_rfl) rfl) (fun w => p_left a b w hb)
    | 26, _, e => exact exec_by _ _ _ _ _ w e (enters_of Tryz.func133 (by kernel_rfl) rfl) (fun w => p_right a b w hb)
    | 27, _, e => exact exec_by _ _ _ _ _ w e (enters_of Tryz.func134 (by kernel_rfl) rfl) (fun w => p_rightSigned a b w hb)
    | 28, _, e => exact exec_by _ _ _ _ _ w e (enters_of Tryz.func126 (by kernel_rfl) rfl) (fun w => p_add a b w)
    | 29, _, e => exact exec_by _ _ _ _ _ w e (enters_of Tryz.func135 (by kernel_rfl) rfl) (fun w => p_sub a b w)
    | 30, _, e => exact exec_by _ _ _ _ _ w e (enters_of Tryz.func132 (by kernel_rfl) rfl) (fun w => p_left a b w hb)
    | 31, _, e => exact exec_by _ _ _ _ _ w e (enters_of Tryz.func127 (by kernel_rfl) rfl) (fun w => p_setLess a b w)
    | 32, _, e => exact exec_by _ _ _ _ _ w e (enters_of Tryz.func128 (by kernel_rfl) rfl) (fun w => p_setBelow a b w)
    | 33, _, e => exact exec_by _ _ _ _ _ w e (enters_of Tryz.func129 (by kernel_rfl) rfl) (fun w => p_xor a b w)
    | 34, _, e => exact exec_by _ _ _ _ _ w e (enters_of Tryz.func133 (by kernel_rfl) rfl) (fun w => p_right a b w hb)
    | 35, _, e => exact exec_by _ _ _ _ _ w e (enters_of Tryz.func134 (by kernel_rfl) rfl) (fun w => p_rightSigned a b w hb)
    | 36, _, e => exact exec_by _ _ _ _ _ w e (enters_of Tryz.func130 (by kernel_rfl) rfl) (fun w => p_or a b w)
    | 37, _, e => exact exec_by _ _ _ _ _ w e (enters_of Tryz.func131 (by kernel_rfl) rfl) (fun w => p_and a b w)
    | 38, _, e => exact exec_by _ _ _ _ _ w e (enters_of Tryz.func136 (by kernel_rfl) rfl) (fun w => p_mul a b w)
    | 39, _, e => exact exec_by _ _ _ _ _ w e (enters_of Tryz.func137 (by kernel_rfl) rfl) (fun w => p_mulHigh a b w)
    | 40, _, e => exact exec_by _ _ _ _ _ w e (enters_of Tryz.func138 (by kernel_rfl) rfl) (fun w => p_mulHighMixed a b w hb)
    | 41, _, e => exact exec_by _ _ _ _ _ w e (enters_of Tryz.func139 (by kernel_rfl) rfl) (fun w => p_mulHighUnsigned a b w ha hb)
    | 42, _, e => exact exec_by _ _ _ _ _ w e (enters_of Tryz.func140 (by kernel_rfl) rfl) (fun w => p_div a b w hb)
    | 43, _, e => exact exec_by _ _ _ _ _ w e (enters_of Tryz.func141 (by kernel_rfl) rfl) (fun w => p_divUnsigned a b w ha hb)
    | 44, _, e => exact exec_by _ _ _ _ _ w e (enters_of Tryz.func142 (by kernel_rfl) rfl) (fun w => p_rem a b w hb)
    | 45, _, e => exact exec_by _ _ _ _ _ w e (enters_of Tryz.func143 (by kernel_rfl) rfl) (fun w => p_remUnsigned a b w ha hb)
  · have hx : exI op a b = 0 := by
      unfold exI
      split
      · exact exN_big _ _ _ (by omega)
      · rfl
    rw [hx]
    exact exec_none _ _ _ w (compV_out op h)
theorem p_taken (op a b : Int) (w : World) : Calls Tryz.prog 106 #[.int .i64 op, .int .u32 a, .int .u32 b] w fun e w' => e = .returned (.bool (tkI op a b)) ∧ Below w.heap.size w w' := by
  by_cases h : 0 ≤ op ∧ op < 11
  · obtain ⟨i, rfl⟩ : ∃ i : Nat, op = i := ⟨op.toNat, by omega⟩
    have hi : i < 11 := by omega
    have e := asksV_in i hi
    match i, hi, e with
    | 0, _, e => exact taken_none _ _ _ w e
    | 1, _, e => exact taken_none _ _ _ w e
    | 2, _, e => exact taken_none _ _ _ w e
    | 3, _, e => exact taken_none _ _ _ w e
    | 4, _, e => exact taken_none _ _ _ w e
    | 5, _, e => exact taken_by _ _ _ _ _ w e (enters_of Tryz.func162 (by kernel_rfl) rfl) (fun w => p_same a b w)
    | 6, _, e => exact taken_by _ _ _ _ _ w e (enters_of Tryz.func163 (by kernel_rfl) rfl) (fun w => p_asking1 a b w)
    | 7, _, e => exact taken_by _ _ _ _ _ w e (enters_of Tryz.func164 (by kernel_rfl) rfl) (fun w => p_less a b w)
    | 8, _, e => exact taken_by _ _ _ _ _ w e (enters_of Tryz.func165 (by kernel_rfl) rfl) (fun w => p_asking2 a b w)
    | 9, _, e => exact taken_by _ _ _ _ _ w e (enters_of Tryz.func166 (by kernel_rfl) rfl) (fun w => p_below a b w)
    | 10, _, e => exact taken_by _ _ _ _ _ w e (enters_of Tryz.func167 (by kernel_rfl) rfl) (fun w => p_asking3 a b w)
  · have hx : tkI op a b = false := by
      unfold tkI
      split
      · exact tkN_big _ _ _ (by omega)
      · rfl
    rw [hx]
    exact taken_none _ _ _ w (asksV_out op h)
end Go.Proofs.YtengofkjlgajlaaGreatDoor
/-
  THE PROGRAM's Swap.
-/
namespace Go.Proofs.YtengofkjlgajlaaGreatDoor
open Go Go.RowKit
def swpA : Array Value := #[.nilFunc, .nilFunc, .nilFunc, .nilFunc, .nilFunc, .nilFunc, .nilFunc, .nilFunc, .nilFunc, .nilFunc, .nilFunc, .nilFunc, .nilFunc, .nilFunc, .nilFunc, .nilFunc, .nilFunc, .nilFunc, .nilFunc, .nilFunc, .nilFunc, .nilFunc, .nilFunc, .nilFunc, .nilFunc, .nilFunc, .nilFunc, .nilFunc, .nilFunc, .nilFunc, .nilFunc, .nilFunc, .nilFunc, .nilFunc, .nilFunc, .nilFunc, .nilFunc, .nilFunc, .nilFunc, .nilFunc, .nilFunc, .nilFunc, .nilFunc, .nilFunc, .nilFunc, .nilFunc, .nilFunc, .func (.func 154) #[] #[], .func (.func 154) #[] #[], .func (.func 126) #[] #[], .func (.func 129) #[] #[], .func (.func 131) #[] #[], .func (.func 130) #[] #[], .func (.func 155) #[] #[], .func (.func 156) #[] #[], .func (.func 157) #[] #[], .func (.func 158) #[] #[]]
def swpV (op : Int) : Value := if 0 ≤ op ∧ op < 57 then swpA.getD op.toNat .nilFunc else .nilFunc
theorem swpA_at (i : Nat) (hi : i < 57) : swpA[i]? = some (swpA.getD i .nilFunc) := by
  have hs : swpA.size = 57 := by kernel_rfl
  rw [Array.getD_eq_getD_getElem?, Array.getElem?_eq_getElem (by omega)]
  rfl
theorem swp_any (op : Int) (w : World) : Calls Tryz.prog 113 #[.int .i64 op] w fun e w' => e = .returned (swpV op) ∧ Below w.heap.size w w' := by
  have hg : (w.alloc (.cells (Array.replicate 57 .nilFunc) 217)).heap[w.heap.size]? = some (.cells (Array.replicate 57 .nilFunc) 217 (0, 0)) := by show (w.heap.push _)[w.heap.size]? = _; simp
  have hW : ∀ i, i < 57 → ((w.alloc (.cells (Array.replicate 57 .nilFunc) 217)).setRow w.heap.size swpA).cell? ⟨w.heap.size, i, none⟩ = some (swpA.getD i .nilFunc) := fun i hi => (cell_setRow_same _ _ i _ _ _ _ hg).trans (swpA_at i hi)
  have hb : Below w.heap.size w ((w.alloc (.cells (Array.replicate 57 .nilFunc) 217)).setRow w.heap.size swpA) := below_setRow ((Below.refl _ _).alloc (Nat.le_refl _) _) (Nat.le_refl _) _
  refine calls_of_wp Tryz.func113 rfl ?_
  refine wp_head (a' := ⟨#[.int .i64 op, undef, .nilFunc, undef, undef, undef, undef, undef], []⟩) (w' := w) (by kernel_rfl) ?_
  refine wp_seq (wp_region_list ?_)
  refine wpList_head (l := [_, _]) (l2 := [_]) (a' := ⟨#[.int .i64 op, undef, .nilFunc, .pointer (some ⟨w.heap.size, 0, none⟩), .agg swpA, undef, undef, undef], []⟩) (w' := w.alloc (.cells (Array.replicate 57 .nilFunc) 217)) (by kernel_rfl) ?_
  refine wpList_store_row rfl 217 _ _ rfl w.heap.size swpA rfl rfl 217 _ hg (by kernel_rfl) (by kernel_rfl) (by kernel_rfl) ?_
  generalize (w.alloc (.cells (Array.replicate 57 .nilFunc) 217)).setRow w.heap.size swpA = W at hW hb ⊢
  clear hg
  generalize w.heap.size = z at hW hb ⊢
  show Code.wp _ _ _ ⟨#[.int .i64 op, undef, .nilFunc, .pointer (some ⟨z, 0, none⟩), .agg swpA, undef, undef, undef], []⟩ W
  by_cases h : 0 ≤ op ∧ op < 57
  · rw [swpV, if_pos h]
    obtain ⟨i, rfl⟩ : ∃ i : Nat, op = i := ⟨op.toNat, by omega⟩
    have hi : i < 57 := by omega
    rw [show ((i : Int)).toNat = i from rfl]
    have hc := hW i hi
    clear hW h
    generalize swpA.getD i .nilFunc = v at hc ⊢
    generalize swpA = A0
    go_wp2_with (go_at_call 144; refine (pick2_in _ 57 i v _ hi hc).mono ?_; rintro e w1 ⟨rfl, rfl⟩)
    go_ret
    exact ⟨rfl, hb⟩
  · rw [swpV, if_neg h]
    clear hW
    generalize swpA = A0
    go_wp2_with (go_at_call 144; refine (pick2_out _ 57 op _ h).mono ?_; rintro e w1 ⟨rfl, rfl⟩)
    go_ret
    exact ⟨rfl, hb⟩
theorem p_second (a b : Int) (w : World) : Calls Tryz.prog 154 #[.int .u32 a, .int .u32 b] w fun e w' => e = .returned (.int .u32 b) ∧ w' = w := by
  go_enter Tryz.func154, Tryz.ntmps154
  go_wp2
  go_ret
  exact ⟨rfl, rfl⟩
theorem p_lesser (a b : Int) (w : World) : Calls Tryz.prog 155 #[.int .u32 a, .int .u32 b] w fun e w' => e = .returned (.int .u32 (if wrap32 a < wrap32 b then a else b)) ∧ w' = w := by
  by_cases h : wrap32 a < wrap32 b
  · rw [if_pos h]
    have hd : decide (wrap32 a < wrap32 b) = true := decide_eq_true h
    clear h
    go_enter Tryz.func155, Tryz.ntmps155
    go_wp2_with (go_at_call 164; refine (p_less _ _ _).mono ?_; rintro e w1 ⟨rfl, rfl⟩; rw [hd])
    go_ret
    exact ⟨rfl, rfl⟩
  · rw [if_neg h]
    have hd : decide (wrap32 a < wrap32 b) = false := decide_eq_false h
    clear h
    go_enter Tryz.func155, Tryz.ntmps155
    go_wp2_with (go_at_call 164; refine (p_less _ _ _).mono ?_; rintro e w1 ⟨rfl, rfl⟩; rw [hd])
    go_ret
    exact ⟨rfl, rfl⟩
theorem p_greater (a b : Int) (w : World) : Calls Tryz.prog 156 #[.int .u32 a, .int .u32 b] w fun e w' => e = .returned (.int .u32 (if wrap32 a < wrap32 b then b else a)) ∧ w' = w := by
  by_cases h : wrap32 a < wrap32 b
  · rw [if_pos h]
    have hd : decide (wrap32 a < wrap32 b) = true := decide_eq_true h
    clear h
    go_enter Tryz.func156, Tryz.ntmps156
    go_wp2_with (go_at_call 164; refine (p_less _ _ _).mono ?_; rintro e w1 ⟨rfl, rfl⟩; rw [hd])
    go_ret
    exact ⟨rfl, rfl⟩
  · rw [if_neg h]
    have hd : decide (wrap32 a < wrap32 b) = false := decide_eq_false h
    clear h
    go_enter Tryz.func156, Tryz.ntmps156
    go_wp2_with (go_at_call 164; refine (p_less _ _ _).mono ?_; rintro e w1 ⟨rfl, rfl⟩; rw [hd])
    go_ret
    exact ⟨rfl, rfl⟩
theorem p_swapping1 (a b : Int) (w : World) : Calls Tryz.prog 157 #[.int .u32 a, .int .u32 b] w fun e w' => e = .returned (.int .u32 (if a < b then a else b)) ∧ w' = w := by
  go_enter Tryz.func157, Tryz.ntmps157
  go_wp2
  all_goals
    go_ret
    exact ⟨ret_int (by omega), rfl⟩
theorem p_swapping2 (a b : Int) (w : World) : Calls Tryz.prog 158 #[.int .u32 a, .int .u32 b] w fun e w' => e = .returned (.int .u32 (if a < b then b else a)) ∧ w' = w := by
  go_enter Tryz.func158, Tryz.ntmps158
  go_wp2
  all_goals
    go_ret
    exact ⟨ret_int (by omega), rfl⟩
theorem swap_by (op a b : Int) (k : FuncId) (x : Int) (w : World) (hk : swpV op = .func (.func k) #[] #[]) (he : ∀ (args : Array Value) (w : World), (callFunc k args).run Tryz.prog w = .ok (.enter k args) w) (hc : ∀ w, Calls Tryz.prog k #[.int .u32 a, .int .u32 b] w fun e w' => e = .returned (.int .u32 x) ∧ w' = w) : Calls Tryz.prog 97 #[.int .i64 op, .int .u32 a, .int .u32 b] w fun e w' => e = .returned (.int .u32 x) ∧ Below w.heap.size w w' := by
  have HC : Hid (∀ w, Calls Tryz.prog k #[.int .u32 a, .int .u32 b] w fun e w' => e = .returned (.int .u32 x) ∧ w' = w) := hc
  clear hc
  have hrun : ∀ w : World, (binOp BinOp.neq 194 (.func (.func k) #[] #[]) .nilFunc).run Tryz.prog w = .ok (.bool true) w := fun _ => by kernel_rfl
  go_enter Tryz.func97, Tryz.ntmps97
  go_wp2_with (first
    | (go_at_call 113; refine (swp_any _ _).mono ?_; rintro e w1 ⟨rfl, hb1⟩; rw [hk])
    | (go_at_fn k; refine (HC.out _).mono ?_; rintro e w2 ⟨rfl, rfl⟩))
  go_ret
  exact ⟨rfl, hb1⟩
theorem swap_none (op a b : Int) (w : World) (hk : swpV op = .nilFunc) : Calls Tryz.prog 97 #[.int .i64 op, .int .u32 a, .int .u32 b] w fun e w' => e = .returned (.int .u32 a) ∧ Below w.heap.size w w' := by
  have hrun : ∀ w : World, (binOp BinOp.neq 194 .nilFunc .nilFunc).run Tryz.prog w = .ok (.bool false) w := fun _ => by kernel_rfl
  go_enter Tryz.func97, Tryz.ntmps97
  go_wp2_with (go_at_call 113; refine (swp_any _ _).mono ?_; rintro e w1 ⟨rfl, hb1⟩; rw [hk])
  go_ret
  exact ⟨rfl, hb1⟩
theorem swpV_out (op : Int) (h : ¬ (0 ≤ op ∧ op < 57)) : swpV op = .nilFunc := by unfold swpV; rw [if_neg h]
theorem swpV_in (i : Nat) (hi : i < 57) : swpV (i : Int) = swpA.getD i .nilFunc := by
  unfold swpV
  rw [if_pos (by omega)]
  rfl
theorem swN_big (n : Nat) (a b : Int) (h : 57 ≤ n) : swN n a b = a := by
  unfold swN
  split
  all_goals first | rfl | (exfalso; omega)
theorem p_swap (op a b : Int) (w : World) : Calls Tryz.prog 97 #[.int .i64 op, .int .u32 a, .int .u32 b] w fun e w' => e = .returned (.int .u32 (swI op a b)) ∧ Below w.heap.size w w' := by
  by_cases h : 0 ≤ op ∧ op < 57
  · obtain ⟨i, rfl⟩ : ∃ i : Nat, op = i := ⟨op.toNat, by omega⟩
    have hi : i < 57 := by omega
    have e := swpV_in i hi
    match i, hi, e with
    | 0, _, e => exact swap_none _ _ _ w e
    | 1, _, e => exact swap_none _ _ _ w e
    | 2, _, e => exact swap_none _ _ _ w e
    | 3, _, e => exact swap_none _ _ _ w e
    | 4, _, e => exact swap_none _ _ _ w e
    | 5, _, e => exact swap_none _ _ _ w e
    | 6, _, e => exact swap_none _ _ _ w e
    | 7, _, e => exact swap_none _ _ _ w e
    | 8, _, e => exact swap_none _ _ _ w e
    | 9, _, e => exact swap_none _ _ _ w e
    | 10, _, e => exact swap_none _ _ _ w e
    | 11, _, e => exact swap_none _ _ _ w e
    | 12, _, e => exact swap_none _ _ _ w e
    | 13, _, e => exact swap_none _ _ _ w e
    | 14, _, e => exact swap_none _ _ _ w e
    | 15, _, e => exact swap_none _ _ _ w e
    | 16, _, e => exact swap_none _ _ _ w e
    | 17, _, e => exact swap_none _ _ _ w e
    | 18, _, e => exact swap_none _ _ _ w e
    | 19, _, e => exact swap_none _ _ _ w e
    | 20, _, e => exact swap_none _ _ _ w e
    | 21, _, e => exact swap_none _ _ _ w e
    | 22, _, e => exact swap_none _ _ _ w e
    | 23, _, e => exact swap_none _ _ _ w e
    | 24, _, e => exact swap_none _ _ _ w e
    | 25, _, e => exact swap_none _ _ _ w e
    | 26, _, e => exact swap_none _ _ _ w e
    | 27, _, e => exact swap_none _ _ _ w e
    | 28, _, e => exact swap_none _ _ _ w e
    | 29, _, e => exact swap_none _ _ _ w e
    | 30, _, e => exact swap_none _ _ _ w e
    | 31, _, e => exact swap_none _ _ _ w e
    | 32, _, e => exact swap_none _ _ _ w e
    | 33, _, e => exact swap_none _ _ _ w e
    | 34, _, e => exact swap_none _ _ _ w e
    | 35, _, e => exact swap_none _ _ _ w e
    | 36, _, e => exact swap_none _ _ _ w e
    | 37, _, e => exact swap_none _ _ _ w e
    | 38, _, e => exact swap_none _ _ _ w e
    | 39, _, e => exact swap_none _ _ _ w e
    | 40, _, e => exact swap_none _ _ _ w e
    | 41, _, e => exact swap_none _ _ _ w e
    | 42, _, e => exact swap_none _ _ _ w e
    | 43, _, e => exact swap_none _ _ _ w e
    | 44, _, e => exact swap_none _ _ _ w e
    | 45, _, e => exact swap_none _ _ _ w e
    | 46, _, e => exact swap_none _ _ _ w e
    | 47, _, e => exact swap_by _ _ _ _ _ w e (enters_of Tryz.func154 (by kernel_rfl) rfl) (fun w => p_second a b w)
    | 48, _, e => exact swap_by _ _ _ _ _ w e (enters_of Tryz.func154 (by kernel_rfl) rfl) (fun w => p_second a b w)
    | 49, _, e => exact swap_by _ _ _ _ _ w e (enters_of Tryz.func126 (by kernel_rfl) rfl) (fun w => p_add a b w)
    | 50, _, e => exact swap_by _ _ _ _ _ w e (enters_of Tryz.func129 (by kernel_rfl) rfl) (fun w => p_xor a b w)
    | 51, _, e => exact swap_by _ _ _ _ _ w e (enters_of Tryz.func131 (by kernel_rfl) rfl) (fun w => p_and a b w)
    | 52, _, e => exact swap_by _ _ _ _ _ w e (enters_of Tryz.func130 (by kernel_rfl) rfl) (fun w => p_or a b w)
    | 53, _, e => exact swap_by _ _ _ _ _ w e (enters_of Tryz.func155 (by kernel_rfl) rfl) (fun w => p_lesser a b w)
    | 54, _, e => exact swap_by _ _ _ _ _ w e (enters_of Tryz.func156 (by kernel_rfl) rfl) (fun w => p_greater a b w)
    | 55, _, e => exact swap_by _ _ _ _ _ w e (enters_of Tryz.func157 (by kernel_rfl) rfl) (fun w => p_swapping1 a b w)
    | 56, _, e => exact swap_by _ _ _ _ _ w e (enters_of Tryz.func158 (by kernel_rfl) rfl) (fun w => p_swapping2 a b w)
  · have hx : swI op a b = a := by
      unfold swI
      split
      · exact swN_big _ _ _ (by omega)
      · rfl
    rw [hx]
    exact swap_none _ _ _ w (swpV_out op h)
end Go.Proofs.YtengofkjlgajlaaGreatDoor
/-
  WHAT IS READ AND WRITTEN: the answer's 'has'; the program's ClassOf, Reads, Writes.
-/
namespace Go.Proofs.YtengofkjlgajlaaGreatDoor
open Go Go.RowKit
def hasB (s : ByteArray) (L : Int) : Bool := s.data.toList.any fun c => (c.toNat : Int) == L
theorem Laid.alloc {w : World} (h : Laid w) (o : Obj) : Laid (w.alloc o) := h.below ((Below.refl _ _).alloc (Nat.le_refl _) _)
theorem Laid.drewN {w : World} (h : Laid w) (n : Nat) : Laid (w.drewN n) := h.below (below_drewN (Below.refl _ _) _)
theorem Laid.drew {w : World} (h : Laid w) : Laid w.drew := h.below (Below.refl _ _).drew
theorem shapeOf_out (op : Int) (k : Nat) (hk : opN op = k) (w : World) (hL : Laid w) : Calls Tryz.prog 77 #[.int .i64 op] w fun e w' => e = .returned (.agg #[.int .i64 (fmtAt k), .int .u32 (codeAt k), .int .u32 (fAt k), .int .u32 (gAt k)]) ∧ Below w.heap.size w w' := by
  subst hk; exact shapeOf_any op w hL
set_option maxHeartbeats 400000 in
theorem classOf_any (op : Int) (k : Nat) (hk : opN op = k) (w : World) (hL : Laid w) : Calls Tryz.prog 64 #[.int .i64 op] w fun e w' => e = .returned (.int .i64 (classOf k)) ∧ Below w.heap.size w w' := by
  have HK : Hid (opN op = k) := hk
  have HL : Hid (Laid w) := hL
  by_cases h4 : op = 4
  · have e : classOf k = 3 := by rw [← hk, h4]; rfl
    rw [e]
    clear hk hL e
    subst h4
    go_enter Tryz.func64, Tryz.ntmps64
    go_wp2_with (go_at_call 77; refine (shapeOf_out _ k HK.out _ HL.out).mono ?_; rintro e w' ⟨rfl, hb⟩)
    go_ret
    exact ⟨rfl, Below.alloc (by assumption) (Below.size (by assumption)) _⟩
  · have h4' : (op == 4) = false := by simpa using h4
    have k4 : k ≠ 4 := by
      rw [← hk]; unfold opN; split <;> omega
    have ef : classOf k = if fmtAt k = 8 ∧ gAt k = 1 then 1 else lyClass (fmtAt k) := by unfold classOf; rw [if_neg k4]
    clear hk hL h4 k4
    by_cases h8 : fmtAt k = 8
    · by_cases h1 : gAt k = 1
      · have e : classOf k = 1 := by rw [ef, if_pos ⟨h8, h1⟩]
        have t8 : ((fmtAt k : Int) == 8) = true := by simp; omega
        have t1 : (gAt k == 1) = true := by simpa using h1
        rw [e]; clear e ef h8 h1
        go_enter Tryz.func64, Tryz.ntmps64
        go_wp2_with (go_at_call 77; refine (shapeOf_out _ k HK.out _ HL.out).mono ?_; rintro e w' ⟨rfl, hb⟩)
        go_ret
        exact ⟨rfl, Below.alloc (by assumption) (Below.size (by assumption)) _⟩
      · have e : classOf k = lyClass (fmtAt k) := by rw [ef, if_neg (fun h => h1 h.2)]
        have t8 : ((fmtAt k : Int) == 8) = true := by simp; omega
        have t1 : (gAt k == 1) = false := by simpa using h1
        rw [e]; clear e ef h8 h1
        go_enter Tryz.func64, Tryz.ntmps64
        go_wp2_with (first | (go_at_call 77; refine (shapeOf_out _ k HK.out _ HL.out).mono ?_; rintro e w' ⟨rfl, hb⟩) | (go_at_call 94; refine (class_any (fmtAt k) (fmt_lt k) _ ((HL.out.below hb).alloc _)).mono ?_; rintro e w'' ⟨rfl, rfl⟩))
        go_ret
        exact ⟨rfl, Below.alloc (by assumption) (Below.size (by assumption)) _⟩
    · have e : classOf k = lyClass (fmtAt k) := by rw [ef, if_neg (fun h => h8 h.1)]
      have t8 : ((fmtAt k : Int) == 8) = false := by simp; omega
      rw [e]; clear e ef h8
      go_enter Tryz.func64, Tryz.ntmps64
      go_wp2_with (first | (go_at_call 77; refine (shapeOf_out _ k HK.out _ HL.out).mono ?_; rintro e w' ⟨rfl, hb⟩) | (go_at_call 94; refine (class_any (fmtAt k) (fmt_lt k) _ ((HL.out.below hb).alloc _)).mono ?_; rintro e w'' ⟨rfl, rfl⟩))
      go_ret
      exact ⟨rfl, Below.alloc (by assumption) (Below.size (by assumption)) _⟩
theorem run_field48 (x : Int) (b c d : Value) (w : World) : (Instr.field 153 (.agg #[.int .i64 x, b, c, d]) 0).run Tryz.prog w = .ok (.int .i64 x) w := by kernel_rfl
theorem writesOf_any (op : Int) (k : Nat) (hk : opN op = k) (w : World) (hL : Laid w) : Calls Tryz.prog 50 #[.int .i64 op] w fun e w' => e = .returned (.bool (lyRd (fmtAt k))) ∧ Below w.heap.size w w' := by
  have HK : Hid (opN op = k) := hk
  have HL : Hid (Laid w) := hL
  clear hk hL
  have hf := run_field48
  go_enter Tryz.func50, Tryz.ntmps50
  go_wp2_with (first | (go_at_call 77; refine (shapeOf_out _ k HK.out _ HL.out).mono ?_; rintro e w' ⟨rfl, hb⟩) | (go_at_call 78; refine (writes_any (fmtAt k) (fmt_lt k) _ (HL.out.below hb)).mono ?_; rintro e w'' ⟨rfl, rfl⟩))
  go_ret
  exact ⟨rfl, by assumption⟩
theorem readsOf_any (op : Int) (k : Nat) (hk : opN op = k) (w : World) (hL : Laid w) : Calls Tryz.prog 107 #[.int .i64 op] w fun e w' => e = .returned (.tuple #[.bool (rf (fmtAt k)), .bool (lyRs2 (fmtAt k))]) ∧ Below w.heap.size w w' := by
  have HK : Hid (opN op = k) := hk
  have HL : Hid (Laid w) := hL
  clear hk hL
  go_enter Tryz.func107, Tryz.ntmps107
  go_wp2_with (go_at_call 77; refine (shapeOf_out _ k HK.out _ HL.out).mono ?_; rintro e w' ⟨rfl, hb⟩)
  have HL2 : Hid (∀ n o, Laid ((w'.alloc o).drewN n)) := fun n o => ((HL.out.below hb).alloc _).drewN _
  go_quiet (first | (go_at_call 122; exact Calls.quiet_of_same (readsFirst_any (fmtAt k) (fmt_lt k) _ (HL2.out _ _))) | (go_at_call 123; exact Calls.quiet_of_same (readsSecond_any (fmtAt k) (fmt_lt k) _ (HL2.out _ _))))
  go_wp2
  go_ret2
  exact ⟨rfl, below_drewN (Below.alloc hb hb.size _) _⟩
end Go.Proofs.YtengofkjlgajlaaGreatDoor
/-
  THE PROGRAM's Size AND Widen.
-/
namespace Go.Proofs.YtengofkjlgajlaaGreatDoor
open Go Go.RowKit
theorem classOf_all : ((List.range 67).all fun i => classOf (i + 1) == classR (letAt i) (codeRAt i) (gRAt i)) = true := by kernel_rfl
theorem classOf_eq (op : Int) : classOf (opN op) = clR op := by
  unfold clR opN
  by_cases h : 1 ≤ op ∧ op ≤ 67
  · rw [if_neg (by omega), if_pos h]
    have := List.all_eq_true.1 classOf_all (op - 1).toNat (List.mem_range.2 (by omega))
    rw [beq_iff_eq] at this
    rw [← this]
    congr 1
    omega
  · rw [if_pos (by omega), if_neg h]
    rfl
theorem p_class (op : Int) (w : World) (hL : Laid w) : Calls Tryz.prog 64 #[.int .i64 op] w fun e w' => e = .returned (.int .i64 (clR op)) ∧ Below w.heap.size w w' := by
  rw [← classOf_eq]
  exact classOf_any op _ rfl w hL
theorem pick1_in (b n i : Nat) (v : Value) (w : World) (hi : i < n) (hc : w.cell? ⟨b, i, none⟩ = some v) : Calls Tryz.prog 150 #[.slice (some ⟨b, 0, none⟩) n n, .int .i64 i] w fun e w' => e = .returned v ∧ w' = w := by
  go_enter Tryz.func150, Tryz.ntmps150
  go_wp2
  go_ret
  exact ⟨rfl, rfl⟩
theorem pick1_out (b n : Nat) (i : Int) (w : World) (hi : ¬ (0 ≤ i ∧ i < n)) : Calls Tryz.prog 150 #[.slice (some ⟨b, 0, none⟩) n n, .int .i64 i] w fun e w' => e = .returned .nilFunc ∧ w' = w := by
  by_cases h : 0 ≤ i
  all_goals
    go_enter Tryz.func150, Tryz.ntmps150
    go_wp2
    go_ret
    exact ⟨rfl, rfl⟩
def widA : Array Value := #[.nilFunc, .nilFunc, .nilFunc, .nilFunc, .nilFunc, .nilFunc, .nilFunc, .nilFunc, .nilFunc, .nilFunc, .nilFunc, .func (.func 145) #[] #[], .func (.func 146) #[] #[], .func (.func 147) #[] #[], .func (.func 148) #[] #[], .func (.func 149) #[] #[]]
def widV (op : Int) : Value := if 0 ≤ op ∧ op < 16 then widA.getD op.toNat .nilFunc else .nilFunc
theorem widA_at (i : Nat) (hi : i < 16) : widA[i]? = some (widA.getD i .nilFunc) := by
  have hs : widA.size = 16 := by kernel_rfl
  rw [Array.getD_eq_getD_getElem?, Array.getElem?_eq_getElem (by omega)]
  rfl
theorem wid_any (op : Int) (w : World) : Calls Tryz.prog 109 #[.int .i64 op] w fun e w' => e = .returned (widV op) ∧ Below w.heap.size w w' := by
  have hg : (w.alloc (.cells (Array.replicate 16 .nilFunc) 214)).heap[w.heap.size]? = some (.cells (Array.replicate 16 .nilFunc) 214 (0, 0)) := by show (w.heap.push _)[w.heap.size]? = _; simp
  have hW : ∀ i, i < 16 → ((w.alloc (.cells (Array.replicate 16 .nilFunc) 214)).setRow w.heap.size widA).cell? ⟨w.heap.size, i, none⟩ = some (widA.getD i .nilFunc) := fun i hi => (cell_setRow_same _ _ i _ _ _ _ hg).trans (widA_at i hi)
  have hb : Below w.heap.size w ((w.alloc (.cells (Array.replicate 16 .nilFunc) 214)).setRow w.heap.size widA) := below_setRow ((Below.refl _ _).alloc (Nat.le_refl _) _) (Nat.le_refl _) _
  refine calls_of_wp Tryz.func109 rfl ?_
  refine wp_head (a' := ⟨#[.int .i64 op, undef, .nilFunc, undef, undef, undef, undef, undef], []⟩) (w' := w) (by kernel_rfl) ?_
  refine wp_seq (wp_region_list ?_)
  refine wpList_head (l := [_, _]) (l2 := [_]) (a' := ⟨#[.int .i64 op, undef, .nilFunc, .pointer (some ⟨w.heap.size, 0, none⟩), .agg widA, undef, undef, undef], []⟩) (w' := w.alloc (.cells (Array.replicate 16 .nilFunc) 214)) (by kernel_rfl) ?_
  refine wpList_store_row rfl 214 _ _ rfl w.heap.size widA rfl rfl 214 _ hg (by kernel_rfl) (by kernel_rfl) (by kernel_rfl) ?_
  generalize (w.alloc (.cells (Array.replicate 16 .nilFunc) 214)).setRow w.heap.size widA = W at hW hb ⊢
  clear hg
  generalize w.heap.size = z at hW hb ⊢
  show Code.wp _ _ _ ⟨#[.int .i64 op, undef, .nilFunc, .pointer (some ⟨z, 0, none⟩), .agg widA, undef, undef, undef], []⟩ W
  by_cases h : 0 ≤ op ∧ op < 16
  · rw [widV, if_pos h]
    obtain ⟨i, rfl⟩ : ∃ i : Nat, op = i := ⟨op.toNat, by omega⟩
    have hi : i < 16 := by omega
    rw [show ((i : Int)).toNat = i from rfl]
    have hc := hW i hi
    clear hW h
    generalize widA.getD i .nilFunc = v at hc ⊢
    generalize widA = A0
    go_wp2_with (go_at_call 150; refine (pick1_in _ 16 i v _ hi hc).mono ?_; rintro e w1 ⟨rfl, rfl⟩)
    go_ret
    exact ⟨rfl, hb⟩
  · rw [widV, if_neg h]
    clear hW
    generalize widA = A0
    go_wp2_with (go_at_call 150; refine (pick1_out _ 16 op _ h).mono ?_; rintro e w1 ⟨rfl, rfl⟩)
    go_ret
    exact ⟨rfl, hb⟩
theorem p_widening1 (a : Int) (w : World) : Calls Tryz.prog 145 #[.int .u32 a] w fun e w' => e = .returned (.int .u32 (((a + 128) % 256 - 128) % 4294967296)) ∧ w' = w := by
  go_enter Tryz.func145, Tryz.ntmps145
  go_wp2
  go_ret
  exact ⟨ret_int (by rw [wrap8_i]), rfl⟩
theorem p_widening2 (a : Int) (w : World) : Calls Tryz.prog 146 #[.int .u32 a] w fun e w' => e = .returned (.int .u32 (((a + 32768) % 65536 - 32768) % 4294967296)) ∧ w' = w := by
  go_enter Tryz.func146, Tryz.ntmps146
  go_wp2
  go_ret
  exact ⟨ret_int (by rw [wrap16_i]), rfl⟩
theorem p_widening3 (a : Int) (w : World) : Calls Tryz.prog 147 #[.int .u32 a] w fun e w' => e = .returned (.int .u32 (a)) ∧ w' = w := by
  go_enter Tryz.func147, Tryz.ntmps147
  go_wp2
  go_ret
  exact ⟨rfl, rfl⟩
theorem p_widening4 (a : Int) (w : World) : Calls Tryz.prog 148 #[.int .u32 a] w fun e w' => e = .returned (.int .u32 (a % 256)) ∧ w' = w := by
  go_enter Tryz.func148, Tryz.ntmps148
  go_wp2
  go_ret
  exact ⟨ret_int rfl, rfl⟩
theorem p_widening5 (a : Int) (w : World) : Calls Tryz.prog 149 #[.int .u32 a] w fun e w' => e = .returned (.int .u32 (a % 65536)) ∧ w' = w := by
  go_enter Tryz.func149, Tryz.ntmps149
  go_wp2
  go_ret
  exact ⟨ret_int (by rw [IntKind.wrap_u16]; omega), rfl⟩
theorem wid_by (op a : Int) (k : FuncId) (x : Int) (w : World) (hk : widV op = .func (.func k) #[] #[]) (he : ∀ (args : Array Value) (w : World), (callFunc k args).run Tryz.prog w = .ok (.enter k args) w) (hc : ∀ w, Calls Tryz.prog k #[.int .u32 a] w fun e w' => e = .returned (.int .u32 x) ∧ w' = w) : Calls Tryz.prog 81 #[.int .i64 op, .int .u32 a] w fun e w' => e = .returned (.int .u32 x) ∧ Below w.heap.size w w' := by
  have HC : Hid (∀ w, Calls Tryz.prog k #[.int .u32 a] w fun e w' => e = .returned (.int .u32 x) ∧ w' = w) := hc
  clear hc
  have hrun : ∀ w : World, (binOp BinOp.neq 196 (.func (.func k) #[] #[]) .nilFunc).run Tryz.prog w = .ok (.bool true) w := fun _ => by kernel_rfl
  go_enter Tryz.func81, Tryz.ntmps81
  go_wp2_with (first
    | (go_at_call 109; refine (wid_any _ _).mono ?_; rintro e w1 ⟨rfl, hb1⟩; rw [hk])
    | (go_at_fn k; refine (HC.out _).mono ?_; rintro e w2 ⟨rfl, rfl⟩))
  go_ret
  exact ⟨rfl, hb1⟩
theorem wid_none6 (op a : Int) (w : World) (hL : Laid w) (hk : widV op = .nilFunc) (hc : clR op = 6) : Calls Tryz.prog 81 #[.int .i64 op, .int .u32 a] w fun e w' => e = .returned (.int .u32 a) ∧ Below w.heap.size w w' := by
  have hrun : ∀ w : World, (binOp BinOp.neq 196 .nilFunc .nilFunc).run Tryz.prog w = .ok (.bool false) w := fun _ => by kernel_rfl
  have HL : Hid (Laid w) := hL
  clear hL
  go_enter Tryz.func81, Tryz.ntmps81
  go_wp2_with (first
    | (go_at_call 109; refine (wid_any _ _).mono ?_; rintro e w1 ⟨rfl, hb1⟩; rw [hk])
    | (go_at_call 64; refine (p_class _ _ (HL.out.below hb1)).mono ?_; rintro e w2 ⟨rfl, hb2⟩; rw [hc]))
  go_ret
  exact ⟨rfl, below2 hb1 hb2⟩
theorem wid_none0 (op a : Int) (w : World) (hL : Laid w) (hk : widV op = .nilFunc) (hc : (clR op == 6) = false) : Calls Tryz.prog 81 #[.int .i64 op, .int .u32 a] w fun e w' => e = .returned (.int .u32 0) ∧ Below w.heap.size w w' := by
  have hrun : ∀ w : World, (binOp BinOp.neq 196 .nilFunc .nilFunc).run Tryz.prog w = .ok (.bool false) w := fun _ => by kernel_rfl
  have HL : Hid (Laid w) := hL
  clear hL
  go_enter Tryz.func81, Tryz.ntmps81
  go_wp2_with (first
    | (go_at_call 109; refine (wid_any _ _).mono ?_; rintro e w1 ⟨rfl, hb1⟩; rw [hk])
    | (go_at_call 64; refine (p_class _ _ (HL.out.below hb1)).mono ?_; rintro e w2 ⟨rfl, hb2⟩))
  go_ret
  exact ⟨rfl, below2 hb1 hb2⟩
theorem widV_out (op : Int) (h : ¬ (11 ≤ op ∧ op < 16)) : widV op = .nilFunc := by
  unfold widV
  by_cases k : 0 ≤ op ∧ op < 16
  · rw [if_pos k]
    have : op.toNat < 11 := by omega
    generalize op.toNat = n at this
    match n, this with
    | 0, _ => rfl
    | 1, _ => rfl
    | 2, _ => rfl
    | 3, _ => rfl
    | 4, _ => rfl
    | 5, _ => rfl
    | 6, _ => rfl
    | 7, _ => rfl
    | 8, _ => rfl
    | 9, _ => rfl
    | 10, _ => rfl
  · rw [if_neg k]
theorem wdI_6 (op r : Int) (h : 46 ≤ op ∧ op ≤ 56) : wdI op r = r := by
  have : op = 46 ∨ op = 47 ∨ op = 48 ∨ op = 49 ∨ op = 50 ∨ op = 51 ∨ op = 52 ∨ op = 53 ∨ op = 54 ∨ op = 55 ∨ op = 56 := by omega
  rcases this with rfl | rfl | rfl | rfl | rfl | rfl | rfl | rfl | rfl | rfl | rfl
  all_goals rfl
theorem wdI_0 (op r : Int) (h : ¬ (46 ≤ op ∧ op ≤ 56)) (k : ¬ (11 ≤ op ∧ op < 16)) : wdI op r = 0 := by
  unfold wdI
  split
  · unfold wdN
    split
    all_goals first | rfl | (exfalso; omega)
  · rfl
theorem class6 (op : Int) (h : 46 ≤ op ∧ op ≤ 56) : clR op = 6 := by
  have := cl6 op
  rw [decide_eq_true h.1, decide_eq_true h.2] at this
  simpa using this
theorem class0 (op : Int) (h : ¬ (46 ≤ op ∧ op ≤ 56)) : (clR op == 6) = false := by
  rw [cl6]
  by_cases k : 46 ≤ op
  · rw [decide_eq_true k, decide_eq_false (by omega)]; rfl
  · rw [decide_eq_false k]; rfl
theorem p_widen (op a : Int) (w : World) (hL : Laid w) : Calls Tryz.prog 81 #[.int .i64 op, .int .u32 a] w fun e w' => e = .returned (.int .u32 (wdI op a)) ∧ Below w.heap.size w w' := by
  by_cases h : 11 ≤ op ∧ op < 16
  · have : op = 11 ∨ op = 12 ∨ op = 13 ∨ op = 14 ∨ op = 15 := by omega
    rcases this with rfl | rfl | rfl | rfl | rfl
    · exact wid_by _ _ _ _ w (show widV 11 = widA.getD 11 .nilFunc from rfl) (enters_of Tryz.func145 (by kernel_rfl) rfl) (fun w => p_widening1 a w)
    · exact wid_by _ _ _ _ w (show widV 12 = widA.getD 12 .nilFunc from rfl) (enters_of Tryz.func146 (by kernel_rfl) rfl) (fun w => p_widening2 a w)
    · exact wid_by _ _ _ _ w (show widV 13 = widA.getD 13 .nilFunc from rfl) (enters_of Tryz.func147 (by kernel_rfl) rfl) (fun w => p_widening3 a w)
    · exact wid_by _ _ _ _ w (show widV 14 = widA.getD 14 .nilFunc from rfl) (enters_of Tryz.func148 (by kernel_rfl) rfl) (fun w => p_widening4 a w)
    · exact wid_by _ _ _ _ w (show widV 15 = widA.getD 15 .nilFunc from rfl) (enters_of Tryz.func149 (by kernel_rfl) rfl) (fun w => p_widening5 a w)
  · by_cases k : 46 ≤ op ∧ op ≤ 56
    · rw [wdI_6 op a k]
      exact wid_none6 op a w hL (widV_out op h) (class6 op k)
    · rw [wdI_0 op a k h]
      exact wid_none0 op a w hL (widV_out op h) (class0 op k)
theorem p_size11 (w : World) : Calls Tryz.prog 39 #[.int .i64 11] w fun e w' => e = .returned (.int .i64 (szI 11)) ∧ Below w.heap.size w w' := by
  go_enter Tryz.func39, Tryz.ntmps39
  go_wp2
  go_ret
  exact ⟨rfl, Below.refl _ _⟩
theorem p_size14 (w : World) : Calls Tryz.prog 39 #[.int .i64 14] w fun e w' => e = .returned (.int .i64 (szI 14)) ∧ Below w.heap.size w w' := by
  go_enter Tryz.func39, Tryz.ntmps39
  go_wp2
  go_ret
  exact ⟨rfl, Below.refl _ _⟩
theorem p_size16 (w : World) : Calls Tryz.prog 39 #[.int .i64 16] w fun e w' => e = .returned (.int .i64 (szI 16)) ∧ Below w.heap.size w w' := by
  go_enter Tryz.func39, Tryz.ntmps39
  go_wp2
  go_ret
  exact ⟨rfl, Below.refl _ _⟩
theorem p_size12 (w : World) : Calls Tryz.prog 39 #[.int .i64 12] w fun e w' => e = .returned (.int .i64 (szI 12)) ∧ Below w.heap.size w w' := by
  go_enter Tryz.func39, Tryz.ntmps39
  go_wp2
  go_ret
  exact ⟨rfl, Below.refl _ _⟩
theorem p_size15 (w : World) : Calls Tryz.prog 39 #[.int .i64 15] w fun e w' => e = .returned (.int .i64 (szI 15)) ∧ Below w.heap.size w w' := by
  go_enter Tryz.func39, Tryz.ntmps39
  go_wp2
  go_ret
  exact ⟨rfl, Below.refl _ _⟩
theorem p_size17 (w : World) : Calls Tryz.prog 39 #[.int .i64 17] w fun e w' => e = .returned (.int .i64 (szI 17)) ∧ Below w.heap.size w w' := by
  go_enter Tryz.func39, Tryz.ntmps39
  go_wp2
  go_ret
  exact ⟨rfl, Below.refl _ _⟩
theorem p_size13 (w : World) : Calls Tryz.prog 39 #[.int .i64 13] w fun e w' => e = .returned (.int .i64 (szI 13)) ∧ Below w.heap.size w w' := by
  go_enter Tryz.func39, Tryz.ntmps39
  go_wp2
  go_ret
  exact ⟨rfl, Below.refl _ _⟩
theorem p_size18 (w : World) : Calls Tryz.prog 39 #[.int .i64 18] w fun e w' => e = .returned (.int .i64 (szI 18)) ∧ Below w.heap.size w w' := by
  go_enter Tryz.func39, Tryz.ntmps39
  go_wp2
  go_ret
  exact ⟨rfl, Below.refl _ _⟩
set_option maxHeartbeats 1000000 in
theorem size_none6 (op : Int) (w : World) (hL : Laid w) (h : ¬ (11 ≤ op ∧ op < 19)) (hc : clR op = 6) : Calls Tryz.prog 39 #[.int .i64 op] w fun e w' => e = .returned (.int .i64 4) ∧ Below w.heap.size w w' := by
  have n11 : (op == 11) = false := by simp; omega
  have n14 : (op == 14) = false := by simp; omega
  have n16 : (op == 16) = false := by simp; omega
  have n12 : (op == 12) = false := by simp; omega
  have n15 : (op == 15) = false := by simp; omega
  have n17 : (op == 17) = false := by simp; omega
  have n13 : (op == 13) = false := by simp; omega
  have n18 : (op == 18) = false := by simp; omega
  have HL : Hid (Laid w) := hL
  clear hL h
  go_enter Tryz.func39, Tryz.ntmps39
  go_wp2_with (first
    | (go_at_call 64; refine (p_class _ _ HL.out).mono ?_; rintro e w2 ⟨rfl, hb2⟩; rw [hc]))
  go_ret
  exact ⟨rfl, hb2⟩
set_option maxHeartbeats 1000000 in
theorem size_none0 (op : Int) (w : World) (hL : Laid w) (h : ¬ (11 ≤ op ∧ op < 19)) (hc : (clR op == 6) = false) : Calls Tryz.prog 39 #[.int .i64 op] w fun e w' => e = .returned (.int .i64 0) ∧ Below w.heap.size w w' := by
  have n11 : (op == 11) = false := by simp; omega
  have n14 : (op == 14) = false := by simp; omega
  have n16 : (op == 16) = false := by simp; omega
  have n12 : (op == 12) = false := by simp; omega
  have n15 : (op == 15) = false := by simp; omega
  have n17 : (op == 17) = false := by simp; omega
  have n13 : (op == 13) = false := by simp; omega
  have n18 : (op == 18) = false := by simp; omega
  have HL : Hid (Laid w) := hL
  clear hL h
  go_enter Tryz.func39, Tryz.ntmps39
  go_wp2_with (first
    | (go_at_call 64; refine (p_class _ _ HL.out).mono ?_; rintro e w2 ⟨rfl, hb2⟩))
  go_ret
  exact ⟨rfl, hb2⟩
theorem szI_6 (op : Int) (h : 46 ≤ op ∧ op ≤ 56) : szI op = 4 := by
  have : op = 46 ∨ op = 47 ∨ op = 48 ∨ op = 49 ∨ op = 50 ∨ op = 51 ∨ op = 52 ∨ op = 53 ∨ op = 54 ∨ op = 55 ∨ op = 56 := by omega
  rcases this with rfl | rfl | rfl | rfl | rfl | rfl | rfl | rfl | rfl | rfl | rfl
  all_goals rfl
theorem szI_0 (op : Int) (h : ¬ (46 ≤ op ∧ op ≤ 56)) (k : ¬ (11 ≤ op ∧ op < 19)) : szI op = 0 := by
  unfold szI
  split
  · unfold szN
    split
    all_goals first | rfl | (exfalso; omega)
  · rfl
theorem p_size (op : Int) (w : World) (hL : Laid w) : Calls Tryz.prog 39 #[.int .i64 op] w fun e w' => e = .returned (.int .i64 (szI op)) ∧ Below w.heap.size w w' := by
  by_cases h : 11 ≤ op ∧ op < 19
  · have : op = 11 ∨ op = 12 ∨ op = 13 ∨ op = 14 ∨ op = 15 ∨ op = 16 ∨ op = 17 ∨ op = 18 := by omega
    rcases this with rfl | rfl | rfl | rfl | rfl | rfl | rfl | rfl
    · exact p_size11 w
    · exact p_size12 w
    · exact p_size13 w
    · exact p_size14 w
    · exact p_size15 w
    · exact p_size16 w
    · exact p_size17 w
    · exact p_size18 w
  · by_cases k : 46 ≤ op ∧ op ≤ 56
    · rw [szI_6 op k]
      exact size_none6 op w hL h (class6 op k)
    · rw [szI_0 op k h]
      exact size_none0 op w hL h (class0 op k)
end Go.Proofs.YtengofkjlgajlaaGreatDoor
