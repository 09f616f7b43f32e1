/-
  THE PROGRAM's Size AND Widen.
-/
import Derived.Test.YtnlagbiikpbjdaaGreatDoorQa
import Derived.Test.YtnlagbiikpbjdaaGreatDoorTd
import Derived.Test.YtnlagbiikpbjdaaGreatDoorWd
namespace Go.Proofs.YtnlagbiikpbjdaaGreatDoor
open Go Go.RowKit
theorem classOf_all : ((List.range 67).all fun i => classOf (i + 1) == classR (letAt i) (codeRAt i) (gRAt i)) = true := by kernel_rfl
theorem classOf_eq (op : Int) : classOf (opN op) = clR op := by
  unfold clR opN
  by_cases h : 1 ≤ op ∧ op ≤ 67
  · rw [if_neg (by omega), if_pos h]
    have := List.all_eq_true.1 classOf_all (op - 1).toNat (List.mem_range.2 (by omega))
    rw [beq_iff_eq] at this
    rw [← this]
    congr 1
    omega
  · rw [if_pos (by omega), if_neg h]
    rfl
theorem p_class (op : Int) (w : World) (hL : Laid w) : Calls Tryz.prog 44 #[.int .i64 op] w fun e w' => e = .returned (.int .i64 (clR op)) ∧ Below w.heap.size w w' := by
  rw [← classOf_eq]
  exact classOf_any op _ rfl w hL
theorem pick1_in (b n i : Nat) (v : Value) (w : World) (hi : i < n) (hc : w.cell? ⟨b, i, none⟩ = some v) : Calls Tryz.prog 153 #[.slice (some ⟨b, 0, none⟩) n n, .int .i64 i] w fun e w' => e = .returned v ∧ w' = w := by
  go_enter Tryz.func153, Tryz.ntmps153
  go_wp2
  go_ret
  exact ⟨rfl, rfl⟩
theorem pick1_out (b n : Nat) (i : Int) (w : World) (hi : ¬ (0 ≤ i ∧ i < n)) : Calls Tryz.prog 153 #[.slice (some ⟨b, 0, none⟩) n n, .int .i64 i] w fun e w' => e = .returned .nilFunc ∧ w' = w := by
  by_cases h : 0 ≤ i
  all_goals
    go_enter Tryz.func153, Tryz.ntmps153
    go_wp2
    go_ret
    exact ⟨rfl, rfl⟩
def widA : Array Value := #[.nilFunc, .nilFunc, .nilFunc, .nilFunc, .nilFunc, .nilFunc, .nilFunc, .nilFunc, .nilFunc, .nilFunc, .nilFunc, .func (.func 148) #[] #[], .func (.func 149) #[] #[], .func (.func 150) #[] #[], .func (.func 151) #[] #[], .func (.func 152) #[] #[]]
def widV (op : Int) : Value := if 0 ≤ op ∧ op < 16 then widA.getD op.toNat .nilFunc else .nilFunc
theorem widA_at (i : Nat) (hi : i < 16) : widA[i]? = some (widA.getD i .nilFunc) := by
  have hs : widA.size = 16 := by kernel_rfl
  rw [Array.getD_eq_getD_getElem?, Array.getElem?_eq_getElem (by omega)]
  rfl
theorem wid_any (op : Int) (w : World) : Calls Tryz.prog 108 #[.int .i64 op] w fun e w' => e = .returned (widV op) ∧ Below w.heap.size w w' := by
  have hg : (w.alloc (.cells (Array.replicate 16 .nilFunc) 213)).heap[w.heap.size]? = some (.cells (Array.replicate 16 .nilFunc) 213 (0, 0)) := by show (w.heap.push _)[w.heap.size]? = _; simp
  have hW : ∀ i, i < 16 → ((w.alloc (.cells (Array.replicate 16 .nilFunc) 213)).setRow w.heap.size widA).cell? ⟨w.heap.size, i, none⟩ = some (widA.getD i .nilFunc) := fun i hi => (cell_setRow_same _ _ i _ _ _ _ hg).trans (widA_at i hi)
  have hb : Below w.heap.size w ((w.alloc (.cells (Array.replicate 16 .nilFunc) 213)).setRow w.heap.size widA) := below_setRow ((Below.refl _ _).alloc (Nat.le_refl _) _) (Nat.le_refl _) _
  refine calls_of_wp Tryz.func108 rfl ?_
  refine wp_head (a' := ⟨#[.int .i64 op, undef, .nilFunc, undef, undef, undef, undef, undef], []⟩) (w' := w) (by kernel_rfl) ?_
  refine wp_seq (wp_region_list ?_)
  refine wpList_head (l := [_, _]) (l2 := [_]) (a' := ⟨#[.int .i64 op, undef, .nilFunc, .pointer (some ⟨w.heap.size, 0, none⟩), .agg widA, undef, undef, undef], []⟩) (w' := w.alloc (.cells (Array.replicate 16 .nilFunc) 213)) (by kernel_rfl) ?_
  refine wpList_store_row rfl 213 _ _ rfl w.heap.size widA rfl rfl 213 _ hg (by kernel_rfl) (by kernel_rfl) (by kernel_rfl) ?_
  generalize (w.alloc (.cells (Array.replicate 16 .nilFunc) 213)).setRow w.heap.size widA = W at hW hb ⊢
  clear hg
  generalize w.heap.size = z at hW hb ⊢
  show Code.wp _ _ _ ⟨#[.int .i64 op, undef, .nilFunc, .pointer (some ⟨z, 0, none⟩), .agg widA, undef, undef, undef], []⟩ W
  by_cases h : 0 ≤ op ∧ op < 16
  · rw [widV, if_pos h]
    obtain ⟨i, rfl⟩ : ∃ i : Nat, op = i := ⟨op.toNat, by omega⟩
    have hi : i < 16 := by omega
    rw [show ((i : Int)).toNat = i from rfl]
    have hc := hW i hi
    clear hW h
    generalize widA.getD i .nilFunc = v at hc ⊢
    generalize widA = A0
    go_wp2_with (go_at_call 153; refine (pick1_in _ 16 i v _ hi hc).mono ?_; rintro e w1 ⟨rfl, rfl⟩)
    go_ret
    exact ⟨rfl, hb⟩
  · rw [widV, if_neg h]
    clear hW
    generalize widA = A0
    go_wp2_with (go_at_call 153; refine (pick1_out _ 16 op _ h).mono ?_; rintro e w1 ⟨rfl, rfl⟩)
    go_ret
    exact ⟨rfl, hb⟩
theorem p_widening1 (a : Int) (w : World) : Calls Tryz.prog 148 #[.int .u32 a] w fun e w' => e = .returned (.int .u32 (((a + 128) % 256 - 128) % 4294967296)) ∧ w' = w := by
  go_enter Tryz.func148, Tryz.ntmps148
  go_wp2
  go_ret
  exact ⟨ret_int (by rw [wrap8_i]), rfl⟩
theorem p_widening2 (a : Int) (w : World) : Calls Tryz.prog 149 #[.int .u32 a] w fun e w' => e = .returned (.int .u32 (((a + 32768) % 65536 - 32768) % 4294967296)) ∧ w' = w := by
  go_enter Tryz.func149, Tryz.ntmps149
  go_wp2
  go_ret
  exact ⟨ret_int (by rw [wrap16_i]), rfl⟩
theorem p_widening3 (a : Int) (w : World) : Calls Tryz.prog 150 #[.int .u32 a] w fun e w' => e = .returned (.int .u32 (a)) ∧ w' = w := by
  go_enter Tryz.func150, Tryz.ntmps150
  go_wp2
  go_ret
  exact ⟨rfl, rfl⟩
theorem p_widening4 (a : Int) (w : World) : Calls Tryz.prog 151 #[.int .u32 a] w fun e w' => e = .returned (.int .u32 (a % 256)) ∧ w' = w := by
  go_enter Tryz.func151, Tryz.ntmps151
  go_wp2
  go_ret
  exact ⟨ret_int rfl, rfl⟩
theorem p_widening5 (a : Int) (w : World) : Calls Tryz.prog 152 #[.int .u32 a] w fun e w' => e = .returned (.int .u32 (a % 65536)) ∧ w' = w := by
  go_enter Tryz.func152, Tryz.ntmps152
  go_wp2
  go_ret
  exact ⟨ret_int (by rw [IntKind.wrap_u16]; omega), rfl⟩
theorem wid_by (op a : Int) (k : FuncId) (x : Int) (w : World) (hk : widV op = .func (.func k) #[] #[]) (he : ∀ (args : Array Value) (w : World), (callFunc k args).run Tryz.prog w = .ok (.enter k args) w) (hc : ∀ w, Calls Tryz.prog k #[.int .u32 a] w fun e w' => e = .returned (.int .u32 x) ∧ w' = w) : Calls Tryz.prog 86 #[.int .i64 op, .int .u32 a] w fun e w' => e = .returned (.int .u32 x) ∧ Below w.heap.size w w' := by
  have HC : Hid (∀ w, Calls Tryz.prog k #[.int .u32 a] w fun e w' => e = .returned (.int .u32 x) ∧ w' = w) := hc
  clear hc
  have hrun : ∀ w : World, (binOp BinOp.neq 194 (.func (.func k) #[] #[]) .nilFunc).run Tryz.prog w = .ok (.bool true) w := fun _ => by kernel_rfl
  go_enter Tryz.func86, Tryz.ntmps86
  go_wp2_with (first
    | (go_at_call 108; refine (wid_any _ _).mono ?_; rintro e w1 ⟨rfl, hb1⟩; rw [hk])
    | (go_at_fn k; refine (HC.out _).mono ?_; rintro e w2 ⟨rfl, rfl⟩))
  go_ret
  exact ⟨rfl, hb1⟩
theorem wid_none6 (op a : Int) (w : World) (hL : Laid w) (hk : widV op = .nilFunc) (hc : clR op = 6) : Calls Tryz.prog 86 #[.int .i64 op, .int .u32 a] w fun e w' => e = .returned (.int .u32 a) ∧ Below w.heap.size w w' := by
  have hrun : ∀ w : World, (binOp BinOp.neq 194 .nilFunc .nilFunc).run Tryz.prog w = .ok (.bool false) w := fun _ => by kernel_rfl
  have HL : Hid (Laid w) := hL
  clear hL
  go_enter Tryz.func86, Tryz.ntmps86
  go_wp2_with (first
    | (go_at_call 108; refine (wid_any _ _).mono ?_; rintro e w1 ⟨rfl, hb1⟩; rw [hk])
    | (go_at_call 44; refine (p_class _ _ (HL.out.below hb1)).mono ?_; rintro e w2 ⟨rfl, hb2⟩; rw [hc]))
  go_ret
  exact ⟨rfl, below2 hb1 hb2⟩
theorem wid_none0 (op a : Int) (w : World) (hL : Laid w) (hk : widV op = .nilFunc) (hc : (clR op == 6) = false) : Calls Tryz.prog 86 #[.int .i64 op, .int .u32 a] w fun e w' => e = .returned (.int .u32 0) ∧ Below w.heap.size w w' := by
  have hrun : ∀ w : World, (binOp BinOp.neq 194 .nilFunc .nilFunc).run Tryz.prog w = .ok (.bool false) w := fun _ => by kernel_rfl
  have HL : Hid (Laid w) := hL
  clear hL
  go_enter Tryz.func86, Tryz.ntmps86
  go_wp2_with (first
    | (go_at_call 108; refine (wid_any _ _).mono ?_; rintro e w1 ⟨rfl, hb1⟩; rw [hk])
    | (go_at_call 44; refine (p_class _ _ (HL.out.below hb1)).mono ?_; rintro e w2 ⟨rfl, hb2⟩))
  go_ret
  exact ⟨rfl, below2 hb1 hb2⟩
theorem widV_out (op : Int) (h : ¬ (11 ≤ op ∧ op < 16)) : widV op = .nilFunc := by
  unfold widV
  by_cases k : 0 ≤ op ∧ op < 16
  · rw [if_pos k]
    have : op.toNat < 11 := by omega
    generalize op.toNat = n at this
    match n, this with
    | 0, _ => rfl
    | 1, _ => rfl
    | 2, _ => rfl
    | 3, _ => rfl
    | 4, _ => rfl
    | 5, _ => rfl
    | 6, _ => rfl
    | 7, _ => rfl
    | 8, _ => rfl
    | 9, _ => rfl
    | 10, _ => rfl
  · rw [if_neg k]
theorem wdI_6 (op r : Int) (h : 46 ≤ op ∧ op ≤ 56) : wdI op r = r := by
  have : op = 46 ∨ op = 47 ∨ op = 48 ∨ op = 49 ∨ op = 50 ∨ op = 51 ∨ op = 52 ∨ op = 53 ∨ op = 54 ∨ op = 55 ∨ op = 56 := by omega
  rcases this with rfl | rfl | rfl | rfl | rfl | rfl | rfl | rfl | rfl | rfl | rfl
  all_goals rfl
theorem wdI_0 (op r : Int) (h : ¬ (46 ≤ op ∧ op ≤ 56)) (k : ¬ (11 ≤ op ∧ op < 16)) : wdI op r = 0 := by
  unfold wdI
  split
  · unfold wdN
    split
    all_goals first | rfl | (exfalso; omega)
  · rfl
theorem class6 (op : Int) (h : 46 ≤ op ∧ op ≤ 56) : clR op = 6 := by
  have := cl6 op
  rw [decide_eq_true h.1, decide_eq_true h.2] at this
  simpa using this
theorem class0 (op : Int) (h : ¬ (46 ≤ op ∧ op ≤ 56)) : (clR op == 6) = false := by
  rw [cl6]
  by_cases k : 46 ≤ op
  · rw [decide_eq_true k, decide_eq_false (by omega)]; rfl
  · rw [decide_eq_false k]; rfl
theorem p_widen (op a : Int) (w : World) (hL : Laid w) : Calls Tryz.prog 86 #[.int .i64 op, .int .u32 a] w fun e w' => e = .returned (.int .u32 (wdI op a)) ∧ Below w.heap.size w w' := by
  by_cases h : 11 ≤ op ∧ op < 16
  · have : op = 11 ∨ op = 12 ∨ op = 13 ∨ op = 14 ∨ op = 15 := by omega
    rcases this with rfl | rfl | rfl | rfl | rfl
    · exact wid_by _ _ _ _ w (show widV 11 = widA.getD 11 .nilFunc from rfl) (enters_of Tryz.func148 (by kernel_rfl) rfl) (fun w => p_widening1 a w)
    · exact wid_by _ _ _ _ w (show widV 12 = widA.getD 12 .nilFunc from rfl) (enters_of Tryz.func149 (by kernel_rfl) rfl) (fun w => p_widening2 a w)
    · exact wid_by _ _ _ _ w (show widV 13 = widA.getD 13 .nilFunc from rfl) (enters_of Tryz.func150 (by kernel_rfl) rfl) (fun w => p_widening3 a w)
    · exact wid_by _ _ _ _ w (show widV 14 = widA.getD 14 .nilFunc from rfl) (enters_of Tryz.func151 (by kernel_rfl) rfl) (fun w => p_widening4 a w)
    · exact wid_by _ _ _ _ w (show widV 15 = widA.getD 15 .nilFunc from rfl) (enters_of Tryz.func152 (by kernel_rfl) rfl) (fun w => p_widening5 a w)
  · by_cases k : 46 ≤ op ∧ op ≤ 56
    · rw [wdI_6 op a k]
      exact wid_none6 op a w hL (widV_out op h) (class6 op k)
    · rw [wdI_0 op a k h]
      exact wid_none0 op a w hL (widV_out op h) (class0 op k)
theorem p_size11 (w : World) : Calls Tryz.prog 49 #[.int .i64 11] w fun e w' => e = .returned (.int .i64 (szI 11)) ∧ Below w.heap.size w w' := by
  go_enter Tryz.func49, Tryz.ntmps49
  go_wp2
  go_ret
  exact ⟨rfl, Below.refl _ _⟩
theorem p_size14 (w : World) : Calls Tryz.prog 49 #[.int .i64 14] w fun e w' => e = .returned (.int .i64 (szI 14)) ∧ Below w.heap.size w w' := by
  go_enter Tryz.func49, Tryz.ntmps49
  go_wp2
  go_ret
  exact ⟨rfl, Below.refl _ _⟩
theorem p_size16 (w : World) : Calls Tryz.prog 49 #[.int .i64 16] w fun e w' => e = .returned (.int .i64 (szI 16)) ∧ Below w.heap.size w w' := by
  go_enter Tryz.func49, Tryz.ntmps49
  go_wp2
  go_ret
  exact ⟨rfl, Below.refl _ _⟩
theorem p_size12 (w : World) : Calls Tryz.prog 49 #[.int .i64 12] w fun e w' => e = .returned (.int .i64 (szI 12)) ∧ Below w.heap.size w w' := by
  go_enter Tryz.func49, Tryz.ntmps49
  go_wp2
  go_ret
  exact ⟨rfl, Below.refl _ _⟩
theorem p_size15 (w : World) : Calls Tryz.prog 49 #[.int .i64 15] w fun e w' => e = .returned (.int .i64 (szI 15)) ∧ Below w.heap.size w w' := by
  go_enter Tryz.func49, Tryz.ntmps49
  go_wp2
  go_ret
  exact ⟨rfl, Below.refl _ _⟩
theorem p_size17 (w : World) : Calls Tryz.prog 49 #[.int .i64 17] w fun e w' => e = .returned (.int .i64 (szI 17)) ∧ Below w.heap.size w w' := by
  go_enter Tryz.func49, Tryz.ntmps49
  go_wp2
  go_ret
  exact ⟨rfl, Below.refl _ _⟩
theorem p_size13 (w : World) : Calls Tryz.prog 49 #[.int .i64 13] w fun e w' => e = .returned (.int .i64 (szI 13)) ∧ Below w.heap.size w w' := by
  go_enter Tryz.func49, Tryz.ntmps49
  go_wp2
  go_ret
  exact ⟨rfl, Below.refl _ _⟩
theorem p_size18 (w : World) : Calls Tryz.prog 49 #[.int .i64 18] w fun e w' => e = .returned (.int .i64 (szI 18)) ∧ Below w.heap.size w w' := by
  go_enter Tryz.func49, Tryz.ntmps49
  go_wp2
  go_ret
  exact ⟨rfl, Below.refl _ _⟩
set_option maxHeartbeats 1000000 in
theorem size_none6 (op : Int) (w : World) (hL : Laid w) (h : ¬ (11 ≤ op ∧ op < 19)) (hc : clR op = 6) : Calls Tryz.prog 49 #[.int .i64 op] w fun e w' => e = .returned (.int .i64 4) ∧ Below w.heap.size w w' := by
  have n11 : (op == 11) = false := by simp; omega
  have n14 : (op == 14) = false := by simp; omega
  have n16 : (op == 16) = false := by simp; omega
  have n12 : (op == 12) = false := by simp; omega
  have n15 : (op == 15) = false := by simp; omega
  have n17 : (op == 17) = false := by simp; omega
  have n13 : (op == 13) = false := by simp; omega
  have n18 : (op == 18) = false := by simp; omega
  have HL : Hid (Laid w) := hL
  clear hL h
  go_enter Tryz.func49, Tryz.ntmps49
  go_wp2_with (first
    | (go_at_call 44; refine (p_class _ _ HL.out).mono ?_; rintro e w2 ⟨rfl, hb2⟩; rw [hc]))
  go_ret
  exact ⟨rfl, hb2⟩
set_option maxHeartbeats 1000000 in
theorem size_none0 (op : Int) (w : World) (hL : Laid w) (h : ¬ (11 ≤ op ∧ op < 19)) (hc : (clR op == 6) = false) : Calls Tryz.prog 49 #[.int .i64 op] w fun e w' => e = .returned (.int .i64 0) ∧ Below w.heap.size w w' := by
  have n11 : (op == 11) = false := by simp; omega
  have n14 : (op == 14) = false := by simp; omega
  have n16 : (op == 16) = false := by simp; omega
  have n12 : (op == 12) = false := by simp; omega
  have n15 : (op == 15) = false := by simp; omega
  have n17 : (op == 17) = false := by simp; omega
  have n13 : (op == 13) = false := by simp; omega
  have n18 : (op == 18) = false := by simp; omega
  have HL : Hid (Laid w) := hL
  clear hL h
  go_enter Tryz.func49, Tryz.ntmps49
  go_wp2_with (first
    | (go_at_call 44; refine (p_class _ _ HL.out).mono ?_; rintro e w2 ⟨rfl, hb2⟩))
  go_ret
  exact ⟨rfl, hb2⟩
theorem szI_6 (op : Int) (h : 46 ≤ op ∧ op ≤ 56) : szI op = 4 := by
  have : op = 46 ∨ op = 47 ∨ op = 48 ∨ op = 49 ∨ op = 50 ∨ op = 51 ∨ op = 52 ∨ op = 53 ∨ op = 54 ∨ op = 55 ∨ op = 56 := by omega
  rcases this with rfl | rfl | rfl | rfl | rfl | rfl | rfl | rfl | rfl | rfl | rfl
  all_goals rfl
theorem szI_0 (op : Int) (h : ¬ (46 ≤ op ∧ op ≤ 56)) (k : ¬ (11 ≤ op ∧ op < 19)) : szI op = 0 := by
  unfold szI
  split
  · unfold szN
    split
    all_goals first | rfl | (exfalso; omega)
  · rfl
theorem p_size (op : Int) (w : World) (hL : Laid w) : Calls Tryz.prog 49 #[.int .i64 op] w fun e w' => e = .returned (.int .i64 (szI op)) ∧ Below w.heap.size w w' := by
  by_cases h : 11 ≤ op ∧ op < 19
  · have : op = 11 ∨ op = 12 ∨ op = 13 ∨ op = 14 ∨ op = 15 ∨ op = 16 ∨ op = 17 ∨ op = 18 := by omega
    rcases this with rfl | rfl | rfl | rfl | rfl | rfl | rfl | rfl
    · exact p_size11 w
    · exact p_size12 w
    · exact p_size13 w
    · exact p_size14 w
    · exact p_size15 w
    · exact p_size16 w
    · exact p_size17 w
    · exact p_size18 w
  · by_cases k : 46 ≤ op ∧ op ≤ 56
    · rw [szI_6 op k]
      exact size_none6 op w hL h (class6 op k)
    · rw [szI_0 op k h]
      exact size_none0 op w hL h (class0 op k)
end Go.Proofs.YtnlagbiikpbjdaaGreatDoor
