/-
  THE PROGRAM's TABLES OF FUNCTIONS.
-/
import Derived.Test.YtnlagbiikpbjdaaGreatDoorTa
import Derived.Laws.Tables
import Derived.Laws.CopyOwn
namespace Go.Proofs.YtnlagbiikpbjdaaGreatDoor
open Go Go.RowKit
theorem wp_head {P : Program} {i : Nat} {ops : Array Oper} {rest : Code} {Q : Exit → Act → World → Prop} {a a' : Act} {w w' : World} (h : runOps P ops ops.toList a w = some (a', w')) (k : rest.wp P Q a' w') : (Code.seq (.region i ops false) rest).wp P Q a w :=
  wp_seq (wp_region_list (wpList_of_runOps h k))
theorem wpList_head {P : Program} {ops : Array Oper} {Q : Exit → Act → World → Prop} : ∀ {l l2 : List Oper} {a : Act} {w : World} {a' : Act} {w' : World}, runOps P ops l a w = some (a', w') → wpList P ops Q l2 a' w' → wpList P ops Q (l ++ l2) a w
  | [], l2, a, w, a', w', h, hQ => by
    simp only [runOps, Option.some.injEq, Prod.mk.injEq] at h
    obtain ⟨rfl, rfl⟩ := h
    exact hQ
  | o :: rest, l2, a, w, a', w', h, hQ => by
    unfold runOps at h
    show wpList P ops Q (o :: (rest ++ l2)) a w
    unfold wpList
    split at h
    · rename_i hw
      rw [if_pos hw]
      refine Or.inl ?_
      unfold Oper.wp
      split at h
      · rename_i e; rw [e]; exact wpList_head h hQ
      · rename_i e; rw [e]; exact wpList_head h hQ
      · cases h
    · rename_i hw
      rw [if_neg hw]
      exact wpList_head h hQ
theorem pick2_in (b n i : Nat) (v : Value) (w : World) (hi : i < n) (hc : w.cell? ⟨b, i, none⟩ = some v) : Calls Tryz.prog 123 #[.slice (some ⟨b, 0, none⟩) n n, .int .i64 i] w fun e w' => e = .returned v ∧ w' = w := by
  go_enter Tryz.func123, Tryz.ntmps123
  go_wp2
  go_ret
  exact ⟨rfl, rfl⟩
theorem pick2_out (b n : Nat) (i : Int) (w : World) (hi : ¬ (0 ≤ i ∧ i < n)) : Calls Tryz.prog 123 #[.slice (some ⟨b, 0, none⟩) n n, .int .i64 i] w fun e w' => e = .returned .nilFunc ∧ w' = w := by
  by_cases h : 0 ≤ i
  all_goals
    go_enter Tryz.func123, Tryz.ntmps123
    go_wp2
    go_ret
    exact ⟨rfl, rfl⟩
def compA : Array Value := #[.nilFunc, .func (.func 132) #[] #[], .func (.func 133) #[] #[], .nilFunc, .nilFunc, .nilFunc, .nilFunc, .nilFunc, .nilFunc, .nilFunc, .nilFunc, .nilFunc, .nilFunc, .nilFunc, .nilFunc, .nilFunc, .nilFunc, .nilFunc, .nilFunc, .func (.func 115) #[] #[], .func (.func 134) #[] #[], .func (.func 135) #[] #[], .func (.func 116) #[] #[], .func (.func 118) #[] #[], .func (.func 117) #[] #[], .func (.func 136) #[] #[], .func (.func 137) #[] #[], .func (.func 138) #[] #[], .func (.func 115) #[] #[], .func (.func 139) #[] #[], .func (.func 136) #[] #[], .func (.func 134) #[] #[], .func (.func 135) #[] #[], .func (.func 116) #[] #[], .func (.func 137) #[] #[], .func (.func 138) #[] #[], .func (.func 118) #[] #[], .func (.func 117) #[] #[], .func (.func 140) #[] #[], .func (.func 141) #[] #[], .func (.func 142) #[] #[], .func (.func 143) #[] #[], .func (.func 144) #[] #[], .func (.func 145) #[] #[], .func (.func 146) #[] #[], .func (.func 147) #[] #[]]
def compV (op : Int) : Value := if 0 ≤ op ∧ op < 46 then compA.getD op.toNat .nilFunc else .nilFunc
theorem compA_at (i : Nat) (hi : i < 46) : compA[i]? = some (compA.getD i .nilFunc) := by
  have hs : compA.size = 46 := by kernel_rfl
  rw [Array.getD_eq_getD_getElem?, Array.getElem?_eq_getElem (by omega)]
  rfl
theorem comp_any (op : Int) (w : World) : Calls Tryz.prog 107 #[.int .i64 op] w fun e w' => e = .returned (compV op) ∧ Below w.heap.size w w' := by
  have hg : (w.alloc (.cells (Array.replicate 46 .nilFunc) 211)).heap[w.heap.size]? = some (.cells (Array.replicate 46 .nilFunc) 211 (0, 0)) := by show (w.heap.push _)[w.heap.size]? = _; simp
  have hW : ∀ i, i < 46 → ((w.alloc (.cells (Array.replicate 46 .nilFunc) 211)).setRow w.heap.size compA).cell? ⟨w.heap.size, i, none⟩ = some (compA.getD i .nilFunc) := fun i hi => (cell_setRow_same _ _ i _ _ _ _ hg).trans (compA_at i hi)
  have hb : Below w.heap.size w ((w.alloc (.cells (Array.replicate 46 .nilFunc) 211)).setRow w.heap.size compA) := below_setRow ((Below.refl _ _).alloc (Nat.le_refl _) _) (Nat.le_refl _) _
  refine calls_of_wp Tryz.func107 rfl ?_
  refine wp_head (a' := ⟨#[.int .i64 op, undef, .nilFunc, undef, undef, undef, undef, undef], []⟩) (w' := w) (by kernel_rfl) ?_
  refine wp_seq (wp_region_list ?_)
  refine wpList_head (l := [_, _]) (l2 := [_]) (a' := ⟨#[.int .i64 op, undef, .nilFunc, .pointer (some ⟨w.heap.size, 0, none⟩), .agg compA, undef, undef, undef], []⟩) (w' := w.alloc (.cells (Array.replicate 46 .nilFunc) 211)) (by kernel_rfl) ?_
  refine wpList_store_row rfl 211 _ _ rfl w.heap.size compA rfl rfl 211 _ hg (by kernel_rfl) (by kernel_rfl) (by kernel_rfl) ?_
  generalize (w.alloc (.cells (Array.replicate 46 .nilFunc) 211)).setRow w.heap.size compA = W at hW hb ⊢
  clear hg
  generalize w.heap.size = z at hW hb ⊢
  show Code.wp _ _ _ ⟨#[.int .i64 op, undef, .nilFunc, .pointer (some ⟨z, 0, none⟩), .agg compA, undef, undef, undef], []⟩ W
  by_cases h : 0 ≤ op ∧ op < 46
  · rw [compV, if_pos h]
    obtain ⟨i, rfl⟩ : ∃ i : Nat, op = i := ⟨op.toNat, by omega⟩
    have hi : i < 46 := by omega
    rw [show ((i : Int)).toNat = i from rfl]
    have hc := hW i hi
    clear hW h
    generalize compA.getD i .nilFunc = v at hc ⊢
    generalize compA = A0
    go_wp2_with (go_at_call 123; refine (pick2_in _ 46 i v _ hi hc).mono ?_; rintro e w1 ⟨rfl, rfl⟩)
    go_ret
    exact ⟨rfl, hb⟩
  · rw [compV, if_neg h]
    clear hW
    generalize compA = A0
    go_wp2_with (go_at_call 123; refine (pick2_out _ 46 op _ h).mono ?_; rintro e w1 ⟨rfl, rfl⟩)
    go_ret
    exact ⟨rfl, hb⟩
theorem pickB_in (b n i : Nat) (v : Value) (w : World) (hi : i < n) (hc : w.cell? ⟨b, i, none⟩ = some v) : Calls Tryz.prog 168 #[.slice (some ⟨b, 0, none⟩) n n, .int .i64 i] w fun e w' => e = .returned v ∧ w' = w := by
  go_enter Tryz.func168, Tryz.ntmps168
  go_wp2
  go_ret
  exact ⟨rfl, rfl⟩
theorem pickB_out (b n : Nat) (i : Int) (w : World) (hi : ¬ (0 ≤ i ∧ i < n)) : Calls Tryz.prog 168 #[.slice (some ⟨b, 0, none⟩) n n, .int .i64 i] w fun e w' => e = .returned .nilFunc ∧ w' = w := by
  by_cases h : 0 ≤ i
  all_goals
    go_enter Tryz.func168, Tryz.ntmps168
    go_wp2
    go_ret
    exact ⟨rfl, rfl⟩
def askA : Array Value := #[.nilFunc, .nilFunc, .nilFunc, .nilFunc, .nilFunc, .func (.func 163) #[] #[], .func (.func 164) #[] #[], .func (.func 159) #[] #[], .func (.func 165) #[] #[], .func (.func 166) #[] #[], .func (.func 167) #[] #[]]
def asksV (op : Int) : Value := if 0 ≤ op ∧ op < 11 then askA.getD op.toNat .nilFunc else .nilFunc
theorem askA_at (i : Nat) (hi : i < 11) : askA[i]? = some (askA.getD i .nilFunc) := by
  have hs : askA.size = 11 := by kernel_rfl
  rw [Array.getD_eq_getD_getElem?, Array.getElem?_eq_getElem (by omega)]
  rfl
theorem asks_any (op : Int) (w : World) : Calls Tryz.prog 129 #[.int .i64 op] w fun e w' => e = .returned (asksV op) ∧ Below w.heap.size w w' := by
  have hg : (w.alloc (.cells (Array.replicate 11 .nilFunc) 223)).heap[w.heap.size]? = some (.cells (Array.replicate 11 .nilFunc) 223 (0, 0)) := by show (w.heap.push _)[w.heap.size]? = _; simp
  have hW : ∀ i, i < 11 → ((w.alloc (.cells (Array.replicate 11 .nilFunc) 223)).setRow w.heap.size askA).cell? ⟨w.heap.size, i, none⟩ = some (askA.getD i .nilFunc) := fun i hi => (cell_setRow_same _ _ i _ _ _ _ hg).trans (askA_at i hi)
  have hb : Below w.heap.size w ((w.alloc (.cells (Array.replicate 11 .nilFunc) 223)).setRow w.heap.size askA) := below_setRow ((Below.refl _ _).alloc (Nat.le_refl _) _) (Nat.le_refl _) _
  refine calls_of_wp Tryz.func129 rfl ?_
  refine wp_head (a' := ⟨#[.int .i64 op, undef, .nilFunc, undef, undef, undef, undef, undef], []⟩) (w' := w) (by kernel_rfl) ?_
  refine wp_seq (wp_region_list ?_)
  refine wpList_head (l := [_, _]) (l2 := [_]) (a' := ⟨#[.int .i64 op, undef, .nilFunc, .pointer (some ⟨w.heap.size, 0, none⟩), .agg askA, undef, undef, undef], []⟩) (w' := w.alloc (.cells (Array.replicate 11 .nilFunc) 223)) (by kernel_rfl) ?_
  refine wpList_store_row rfl 223 _ _ rfl w.heap.size askA rfl rfl 223 _ hg (by kernel_rfl) (by kernel_rfl) (by kernel_rfl) ?_
  generalize (w.alloc (.cells (Array.replicate 11 .nilFunc) 223)).setRow w.heap.size askA = W at hW hb ⊢
  clear hg
  generalize w.heap.size = z at hW hb ⊢
  show Code.wp _ _ _ ⟨#[.int .i64 op, undef, .nilFunc, .pointer (some ⟨z, 0, none⟩), .agg askA, undef, undef, undef], []⟩ W
  by_cases h : 0 ≤ op ∧ op < 11
  · rw [asksV, if_pos h]
    obtain ⟨i, rfl⟩ : ∃ i : Nat, op = i := ⟨op.toNat, by omega⟩
    have hi : i < 11 := by omega
    rw [show ((i : Int)).toNat = i from rfl]
    have hc := hW i hi
    clear hW h
    generalize askA.getD i .nilFunc = v at hc ⊢
    generalize askA = A0
    go_wp2_with (go_at_call 168; refine (pickB_in _ 11 i v _ hi hc).mono ?_; rintro e w1 ⟨rfl, rfl⟩)
    go_ret
    exact ⟨rfl, hb⟩
  · rw [asksV, if_neg h]
    clear hW
    generalize askA = A0
    go_wp2_with (go_at_call 168; refine (pickB_out _ 11 op _ h).mono ?_; rintro e w1 ⟨rfl, rfl⟩)
    go_ret
    exact ⟨rfl, hb⟩
end Go.Proofs.YtnlagbiikpbjdaaGreatDoor
