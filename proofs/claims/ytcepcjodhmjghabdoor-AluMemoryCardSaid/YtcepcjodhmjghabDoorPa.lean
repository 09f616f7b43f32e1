/-
  THE PROGRAM's TABLES OF FUNCTIONS.
-/
import Derived.Test.YtcepcjodhmjghabDoorTa
import Derived.Laws.Tables
import Derived.Laws.CopyOwn
namespace Go.Proofs.YtcepcjodhmjghabDoor
open Go Go.RowKit
theorem wp_head {P : Program} {i : Nat} {ops : Array Oper} {rest : Code} {Q : Exit → Act → World → Prop} {a a' : Act} {w w' : World} (h : runOps P ops ops.toList a w = some (a', w')) (k : rest.wp P Q a' w') : (Code.seq (.region i ops false) rest).wp P Q a w :=
  wp_seq (wp_region_list (wpList_of_runOps h k))
theorem wpList_head {P : Program} {ops : Array Oper} {Q : Exit → Act → World → Prop} : ∀ {l l2 : List Oper} {a : Act} {w : World} {a' : Act} {w' : World}, runOps P ops l a w = some (a', w') → wpList P ops Q l2 a' w' → wpList P ops Q (l ++ l2) a w
  | [], l2, a, w, a', w', h, hQ => by
    simp only [runOps, Option.some.injEq, Prod.mk.injEq] at h
    obtain ⟨rfl, rfl⟩ := h
    exact hQ
  | o :: rest, l2, a, w, a', w', h, hQ => by
    unfold runOps at h
    show wpList P ops Q (o :: (rest ++ l2)) a w
    unfold wpList
    split at h
    · rename_i hw
      rw [if_pos hw]
      refine Or.inl ?_
      unfold Oper.wp
      split at h
      · rename_i e; rw [e]; exact wpList_head h hQ
      · rename_i e; rw [e]; exact wpList_head h hQ
      · cases h
    · rename_i hw
      rw [if_neg hw]
      exact wpList_head h hQ
theorem pick2_in (b n i : Nat) (v : Value) (w : World) (hi : i < n) (hc : w.cell? ⟨b, i, none⟩ = some v) : Calls Tryd.prog 33 #[.slice (some ⟨b, 0, none⟩) n n, .int .i64 i] w fun e w' => e = .returned v ∧ w' = w := by
  go_enter Tryd.func33, Tryd.ntmps33
  go_wp2
  go_ret
  exact ⟨rfl, rfl⟩
theorem pick2_out (b n : Nat) (i : Int) (w : World) (hi : ¬ (0 ≤ i ∧ i < n)) : Calls Tryd.prog 33 #[.slice (some ⟨b, 0, none⟩) n n, .int .i64 i] w fun e w' => e = .returned .nilFunc ∧ w' = w := by
  by_cases h : 0 ≤ i
  all_goals
    go_enter Tryd.func33, Tryd.ntmps33
    go_wp2
    go_ret
    exact ⟨rfl, rfl⟩
end Go.Proofs.YtcepcjodhmjghabDoor
