/-
  PREDICT: what an instruction is for the program's predictor.
-/
import Derived.Test.YtaioaakaffafoaaDoorDa
namespace Go.Proofs.YtaioaakaffafoaaDoor
open Go Go.RowKit
theorem keepB {w w2 : World} {c : Array Value} {t : TypeId} (hb : Below (w.alloc (.cells c t)).heap.size (w.alloc (.cells c t)) w2) :
    (∀ i, w2.cell? ⟨w.heap.size, i, none⟩ = c[i]?) ∧ (∀ i, w2.frozen? ⟨w.heap.size, i, none⟩ = false) ∧ w.heap.size < w2.heap.size ∧ Below w.heap.size w w2 := by
  have hs := hb.size
  simp only [World.size_alloc] at hs
  refine ⟨fun i => ?_, fun i => ?_, by omega, ((Below.refl _ _).alloc (Nat.le_refl _) _).trans (hb.mono (by simp))⟩
  · rw [hb.cell (p := ⟨w.heap.size, i, none⟩) (by simp)]
    exact World.cell?_alloc_new w c t i
  · rw [hb.frozen (p := ⟨w.heap.size, i, none⟩) (by simp)]
    exact World.frozen?_alloc_at c t _ i rfl
def brB (op : Int) : Bool := classOf (opN op) == 2
def retB (op rd rs1 : Int) : Bool := op == 4 && rs1 == 1 && rd == 0
def farB (op rd rs1 : Int) : Bool := op == 4 && !retB op rd rs1
def callB (op rd : Int) : Bool := classOf (opN op) == 3 && rd == 1
theorem isBranch_any (op rd rs1 rs2 imm : Int) (w : World) (hL : Laid w) : Calls Tryd.prog 23 #[.agg #[.int .i64 op, .int .i64 rd, .int .i64 rs1, .int .i64 rs2, .int .i64 imm]] w fun e w' => e = .returned (.bool (brB op)) ∧ Below w.heap.size w w' := by
  have HL : Hid (∀ o, Laid (w.alloc o)) := fun o => hL.alloc o
  clear hL
  go_enter Tryd.func23, Tryd.ntmps23
  go_wp2_with (go_at_call 38; refine (classOf_any op _ rfl _ (HL.out _)).mono ?_; rintro e w1 ⟨rfl, hb1⟩; obtain ⟨k1, k2, k3, k4⟩ := keepB hb1)
  go_ret
  exact ⟨rfl, k4⟩
theorem isReturn_any (op rd rs1 rs2 imm : Int) (w : World) : Calls Tryd.prog 39 #[.agg #[.int .i64 op, .int .i64 rd, .int .i64 rs1, .int .i64 rs2, .int .i64 imm]] w fun e w' => e = .returned (.bool (retB op rd rs1)) ∧ Below w.heap.size w w' := by
  unfold retB
  cases h1 : (op == 4)
  all_goals
    cases h2 : (rs1 == 1)
    all_goals
      cases h3 : (rd == 0)
      all_goals
        go_enter Tryd.func39, Tryd.ntmps39
        go_wp2
        go_ret
        exact ⟨rfl, (Below.refl _ _).alloc (Nat.le_refl _) _⟩
theorem isFar_any (op rd rs1 rs2 imm : Int) (w : World) : Calls Tryd.prog 30 #[.agg #[.int .i64 op, .int .i64 rd, .int .i64 rs1, .int .i64 rs2, .int .i64 imm]] w fun e w' => e = .returned (.bool (farB op rd rs1)) ∧ Below w.heap.size w w' := by
  unfold farB
  cases h1 : (op == 4)
  · go_enter Tryd.func30, Tryd.ntmps30
    go_wp2
    go_ret
    exact ⟨rfl, (Below.refl _ _).alloc (Nat.le_refl _) _⟩
  · generalize hr : retB op rd rs1 = r
    have HR := Hid.in hr
    clear hr
    cases r
    all_goals
      go_enter Tryd.func30, Tryd.ntmps30
      go_wp2_with (go_at_call 39; refine (isReturn_any op rd rs1 rs2 imm _).mono ?_; rintro e w1 ⟨rfl, hb1⟩; rw [HR.out]; obtain ⟨k1, k2, k3, k4⟩ := keepB hb1)
      go_ret
      exact ⟨rfl, k4⟩
theorem isCall_any (op rd rs1 rs2 imm : Int) (w : World) (hL : Laid w) : Calls Tryd.prog 40 #[.agg #[.int .i64 op, .int .i64 rd, .int .i64 rs1, .int .i64 rs2, .int .i64 imm]] w fun e w' => e = .returned (.bool (callB op rd)) ∧ Below w.heap.size w w' := by
  have HL : Hid (∀ o, Laid (w.alloc o)) := fun o => hL.alloc o
  clear hL
  unfold callB
  generalize hc : classOf (opN op) = c
  have HC := Hid.in hc
  clear hc
  cases h1 : (c == 3)
  all_goals
    cases h2 : (rd == 1)
    all_goals
      go_enter Tryd.func40, Tryd.ntmps40
      go_wp2_with (go_at_call 38; refine (classOf_any op _ rfl _ (HL.out _)).mono ?_; rintro e w1 ⟨rfl, hb1⟩; rw [HC.out]; obtain ⟨k1, k2, k3, k4⟩ := keepB hb1)
      go_ret
      exact ⟨rfl, k4⟩
theorem within_any (x a b : Int) (w : World) : Calls Tryd.prog 32 #[.int .i64 x, .int .i64 a, .int .i64 b] w fun e w' => e = .returned (.bool (decide (a ≤ x) && decide (x ≤ b))) ∧ w' = w := by
  by_cases h1 : a ≤ x
  all_goals
    by_cases h2 : x ≤ b
    all_goals
      go_enter Tryd.func32, Tryd.ntmps32
      go_wp2
      go_ret
      simp [h1, h2]
end Go.Proofs.YtaioaakaffafoaaDoor
