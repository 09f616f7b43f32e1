/-
  THE PROGRAM's WRITING OF A WORD: registerFits, fits.
-/
import Derived.Test.YtcepcjodhmjghaaDoorWi
namespace Go.Proofs.YtcepcjodhmjghaaDoor
open Go Go.RowKit
def rfit (b : Bool) (r : Int) : Bool := r == 0 || (b && (decide (0 < r) && decide (r ≤ 31)))
theorem registerFits_any (b : Bool) (r : Int) (w : World) : Calls Tryd.prog 39 #[.bool b, .int .i64 r] w fun e w' => e = .returned (.bool (rfit b r)) ∧ w' = w := by
  by_cases h0 : r = 0
  · subst h0
    go_enter Tryd.func39, Tryd.ntmps39
    go_wp2
    go_ret
    exact ⟨rfl, rfl⟩
  · have h1 : (r == 0) = false := by simpa using h0
    cases b
    · go_enter Tryd.func39, Tryd.ntmps39
      go_wp2
      go_ret
      exact ⟨ret_bool (by simp [rfit, h1]), rfl⟩
    · by_cases h2 : 0 < r
      · have h3 : decide (0 < r) = true := by simpa using h2
        clear h2 h0
        go_enter Tryd.func39, Tryd.ntmps39
        go_wp2
        go_ret
        exact ⟨ret_bool (by simp [rfit, h1, h3]), rfl⟩
      · have h3 : decide (0 < r) = false := by simpa using h2
        clear h2 h0
        go_enter Tryd.func39, Tryd.ntmps39
        go_wp2
        go_ret
        exact ⟨ret_bool (by simp [rfit, h1, h3]), rfl⟩
def fitB (f : Nat) (rd rs1 rs2 imm : Int) : Bool := rfit (lyRd f) rd && (rfit (lyRs1 f) rs1 && (rfit (lyRs2 f) rs2 && (decide (lyLow f ≤ imm) && (decide (imm ≤ lyHigh f) && !(lyEven f && (imm.tmod 2 != 0))))))
set_option maxRecDepth 100000 in
set_option maxHeartbeats 2000000 in
theorem fits_any (f : Nat) (hf : f < 15) (op rd rs1 rs2 imm : Int) (w : World) (hL : Laid w) : Calls Tryd.prog 25 #[.int .i64 f, .agg #[.int .i64 op, .int .i64 rd, .int .i64 rs1, .int .i64 rs2, .int .i64 imm]] w fun e w' => e = .returned (.bool (fitB f rd rs1 rs2 imm)) ∧ Below w.heap.size w w' := by
  have c0 := hL.l0 f hf
  have c1 := hL.l1 f hf
  have c2 := hL.l2 f hf
  have c3 := hL.l3 f hf
  have c4 := hL.l4 f hf
  have c5 := hL.l5 f hf
  have c6 := hL.l6 f hf
  have c7 := hL.l7 f hf
  have c8 := hL.l8 f hf
  have z2 : 2 < w.heap.size := by have := hL.sz; omega
  clear hL
  cases e1 : rfit (lyRd f) rd
  · rw [show fitB f rd rs1 rs2 imm = false by simp [fitB, e1]]
    go_enter Tryd.func25, Tryd.ntmps25
    go_wp2_with (go_at_call 39; refine (registerFits_any _ _ _).mono ?_; rintro e w1 ⟨rfl, rfl⟩)
    go_ret
    exact ⟨rfl, ((Below.refl _ _).alloc (Nat.le_refl _) _).alloc (by simp) _⟩
  cases e2 : rfit (lyRs1 f) rs1
  · rw [show fitB f rd rs1 rs2 imm = false by simp [fitB, e2]]
    go_enter Tryd.func25, Tryd.ntmps25
    go_wp2_with (go_at_call 39; refine (registerFits_any _ _ _).mono ?_; rintro e w1 ⟨rfl, rfl⟩)
    go_ret
    exact ⟨rfl, ((Below.refl _ _).alloc (Nat.le_refl _) _).alloc (by simp) _⟩
  cases e3 : rfit (lyRs2 f) rs2
  · rw [show fitB f rd rs1 rs2 imm = false by simp [fitB, e3]]
    go_enter Tryd.func25, Tryd.ntmps25
    go_wp2_with (go_at_call 39; refine (registerFits_any _ _ _).mono ?_; rintro e w1 ⟨rfl, rfl⟩)
    go_ret
    exact ⟨rfl, ((Below.refl _ _).alloc (Nat.le_refl _) _).alloc (by simp) _⟩
  cases e4 : decide (lyLow f ≤ imm)
  · rw [show fitB f rd rs1 rs2 imm = false by simp only [fitB, e4, Bool.false_and, Bool.and_false]]
    go_enter Tryd.func25, Tryd.ntmps25
    go_wp2_with (go_at_call 39; refine (registerFits_any _ _ _).mono ?_; rintro e w1 ⟨rfl, rfl⟩)
    go_ret
    exact ⟨rfl, ((Below.refl _ _).alloc (Nat.le_refl _) _).alloc (by simp) _⟩
  cases e5 : decide (imm ≤ lyHigh f)
  · rw [show fitB f rd rs1 rs2 imm = false by simp only [fitB, e5, Bool.false_and, Bool.and_false]]
    go_enter Tryd.func25, Tryd.ntmps25
    go_wp2_with (go_at_call 39; refine (registerFits_any _ _ _).mono ?_; rintro e w1 ⟨rfl, rfl⟩)
    go_ret
    exact ⟨rfl, ((Below.refl _ _).alloc (Nat.le_refl _) _).alloc (by simp) _⟩
  cases e6 : lyEven f
  · rw [show fitB f rd rs1 rs2 imm = true by simp only [fitB, e1, e2, e3, e4, e5, e6, Bool.false_and, Bool.true_and, Bool.not_false]]
    go_enter Tryd.func25, Tryd.ntmps25
    go_wp2_with (go_at_call 39; refine (registerFits_any _ _ _).mono ?_; rintro e w1 ⟨rfl, rfl⟩)
    go_ret
    exact ⟨rfl, ((Below.refl _ _).alloc (Nat.le_refl _) _).alloc (by simp) _⟩
  · rw [show fitB f rd rs1 rs2 imm = !(imm.tmod 2 != 0) by simp only [fitB, e1, e2, e3, e4, e5, e6, Bool.true_and]]
    go_enter Tryd.func25, Tryd.ntmps25
    go_wp2_with (go_at_call 39; refine (registerFits_any _ _ _).mono ?_; rintro e w1 ⟨rfl, rfl⟩)
    go_ret
    exact ⟨rfl, ((Below.refl _ _).alloc (Nat.le_refl _) _).alloc (by simp) _⟩
end Go.Proofs.YtcepcjodhmjghaaDoor
