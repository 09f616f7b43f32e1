/-
  THE LAWS OF 'alu' THAT SPEAK OF Exec AND Taken, OUT OF WHAT THE PROGRAM's TWO FUNCTIONS ANSWER.
-/
import Derived.Test.YtcepcjodhmjghabTc
namespace Go.Proofs.Ytcepcjodhmjghab
open Go Go.RowKit
/-- what is asked of the program's functions; I: what they lean on -/
structure ExOk (I : World → Prop) : Prop where
  keep : ∀ {w w' : World}, I w → Below w.heap.size w w' → I w'
  exec : ∀ (op a b : Int) (w : World), I w → 0 ≤ a ∧ a < 4294967296 → 0 ≤ b ∧ b < 4294967296 → Calls Try.prog 6 #[.int .i64 op, .int .u32 a, .int .u32 b] w fun e w' => e = .returned (.int .u32 (exI op a b)) ∧ Below w.heap.size w w'
  taken : ∀ (op a b : Int) (w : World), I w → 0 ≤ a ∧ a < 4294967296 → 0 ≤ b ∧ b < 4294967296 → Calls Try.prog 7 #[.int .i64 op, .int .u32 a, .int .u32 b] w fun e w' => e = .returned (.bool (tkI op a b)) ∧ Below w.heap.size w w'
set_option maxHeartbeats 1000000 in
theorem aluExecs_calls {I : World → Prop} (H : ExOk I) (op a b : Int) (w : World) (hI : I w) (ha : 0 ≤ a ∧ a < 4294967296) (hb : 0 ≤ b ∧ b < 4294967296) : Calls Try.prog 3 #[.int .i64 op, .int .u32 a, .int .u32 b] w fun e w' => e = .returned (.bool true) ∧ Below w.heap.size w w' := by
  obtain ⟨x, hx⟩ : ∃ x, exI op a b = x := ⟨_, rfl⟩
  obtain ⟨t, ht⟩ : ∃ t, tkI op a b = t := ⟨_, rfl⟩
  have HB : Hid (Below w.heap.size w w ∧ I w) := ⟨Below.refl _ _, hI⟩
  clear hI
  go_enter Try.func3, Try.ntmps3
  go_wp2_with (first
    | (go_at_call 6; refine (H.exec _ _ _ _ HB.out.2 ha hb).mono ?_; rintro e w1 ⟨rfl, hb1⟩; rw [hx])
    | (go_at_call 7; refine (H.taken _ _ _ _ (H.keep HB.out.2 (by assumption)) ha hb).mono ?_; rintro e w2 ⟨rfl, hb2⟩; rw [ht])
    | (go_at_call 8; refine (exec_any _ _ _ _ ha hb).mono ?_; rintro e w3 ⟨rfl, hb3⟩; rw [hx])
    | (go_at_call 9; refine (taken_any _ _ _ _).mono ?_; rintro e w4 ⟨rfl, hb4⟩; rw [ht]))
  go_ret
  exact ⟨rfl, below2 (below2 (below2 hb1 hb2) hb3) hb4⟩
theorem w32_in (a : Int) : -2147483648 ≤ wrap32 a ∧ wrap32 a ≤ 2147483647 := by unfold wrap32; omega
/-- what is true of quotients and remainders -/
theorem div_facts (a b : Int) (ha : 0 ≤ a ∧ a < 4294967296) (hb : 0 < b ∧ b < 4294967296) : ∃ q r s t : Int, exI 43 a b = q ∧ exI 45 a b = r ∧ exI 42 a b = s ∧ exI 44 a b = t ∧ (0 ≤ q ∧ q < 4294967296) ∧ (q * b % 4294967296 + r) % 4294967296 = a ∧ (s * b % 4294967296 + t) % 4294967296 = a ∧ r < b ∧
    ¬ (wrap32 t < 0 ∧ 0 < wrap32 a) ∧ ¬ (0 < wrap32 t ∧ wrap32 a < 0) ∧ (wrap32 b < 0 → wrap32 t < - wrap32 b ∧ - wrap32 t < - wrap32 b) ∧ (0 ≤ wrap32 b → wrap32 t < wrap32 b ∧ - wrap32 t < wrap32 b) := by
  have h0 : ¬ b = 0 := by omega
  have hB0 : wrap32 b ≠ 0 := by unfold wrap32; omega
  refine ⟨a / b, a % b, (wrap32 a).tdiv (wrap32 b) % 4294967296, (wrap32 a).tmod (wrap32 b) % 4294967296, ?_, ?_, ?_, ?_, ?_, ?_, ?_, ?_, ?_⟩
  · show (if b = 0 then _ else _) = _
    rw [if_neg h0]
  · show (if b = 0 then _ else _) = _
    rw [if_neg h0]
  · show (if b = 0 then _ else _) = _
    rw [if_neg h0]
  · show (if b = 0 then _ else _) = _
    rw [if_neg h0]
  · have h1 : (0 : Int) ≤ a / b := Int.ediv_nonneg ha.1 (by omega)
    have h2 : a / b ≤ a := Int.ediv_le_self _ ha.1
    omega
  · have h := Int.ediv_mul_add_emod a b
    generalize a / b * b = z at h ⊢
    omega
  · have h := Int.tdiv_mul_add_tmod (wrap32 a) (wrap32 b)
    have e : (wrap32 a).tdiv (wrap32 b) % 4294967296 * b % 4294967296 = (wrap32 a).tdiv (wrap32 b) * wrap32 b % 4294967296 := by
      rw [Int.mul_emod, Int.emod_emod, ← w32_mod b, ← Int.mul_emod]
    rw [e]
    generalize (wrap32 a).tdiv (wrap32 b) * wrap32 b = z at h ⊢
    generalize (wrap32 a).tmod (wrap32 b) = y at h ⊢
    have := w32_mod a
    omega
  · exact Int.emod_lt_of_pos _ hb.1
  · have hn := Int.natAbs_tmod (wrap32 a) (wrap32 b)
    have hl : (wrap32 a).natAbs % (wrap32 b).natAbs < (wrap32 b).natAbs := Nat.mod_lt _ (by omega)
    have hB := w32_in b
    have hs : (0 ≤ wrap32 a → 0 ≤ (wrap32 a).tmod (wrap32 b)) ∧ (wrap32 a ≤ 0 → (wrap32 a).tmod (wrap32 b) ≤ 0) := by
      refine ⟨fun h => Int.tmod_nonneg _ h, fun h => ?_⟩
      have := Int.tmod_nonneg (wrap32 b) (a := - wrap32 a) (by omega)
      rw [Int.neg_tmod] at this
      omega
    generalize hy : (wrap32 a).tmod (wrap32 b) = y at hn hs ⊢
    have hy2 : -2147483648 ≤ y ∧ y ≤ 2147483647 := by omega
    have hw : wrap32 (y % 4294967296) = y := by unfold wrap32; omega
    rw [hw]
    clear hw hy
    refine ⟨?_, ?_, ?_, ?_⟩
    all_goals omega
set_option maxHeartbeats 1000000 in
theorem aluDivides_0 {I : World → Prop} (H : ExOk I) (a : Int) (w : World) (hI : I w) (ha : 0 ≤ a ∧ a < 4294967296) : Calls Try.prog 4 #[.int .u32 a, .int .u32 0] w fun e w' => e = .returned (.bool true) ∧ Below w.heap.size w w' := by
  have hz : (0 : Int) ≤ 0 ∧ (0 : Int) < 4294967296 := by decide
  have hm : (0 : Int) ≤ 4294967295 ∧ (4294967295 : Int) < 4294967296 := by decide
  have e1 : exI 43 a 0 = 4294967295 := rfl
  have e2 : exI 45 a 0 = a := rfl
  have e3 : exI 42 a 0 = 4294967295 := rfl
  have e4 : exI 44 a 0 = a := rfl
  have e5 : exI 38 4294967295 0 = 0 := rfl
  have HB : Hid (Below w.heap.size w w) := Below.refl _ _
  go_enter Try.func4, Try.ntmps4
  go_wp2_with (first
    | (go_at_call 6; refine (H.exec _ _ _ _ (by assumption) (by assumption) (by assumption)).mono ?_; rintro e w1 ⟨rfl, hb1⟩; have hI1 := H.keep (by assumption) hb1; have hB1 := Hid.in (below2 (Hid.out (by assumption)) hb1); clear hb1; first | rw [e1] | rw [e2] | rw [e3] | rw [e4] | rw [e5]))
  go_ret
  exact ⟨by simp, hB1.out⟩
set_option maxHeartbeats 4000000 in
theorem aluDivides_1 {I : World → Prop} (H : ExOk I) (a b : Int) (w : World) (hI : I w) (ha : 0 ≤ a ∧ a < 4294967296) (hb : 0 < b ∧ b < 4294967296) : Calls Try.prog 4 #[.int .u32 a, .int .u32 b] w fun e w' => e = .returned (.bool true) ∧ Below w.heap.size w w' := by
  obtain ⟨q, r, s, t, e1, e2, e3, e4, hq, f1, f2, f3, f4, f5, f6, f7⟩ := div_facts a b ha hb
  have hb' : 0 ≤ b ∧ b < 4294967296 := by omega
  have h0 : (b == 0) = false := by simp; omega
  have e5 : exI 38 q b = q * b % 4294967296 := rfl
  have hA := w32_in a
  have hB := w32_in b
  have hT := w32_in t
  have hB0 : wrap32 b ≠ 0 := by unfold wrap32; omega
  have HB : Hid (Below w.heap.size w w) := Below.refl _ _
  have g1 : (q * b + r) % 4294967296 = a := by generalize q * b = z at f1 ⊢; omega
  have g2 : (s * b + t) % 4294967296 = a := by generalize s * b = z at f2 ⊢; omega
  clear f1 f2
  go_enter Try.func4, Try.ntmps4
  go_wp2_with (first
    | (go_at_call 6; refine (H.exec _ _ _ _ (by assumption) (by assumption) (by assumption)).mono ?_; rintro e w1 ⟨rfl, hb1⟩; have hI1 := H.keep (by assumption) hb1; have hB1 := Hid.in (below2 (Hid.out (by assumption)) hb1); clear hb1; first | rw [e1] | rw [e2] | rw [e3] | rw [e4] | rw [e5]))
  all_goals first
    | (exfalso; exact absurd g1 (by assumption))
    | (exfalso; exact absurd g2 (by assumption))
    | (go_ret; exact ⟨by first | (simp; done) | (simp; omega), hB1.out⟩)
theorem aluDivides_calls {I : World → Prop} (H : ExOk I) (a b : Int) (w : World) (hI : I w) (ha : 0 ≤ a ∧ a < 4294967296) (hb : 0 ≤ b ∧ b < 4294967296) : Calls Try.prog 4 #[.int .u32 a, .int .u32 b] w fun e w' => e = .returned (.bool true) ∧ Below w.heap.size w w' := by
  by_cases h : b = 0
  · subst h; exact aluDivides_0 H a w hI ha
  · exact aluDivides_1 H a b w hI ha (by omega)
set_option maxHeartbeats 4000000 in
theorem aluOrders_same {I : World → Prop} (H : ExOk I) (a : Int) (w : World) (hI : I w) (ha : 0 ≤ a ∧ a < 4294967296) : Calls Try.prog 5 #[.int .u32 a, .int .u32 a] w fun e w' => e = .returned (.bool true) ∧ Below w.heap.size w w' := by
  have h1 : tkI 9 a a = false := by show decide (a < a) = false; simp
  have h3 : tkI 5 a a = true := by show (a == a) = true; simp
  have h4 : tkI 6 a a = false := by show (a != a) = false; simp
  have h5 : tkI 7 a a = false := by show decide (wrap32 a < wrap32 a) = false; simp
  have h6 : tkI 8 a a = true := by show decide (wrap32 a ≤ wrap32 a) = true; simp
  have h7 : exI 31 a a = 0 := by show bitI (decide (wrap32 a < wrap32 a)) = 0; simp [bitI]
  have h8 : exI 32 a a = 0 := by show bitI (decide (a < a)) = 0; simp [bitI]
  have HB : Hid (Below w.heap.size w w) := Below.refl _ _
  go_enter Try.func5, Try.ntmps5
  go_wp2_with (first
    | (go_at_call 6; refine (H.exec _ _ _ _ (by assumption) (by assumption) (by assumption)).mono ?_; rintro e w1 ⟨rfl, hb1⟩; have hI1 := H.keep (by assumption) hb1; have hB1 := Hid.in (below2 (Hid.out (by assumption)) hb1); clear hb1; first | rw [h7] | rw [h8])
    | (go_at_call 7; refine (H.taken _ _ _ _ (by assumption) (by assumption) (by assumption)).mono ?_; rintro e w1 ⟨rfl, hb1⟩; have hI1 := H.keep (by assumption) hb1; have hB1 := Hid.in (below2 (Hid.out (by assumption)) hb1); clear hb1; first | rw [h1] | rw [h3] | rw [h4] | rw [h5] | rw [h6]))
  go_ret
  exact ⟨rfl, hB1.out⟩
set_option maxHeartbeats 4000000 in
theorem aluOrders_calls {I : World → Prop} (H : ExOk I) (a b : Int) (w : World) (hI : I w) (ha : 0 ≤ a ∧ a < 4294967296) (hb : 0 ≤ b ∧ b < 4294967296) : Calls Try.prog 5 #[.int .u32 a, .int .u32 b] w fun e w' => e = .returned (.bool true) ∧ Below w.heap.size w w' := by
  by_cases c3 : a = b
  · subst c3; exact aluOrders_same H a w hI ha
  have h1 : tkI 9 a b = decide (a < b) := rfl
  have h2 : tkI 9 b a = decide (b < a) := rfl
  have h3 : tkI 5 a b = (a == b) := rfl
  have h4 : tkI 6 a b = (a != b) := rfl
  have h5 : tkI 7 a b = decide (wrap32 a < wrap32 b) := rfl
  have h6 : tkI 8 a b = decide (wrap32 b ≤ wrap32 a) := rfl
  have h7 : exI 31 a b = bitI (decide (wrap32 a < wrap32 b)) := rfl
  have h8 : exI 32 a b = bitI (decide (a < b)) := rfl
  have HB : Hid (Below w.heap.size w w) := Below.refl _ _
  rcases (by omega : (a < b ∧ ¬ b < a) ∨ (¬ a < b ∧ b < a)) with ⟨c1, c2⟩ | ⟨c1, c2⟩
  all_goals
    rcases (by omega : (wrap32 a < wrap32 b ∧ ¬ wrap32 b ≤ wrap32 a) ∨ (¬ wrap32 a < wrap32 b ∧ wrap32 b ≤ wrap32 a)) with ⟨d1, d2⟩ | ⟨d1, d2⟩
  all_goals
    simp only [c1, c2, d1, d2, decide_true, decide_false] at h1 h2 h5 h6 h7 h8
    simp only [bitI] at h7 h8
    have h3' : tkI 5 a b = decide (a = b) := h3
    have h4' : tkI 6 a b = !decide (a = b) := h4
    simp only [c3, decide_false] at h3' h4'
    clear h3 h4
    simp at h7 h8 h4'
    go_enter Try.func5, Try.ntmps5
    go_wp2_with (first
      | (go_at_call 6; refine (H.exec _ _ _ _ (by assumption) (by assumption) (by assumption)).mono ?_; rintro e w1 ⟨rfl, hb1⟩; have hI1 := H.keep (by assumption) hb1; have hB1 := Hid.in (below2 (Hid.out (by assumption)) hb1); clear hb1; first | rw [h7] | rw [h8])
      | (go_at_call 7; refine (H.taken _ _ _ _ (by assumption) (by assumption) (by assumption)).mono ?_; rintro e w1 ⟨rfl, hb1⟩; have hI1 := H.keep (by assumption) hb1; have hB1 := Hid.in (below2 (Hid.out (by assumption)) hb1); clear hb1; first | rw [h1] | rw [h2] | rw [h3'] | rw [h4'] | rw [h5] | rw [h6]))
    go_ret
    exact ⟨rfl, hB1.out⟩
end Go.Proofs.Ytcepcjodhmjghab
