/-
  THE ANSWER: Address, refused.
-/
import Derived.Test.YthbffonedpeeiaaDoorJj
namespace Go.Proofs.YthbffonedpeeiaaDoor
open Go Go.RowKit
def RS.mayP (S : RS) (r : Int) : Prop := r ≠ -1 ∧ (S.at r.toNat).pl = false ∧ (S.at r.toNat).rt = false
set_option maxRecDepth 100000 in
set_option maxHeartbeats 1000000 in
theorem raddr_state (B p : Nat) (v : Value) (S : RS) (seq r z : Int) (a : Nat) (w : World) (k : Rm w B p v S) (hr : First (S.isN seq) S.on.length r) (h : ¬ S.mayP r) : Calls Tryd.prog 11 #[.pointer (some ⟨p, 0, none⟩), .int .i64 seq, .int .i64 a, .int .i64 z] w fun e w' => e = .returned (.tuple #[.int .i64 (-1), .int .i64 7]) ∧ w' = w := by
  have HC := Hid.in (rfind_any B p v S seq w k)
  have HR := Hid.in hr
  by_cases h1 : r = -1
  · subst h1
    clear k hr h
    go_enter Tryd.func11, Tryd.ntmps11
    go_wp2_with (first | (go_at_call 42; refine HC.out.mono ?_; rintro e w2 ⟨r2, rfl, h1, rfl⟩; obtain rfl := h1.uniq HR.out; clear h1))
    refine bodyPost_ret (results_tmp2 Tryd.results11 _ _ _) rfl ?_
    exact ⟨rfl, rfl⟩
  · obtain ⟨i, hi, -, rfl⟩ := hr.some h1
    have hs := k.small.1
    have hmul : (i : Int) * 13 = ((i * 13 : Nat) : Int) := by omega
    have hneg : ¬ (i : Int) < 0 := by omega
    obtain ⟨g, cap, hv, hpg, -, -, hrow⟩ := k.rows i hi
    obtain ⟨x1, x2, -⟩ := hrow w (Below.refl _ _)
    obtain ⟨-, -, y2, -, -, -, -, -, y12⟩ := rrow_cells x2
    have h2 : (S.at i).pl = false → (S.at i).rt = true := fun e1 => by
      cases e3 : (S.at i).rt
      · exact absurd ⟨h1, by rw [Int.toNat_natCast]; exact ⟨e1, e3⟩⟩ h
      · rfl
    generalize (S.at i).pl = pb at y2 h2
    generalize (S.at i).rt = rb at y12 h2
    clear k hr h hrow x2 hv
    cases pb
    · obtain rfl := h2 rfl
      go_enter Tryd.func11, Tryd.ntmps11
      go_wp2_with (first | (go_at_call 42; refine HC.out.mono ?_; rintro e w2 ⟨r2, rfl, h1, rfl⟩; obtain rfl := h1.uniq HR.out; clear h1))
      refine bodyPost_ret (results_tmp2 Tryd.results11 _ _ _) rfl ?_
      exact ⟨rfl, rfl⟩
    · go_enter Tryd.func11, Tryd.ntmps11
      go_wp2_with (first | (go_at_call 42; refine HC.out.mono ?_; rintro e w2 ⟨r2, rfl, h1, rfl⟩; obtain rfl := h1.uniq HR.out; clear h1))
      refine bodyPost_ret (results_tmp2 Tryd.results11 _ _ _) rfl ?_
      exact ⟨rfl, rfl⟩
set_option maxRecDepth 100000 in
set_option maxHeartbeats 1000000 in
theorem raddr_range (B p : Nat) (v : Value) (S : RS) (seq z : Int) (i a : Nat) (w : World) (k : Rm w B p v S) (hr : First (S.isN seq) S.on.length i) (hi : i < S.on.length) (hpl : (S.at i).pl = false) (hrt : (S.at i).rt = false) (hm : ¬ ((z = 1 ∨ z = 2 ∨ z = 4) ∧ (a : Int) % z = 0)) : Calls Tryd.prog 11 #[.pointer (some ⟨p, 0, none⟩), .int .i64 seq, .int .i64 a, .int .i64 z] w fun e w' => e = .returned (.tuple #[.int .i64 (-1), .int .i64 3]) ∧ w' = w := by
  have HC := Hid.in (rfind_any B p v S seq w k)
  have HR := Hid.in hr
  have hs := k.small.1
  have hmul : (i : Int) * 13 = ((i * 13 : Nat) : Int) := by omega
  have hneg : ¬ (i : Int) < 0 := by omega
  have hnd : decide ((i : Int) < 0) = false := decide_eq_false hneg
  obtain ⟨g, cap, hv, hpg, -, -, hrow⟩ := k.rows i hi
  obtain ⟨x1, x2, -⟩ := hrow w (Below.refl _ _)
  obtain ⟨-, -, y2, -, -, -, -, -, y12⟩ := rrow_cells x2
  rw [hpl] at y2
  rw [hrt] at y12
  obtain ⟨ai, hai⟩ : ∃ ai : Int, (a : Int) = ai := ⟨_, rfl⟩
  have ha0 : 0 ≤ ai := by omega
  rw [hai] at hm ⊢
  clear k hr hrow x2 hv hpl hrt hai
  by_cases hz : z = 1 ∨ z = 2 ∨ z = 4
  · rcases hz with rfl | rfl | rfl
    · exact absurd ⟨by omega, by omega⟩ hm
    · have ht : ai.tmod 2 = 1 := by
        rw [Int.tmod_eq_emod_of_nonneg ha0]
        have : ¬ ai % 2 = 0 := fun e => hm ⟨by omega, e⟩
        omega
      clear hm
      go_enter Tryd.func11, Tryd.ntmps11
      go_wp2_with (first | (go_at_call 42; refine HC.out.mono ?_; rintro e w2 ⟨r2, rfl, h1, rfl⟩; obtain rfl := h1.uniq HR.out; clear h1))
      refine bodyPost_ret (results_tmp2 Tryd.results11 _ _ _) rfl ?_
      exact ⟨rfl, rfl⟩
    · have ht : ai.tmod 4 = 1 ∨ ai.tmod 4 = 2 ∨ ai.tmod 4 = 3 := by
        rw [Int.tmod_eq_emod_of_nonneg ha0]
        have : ¬ ai % 4 = 0 := fun e => hm ⟨by omega, e⟩
        omega
      clear hm
      rcases ht with ht | ht | ht
      all_goals
        go_enter Tryd.func11, Tryd.ntmps11
        go_wp2_with (first | (go_at_call 42; refine HC.out.mono ?_; rintro e w2 ⟨r2, rfl, h1, rfl⟩; obtain rfl := h1.uniq HR.out; clear h1))
        refine bodyPost_ret (results_tmp2 Tryd.results11 _ _ _) rfl ?_
        exact ⟨rfl, rfl⟩
  · have hz1 : ¬ z = 1 := by omega
    have hz2 : ¬ z = 2 := by omega
    have hz4 : ¬ z = 4 := by omega
    clear hm hz
    go_enter Tryd.func11, Tryd.ntmps11
    go_wp2_with (first | (go_at_call 42; refine HC.out.mono ?_; rintro e w2 ⟨r2, rfl, h1, rfl⟩; obtain rfl := h1.uniq HR.out; clear h1))
    refine bodyPost_ret (results_tmp2 Tryd.results11 _ _ _) rfl ?_
    exact ⟨rfl, rfl⟩
end Go.Proofs.YthbffonedpeeiaaDoor
