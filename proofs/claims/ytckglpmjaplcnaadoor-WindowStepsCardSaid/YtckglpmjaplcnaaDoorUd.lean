/-
  THE ANSWER: Able, Turn.
-/
import Derived.Test.YtckglpmjaplcnaaDoorUc
namespace Go.Proofs.YtckglpmjaplcnaaDoor
open Go Go.RowKit
theorem RWin.see {x : World} {B p h c : Nat} {v : Value} {S : WS} (k : RWin x B p h c v S) : ∃ q cap, v = .slice q S.on.length cap ∧ (S.on.length ≤ cap ∧ cap ≤ 9223372036854775807) ∧ ∀ i, i < S.on.length → ∃ g, q = some ⟨g, 0, none⟩ ∧ g < x.heap.size ∧ x.cell? ⟨g, i * 5, none⟩ = some (.int .i64 (S.on.getD i e0).num) ∧ x.cell? ⟨g, i * 5 + 1, none⟩ = some (.int .i64 (S.on.getD i e0).cls) ∧ x.cell? ⟨g, i * 5 + 2, none⟩ = some (.int .i64 (S.on.getD i e0).s1) ∧ x.cell? ⟨g, i * 5 + 3, none⟩ = some (.int .i64 (S.on.getD i e0).s2) ∧ x.cell? ⟨g, i * 5 + 4, none⟩ = some (.int .i64 (S.on.getD i e0).st) ∧ x.frozen? ⟨g, i * 5 + 4, none⟩ = false := by
  obtain ⟨q, cap, h1, h2, h3⟩ := own_ents k.l
  unfold maxLen at h2
  refine ⟨q, cap, h1, by omega, fun i hi => ?_⟩
  obtain ⟨g, a1, -, a2, a3⟩ := h3 i hi
  exact ⟨g, a1, a2, a3⟩
set_option maxRecDepth 100000 in
set_option maxHeartbeats 2000000 in
theorem rturn_good (B p h c : Nat) (v : Value) (S : WS) (num fr to' : Int) (i : Nat) (w : World) (k : RWin w B p h c v S) (hA : S.At num i) (hf : S.st i = fr) (hm : to' = 1 → S.may i = true) : Calls Tryd.prog 17 #[.pointer (some ⟨p, 0, none⟩), .int .i64 num, .int .i64 fr, .int .i64 to'] w fun e w' => e = .returned (.int .i64 0) ∧ RWin w' B p h c v (S.setSt i to') ∧ Turned (fun k => v.ownBlock = some k) w w' := by
  obtain ⟨hp, -, -, c2, -, -⟩ := k.cells
  obtain ⟨q, cap, rfl, hcap, hel⟩ := k.see
  have hi := hA.1
  obtain ⟨g, rfl, hg, d0, d1, d2, d3, d4, f4⟩ := hel i hi
  have hs := k.small.1
  obtain ⟨u1, u2⟩ := k.fit i hi
  have HMB : Hid (∃ mb, S.may i = mb ∧ (to' = 1 → mb = true)) := ⟨_, rfl, hm⟩
  obtain ⟨mb, hmb, hmb2⟩ := HMB.out
  rw [WS.may_is] at hmb
  have e4 : (S.on.getD i e0).st = fr := hf
  obtain ⟨m0, q0⟩ : ∃ y, (S.on.getD i e0).num = y := ⟨_, rfl⟩
  obtain ⟨m1, q1⟩ : ∃ y, (S.on.getD i e0).cls = y := ⟨_, rfl⟩
  obtain ⟨m2, q2⟩ : ∃ y, (S.on.getD i e0).s1 = y := ⟨_, rfl⟩
  obtain ⟨m3, q3⟩ : ∃ y, (S.on.getD i e0).s2 = y := ⟨_, rfl⟩
  have hent : S.on.getD i e0 = ⟨m0, m1, m2, m3, fr⟩ := by rw [← q0, ← q1, ← q2, ← q3, ← e4]
  rw [hent] at hmb d0 d1 d2 d3 d4 u1 u2
  dsimp only at d0 d1 d2 d3 d4 u1 u2
  have HK := Hid.in k
  have HA := Hid.in hA
  have HM := Hid.in hmb
  have HU1 := Hid.in u1
  have HU2 := Hid.in u2
  clear k hA hm hel hmb hf e4 q0 q1 q2 q3 hent HMB u1 u2
  have hi0 : ¬ ((i : Int) < 0) := by omega
  by_cases ht : to' = 1
  · have hb := hmb2 ht
    subst ht
    subst hb
    clear hmb2
    go_enter Tryd.func17, Tryd.ntmps17
    go_wp2_with (first
      | (go_at_call 37; refine (rfind_any B p h c _ S num _ HK.out).mono ?_; rintro e w1 ⟨h1, hw1⟩; have hw2 := hw1.symm; clear hw1; subst hw2; obtain rfl : e = .returned (.int .i64 i) := (by rcases h1 with ⟨j, a1, a2⟩ | ⟨a1, -⟩; exact (by rw [a2, at_inj a1 HA.out]); exact absurd HA.out (a1 i)); clear h1)
      | (go_at_call 35; refine (rable_any B p h c _ S m0 m1 m2 m3 fr _ HK.out HU1.out HU2.out).mono ?_; rintro e w2 ⟨rfl, hb2⟩; rw [HM.out]; have x2 := (hb2.cell (p := ⟨p, 2, none⟩) hp).trans c2; have x4 := (hb2.cell (p := ⟨g, i * 5 + 4, none⟩) hg).trans d4; have y4 := (hb2.frozen (p := ⟨g, i * 5 + 4, none⟩) hg).trans f4; have hp2 := Nat.lt_of_lt_of_le hp hb2.size; have hg2 := Nat.lt_of_lt_of_le hg hb2.size; have HB2 := Hid.in hb2; clear hb2))
    go_ret
    exact ⟨rfl, (HK.out.below HB2.out).setSt i hi 1, ((Turned.of_below (Q := fun k => (Value.slice (some ⟨g, 0, none⟩) S.on.length cap).ownBlock = some k) HB2.out).set (b := g) rfl _ _)⟩
  · have hu : undef = Value.tuple #[] := rfl
    have hd : decide (to' = 1) = false := by simp [ht]
    have hd2 : (to' == 1) = false := by simp [ht]
    clear hmb2
    go_enter Tryd.func17, Tryd.ntmps17
    go_wp2_with (first
      | (go_at_call 37; refine (rfind_any B p h c _ S num _ HK.out).mono ?_; rintro e w1 ⟨h1, hw1⟩; have hw2 := hw1.symm; clear hw1; subst hw2; obtain rfl : e = .returned (.int .i64 i) := (by rcases h1 with ⟨j, a1, a2⟩ | ⟨a1, -⟩; exact (by rw [a2, at_inj a1 HA.out]); exact absurd HA.out (a1 i)); clear h1)
      | (go_at_call 35; refine (rable_any B p h c _ S m0 m1 m2 m3 fr _ HK.out HU1.out HU2.out).mono ?_; rintro e w2 ⟨rfl, hb2⟩; rw [HM.out]; have x2 := (hb2.cell (p := ⟨p, 2, none⟩) hp).trans c2; have x4 := (hb2.cell (p := ⟨g, i * 5 + 4, none⟩) hg).trans d4; have y4 := (hb2.frozen (p := ⟨g, i * 5 + 4, none⟩) hg).trans f4; have hp2 := Nat.lt_of_lt_of_le hp hb2.size; have hg2 := Nat.lt_of_lt_of_le hg hb2.size; have HB2 := Hid.in hb2; clear hb2))
    go_ret
    exact ⟨rfl, (HK.out.below HB2.out).setSt i hi to', ((Turned.of_below (Q := fun k => (Value.slice (some ⟨g, 0, none⟩) S.on.length cap).ownBlock = some k) HB2.out).set (b := g) rfl _ _)⟩
set_option maxRecDepth 100000 in
set_option maxHeartbeats 2000000 in
theorem rturn_bad (B p h c : Nat) (v : Value) (S : WS) (num fr to' : Int) (w : World) (k : RWin w B p h c v S) (hA : ∀ i, S.At num i → S.st i ≠ fr ∨ (to' = 1 ∧ S.may i = false)) : Calls Tryd.prog 17 #[.pointer (some ⟨p, 0, none⟩), .int .i64 num, .int .i64 fr, .int .i64 to'] w fun e w' => e = .returned (.int .i64 7) ∧ Below w.heap.size w w' := by
  by_cases hn : ∃ i, S.At num i
  · obtain ⟨i, hAi⟩ := hn
    obtain ⟨hp, -, -, c2, -, -⟩ := k.cells
    obtain ⟨q, cap, rfl, hcap, hel⟩ := k.see
    have hi := hAi.1
    obtain ⟨g, rfl, hg, d0, d1, d2, d3, d4, f4⟩ := hel i hi
    have hs := k.small.1
    obtain ⟨u1, u2⟩ := k.fit i hi
    have hcase := hA i hAi
    rw [WS.may_is] at hcase
    unfold WS.st at hcase
    obtain ⟨y, hy⟩ : ∃ y, S.on.getD i e0 = y := ⟨_, rfl⟩
    rw [hy] at hcase d0 d1 d2 d3 d4 u1 u2
    obtain ⟨m0, m1, m2, m3, m4⟩ := y
    dsimp only at hcase d0 d1 d2 d3 d4 u1 u2
    have HK := Hid.in k
    have HA := Hid.in hAi
    have HU1 := Hid.in u1
    have HU2 := Hid.in u2
    have hi0 : ¬ ((i : Int) < 0) := by omega
    have hd0 : decide ((i : Int) < 0) = false := by simp
    clear k hA hAi hel hy u1 u2
    by_cases h4 : m4 = fr
    · subst h4
      obtain ⟨ht, hmb⟩ : to' = 1 ∧ S.mayE ⟨m0, m1, m2, m3, m4⟩ = false := by
        rcases hcase with q | q
        · exact absurd rfl q
        · exact q
      subst ht
      have HM := Hid.in hmb
      clear hmb hcase
      go_enter Tryd.func17, Tryd.ntmps17
      go_wp2_with (first
        | (go_at_call 37; refine (rfind_any B p h c _ S num _ HK.out).mono ?_; rintro e w1 ⟨h1, hw1⟩; have hw2 := hw1.symm; clear hw1; subst hw2; obtain rfl : e = .returned (.int .i64 i) := (by rcases h1 with ⟨j, a1, a2⟩ | ⟨a1, -⟩; exact (by rw [a2, at_inj a1 HA.out]); exact absurd HA.out (a1 i)); clear h1)
        | (go_at_call 35; refine (rable_any B p h c _ S m0 m1 m2 m3 m4 _ HK.out HU1.out HU2.out).mono ?_; rintro e w2 ⟨rfl, hb2⟩; rw [HM.out]; have HB2 := Hid.in hb2; clear hb2))
      go_ret
      exact ⟨rfl, HB2.out⟩
    · have hd : (m4 == fr) = false := by simp [h4]
      have hd2 : decide (m4 = fr) = false := by simp [h4]
      clear hcase
      go_enter Tryd.func17, Tryd.ntmps17
      go_wp2_with (go_at_call 37; refine (rfind_any B p h c _ S num _ HK.out).mono ?_; rintro e w1 ⟨h1, hw1⟩; have hw2 := hw1.symm; clear hw1; subst hw2; obtain rfl : e = .returned (.int .i64 i) := (by rcases h1 with ⟨j, a1, a2⟩ | ⟨a1, -⟩; exact (by rw [a2, at_inj a1 HA.out]); exact absurd HA.out (a1 i)); clear h1)
      go_ret
      exact ⟨rfl, Below.refl _ _⟩
  · have hu : undef = Value.tuple #[] := rfl
    have HN : Hid (∀ i, ¬ S.At num i) := fun i q => hn ⟨i, q⟩
    have HK := Hid.in k
    clear k hA hn
    go_enter Tryd.func17, Tryd.ntmps17
    go_wp2_with (go_at_call 37; refine (rfind_any B p h c _ S num _ HK.out).mono ?_; rintro e w1 ⟨h1, hw1⟩; have hw2 := hw1.symm; clear hw1; subst hw2; obtain rfl : e = .returned (.int .i64 (-1)) := (by rcases h1 with ⟨j, a1, a2⟩ | ⟨-, a2⟩; exact absurd a1 (HN.out j); exact a2); clear h1)
    go_ret
    exact ⟨rfl, Below.refl _ _⟩
end Go.Proofs.YtckglpmjaplcnaaDoor
