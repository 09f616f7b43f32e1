/-
  THE ANSWER's CACHE: find, State, aligned, out.
-/
import Derived.Test.YtljmmepjknfmcaaDoorBa
namespace Go.Proofs.YtljmmepjknfmcaaDoor
open Go Go.RowKit
set_option maxRecDepth 100000 in
set_option maxHeartbeats 1000000 in
theorem rfind_any (B p : Nat) (v : Value) (n ways : Nat) (R : List Ln) (a : Nat) (w : World) (k : RC w B p v n ways R) (ha : a < 4294967296) : Calls Tryd.prog 23 #[.pointer (some ⟨p, 0, none⟩), .int .i64 a] w fun e w' => ((∃ i, At R a i ∧ e = .returned (.int .i64 i)) ∨ No R a ∧ e = .returned (.int .i64 (-1))) ∧ w' = w := by
  obtain ⟨hp, -, -, c2, -⟩ := k.cells
  obtain ⟨q, cap, hv, hcap, hel⟩ := own_rlines k.l
  have h64 := k.small.1
  obtain ⟨m, hm⟩ : ∃ m, R.length = m := ⟨_, rfl⟩
  rw [hm] at hv h64
  rw [hv] at c2
  have HE := Hid.in hel
  have HM := Hid.in hm
  clear hel k hcap hm hv
  go_enter Tryd.func23, Tryd.ntmps23
  go_wp2
  go_loopw [5] (fun u wr => ∃ i : Nat, u = .int .i64 i ∧ i ≤ m ∧ (∀ j, j < i → (R.getD j l0).a ≠ lineOf a) ∧ w = wr) (fun v _ => 65 - (intOf v).toNat)
  case atStart => exact ⟨0, rfl, by omega, fun j hj => by omega, rfl⟩
  case round =>
    obtain ⟨i, rfl, hi, hno, rfl⟩ := hrel
    have HN := Hid.in hno
    clear hno
    by_cases him : i < m
    · obtain ⟨g, rfl, -, hg, -, -, d0, -, -⟩ := HE.out i (by rw [HM.out]; exact him)
      obtain ⟨x, hx⟩ : ∃ x, (R.getD i l0).a = x := ⟨_, rfl⟩
      have HX := Hid.in hx
      rw [hx] at d0
      have hmod : (a : Int).tmod 16 = ((a % 16 : Nat) : Int) := by rw [Int.tmod_eq_emod_of_nonneg (by omega)]; omega
      have hmod2 : (a : Int) % 16 = ((a % 16 : Nat) : Int) := by omega
      obtain ⟨y, hy⟩ : ∃ y, lineOf a = y := ⟨_, rfl⟩
      have hsub : (a : Int) - ((a % 16 : Nat) : Int) = (y : Nat) := by rw [← hy]; unfold lineOf; omega
      obtain ⟨a16, ha16⟩ : ∃ a16, a % 16 = a16 := ⟨_, rfl⟩
      rw [ha16] at hsub hmod hmod2
      have HY := Hid.in hy
      have hle : y ≤ a := by rw [← hy]; unfold lineOf; omega
      clear hx hy ha16
      by_cases he : x = y
      · subst he
        go_wp2
        go_ret
        exact ⟨Or.inl ⟨i, ⟨by rw [HM.out]; exact him, by rw [HX.out, HY.out], HN.out⟩, rfl⟩, rfl⟩
      · have he2 : ¬ (x : Int) = y := by omega
        go_wp2
        go_roundw
        case rel =>
          refine ⟨i + 1, by simp, by omega, fun j hj => ?_, trivial⟩
          rcases Nat.lt_or_ge j i with q | q
          · exact HN.out j q
          · obtain rfl : j = i := by omega
            rw [HX.out, HY.out]
            exact he
        case measure => simp [intOf]; omega
    · have hme : i = m := by omega
      have HMI := Hid.in hme
      clear hme
      go_wp2
      go_ret
      refine ⟨Or.inr ⟨fun j hj => HN.out j (by rw [HMI.out, ← HM.out]; exact hj), rfl⟩, rfl⟩
theorem rfind_at (B p : Nat) (v : Value) (n ways : Nat) (R : List Ln) (a i : Nat) (w : World) (k : RC w B p v n ways R) (ha : a < 4294967296) (hA : At R a i) : Calls Tryd.prog 23 #[.pointer (some ⟨p, 0, none⟩), .int .i64 a] w fun e w' => e = .returned (.int .i64 i) ∧ w' = w := by
  refine (rfind_any B p v n ways R a w k ha).mono ?_
  rintro e w2 ⟨⟨j, hj, rfl⟩ | ⟨hj, rfl⟩, rfl⟩
  · rw [at_inj hA hj]
    exact ⟨rfl, rfl⟩
  · exact absurd hA.2.1 (hj i hA.1)
theorem rfind_no (B p : Nat) (v : Value) (n ways : Nat) (R : List Ln) (a : Nat) (w : World) (k : RC w B p v n ways R) (ha : a < 4294967296) (hA : No R a) : Calls Tryd.prog 23 #[.pointer (some ⟨p, 0, none⟩), .int .i64 a] w fun e w' => e = .returned (.int .i64 (-1)) ∧ w' = w := by
  refine (rfind_any B p v n ways R a w k ha).mono ?_
  rintro e w2 ⟨⟨j, hj, rfl⟩ | ⟨hj, rfl⟩, rfl⟩
  · exact absurd hj.2.1 (hA j hj.1)
  · exact ⟨rfl, rfl⟩
set_option maxRecDepth 100000 in
set_option maxHeartbeats 1000000 in
theorem raligned_any (a : Nat) (z : Int) (w : World) (ha : a < 4294967296) : Calls Tryd.prog 28 #[.int .i64 a, .int .i64 z] w fun e w' => e = .returned (.bool (fits a z)) ∧ w' = w := by
  have hu : undef = Value.tuple #[] := rfl
  have m1 : (a : Int).tmod 1 = 0 := by rw [Int.tmod_eq_emod_of_nonneg (by omega)]; omega
  have m2 : (a : Int).tmod 2 = ((a % 2 : Nat) : Int) := by rw [Int.tmod_eq_emod_of_nonneg (by omega)]; omega
  have m4 : (a : Int).tmod 4 = ((a % 4 : Nat) : Int) := by rw [Int.tmod_eq_emod_of_nonneg (by omega)]; omega
  by_cases h1 : z = 1
  · subst h1
    have e1 : fits a 1 = true := rfl
    rw [e1]
    go_enter Tryd.func28, Tryd.ntmps28
    go_wp2
    go_ret
    exact ⟨by simp, rfl⟩
  · by_cases h2 : z = 2
    · subst h2
      have e1 : fits a 2 = decide (a % 2 = 0) := by simp [fits]
      rw [e1]
      go_enter Tryd.func28, Tryd.ntmps28
      go_wp2
      go_ret
      refine ⟨?_, rfl⟩
      by_cases q : a % 2 = 0
      · have : (a : Int) % 2 = 0 := by omega
        simp [q, this]
      · have : ¬ (a : Int) % 2 = 0 := by omega
        simp [q, this]
    · by_cases h4 : z = 4
      · subst h4
        have e1 : fits a 4 = decide (a % 4 = 0) := by simp [fits]
        rw [e1]
        go_enter Tryd.func28, Tryd.ntmps28
        go_wp2
        go_ret
        refine ⟨?_, rfl⟩
        by_cases q : a % 4 = 0
        · have : (a : Int) % 4 = 0 := by omega
          simp [q, this]
        · have : ¬ (a : Int) % 4 = 0 := by omega
          simp [q, this]
      · have e1 : fits a z = false := by simp [fits, h1, h2, h4]
        rw [e1]
        have d1 : (z == 1) = false := by simp [h1]
        have d2 : (z == 2) = false := by simp [h2]
        have d4 : (z == 4) = false := by simp [h4]
        go_enter Tryd.func28, Tryd.ntmps28
        go_wp2
        go_ret
        exact ⟨rfl, rfl⟩
set_option maxRecDepth 100000 in
set_option maxHeartbeats 1000000 in
theorem rstate_at (B p : Nat) (v : Value) (n ways : Nat) (R : List Ln) (a i : Nat) (w : World) (k : RC w B p v n ways R) (ha : a < 4294967296) (hA : At R a i) : Calls Tryd.prog 8 #[.pointer (some ⟨p, 0, none⟩), .int .i64 a] w fun e w' => e = .returned (.int .i64 ((R.getD i l0).s : Nat)) ∧ w' = w := by
  obtain ⟨hp, -, -, c2, -⟩ := k.cells
  obtain ⟨q, cap, hv, hcap, hel⟩ := own_rlines k.l
  obtain ⟨g, rfl, -, hg, -, -, -, d1, -⟩ := hel i hA.1
  have hil := hA.1
  have h64 := k.small.1
  obtain ⟨m, hm⟩ : ∃ m, R.length = m := ⟨_, rfl⟩
  rw [hm] at hv hil h64
  rw [hv] at c2
  obtain ⟨s, hs⟩ : ∃ s, (R.getD i l0).s = s := ⟨_, rfl⟩
  rw [hs] at d1 ⊢
  have HK := Hid.in k
  have HA := Hid.in hA
  clear hel hcap hv hm hs k hA
  go_enter Tryd.func8, Tryd.ntmps8
  go_wp2_with (go_at_call 23; refine (rfind_at B p v n ways R a i _ HK.out ha HA.out).mono ?_; rintro e w1 ⟨rfl, hww⟩; rw [hww]; clear hww)
  go_ret
  exact ⟨rfl, rfl⟩
set_option maxRecDepth 100000 in
set_option maxHeartbeats 1000000 in
theorem rstate_no (B p : Nat) (v : Value) (n ways : Nat) (R : List Ln) (a : Nat) (w : World) (k : RC w B p v n ways R) (ha : a < 4294967296) (hA : No R a) : Calls Tryd.prog 8 #[.pointer (some ⟨p, 0, none⟩), .int .i64 a] w fun e w' => e = .returned (.int .i64 0) ∧ w' = w := by
  have HK := Hid.in k
  have HA := Hid.in hA
  clear k hA
  go_enter Tryd.func8, Tryd.ntmps8
  go_wp2_with (go_at_call 23; refine (rfind_no B p v n ways R a _ HK.out ha HA.out).mono ?_; rintro e w1 ⟨rfl, hww⟩; rw [hww]; clear hww)
  go_ret
  exact ⟨rfl, rfl⟩
end Go.Proofs.YtljmmepjknfmcaaDoor
