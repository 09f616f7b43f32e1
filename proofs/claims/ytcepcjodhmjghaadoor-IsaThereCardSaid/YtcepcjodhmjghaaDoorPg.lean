/-
  PLAIN NUMBERS: all formats at once.
-/
import Derived.Test.YtcepcjodhmjghaaDoorPf
namespace Go.Proofs.YtcepcjodhmjghaaDoor
open Go Go.RowKit
theorem fmt_pos (k : Nat) (hk : k ≤ 67) (h1 : 1 ≤ k) : fmtAt k = 1 ∨ fmtAt k = 2 ∨ fmtAt k = 3 ∨ fmtAt k = 4 ∨ fmtAt k = 5 ∨ fmtAt k = 6 ∨ fmtAt k = 7 ∨ fmtAt k = 8 ∨ fmtAt k = 9 ∨ fmtAt k = 10 ∨ fmtAt k = 11 ∨ fmtAt k = 12 ∨ fmtAt k = 13 ∨ fmtAt k = 14 := by
  have : ∀ k, k < 67 → fmtAt (k + 1) ≠ 0 := by decide
  obtain ⟨j, rfl⟩ : ∃ j, k = j + 1 := ⟨k - 1, by omega⟩
  have h2 := this j (by omega)
  have h3 := fmt_lt (j + 1)
  omega
theorem fits_regs (f : Nat) (rd rs1 rs2 imm : Int) (h : fitB f rd rs1 rs2 imm = true) : (0 ≤ rd ∧ rd ≤ 31) ∧ (0 ≤ rs1 ∧ rs1 ≤ 31) ∧ (0 ≤ rs2 ∧ rs2 ≤ 31) := by
  obtain ⟨h1, h2, h3, _⟩ := (fitB_iff f rd rs1 rs2 imm).1 h
  have e : ∀ b r, rfit b r = true → 0 ≤ r ∧ r ≤ 31 := fun b r hr => by
    cases b
    · have := (rfit_false r).1 hr; omega
    · exact (rfit_true r).1 hr
  exact ⟨e _ _ h1, e _ _ h2, e _ _ h3⟩
theorem there_all (k v x rd rs1 rs2 : Nat) (imm : Int) (hk : k ≤ 67) (h1 : 1 ≤ k) (hrd : rd < 32) (hrs1 : rs1 < 32) (hrs2 : rs2 < 32) (hv : imm % 4294967296 = (v : Int)) (hfit : fitB (fmtAt k) rd rs1 rs2 imm = true) (hx : encN k v rd rs1 rs2 = x) :
    matchB k x = true ∧ rdI (fmtAt k) x = rd ∧ rs1I (fmtAt k) x = rs1 ∧ rs2I (fmtAt k) x = rs2 ∧ immI (fmtAt k) x = imm := by
  have h := (fitB_iff _ _ _ _ _).1 hfit
  clear hfit
  rcases fmt_pos k hk h1 with hf | hf | hf | hf | hf | hf | hf | hf | hf | hf | hf | hf | hf | hf
  · rw [hf] at h
    obtain ⟨q1, q2, q3, q4, q5, q6⟩ := h
    have z_rs1 : rs1 = 0 := by have := (rfit_false _).1 q2; omega
    subst z_rs1
    have z_rs2 : rs2 = 0 := by have := (rfit_false _).1 q3; omega
    subst z_rs2
    rw [hf]
    exact there_U k v x rd imm hk h1 hf hrd hv q4 q5 hx
  · rw [hf] at h
    obtain ⟨q1, q2, q3, q4, q5, q6⟩ := h
    have z_rs1 : rs1 = 0 := by have := (rfit_false _).1 q2; omega
    subst z_rs1
    have z_rs2 : rs2 = 0 := by have := (rfit_false _).1 q3; omega
    subst z_rs2
    rw [hf]
    exact there_J k v x rd imm hk h1 hf hrd hv q4 q5 (q6 rfl) hx
  · rw [hf] at h
    obtain ⟨q1, q2, q3, q4, q5, q6⟩ := h
    have z_rs2 : rs2 = 0 := by have := (rfit_false _).1 q3; omega
    subst z_rs2
    rw [hf]
    exact there_I k v x rd rs1 imm hk h1 hf hrd hrs1 hv q4 q5 hx
  · rw [hf] at h
    obtain ⟨q1, q2, q3, q4, q5, q6⟩ := h
    have z_rs2 : rs2 = 0 := by have := (rfit_false _).1 q3; omega
    subst z_rs2
    rw [hf]
    exact there_L k v x rd rs1 imm hk h1 hf hrd hrs1 hv q4 q5 hx
  · rw [hf] at h
    obtain ⟨q1, q2, q3, q4, q5, q6⟩ := h
    have z_rd : rd = 0 := by have := (rfit_false _).1 q1; omega
    subst z_rd
    rw [hf]
    exact there_B k v x rs1 rs2 imm hk h1 hf hrs1 hrs2 hv q4 q5 (q6 rfl) hx
  · rw [hf] at h
    obtain ⟨q1, q2, q3, q4, q5, q6⟩ := h
    have z_rd : rd = 0 := by have := (rfit_false _).1 q1; omega
    subst z_rd
    rw [hf]
    exact there_S k v x rs1 rs2 imm hk h1 hf hrs1 hrs2 hv q4 q5 hx
  · rw [hf] at h
    obtain ⟨q1, q2, q3, q4, q5, q6⟩ := h
    have z_rs2 : rs2 = 0 := by have := (rfit_false _).1 q3; omega
    subst z_rs2
    rw [hf]
    exact there_H k v x rd rs1 imm hk h1 hf hrd hrs1 hv q4 q5 hx
  · rw [hf] at h
    obtain ⟨q1, q2, q3, q4, q5, q6⟩ := h
    rw [hf]
    exact there_R k v x rd rs1 rs2 imm hk h1 hf hrd hrs1 hrs2 q4 q5 hx
  · rw [hf] at h
    obtain ⟨q1, q2, q3, q4, q5, q6⟩ := h
    rw [hf]
    exact there_A k v x rd rs1 rs2 imm hk h1 hf hrd hrs1 hrs2 hv q4 q5 hx
  · rw [hf] at h
    obtain ⟨q1, q2, q3, q4, q5, q6⟩ := h
    have z_rs2 : rs2 = 0 := by have := (rfit_false _).1 q3; omega
    subst z_rs2
    rw [hf]
    exact there_K k v x rd rs1 imm hk h1 hf hrd hrs1 hv q4 q5 hx
  · rw [hf] at h
    obtain ⟨q1, q2, q3, q4, q5, q6⟩ := h
    have z_rd : rd = 0 := by have := (rfit_false _).1 q1; omega
    subst z_rd
    have z_rs1 : rs1 = 0 := by have := (rfit_false _).1 q2; omega
    subst z_rs1
    have z_rs2 : rs2 = 0 := by have := (rfit_false _).1 q3; omega
    subst z_rs2
    rw [hf]
    exact there_F k v x  imm hk h1 hf  hv q4 q5 hx
  · rw [hf] at h
    obtain ⟨q1, q2, q3, q4, q5, q6⟩ := h
    have z_rd : rd = 0 := by have := (rfit_false _).1 q1; omega
    subst z_rd
    have z_rs1 : rs1 = 0 := by have := (rfit_false _).1 q2; omega
    subst z_rs1
    have z_rs2 : rs2 = 0 := by have := (rfit_false _).1 q3; omega
    subst z_rs2
    rw [hf]
    exact there_N k v x  imm hk h1 hf  q4 q5 hx
  · rw [hf] at h
    obtain ⟨q1, q2, q3, q4, q5, q6⟩ := h
    have z_rs2 : rs2 = 0 := by have := (rfit_false _).1 q3; omega
    subst z_rs2
    rw [hf]
    exact there_C k v x rd rs1 imm hk h1 hf hrd hrs1 hv q4 q5 hx
  · rw [hf] at h
    obtain ⟨q1, q2, q3, q4, q5, q6⟩ := h
    have z_rs2 : rs2 = 0 := by have := (rfit_false _).1 q3; omega
    subst z_rs2
    rw [hf]
    exact there_D k v x rd rs1 imm hk h1 hf hrd hrs1 hv q4 q5 hx
theorem regZ_fit (b : Bool) (y : Int) : rfit b (regZ b y) = true := by
  cases b
  · exact (rfit_false _).2 rfl
  · refine (rfit_true _).2 ?_
    unfold regZ
    simp only [if_true]
    omega
theorem sgn_bd (v n m : Nat) (hm : m = 2 ^ (n - 1)) (hn : 1 ≤ n) (hv : v < 2 * m) : -(m : Int) ≤ sgn v n ∧ sgn v n ≤ (m : Int) - 1 ∧ (v % 2 = 0 → 2 ≤ n → sgn v n % 2 = 0) := by
  have e : (2 : Int) ^ n = 2 * (m : Int) := by
    rw [hm]
    obtain ⟨j, rfl⟩ : ∃ j, n = j + 1 := ⟨n - 1, by omega⟩
    simp [Int.pow_succ, Int.mul_comm]
  unfold sgn
  rw [← hm, e]
  have hp : 0 < m := by rw [hm]; exact Nat.two_pow_pos _
  by_cases hc : v < m
  · rw [Nat.div_eq_of_lt hc, if_neg (by decide)]
    omega
  · have : v / m = 1 := by
      rw [Nat.div_eq_iff hp]; omega
    rw [this, if_pos (by decide)]
    omega
theorem read_fits (f x : Nat) (hf : f < 15) : fitB f (rdI f x) (rs1I f x) (rs2I f x) (immI f x) = true := by
  rw [fitB_iff]
  refine ⟨regZ_fit _ _, regZ_fit _ _, regZ_fit _ _, ?_⟩
  have hb := bN_lts x
  revert hf
  revert f
  apply lt15
  · rw [imm_0 0 x (Or.inl rfl), show lyLow 0 = 0 from rfl, show lyHigh 0 = 0 from rfl]
    refine ⟨by omega, by omega, fun h => by cases h⟩
  · rw [imm_U x, show lyLow 1 = 0 from rfl, show lyHigh 1 = 1048575 from rfl]
    refine ⟨by omega, by omega, fun h => by cases h⟩
  · rw [imm_J x, show lyLow 2 = -1048576 from rfl, show lyHigh 2 = 1048574 from rfl]
    obtain ⟨s1, s2, s3⟩ := sgn_bd (immJ x) 21 1048576 rfl (by decide) (by unfold immJ; omega)
    have s4 := s3 (by unfold immJ; omega) (by decide)
    refine ⟨by omega, by omega, fun _ => s4⟩
  · rw [imm_I 3 x (Or.inl rfl), show lyLow 3 = -2048 from rfl, show lyHigh 3 = 2047 from rfl]
    obtain ⟨s1, s2, s3⟩ := sgn_bd (bN x 20 12) 12 2048 rfl (by decide) (by omega)
    refine ⟨by omega, by omega, fun h => by cases h⟩
  · rw [imm_I 4 x (Or.inr rfl), show lyLow 4 = -2048 from rfl, show lyHigh 4 = 2047 from rfl]
    obtain ⟨s1, s2, s3⟩ := sgn_bd (bN x 20 12) 12 2048 rfl (by decide) (by omega)
    refine ⟨by omega, by omega, fun h => by cases h⟩
  · rw [imm_B x, show lyLow 5 = -4096 from rfl, show lyHigh 5 = 4094 from rfl]
    obtain ⟨s1, s2, s3⟩ := sgn_bd (immB x) 13 4096 rfl (by decide) (by unfold immB; omega)
    have s4 := s3 (by unfold immB; omega) (by decide)
    refine ⟨by omega, by omega, fun _ => s4⟩
  · rw [imm_S x, show lyLow 6 = -2048 from rfl, show lyHigh 6 = 2047 from rfl]
    obtain ⟨s1, s2, s3⟩ := sgn_bd (immS x) 12 2048 rfl (by decide) (by unfold immS; omega)
    refine ⟨by omega, by omega, fun h => by cases h⟩
  · rw [imm_H x, show lyLow 7 = 0 from rfl, show lyHigh 7 = 31 from rfl]
    refine ⟨by omega, by omega, fun h => by cases h⟩
  · rw [imm_0 8 x (Or.inr (Or.inl rfl)), show lyLow 8 = 0 from rfl, show lyHigh 8 = 0 from rfl]
    refine ⟨by omega, by omega, fun h => by cases h⟩
  · rw [imm_A 9 x (Or.inl rfl), show lyLow 9 = 0 from rfl, show lyHigh 9 = 3 from rfl]
    refine ⟨by omega, by omega, fun h => by cases h⟩
  · rw [imm_A 10 x (Or.inr rfl), show lyLow 10 = 0 from rfl, show lyHigh 10 = 3 from rfl]
    refine ⟨by omega, by omega, fun h => by cases h⟩
  · rw [imm_F x, show lyLow 11 = 0 from rfl, show lyHigh 11 = 255 from rfl]
    refine ⟨by omega, by omega, fun h => by cases h⟩
  · rw [imm_0 12 x (Or.inr (Or.inr rfl)), show lyLow 12 = 0 from rfl, show lyHigh 12 = 0 from rfl]
    refine ⟨by omega, by omega, fun h => by cases h⟩
  · rw [imm_C 13 x (Or.inl rfl), show lyLow 13 = 0 from rfl, show lyHigh 13 = 4095 from rfl]
    refine ⟨by omega, by omega, fun h => by cases h⟩
  · rw [imm_C 14 x (Or.inr rfl), show lyLow 14 = 0 from rfl, show lyHigh 14 = 4095 from rfl]
    refine ⟨by omega, by omega, fun h => by cases h⟩
theorem back_all (k v x rd rs1 rs2 : Nat) (hk : k ≤ 67) (h1 : 1 ≤ k) (hx : x < 4294967296) (hm : matchB k x = true) (hrd : rdI (fmtAt k) x = rd) (hrs1 : rs1I (fmtAt k) x = rs1) (hrs2 : rs2I (fmtAt k) x = rs2) (hv : immI (fmtAt k) x % 4294967296 = (v : Int)) : encN k v rd rs1 rs2 = x := by
  rcases fmt_pos k hk h1 with hf | hf | hf | hf | hf | hf | hf | hf | hf | hf | hf | hf | hf | hf
  · rw [hf] at hrd hrs1 hrs2 hv
    have e0 : rd = bN x 7 5 := by
      have := (show rdI 1 x = (bN x 7 5 : Nat) from (regZ_bN x).1); rw [hrd] at this; omega
    subst e0
    have e1 : rs1 = 0 := by
      have := (show rs1I 1 x = 0 from rfl); rw [hrs1] at this; omega
    subst e1
    have e2 : rs2 = 0 := by
      have := (show rs2I 1 x = 0 from rfl); rw [hrs2] at this; omega
    subst e2
    exact back_U k v x hk h1 hf hx hm hv
  · rw [hf] at hrd hrs1 hrs2 hv
    have e0 : rd = bN x 7 5 := by
      have := (show rdI 2 x = (bN x 7 5 : Nat) from (regZ_bN x).1); rw [hrd] at this; omega
    subst e0
    have e1 : rs1 = 0 := by
      have := (show rs1I 2 x = 0 from rfl); rw [hrs1] at this; omega
    subst e1
    have e2 : rs2 = 0 := by
      have := (show rs2I 2 x = 0 from rfl); rw [hrs2] at this; omega
    subst e2
    exact back_J k v x hk h1 hf hx hm hv
  · rw [hf] at hrd hrs1 hrs2 hv
    have e0 : rd = bN x 7 5 := by
      have := (show rdI 3 x = (bN x 7 5 : Nat) from (regZ_bN x).1); rw [hrd] at this; omega
    subst e0
    have e1 : rs1 = bN x 15 5 := by
      have := (show rs1I 3 x = (bN x 15 5 : Nat) from (regZ_bN x).2.1); rw [hrs1] at this; omega
    subst e1
    have e2 : rs2 = 0 := by
      have := (show rs2I 3 x = 0 from rfl); rw [hrs2] at this; omega
    subst e2
    exact back_I k v x hk h1 hf hx hm hv
  · rw [hf] at hrd hrs1 hrs2 hv
    have e0 : rd = bN x 7 5 := by
      have := (show rdI 4 x = (bN x 7 5 : Nat) from (regZ_bN x).1); rw [hrd] at this; omega
    subst e0
    have e1 : rs1 = bN x 15 5 := by
      have := (show rs1I 4 x = (bN x 15 5 : Nat) from (regZ_bN x).2.1); rw [hrs1] at this; omega
    subst e1
    have e2 : rs2 = 0 := by
      have := (show rs2I 4 x = 0 from rfl); rw [hrs2] at this; omega
    subst e2
    exact back_L k v x hk h1 hf hx hm hv
  · rw [hf] at hrd hrs1 hrs2 hv
    have e0 : rd = 0 := by
      have := (show rdI 5 x = 0 from rfl); rw [hrd] at this; omega
    subst e0
    have e1 : rs1 = bN x 15 5 := by
      have := (show rs1I 5 x = (bN x 15 5 : Nat) from (regZ_bN x).2.1); rw [hrs1] at this; omega
    subst e1
    have e2 : rs2 = bN x 20 5 := by
      have := (show rs2I 5 x = (bN x 20 5 : Nat) from (regZ_bN x).2.2); rw [hrs2] at this; omega
    subst e2
    exact back_B k v x hk h1 hf hx hm hv
  · rw [hf] at hrd hrs1 hrs2 hv
    have e0 : rd = 0 := by
      have := (show rdI 6 x = 0 from rfl); rw [hrd] at this; omega
    subst e0
    have e1 : rs1 = bN x 15 5 := by
      have := (show rs1I 6 x = (bN x 15 5 : Nat) from (regZ_bN x).2.1); rw [hrs1] at this; omega
    subst e1
    have e2 : rs2 = bN x 20 5 := by
      have := (show rs2I 6 x = (bN x 20 5 : Nat) from (regZ_bN x).2.2); rw [hrs2] at this; omega
    subst e2
    exact back_S k v x hk h1 hf hx hm hv
  · rw [hf] at hrd hrs1 hrs2 hv
    have e0 : rd = bN x 7 5 := by
      have := (show rdI 7 x = (bN x 7 5 : Nat) from (regZ_bN x).1); rw [hrd] at this; omega
    subst e0
    have e1 : rs1 = bN x 15 5 := by
      have := (show rs1I 7 x = (bN x 15 5 : Nat) from (regZ_bN x).2.1); rw [hrs1] at this; omega
    subst e1
    have e2 : rs2 = 0 := by
      have := (show rs2I 7 x = 0 from rfl); rw [hrs2] at this; omega
    subst e2
    exact back_H k v x hk h1 hf hx hm hv
  · rw [hf] at hrd hrs1 hrs2 hv
    have e0 : rd = bN x 7 5 := by
      have := (show rdI 8 x = (bN x 7 5 : Nat) from (regZ_bN x).1); rw [hrd] at this; omega
    subst e0
    have e1 : rs1 = bN x 15 5 := by
      have := (show rs1I 8 x = (bN x 15 5 : Nat) from (regZ_bN x).2.1); rw [hrs1] at this; omega
    subst e1
    have e2 : rs2 = bN x 20 5 := by
      have := (show rs2I 8 x = (bN x 20 5 : Nat) from (regZ_bN x).2.2); rw [hrs2] at this; omega
    subst e2
    exact back_R k v x hk h1 hf hx hm
  · rw [hf] at hrd hrs1 hrs2 hv
    have e0 : rd = bN x 7 5 := by
      have := (show rdI 9 x = (bN x 7 5 : Nat) from (regZ_bN x).1); rw [hrd] at this; omega
    subst e0
    have e1 : rs1 = bN x 15 5 := by
      have := (show rs1I 9 x = (bN x 15 5 : Nat) from (regZ_bN x).2.1); rw [hrs1] at this; omega
    subst e1
    have e2 : rs2 = bN x 20 5 := by
      have := (show rs2I 9 x = (bN x 20 5 : Nat) from (regZ_bN x).2.2); rw [hrs2] at this; omega
    subst e2
    exact back_A k v x hk h1 hf hx hm hv
  · rw [hf] at hrd hrs1 hrs2 hv
    have e0 : rd = bN x 7 5 := by
      have := (show rdI 10 x = (bN x 7 5 : Nat) from (regZ_bN x).1); rw [hrd] at this; omega
    subst e0
    have e1 : rs1 = bN x 15 5 := by
      have := (show rs1I 10 x = (bN x 15 5 : Nat) from (regZ_bN x).2.1); rw [hrs1] at this; omega
    subst e1
    have e2 : rs2 = 0 := by
      have := (show rs2I 10 x = 0 from rfl); rw [hrs2] at this; omega
    subst e2
    exact back_K k v x hk h1 hf hx hm hv
  · rw [hf] at hrd hrs1 hrs2 hv
    have e0 : rd = 0 := by
      have := (show rdI 11 x = 0 from rfl); rw [hrd] at this; omega
    subst e0
    have e1 : rs1 = 0 := by
      have := (show rs1I 11 x = 0 from rfl); rw [hrs1] at this; omega
    subst e1
    have e2 : rs2 = 0 := by
      have := (show rs2I 11 x = 0 from rfl); rw [hrs2] at this; omega
    subst e2
    exact back_F k v x hk h1 hf hx hm hv
  · rw [hf] at hrd hrs1 hrs2 hv
    have e0 : rd = 0 := by
      have := (show rdI 12 x = 0 from rfl); rw [hrd] at this; omega
    subst e0
    have e1 : rs1 = 0 := by
      have := (show rs1I 12 x = 0 from rfl); rw [hrs1] at this; omega
    subst e1
    have e2 : rs2 = 0 := by
      have := (show rs2I 12 x = 0 from rfl); rw [hrs2] at this; omega
    subst e2
    exact back_N k v x hk h1 hf hx hm
  · rw [hf] at hrd hrs1 hrs2 hv
    have e0 : rd = bN x 7 5 := by
      have := (show rdI 13 x = (bN x 7 5 : Nat) from (regZ_bN x).1); rw [hrd] at this; omega
    subst e0
    have e1 : rs1 = bN x 15 5 := by
      have := (show rs1I 13 x = (bN x 15 5 : Nat) from (regZ_bN x).2.1); rw [hrs1] at this; omega
    subst e1
    have e2 : rs2 = 0 := by
      have := (show rs2I 13 x = 0 from rfl); rw [hrs2] at this; omega
    subst e2
    exact back_C k v x hk h1 hf hx hm hv
  · rw [hf] at hrd hrs1 hrs2 hv
    have e0 : rd = bN x 7 5 := by
      have := (show rdI 14 x = (bN x 7 5 : Nat) from (regZ_bN x).1); rw [hrd] at this; omega
    subst e0
    have e1 : rs1 = bN x 15 5 := by
      have := (show rs1I 14 x = (bN x 15 5 : Nat) from (regZ_bN x).2.1); rw [hrs1] at this; omega
    subst e1
    have e2 : rs2 = 0 := by
      have := (show rs2I 14 x = 0 from rfl); rw [hrs2] at this; omega
    subst e2
    exact back_D k v x hk h1 hf hx hm hv
end Go.Proofs.YtcepcjodhmjghaaDoor
