/-
  PLAIN NUMBERS: what the program's pieces come to, format by format.
-/
import Derived.Test.YtnlagbiikpbjdaaGreatDoorWi
import Derived.Test.YtnlagbiikpbjdaaGreatDoorRa
namespace Go.Proofs.YtnlagbiikpbjdaaGreatDoor
open Go Go.RowKit
theorem stepN_bN (x a pw pi len : Nat) : stepN x a pw pi len = a ||| (bN x pw len * 2 ^ pi % 4294967296) := by
  unfold stepN bN
  rw [Nat.and_two_pow_sub_one_eq_mod]
theorem bN_zero (x a : Nat) : bN x a 0 = 0 := by unfold bN; exact Nat.mod_one _
theorem or_hi (i a b : Nat) (hb : b < 2 ^ i) : (a * 2 ^ i) ||| b = a * 2 ^ i + b := nat_join i _ _ (Nat.mul_mod_left _ _) hb
theorem or_lo (i a b : Nat) (hb : b < 2 ^ i) : b ||| (a * 2 ^ i) = b + a * 2 ^ i := by rw [Nat.or_comm, or_hi i a b hb, Nat.add_comm]
def immJ (x : Nat) : Nat := bN x 21 10 * 2 + bN x 20 1 * 2048 + bN x 12 8 * 4096 + bN x 31 1 * 1048576
def immB (x : Nat) : Nat := bN x 8 4 * 2 + bN x 25 6 * 32 + bN x 7 1 * 2048 + bN x 31 1 * 4096
def immS (x : Nat) : Nat := bN x 7 5 + bN x 25 7 * 32
theorem bN_lts (x : Nat) : bN x 21 10 < 1024 ∧ bN x 20 1 < 2 ∧ bN x 12 8 < 256 ∧ bN x 31 1 < 2 ∧ bN x 8 4 < 16 ∧ bN x 25 6 < 64 ∧ bN x 7 1 < 2 ∧ bN x 7 5 < 32 ∧ bN x 25 7 < 128 ∧ bN x 12 20 < 1048576 ∧ bN x 20 12 < 4096 ∧ bN x 20 5 < 32 ∧ bN x 25 2 < 4 ∧ bN x 20 8 < 256 ∧ bN x 15 5 < 32 :=
  ⟨bN_lt .., bN_lt .., bN_lt .., bN_lt .., bN_lt .., bN_lt .., bN_lt .., bN_lt .., bN_lt .., bN_lt .., bN_lt .., bN_lt .., bN_lt .., bN_lt .., bN_lt ..⟩
theorem acc1 (f x pw pi len : Nat) (h0 : pc f 0 = pw) (h1 : pc f 1 = pi) (h2 : pc f 2 = len) (h3 : pc f 5 = 0) (h4 : pc f 8 = 0) (h5 : pc f 11 = 0) (hb : bN x pw len * 2 ^ pi < 4294967296) : accN f x 4 = bN x pw len * 2 ^ pi := by
  show stepN x (stepN x (stepN x (stepN x 0 (pc f 0) (pc f 1) (pc f 2)) (pc f 3) (pc f 4) (pc f 5)) (pc f 6) (pc f 7) (pc f 8)) (pc f 9) (pc f 10) (pc f 11) = _
  rw [h0, h1, h2, h3, h4, h5]
  simp only [stepN_bN, bN_zero, Nat.zero_mul, Nat.zero_mod, Nat.or_zero, Nat.zero_or]
  exact Nat.mod_eq_of_lt hb
theorem acc_U (x : Nat) : accN 1 x 4 = bN x 12 20 := by
  have := bN_lts x
  rw [acc1 1 x 12 0 20 rfl rfl rfl rfl rfl rfl (by omega)]; omega
theorem acc_I (f x : Nat) (hf : f = 3 ∨ f = 4 ∨ f = 13 ∨ f = 14) : accN f x 4 = bN x 20 12 := by
  have := bN_lts x
  rcases hf with rfl | rfl | rfl | rfl
  · rw [acc1 3 x 20 0 12 rfl rfl rfl rfl rfl rfl (by omega)]; omega
  · rw [acc1 4 x 20 0 12 rfl rfl rfl rfl rfl rfl (by omega)]; omega
  · rw [acc1 13 x 20 0 12 rfl rfl rfl rfl rfl rfl (by omega)]; omega
  · rw [acc1 14 x 20 0 12 rfl rfl rfl rfl rfl rfl (by omega)]; omega
theorem acc_H (x : Nat) : accN 7 x 4 = bN x 20 5 := by
  have := bN_lts x
  rw [acc1 7 x 20 0 5 rfl rfl rfl rfl rfl rfl (by omega)]; omega
theorem acc_A (f x : Nat) (hf : f = 9 ∨ f = 10) : accN f x 4 = bN x 25 2 := by
  have := bN_lts x
  rcases hf with rfl | rfl
  · rw [acc1 9 x 25 0 2 rfl rfl rfl rfl rfl rfl (by omega)]; omega
  · rw [acc1 10 x 25 0 2 rfl rfl rfl rfl rfl rfl (by omega)]; omega
theorem acc_F (x : Nat) : accN 11 x 4 = bN x 20 8 := by
  have := bN_lts x
  rw [acc1 11 x 20 0 8 rfl rfl rfl rfl rfl rfl (by omega)]; omega
theorem acc_0 (f x : Nat) (hf : f = 0 ∨ f = 8 ∨ f = 12) : accN f x 4 = 0 := by
  rcases hf with rfl | rfl | rfl
  · rw [acc1 0 x 0 0 0 rfl rfl rfl rfl rfl rfl (by rw [bN_zero]; decide), bN_zero]
  · rw [acc1 8 x 0 0 0 rfl rfl rfl rfl rfl rfl (by rw [bN_zero]; decide), bN_zero]
  · rw [acc1 12 x 0 0 0 rfl rfl rfl rfl rfl rfl (by rw [bN_zero]; decide), bN_zero]
theorem acc_S (x : Nat) : accN 6 x 4 = immS x := by
  have hb := bN_lts x
  show stepN x (stepN x (stepN x (stepN x 0 25 5 7) 7 0 5) 0 0 0) 0 0 0 = _
  simp only [stepN_bN, bN_zero, Nat.zero_mul, Nat.zero_mod, Nat.or_zero, Nat.zero_or]
  rw [Nat.mod_eq_of_lt (by omega), Nat.mod_eq_of_lt (by omega), or_hi 5 _ _ (by omega)]
  unfold immS; omega
theorem acc_B (x : Nat) : accN 5 x 4 = immB x := by
  have hb := bN_lts x
  show stepN x (stepN x (stepN x (stepN x 0 31 12 1) 25 5 6) 8 1 4) 7 11 1 = _
  simp only [stepN_bN, Nat.zero_or]
  rw [Nat.mod_eq_of_lt (by omega), Nat.mod_eq_of_lt (by omega), Nat.mod_eq_of_lt (by omega), Nat.mod_eq_of_lt (by omega)]
  rw [or_hi 12 _ _ (by omega), show bN x 31 1 * 2 ^ 12 + bN x 25 6 * 2 ^ 5 = (bN x 31 1 * 128 + bN x 25 6) * 2 ^ 5 by omega, or_hi 5 _ _ (by omega)]
  have e : ((bN x 31 1 * 128 + bN x 25 6) * 2 ^ 5 + bN x 8 4 * 2 ^ 1) ||| (bN x 7 1 * 2 ^ 11) = ((bN x 31 1 * 128 + bN x 25 6) * 2 ^ 5 + bN x 8 4 * 2 ^ 1) + (bN x 7 1 * 2 ^ 11) := by
    have e1 : (bN x 31 1 * 128 + bN x 25 6) * 2 ^ 5 + bN x 8 4 * 2 ^ 1 = (bN x 31 1 * 2 ^ 12) ||| (bN x 25 6 * 2 ^ 5 + bN x 8 4 * 2 ^ 1) := by rw [or_hi 12 _ _ (by omega)]; omega
    rw [e1, Nat.or_assoc, or_lo 11 _ _ (by omega), or_hi 12 _ _ (by omega), or_hi 12 _ _ (by omega)]; omega
  rw [e]
  unfold immB; omega
theorem acc_J (x : Nat) : accN 2 x 4 = immJ x := by
  have hb := bN_lts x
  show stepN x (stepN x (stepN x (stepN x 0 31 20 1) 21 1 10) 20 11 1) 12 12 8 = _
  simp only [stepN_bN, Nat.zero_or]
  rw [Nat.mod_eq_of_lt (by omega), Nat.mod_eq_of_lt (by omega), Nat.mod_eq_of_lt (by omega), Nat.mod_eq_of_lt (by omega)]
  rw [Nat.or_assoc, Nat.or_assoc, Nat.or_comm (bN x 20 1 * 2 ^ 11), or_hi 12 _ _ (by omega)]
  rw [show bN x 12 8 * 2 ^ 12 + bN x 20 1 * 2 ^ 11 = (bN x 12 8 * 2 + bN x 20 1) * 2 ^ 11 by omega, or_lo 11 _ _ (by omega), or_hi 20 _ _ (by omega)]
  unfold immJ; omega
/-- Imm, as the chapter says it -/
theorem imm_U (x : Nat) : immI 1 x = (bN x 12 20 : Nat) := by
  have := bN_lts x
  unfold immI; rw [acc_U, if_neg (by rw [show lyHigh 1 = 1048575 from rfl]; omega)]
theorem imm_J (x : Nat) : immI 2 x = sgn (immJ x) 21 := by
  have hb := bN_lts x
  unfold immI sgn
  rw [acc_J, show lyHigh 2 = 1048574 from rfl, show lyLow 2 = -1048576 from rfl]
  have : immJ x % 2 = 0 ∧ immJ x < 2097152 := by unfold immJ; omega
  generalize immJ x = v at this
  split <;> split <;> omega
theorem imm_I (f x : Nat) (hf : f = 3 ∨ f = 4) : immI f x = sgn (bN x 20 12) 12 := by
  have hb := (bN_lts x).2.2.2.2.2.2.2.2.2.2.1
  unfold immI sgn
  rw [acc_I f x (by omega), show lyHigh f = 2047 by rcases hf with rfl | rfl <;> rfl, show lyLow f = -2048 by rcases hf with rfl | rfl <;> rfl]
  generalize bN x 20 12 = v at hb
  split <;> split <;> omega
theorem imm_C (f x : Nat) (hf : f = 13 ∨ f = 14) : immI f x = (bN x 20 12 : Nat) := by
  have hb := bN_lts x
  unfold immI
  rw [acc_I f x (by omega), show lyHigh f = 4095 by rcases hf with rfl | rfl <;> rfl, if_neg (by omega)]
theorem imm_B (x : Nat) : immI 5 x = sgn (immB x) 13 := by
  have hb := bN_lts x
  unfold immI sgn
  rw [acc_B, show lyHigh 5 = 4094 from rfl, show lyLow 5 = -4096 from rfl]
  have : immB x % 2 = 0 ∧ immB x < 8192 := by unfold immB; omega
  generalize immB x = v at this
  split <;> split <;> omega
theorem imm_S (x : Nat) : immI 6 x = sgn (immS x) 12 := by
  have hb := bN_lts x
  unfold immI sgn
  rw [acc_S, show lyHigh 6 = 2047 from rfl, show lyLow 6 = -2048 from rfl]
  have : immS x < 4096 := by unfold immS; omega
  generalize immS x = v at this
  split <;> split <;> omega
theorem imm_H (x : Nat) : immI 7 x = (bN x 20 5 : Nat) := by
  have := bN_lts x
  unfold immI; rw [acc_H, if_neg (by rw [show lyHigh 7 = 31 from rfl]; omega)]
theorem imm_A (f x : Nat) (hf : f = 9 ∨ f = 10) : immI f x = (bN x 25 2 : Nat) := by
  have := bN_lts x
  unfold immI; rw [acc_A f x hf, show lyHigh f = 3 by rcases hf with rfl | rfl <;> rfl, if_neg (by omega)]
theorem imm_F (x : Nat) : immI 11 x = (bN x 20 8 : Nat) := by
  have := bN_lts x
  unfold immI; rw [acc_F, if_neg (by rw [show lyHigh 11 = 255 from rfl]; omega)]
theorem imm_0 (f x : Nat) (hf : f = 0 ∨ f = 8 ∨ f = 12) : immI f x = 0 := by
  unfold immI; rw [acc_0 f x hf, show lyHigh f = 0 by rcases hf with rfl | rfl | rfl <;> rfl]; rfl
theorem regZ_bN (x : Nat) : regZ true ((x : Int) / 128) = (bN x 7 5 : Nat) ∧ regZ true ((x : Int) / 32768) = (bN x 15 5 : Nat) ∧ regZ true ((x : Int) / 1048576) = (bN x 20 5 : Nat) := by
  unfold regZ bN
  simp only [if_true, Nat.reducePow]
  omega
/-- a letter's format -/
def lf (L : Int) : Nat := if L = 85 then 1 else if L = 74 then 2 else if L = 73 then 3 else if L = 76 then 4 else if L = 66 then 5 else if L = 83 then 6 else if L = 72 then 7 else if L = 82 then 8 else if L = 65 then 9 else if L = 75 then 10 else if L = 70 then 11 else if L = 78 then 12 else if L = 67 then 13 else if L = 68 then 14 else 0
theorem lf_fmt (i : Nat) (hi : i < 67) : fmtAt (i + 1) = lf (letAt i) := by
  have : ∀ i, i < 67 → fmtAt (i + 1) = lf (letAt i) := by decide
  exact this i hi
theorem mw_eq (i : Nat) (hi : i < 67) : (mwR (letAt i) (codeRAt i) (fRAt i) (gRAt i)).1 = (maskN (i + 1) : Int) ∧ (mwR (letAt i) (codeRAt i) (fRAt i) (gRAt i)).2 = (wantN (i + 1) : Int) := by
  have : ∀ i, i < 67 → (mwR (letAt i) (codeRAt i) (fRAt i) (gRAt i)).1 = (maskN (i + 1) : Int) ∧ (mwR (letAt i) (codeRAt i) (fRAt i) (gRAt i)).2 = (wantN (i + 1) : Int) := by decide +kernel
  exact this i hi
end Go.Proofs.YtnlagbiikpbjdaaGreatDoor
