/-
  THE ANSWER's spread, where the instruction fits: the program's bits.
-/
import Derived.Test.YtcepcjodhmjghaaDoorSa
namespace Go.Proofs.YtcepcjodhmjghaaDoor
open Go Go.RowKit
theorem bm (v a b m : Nat) (hm : 0 < m) (h : 2 ^ b * m ≤ 4294967296) : bN v a b * m < 4294967296 := Nat.lt_of_lt_of_le (Nat.mul_lt_mul_of_pos_right (bN_lt v a b) hm) h
theorem mm (y m : Nat) (h : y * m < 4294967296) : ((y : Nat) : Int) * (m : Nat) % 4294967296 = ((y * m : Nat) : Int) := by rw [mulmod, Nat.mod_eq_of_lt h]
theorem low_bits (v n L : Nat) (hL : L = 2 ^ n) : bN v 0 n = v % L := by
  subst hL
  unfold bN
  rw [Nat.pow_zero, Nat.div_one]
theorem olt {a b : Nat} (ha : a < 4294967296) (hb : b < 4294967296) : a ||| b < 4294967296 := Nat.or_lt_two_pow (n := 32) ha hb
theorem accW_U (v R : Nat) : accW 1 v R 4 = (R ||| bN v 0 20 * 2 ^ 12 % 4294967296) := by
  show stepN v (stepN v (stepN v (stepN v (R) 0 12 20) 0 0 0) 0 0 0) 0 0 0 = _
  simp only [stepN_bN, bN_zero, Nat.zero_mul, Nat.zero_mod, Nat.or_zero]
theorem sp_U (v rd : Nat) (hrd : rd < 32) : spI 85 rd 0 0 v = (accW 1 v (regsN rd 0 0) 4 : Nat) := by
  have c0 : (rd : Int) * 128 = ((rd * 128 : Nat) : Int) := by simp
  have c1 : (v : Int) * 4096 % 4294967296 = ((bN v 0 20 * 4096 : Nat) : Int) := by
    rw [low_bits v 20 1048576 rfl]
    omega
  have b0 : rd * 128 < 4294967296 := (regs_lt rd hrd).1
  have b1 : bN v 0 20 * 4096 < 4294967296 := bm v 0 20 4096 (by decide) (by decide)
  show bits .or .u32 ((rd : Int) * 128) ((v : Int) * 4096 % 4294967296) = _
  rw [c0, c1]
  rw [u32_or_nat _ _ (b0) b1]
  rw [accW_U]
  unfold regsN
  rw [show bN v 0 20 * 2 ^ 12 % 4294967296 = bN v 0 20 * 4096 from Nat.mod_eq_of_lt (bm v 0 20 4096 (by decide) (by decide))]
  try simp only [Nat.zero_mul, Nat.or_zero]
theorem accW_J (v R : Nat) : accW 2 v R 4 = ((((R ||| bN v 20 1 * 2 ^ 31 % 4294967296) ||| bN v 1 10 * 2 ^ 21 % 4294967296) ||| bN v 11 1 * 2 ^ 20 % 4294967296) ||| bN v 12 8 * 2 ^ 12 % 4294967296) := by
  show stepN v (stepN v (stepN v (stepN v (R) 20 31 1) 1 21 10) 11 20 1) 12 12 8 = _
  simp only [stepN_bN]
theorem sp_J (v rd : Nat) (hrd : rd < 32) (hv : v < 4294967296) : spI 74 rd 0 0 v = (accW 2 v (regsN rd 0 0) 4 : Nat) := by
  have c0 : (rd : Int) * 128 = ((rd * 128 : Nat) : Int) := by simp
  have c1 : bits .and .u32 ((v : Int) / 1048576) 1 * 2147483648 % 4294967296 = ((bN v 20 1 * 2147483648 : Nat) : Int) := by
    rw [show bits .and .u32 ((v : Int) / 1048576) 1 = ((bN v 20 1 : Nat) : Int) from um v 1048576 1 2 hv (by decide) nat_mask1]
    exact mm (bN v 20 1) 2147483648 (bm v 20 1 2147483648 (by decide) (by decide))
  have c2 : bits .and .u32 ((v : Int) / 2) 1023 * 2097152 % 4294967296 = ((bN v 1 10 * 2097152 : Nat) : Int) := by
    rw [show bits .and .u32 ((v : Int) / 2) 1023 = ((bN v 1 10 : Nat) : Int) from um v 2 1023 1024 hv (by decide) nat_mask10]
    exact mm (bN v 1 10) 2097152 (bm v 1 10 2097152 (by decide) (by decide))
  have c3 : bits .and .u32 ((v : Int) / 2048) 1 * 1048576 % 4294967296 = ((bN v 11 1 * 1048576 : Nat) : Int) := by
    rw [show bits .and .u32 ((v : Int) / 2048) 1 = ((bN v 11 1 : Nat) : Int) from um v 2048 1 2 hv (by decide) nat_mask1]
    exact mm (bN v 11 1) 1048576 (bm v 11 1 1048576 (by decide) (by decide))
  have c4 : bits .and .u32 ((v : Int) / 4096) 255 * 4096 % 4294967296 = ((bN v 12 8 * 4096 : Nat) : Int) := by
    rw [show bits .and .u32 ((v : Int) / 4096) 255 = ((bN v 12 8 : Nat) : Int) from um v 4096 255 256 hv (by decide) nat_mask8]
    exact mm (bN v 12 8) 4096 (bm v 12 8 4096 (by decide) (by decide))
  have b0 : rd * 128 < 4294967296 := (regs_lt rd hrd).1
  have b1 : bN v 20 1 * 2147483648 < 4294967296 := bm v 20 1 2147483648 (by decide) (by decide)
  have b2 : bN v 1 10 * 2097152 < 4294967296 := bm v 1 10 2097152 (by decide) (by decide)
  have b3 : bN v 11 1 * 1048576 < 4294967296 := bm v 11 1 1048576 (by decide) (by decide)
  have b4 : bN v 12 8 * 4096 < 4294967296 := bm v 12 8 4096 (by decide) (by decide)
  show bits .or .u32 (bits .or .u32 (bits .or .u32 (bits .or .u32 ((rd : Int) * 128) (bits .and .u32 ((v : Int) / 1048576) 1 * 2147483648 % 4294967296)) (bits .and .u32 ((v : Int) / 2) 1023 * 2097152 % 4294967296)) (bits .and .u32 ((v : Int) / 2048) 1 * 1048576 % 4294967296)) (bits .and .u32 ((v : Int) / 4096) 255 * 4096 % 4294967296) = _
  rw [c0, c1, c2, c3, c4]
  rw [u32_or_nat _ _ (b0) b1, u32_or_nat _ _ (olt (b0) b1) b2, u32_or_nat _ _ (olt (olt (b0) b1) b2) b3, u32_or_nat _ _ (olt (olt (olt (b0) b1) b2) b3) b4]
  rw [accW_J]
  unfold regsN
  rw [show bN v 20 1 * 2 ^ 31 % 4294967296 = bN v 20 1 * 2147483648 from Nat.mod_eq_of_lt (bm v 20 1 2147483648 (by decide) (by decide))]
  rw [show bN v 1 10 * 2 ^ 21 % 4294967296 = bN v 1 10 * 2097152 from Nat.mod_eq_of_lt (bm v 1 10 2097152 (by decide) (by decide))]
  rw [show bN v 11 1 * 2 ^ 20 % 4294967296 = bN v 11 1 * 1048576 from Nat.mod_eq_of_lt (bm v 11 1 1048576 (by decide) (by decide))]
  rw [show bN v 12 8 * 2 ^ 12 % 4294967296 = bN v 12 8 * 4096 from Nat.mod_eq_of_lt (bm v 12 8 4096 (by decide) (by decide))]
  try simp only [Nat.zero_mul, Nat.or_zero]
theorem accW_I (v R : Nat) : accW 3 v R 4 = (R ||| bN v 0 12 * 2 ^ 20 % 4294967296) := by
  show stepN v (stepN v (stepN v (stepN v (R) 0 20 12) 0 0 0) 0 0 0) 0 0 0 = _
  simp only [stepN_bN, bN_zero, Nat.zero_mul, Nat.zero_mod, Nat.or_zero]
theorem sp_I (v rd rs1 : Nat) (hrd : rd < 32) (hrs1 : rs1 < 32) : spI 73 rd rs1 0 v = (accW 3 v (regsN rd rs1 0) 4 : Nat) := by
  have c0 : (rd : Int) * 128 = ((rd * 128 : Nat) : Int) := by simp
  have c1 : (rs1 : Int) * 32768 = ((rs1 * 32768 : Nat) : Int) := by simp
  have c2 : (v : Int) * 1048576 % 4294967296 = ((bN v 0 12 * 1048576 : Nat) : Int) := by
    rw [low_bits v 12 4096 rfl]
    omega
  have b0 : rd * 128 < 4294967296 := (regs_lt rd hrd).1
  have b1 : rs1 * 32768 < 4294967296 := (regs_lt rs1 hrs1).2.1
  have b2 : bN v 0 12 * 1048576 < 4294967296 := bm v 0 12 1048576 (by decide) (by decide)
  show bits .or .u32 (bits .or .u32 ((rd : Int) * 128) ((rs1 : Int) * 32768)) ((v : Int) * 1048576 % 4294967296) = _
  rw [c0, c1, c2]
  rw [u32_or_nat _ _ (b0) b1, u32_or_nat _ _ (olt (b0) b1) b2]
  rw [accW_I]
  unfold regsN
  rw [show bN v 0 12 * 2 ^ 20 % 4294967296 = bN v 0 12 * 1048576 from Nat.mod_eq_of_lt (bm v 0 12 1048576 (by decide) (by decide))]
  try simp only [Nat.zero_mul, Nat.or_zero]
theorem accW_L (v R : Nat) : accW 4 v R 4 = (R ||| bN v 0 12 * 2 ^ 20 % 4294967296) := by
  show stepN v (stepN v (stepN v (stepN v (R) 0 20 12) 0 0 0) 0 0 0) 0 0 0 = _
  simp only [stepN_bN, bN_zero, Nat.zero_mul, Nat.zero_mod, Nat.or_zero]
theorem sp_L (v rd rs1 : Nat) (hrd : rd < 32) (hrs1 : rs1 < 32) : spI 76 rd rs1 0 v = (accW 4 v (regsN rd rs1 0) 4 : Nat) := by
  have c0 : (rd : Int) * 128 = ((rd * 128 : Nat) : Int) := by simp
  have c1 : (rs1 : Int) * 32768 = ((rs1 * 32768 : Nat) : Int) := by simp
  have c2 : (v : Int) * 1048576 % 4294967296 = ((bN v 0 12 * 1048576 : Nat) : Int) := by
    rw [low_bits v 12 4096 rfl]
    omega
  have b0 : rd * 128 < 4294967296 := (regs_lt rd hrd).1
  have b1 : rs1 * 32768 < 4294967296 := (regs_lt rs1 hrs1).2.1
  have b2 : bN v 0 12 * 1048576 < 4294967296 := bm v 0 12 1048576 (by decide) (by decide)
  show bits .or .u32 (bits .or .u32 ((rd : Int) * 128) ((rs1 : Int) * 32768)) ((v : Int) * 1048576 % 4294967296) = _
  rw [c0, c1, c2]
  rw [u32_or_nat _ _ (b0) b1, u32_or_nat _ _ (olt (b0) b1) b2]
  rw [accW_L]
  unfold regsN
  rw [show bN v 0 12 * 2 ^ 20 % 4294967296 = bN v 0 12 * 1048576 from Nat.mod_eq_of_lt (bm v 0 12 1048576 (by decide) (by decide))]
  try simp only [Nat.zero_mul, Nat.or_zero]
theorem accW_B (v R : Nat) : accW 5 v R 4 = ((((R ||| bN v 12 1 * 2 ^ 31 % 4294967296) ||| bN v 5 6 * 2 ^ 25 % 4294967296) ||| bN v 1 4 * 2 ^ 8 % 4294967296) ||| bN v 11 1 * 2 ^ 7 % 4294967296) := by
  show stepN v (stepN v (stepN v (stepN v (R) 12 31 1) 5 25 6) 1 8 4) 11 7 1 = _
  simp only [stepN_bN]
theorem sp_B (v rs1 rs2 : Nat) (hrs1 : rs1 < 32) (hrs2 : rs2 < 32) (hv : v < 4294967296) : spI 66 0 rs1 rs2 v = (accW 5 v (regsN 0 rs1 rs2) 4 : Nat) := by
  have c0 : (rs1 : Int) * 32768 = ((rs1 * 32768 : Nat) : Int) := by simp
  have c1 : (rs2 : Int) * 1048576 = ((rs2 * 1048576 : Nat) : Int) := by simp
  have c2 : bits .and .u32 ((v : Int) / 4096) 1 * 2147483648 % 4294967296 = ((bN v 12 1 * 2147483648 : Nat) : Int) := by
    rw [show bits .and .u32 ((v : Int) / 4096) 1 = ((bN v 12 1 : Nat) : Int) from um v 4096 1 2 hv (by decide) nat_mask1]
    exact mm (bN v 12 1) 2147483648 (bm v 12 1 2147483648 (by decide) (by decide))
  have c3 : bits .and .u32 ((v : Int) / 32) 63 * 33554432 % 4294967296 = ((bN v 5 6 * 33554432 : Nat) : Int) := by
    rw [show bits .and .u32 ((v : Int) / 32) 63 = ((bN v 5 6 : Nat) : Int) from um v 32 63 64 hv (by decide) nat_mask6]
    exact mm (bN v 5 6) 33554432 (bm v 5 6 33554432 (by decide) (by decide))
  have c4 : bits .and .u32 ((v : Int) / 2) 15 * 256 % 4294967296 = ((bN v 1 4 * 256 : Nat) : Int) := by
    rw [show bits .and .u32 ((v : Int) / 2) 15 = ((bN v 1 4 : Nat) : Int) from um v 2 15 16 hv (by decide) nat_mask4]
    exact mm (bN v 1 4) 256 (bm v 1 4 256 (by decide) (by decide))
  have c5 : bits .and .u32 ((v : Int) / 2048) 1 * 128 % 4294967296 = ((bN v 11 1 * 128 : Nat) : Int) := by
    rw [show bits .and .u32 ((v : Int) / 2048) 1 = ((bN v 11 1 : Nat) : Int) from um v 2048 1 2 hv (by decide) nat_mask1]
    exact mm (bN v 11 1) 128 (bm v 11 1 128 (by decide) (by decide))
  have b0 : rs1 * 32768 < 4294967296 := (regs_lt rs1 hrs1).2.1
  have b1 : rs2 * 1048576 < 4294967296 := (regs_lt rs2 hrs2).2.2
  have b2 : bN v 12 1 * 2147483648 < 4294967296 := bm v 12 1 2147483648 (by decide) (by decide)
  have b3 : bN v 5 6 * 33554432 < 4294967296 := bm v 5 6 33554432 (by decide) (by decide)
  have b4 : bN v 1 4 * 256 < 4294967296 := bm v 1 4 256 (by decide) (by decide)
  have b5 : bN v 11 1 * 128 < 4294967296 := bm v 11 1 128 (by decide) (by decide)
  show bits .or .u32 (bits .or .u32 (bits .or .u32 (bits .or .u32 (bits .or .u32 ((rs1 : Int) * 32768) ((rs2 : Int) * 1048576)) (bits .and .u32 ((v : Int) / 4096) 1 * 2147483648 % 4294967296)) (bits .and .u32 ((v : Int) / 32) 63 * 33554432 % 4294967296)) (bits .and .u32 ((v : Int) / 2) 15 * 256 % 4294967296)) (bits .and .u32 ((v : Int) / 2048) 1 * 128 % 4294967296) = _
  rw [c0, c1, c2, c3, c4, c5]
  rw [u32_or_nat _ _ (b0) b1, u32_or_nat _ _ (olt (b0) b1) b2, u32_or_nat _ _ (olt (olt (b0) b1) b2) b3, u32_or_nat _ _ (olt (olt (olt (b0) b1) b2) b3) b4, u32_or_nat _ _ (olt (olt (olt (olt (b0) b1) b2) b3) b4) b5]
  rw [accW_B]
  unfold regsN
  rw [show bN v 12 1 * 2 ^ 31 % 4294967296 = bN v 12 1 * 2147483648 from Nat.mod_eq_of_lt (bm v 12 1 2147483648 (by decide) (by decide))]
  rw [show bN v 5 6 * 2 ^ 25 % 4294967296 = bN v 5 6 * 33554432 from Nat.mod_eq_of_lt (bm v 5 6 33554432 (by decide) (by decide))]
  rw [show bN v 1 4 * 2 ^ 8 % 4294967296 = bN v 1 4 * 256 from Nat.mod_eq_of_lt (bm v 1 4 256 (by decide) (by decide))]
  rw [show bN v 11 1 * 2 ^ 7 % 4294967296 = bN v 11 1 * 128 from Nat.mod_eq_of_lt (bm v 11 1 128 (by decide) (by decide))]
  try simp only [Nat.zero_mul, Nat.zero_or]
theorem accW_S (v R : Nat) : accW 6 v R 4 = ((R ||| bN v 5 7 * 2 ^ 25 % 4294967296) ||| bN v 0 5 * 2 ^ 7 % 4294967296) := by
  show stepN v (stepN v (stepN v (stepN v (R) 5 25 7) 0 7 5) 0 0 0) 0 0 0 = _
  simp only [stepN_bN, bN_zero, Nat.zero_mul, Nat.zero_mod, Nat.or_zero]
theorem sp_S (v rs1 rs2 : Nat) (hrs1 : rs1 < 32) (hrs2 : rs2 < 32) (hv : v < 4294967296) : spI 83 0 rs1 rs2 v = (accW 6 v (regsN 0 rs1 rs2) 4 : Nat) := by
  have c0 : (rs1 : Int) * 32768 = ((rs1 * 32768 : Nat) : Int) := by simp
  have c1 : (rs2 : Int) * 1048576 = ((rs2 * 1048576 : Nat) : Int) := by simp
  have c2 : bits .and .u32 ((v : Int) / 32) 127 * 33554432 % 4294967296 = ((bN v 5 7 * 33554432 : Nat) : Int) := by
    rw [show bits .and .u32 ((v : Int) / 32) 127 = ((bN v 5 7 : Nat) : Int) from um v 32 127 128 hv (by decide) nat_mask7]
    exact mm (bN v 5 7) 33554432 (bm v 5 7 33554432 (by decide) (by decide))
  have c3 : bits .and .u32 ((v : Int)) 31 * 128 % 4294967296 = ((bN v 0 5 * 128 : Nat) : Int) := by
    have h := u32_and_nat v 31 hv (by decide)
    rw [nat_mask5] at h
    rw [show bits .and .u32 (v : Int) 31 = ((v % 32 : Nat) : Int) from h]
    rw [low_bits v 5 32 rfl]
    omega
  have b0 : rs1 * 32768 < 4294967296 := (regs_lt rs1 hrs1).2.1
  have b1 : rs2 * 1048576 < 4294967296 := (regs_lt rs2 hrs2).2.2
  have b2 : bN v 5 7 * 33554432 < 4294967296 := bm v 5 7 33554432 (by decide) (by decide)
  have b3 : bN v 0 5 * 128 < 4294967296 := bm v 0 5 128 (by decide) (by decide)
  show bits .or .u32 (bits .or .u32 (bits .or .u32 ((rs1 : Int) * 32768) ((rs2 : Int) * 1048576)) (bits .and .u32 ((v : Int) / 32) 127 * 33554432 % 4294967296)) (bits .and .u32 ((v : Int)) 31 * 128 % 4294967296) = _
  rw [c0, c1, c2, c3]
  rw [u32_or_nat _ _ (b0) b1, u32_or_nat _ _ (olt (b0) b1) b2, u32_or_nat _ _ (olt (olt (b0) b1) b2) b3]
  rw [accW_S]
  unfold regsN
  rw [show bN v 5 7 * 2 ^ 25 % 4294967296 = bN v 5 7 * 33554432 from Nat.mod_eq_of_lt (bm v 5 7 33554432 (by decide) (by decide))]
  rw [show bN v 0 5 * 2 ^ 7 % 4294967296 = bN v 0 5 * 128 from Nat.mod_eq_of_lt (bm v 0 5 128 (by decide) (by decide))]
  try simp only [Nat.zero_mul, Nat.zero_or]
theorem accW_H (v R : Nat) : accW 7 v R 4 = (R ||| bN v 0 5 * 2 ^ 20 % 4294967296) := by
  show stepN v (stepN v (stepN v (stepN v (R) 0 20 5) 0 0 0) 0 0 0) 0 0 0 = _
  simp only [stepN_bN, bN_zero, Nat.zero_mul, Nat.zero_mod, Nat.or_zero]
theorem sp_H (v rd rs1 : Nat) (hrd : rd < 32) (hrs1 : rs1 < 32) (hb : v < 32) : spI 72 rd rs1 0 v = (accW 7 v (regsN rd rs1 0) 4 : Nat) := by
  have c0 : (rd : Int) * 128 = ((rd * 128 : Nat) : Int) := by simp
  have c1 : (rs1 : Int) * 32768 = ((rs1 * 32768 : Nat) : Int) := by simp
  have c2 : (v : Int) * 1048576 % 4294967296 = ((bN v 0 5 * 1048576 : Nat) : Int) := by
    rw [low_bits v 5 32 rfl]
    omega
  have b0 : rd * 128 < 4294967296 := (regs_lt rd hrd).1
  have b1 : rs1 * 32768 < 4294967296 := (regs_lt rs1 hrs1).2.1
  have b2 : bN v 0 5 * 1048576 < 4294967296 := bm v 0 5 1048576 (by decide) (by decide)
  show bits .or .u32 (bits .or .u32 ((rd : Int) * 128) ((rs1 : Int) * 32768)) ((v : Int) * 1048576 % 4294967296) = _
  rw [c0, c1, c2]
  rw [u32_or_nat _ _ (b0) b1, u32_or_nat _ _ (olt (b0) b1) b2]
  rw [accW_H]
  unfold regsN
  rw [show bN v 0 5 * 2 ^ 20 % 4294967296 = bN v 0 5 * 1048576 from Nat.mod_eq_of_lt (bm v 0 5 1048576 (by decide) (by decide))]
  try simp only [Nat.zero_mul, Nat.or_zero]
theorem accW_R (v R : Nat) : accW 8 v R 4 = R := by
  show stepN v (stepN v (stepN v (stepN v (R) 0 0 0) 0 0 0) 0 0 0) 0 0 0 = _
  simp only [stepN_bN, bN_zero, Nat.zero_mul, Nat.zero_mod, Nat.or_zero]
theorem sp_R (v rd rs1 rs2 : Nat) (hrd : rd < 32) (hrs1 : rs1 < 32) (hrs2 : rs2 < 32) : spI 82 rd rs1 rs2 v = (accW 8 v (regsN rd rs1 rs2) 4 : Nat) := by
  rw [accW_R]
  exact regsN_int rd rs1 rs2 hrd hrs1 hrs2
theorem accW_A (v R : Nat) : accW 9 v R 4 = (R ||| bN v 0 2 * 2 ^ 25 % 4294967296) := by
  show stepN v (stepN v (stepN v (stepN v (R) 0 25 2) 0 0 0) 0 0 0) 0 0 0 = _
  simp only [stepN_bN, bN_zero, Nat.zero_mul, Nat.zero_mod, Nat.or_zero]
theorem sp_A (v rd rs1 rs2 : Nat) (hrd : rd < 32) (hrs1 : rs1 < 32) (hrs2 : rs2 < 32) (hb : v < 4) : spI 65 rd rs1 rs2 v = (accW 9 v (regsN rd rs1 rs2) 4 : Nat) := by
  have c0 : (rd : Int) * 128 = ((rd * 128 : Nat) : Int) := by simp
  have c1 : (rs1 : Int) * 32768 = ((rs1 * 32768 : Nat) : Int) := by simp
  have c2 : (rs2 : Int) * 1048576 = ((rs2 * 1048576 : Nat) : Int) := by simp
  have c3 : (v : Int) * 33554432 % 4294967296 = ((bN v 0 2 * 33554432 : Nat) : Int) := by
    rw [low_bits v 2 4 rfl]
    omega
  have b0 : rd * 128 < 4294967296 := (regs_lt rd hrd).1
  have b1 : rs1 * 32768 < 4294967296 := (regs_lt rs1 hrs1).2.1
  have b2 : rs2 * 1048576 < 4294967296 := (regs_lt rs2 hrs2).2.2
  have b3 : bN v 0 2 * 33554432 < 4294967296 := bm v 0 2 33554432 (by decide) (by decide)
  show bits .or .u32 (bits .or .u32 (bits .or .u32 ((rd : Int) * 128) ((rs1 : Int) * 32768)) ((rs2 : Int) * 1048576)) ((v : Int) * 33554432 % 4294967296) = _
  rw [c0, c1, c2, c3]
  rw [u32_or_nat _ _ (b0) b1, u32_or_nat _ _ (olt (b0) b1) b2, u32_or_nat _ _ (olt (olt (b0) b1) b2) b3]
  rw [accW_A]
  unfold regsN
  rw [show bN v 0 2 * 2 ^ 25 % 4294967296 = bN v 0 2 * 33554432 from Nat.mod_eq_of_lt (bm v 0 2 33554432 (by decide) (by decide))]
theorem accW_K (v R : Nat) : accW 10 v R 4 = (R ||| bN v 0 2 * 2 ^ 25 % 4294967296) := by
  show stepN v (stepN v (stepN v (stepN v (R) 0 25 2) 0 0 0) 0 0 0) 0 0 0 = _
  simp only [stepN_bN, bN_zero, Nat.zero_mul, Nat.zero_mod, Nat.or_zero]
theorem sp_K (v rd rs1 : Nat) (hrd : rd < 32) (hrs1 : rs1 < 32) (hb : v < 4) : spI 75 rd rs1 0 v = (accW 10 v (regsN rd rs1 0) 4 : Nat) := by
  have c0 : (rd : Int) * 128 = ((rd * 128 : Nat) : Int) := by simp
  have c1 : (rs1 : Int) * 32768 = ((rs1 * 32768 : Nat) : Int) := by simp
  have c2 : ((0 : Nat) : Int) * 1048576 = ((0 * 1048576 : Nat) : Int) := by simp
  have c3 : (v : Int) * 33554432 % 4294967296 = ((bN v 0 2 * 33554432 : Nat) : Int) := by
    rw [low_bits v 2 4 rfl]
    omega
  have b0 : rd * 128 < 4294967296 := (regs_lt rd hrd).1
  have b1 : rs1 * 32768 < 4294967296 := (regs_lt rs1 hrs1).2.1
  have b2 : 0 * 1048576 < 4294967296 := by decide
  have b3 : bN v 0 2 * 33554432 < 4294967296 := bm v 0 2 33554432 (by decide) (by decide)
  show bits .or .u32 (bits .or .u32 (bits .or .u32 ((rd : Int) * 128) ((rs1 : Int) * 32768)) (((0 : Nat) : Int) * 1048576)) ((v : Int) * 33554432 % 4294967296) = _
  rw [c0, c1, c2, c3]
  rw [u32_or_nat _ _ (b0) b1, u32_or_nat _ _ (olt (b0) b1) b2, u32_or_nat _ _ (olt (olt (b0) b1) b2) b3]
  rw [accW_K]
  unfold regsN
  rw [show bN v 0 2 * 2 ^ 25 % 4294967296 = bN v 0 2 * 33554432 from Nat.mod_eq_of_lt (bm v 0 2 33554432 (by decide) (by decide))]
  try simp only [Nat.zero_mul, Nat.or_zero]
theorem accW_F (v R : Nat) : accW 11 v R 4 = (R ||| bN v 0 8 * 2 ^ 20 % 4294967296) := by
  show stepN v (stepN v (stepN v (stepN v (R) 0 20 8) 0 0 0) 0 0 0) 0 0 0 = _
  simp only [stepN_bN, bN_zero, Nat.zero_mul, Nat.zero_mod, Nat.or_zero]
theorem sp_F (v : Nat)  (hb : v < 256) : spI 70 0 0 0 v = (accW 11 v (regsN 0 0 0) 4 : Nat) := by
  have c0 : (v : Int) * 1048576 % 4294967296 = ((bN v 0 8 * 1048576 : Nat) : Int) := by
    rw [low_bits v 8 256 rfl]
    omega
  have b0 : bN v 0 8 * 1048576 < 4294967296 := bm v 0 8 1048576 (by decide) (by decide)
  show (v : Int) * 1048576 % 4294967296 = _
  rw [c0]
  rw [accW_F]
  unfold regsN
  rw [show bN v 0 8 * 2 ^ 20 % 4294967296 = bN v 0 8 * 1048576 from Nat.mod_eq_of_lt (bm v 0 8 1048576 (by decide) (by decide))]
  try simp only [Nat.zero_mul, Nat.or_zero, Nat.zero_or]
theorem accW_N (v R : Nat) : accW 12 v R 4 = R := by
  show stepN v (stepN v (stepN v (stepN v (R) 0 0 0) 0 0 0) 0 0 0) 0 0 0 = _
  simp only [stepN_bN, bN_zero, Nat.zero_mul, Nat.zero_mod, Nat.or_zero]
theorem sp_N (v : Nat)  : spI 78 0 0 0 v = (accW 12 v (regsN 0 0 0) 4 : Nat) := by
  rw [accW_N]
  exact regsN_int 0 0 0 (by decide) (by decide) (by decide)
theorem accW_C (v R : Nat) : accW 13 v R 4 = (R ||| bN v 0 12 * 2 ^ 20 % 4294967296) := by
  show stepN v (stepN v (stepN v (stepN v (R) 0 20 12) 0 0 0) 0 0 0) 0 0 0 = _
  simp only [stepN_bN, bN_zero, Nat.zero_mul, Nat.zero_mod, Nat.or_zero]
theorem sp_C (v rd rs1 : Nat) (hrd : rd < 32) (hrs1 : rs1 < 32) : spI 67 rd rs1 0 v = (accW 13 v (regsN rd rs1 0) 4 : Nat) := by
  have c0 : (rd : Int) * 128 = ((rd * 128 : Nat) : Int) := by simp
  have c1 : (rs1 : Int) * 32768 = ((rs1 * 32768 : Nat) : Int) := by simp
  have c2 : (v : Int) * 1048576 % 4294967296 = ((bN v 0 12 * 1048576 : Nat) : Int) := by
    rw [low_bits v 12 4096 rfl]
    omega
  have b0 : rd * 128 < 4294967296 := (regs_lt rd hrd).1
  have b1 : rs1 * 32768 < 4294967296 := (regs_lt rs1 hrs1).2.1
  have b2 : bN v 0 12 * 1048576 < 4294967296 := bm v 0 12 1048576 (by decide) (by decide)
  show bits .or .u32 (bits .or .u32 ((rd : Int) * 128) ((rs1 : Int) * 32768)) ((v : Int) * 1048576 % 4294967296) = _
  rw [c0, c1, c2]
  rw [u32_or_nat _ _ (b0) b1, u32_or_nat _ _ (olt (b0) b1) b2]
  rw [accW_C]
  unfold regsN
  rw [show bN v 0 12 * 2 ^ 20 % 4294967296 = bN v 0 12 * 1048576 from Nat.mod_eq_of_lt (bm v 0 12 1048576 (by decide) (by decide))]
  try simp only [Nat.zero_mul, Nat.or_zero]
theorem accW_D (v R : Nat) : accW 14 v R 4 = (R ||| bN v 0 12 * 2 ^ 20 % 4294967296) := by
  show stepN v (stepN v (stepN v (stepN v (R) 0 20 12) 0 0 0) 0 0 0) 0 0 0 = _
  simp only [stepN_bN, bN_zero, Nat.zero_mul, Nat.zero_mod, Nat.or_zero]
theorem sp_D (v rd rs1 : Nat) (hrd : rd < 32) (hrs1 : rs1 < 32) : spI 68 rd rs1 0 v = (accW 14 v (regsN rd rs1 0) 4 : Nat) := by
  have c0 : (rd : Int) * 128 = ((rd * 128 : Nat) : Int) := by simp
  have c1 : (rs1 : Int) * 32768 = ((rs1 * 32768 : Nat) : Int) := by simp
  have c2 : (v : Int) * 1048576 % 4294967296 = ((bN v 0 12 * 1048576 : Nat) : Int) := by
    rw [low_bits v 12 4096 rfl]
    omega
  have b0 : rd * 128 < 4294967296 := (regs_lt rd hrd).1
  have b1 : rs1 * 32768 < 4294967296 := (regs_lt rs1 hrs1).2.1
  have b2 : bN v 0 12 * 1048576 < 4294967296 := bm v 0 12 1048576 (by decide) (by decide)
  show bits .or .u32 (bits .or .u32 ((rd : Int) * 128) ((rs1 : Int) * 32768)) ((v : Int) * 1048576 % 4294967296) = _
  rw [c0, c1, c2]
  rw [u32_or_nat _ _ (b0) b1, u32_or_nat _ _ (olt (b0) b1) b2]
  rw [accW_D]
  unfold regsN
  rw [show bN v 0 12 * 2 ^ 20 % 4294967296 = bN v 0 12 * 1048576 from Nat.mod_eq_of_lt (bm v 0 12 1048576 (by decide) (by decide))]
  try simp only [Nat.zero_mul, Nat.or_zero]
theorem sp_fit (k v rd rs1 rs2 : Nat) (imm : Int) (hk : k ≤ 67) (h1 : 1 ≤ k) (hrd : rd < 32) (hrs1 : rs1 < 32) (hrs2 : rs2 < 32) (hv : imm % 4294967296 = (v : Int)) (hfit : fitB (fmtAt k) rd rs1 rs2 imm = true) : spI (letAt (k - 1)) rd rs1 rs2 v = (accW (fmtAt k) v (regsN rd rs1 rs2) 4 : Nat) := by
  have h := (fitB_iff _ _ _ _ _).1 hfit
  have hv2 : v < 4294967296 := by omega
  clear hfit
  have hlf := lf_fmt (k - 1) (by omega)
  rw [show k - 1 + 1 = k by omega] at hlf
  have hm := let_mem (k - 1) (by omega)
  generalize letAt (k - 1) = L at hlf hm
  rw [hlf] at h ⊢
  simp only [letters, List.mem_cons, List.not_mem_nil, or_false] at hm
  rcases hm with rfl | rfl | rfl | rfl | rfl | rfl | rfl | rfl | rfl | rfl | rfl | rfl | rfl | rfl
  · obtain ⟨q1, q2, q3, q4, q5, q6⟩ := h
    have z_rs1 : rs1 = 0 := by have := (rfit_false _).1 q2; omega
    subst z_rs1
    have z_rs2 : rs2 = 0 := by have := (rfit_false _).1 q3; omega
    subst z_rs2
    exact sp_U v rd hrd
  · obtain ⟨q1, q2, q3, q4, q5, q6⟩ := h
    have z_rs1 : rs1 = 0 := by have := (rfit_false _).1 q2; omega
    subst z_rs1
    have z_rs2 : rs2 = 0 := by have := (rfit_false _).1 q3; omega
    subst z_rs2
    exact sp_J v rd hrd hv2
  · obtain ⟨q1, q2, q3, q4, q5, q6⟩ := h
    have z_rs2 : rs2 = 0 := by have := (rfit_false _).1 q3; omega
    subst z_rs2
    exact sp_I v rd rs1 hrd hrs1
  · obtain ⟨q1, q2, q3, q4, q5, q6⟩ := h
    have z_rs2 : rs2 = 0 := by have := (rfit_false _).1 q3; omega
    subst z_rs2
    exact sp_L v rd rs1 hrd hrs1
  · obtain ⟨q1, q2, q3, q4, q5, q6⟩ := h
    have z_rd : rd = 0 := by have := (rfit_false _).1 q1; omega
    subst z_rd
    exact sp_B v rs1 rs2 hrs1 hrs2 hv2
  · obtain ⟨q1, q2, q3, q4, q5, q6⟩ := h
    have z_rd : rd = 0 := by have := (rfit_false _).1 q1; omega
    subst z_rd
    exact sp_S v rs1 rs2 hrs1 hrs2 hv2
  · obtain ⟨q1, q2, q3, q4, q5, q6⟩ := h
    have z_rs2 : rs2 = 0 := by have := (rfit_false _).1 q3; omega
    subst z_rs2
    have q4 : 0 ≤ imm := q4
    have q5 : imm ≤ 31 := q5
    exact sp_H v rd rs1 hrd hrs1 (by omega)
  · obtain ⟨q1, q2, q3, q4, q5, q6⟩ := h
    exact sp_R v rd rs1 rs2 hrd hrs1 hrs2
  · obtain ⟨q1, q2, q3, q4, q5, q6⟩ := h
    have q4 : 0 ≤ imm := q4
    have q5 : imm ≤ 3 := q5
    exact sp_A v rd rs1 rs2 hrd hrs1 hrs2 (by omega)
  · obtain ⟨q1, q2, q3, q4, q5, q6⟩ := h
    have z_rs2 : rs2 = 0 := by have := (rfit_false _).1 q3; omega
    subst z_rs2
    have q4 : 0 ≤ imm := q4
    have q5 : imm ≤ 3 := q5
    exact sp_K v rd rs1 hrd hrs1 (by omega)
  · obtain ⟨q1, q2, q3, q4, q5, q6⟩ := h
    have z_rd : rd = 0 := by have := (rfit_false _).1 q1; omega
    subst z_rd
    have z_rs1 : rs1 = 0 := by have := (rfit_false _).1 q2; omega
    subst z_rs1
    have z_rs2 : rs2 = 0 := by have := (rfit_false _).1 q3; omega
    subst z_rs2
    have q4 : 0 ≤ imm := q4
    have q5 : imm ≤ 255 := q5
    exact sp_F v (by omega)
  · obtain ⟨q1, q2, q3, q4, q5, q6⟩ := h
    have z_rd : rd = 0 := by have := (rfit_false _).1 q1; omega
    subst z_rd
    have z_rs1 : rs1 = 0 := by have := (rfit_false _).1 q2; omega
    subst z_rs1
    have z_rs2 : rs2 = 0 := by have := (rfit_false _).1 q3; omega
    subst z_rs2
    exact sp_N v
  · obtain ⟨q1, q2, q3, q4, q5, q6⟩ := h
    have z_rs2 : rs2 = 0 := by have := (rfit_false _).1 q3; omega
    subst z_rs2
    exact sp_C v rd rs1 hrd hrs1
  · obtain ⟨q1, q2, q3, q4, q5, q6⟩ := h
    have z_rs2 : rs2 = 0 := by have := (rfit_false _).1 q3; omega
    subst z_rs2
    exact sp_D v rd rs1 hrd hrs1
end Go.Proofs.YtcepcjodhmjghaaDoor
