/-
  PLAIN NUMBERS: words as sums of their fields.
-/
import Derived.Test.YtcepcjodhmjghaaDoorEc
import Derived.Test.YtcepcjodhmjghaaDoorPm
namespace Go.Proofs.YtcepcjodhmjghaaDoor
open Go Go.RowKit
theorem or_field (acc y m q len L : Nat) (hm : m = 2 ^ q) (hL : L = 2 ^ len) (hy : y < L) (h : acc / m % L = 0) : acc ||| (y * m) = acc + y * m := by
  subst hm hL
  have hp : 0 < 2 ^ q := Nat.two_pow_pos q
  have hlo : acc % 2 ^ q < 2 ^ q := Nat.mod_lt _ hp
  have e1 : acc = acc / 2 ^ q / 2 ^ len * 2 ^ (q + len) + acc % 2 ^ q := by
    have h1 := Nat.div_add_mod acc (2 ^ q)
    have h2 := Nat.div_add_mod (acc / 2 ^ q) (2 ^ len)
    rw [h, Nat.add_zero] at h2
    rw [Nat.pow_add, Nat.mul_comm (2 ^ q), ← Nat.mul_assoc, Nat.mul_comm _ (2 ^ len), h2, Nat.mul_comm, h1]
  have hb : acc % 2 ^ q + y * 2 ^ q < 2 ^ (q + len) := by
    rw [Nat.pow_add]
    have : (y + 1) * 2 ^ q ≤ 2 ^ len * 2 ^ q := Nat.mul_le_mul_right _ hy
    rw [Nat.mul_comm (2 ^ q)]
    have e : (y + 1) * 2 ^ q = y * 2 ^ q + 2 ^ q := Nat.succ_mul _ _
    omega
  generalize hA : acc / 2 ^ q / 2 ^ len = A at e1
  generalize hl : acc % 2 ^ q = l at e1 hlo hb
  rw [e1, ← or_hi (q + len) A l (Nat.lt_of_le_of_lt (Nat.le_add_right _ _) hb), Nat.or_assoc, or_lo q y l hlo, or_hi (q + len) A _ hb, or_hi (q + len) A l (Nat.lt_of_le_of_lt (Nat.le_add_right _ _) hb), Nat.add_assoc]
def cN (k : Nat) : Nat := (codeAt k).toNat
def fN (k : Nat) : Nat := (fAt k).toNat
def gN (k : Nat) : Nat := (gAt k).toNat
def gP (f : Nat) : Nat := (lyG f).toNat
theorem want_parts (k : Nat) (hk : k ≤ 67) : wantN k = (cN k ||| fN k * 4096) ||| gN k * 2 ^ gP (fmtAt k) := by
  have : ∀ k, k < 68 → wantN k = (cN k ||| fN k * 4096) ||| gN k * 2 ^ gP (fmtAt k) := by decide +kernel
  exact this k (by omega)
/-- how great the fixed fields are, by format -/
def fixedB (f c f3 g : Nat) : Bool := decide (c < 128) && (if f = 1 ∨ f = 2 ∨ f = 11 ∨ f = 12 then f3 == 0 else decide (f3 < 8)) && (if f = 7 ∨ f = 8 then decide (g < 128) else if f = 9 ∨ f = 10 then decide (g < 32) else if f = 12 then decide (g < 4096) else g == 0)
theorem fixed_bd (k : Nat) (hk : k ≤ 67) (h1 : 1 ≤ k) : fixedB (fmtAt k) (cN k) (fN k) (gN k) = true := by
  have : ∀ k, k < 67 → fixedB (fmtAt (k + 1)) (cN (k + 1)) (fN (k + 1)) (gN (k + 1)) = true := by decide +kernel
  obtain ⟨j, rfl⟩ : ∃ j, k = j + 1 := ⟨k - 1, by omega⟩
  exact this j (by omega)
theorem enc_U (k v rd : Nat) (hk : k ≤ 67) (h1 : 1 ≤ k) (hf : fmtAt k = 1) (hrd : rd < 32) : encN k v rd 0 0 = rd * 128 + bN v 0 20 * 4096 + cN k ∧ cN k < 128 := by
  have hw := want_parts k hk
  have hb := fixed_bd k hk h1
  rw [hf] at hw hb
  simp [fixedB] at hb
  rw [show gP 1 = 0 from rfl] at hw
  have t0 : bN v 0 20 < 1048576 := bN_lt ..
  unfold encN regsN
  rw [hf, hw]
  have ha : ∀ R, accW 1 v R 4 = (R ||| bN v 0 20 * 2 ^ 12 % 4294967296) := fun R => by
    show stepN v (stepN v (stepN v (stepN v (R) 0 12 20) 0 0 0) 0 0 0) 0 0 0 = _
    simp only [stepN_bN, bN_zero, Nat.zero_mul, Nat.zero_mod, Nat.or_zero]
  rw [ha]
  rw [show bN v 0 20 * 2 ^ 12 % 4294967296 = bN v 0 20 * 4096 by omega]
  rw [show fN k = 0 by omega]
  rw [show gN k = 0 by omega]
  try simp only [Nat.zero_mul]
  try simp only [Nat.or_zero]
  try simp only [Nat.zero_or]
  try simp only [Nat.reducePow]
  try simp only [Nat.mul_one]
  rw [Nat.or_comm]
  rw [or_field (rd * 128) (bN v 0 20) 4096 12 20 1048576 rfl rfl (by omega) (by omega)]
  rw [show (rd * 128 + bN v 0 20 * 4096) ||| cN k = rd * 128 + bN v 0 20 * 4096 + cN k by
    have := or_field (rd * 128 + bN v 0 20 * 4096) (cN k) 1 0 7 128 rfl rfl (by omega) (by omega)
    simpa using this]
  refine ⟨by omega, by omega⟩
theorem enc_J (k v rd : Nat) (hk : k ≤ 67) (h1 : 1 ≤ k) (hf : fmtAt k = 2) (hrd : rd < 32) : encN k v rd 0 0 = rd * 128 + bN v 20 1 * 2147483648 + bN v 1 10 * 2097152 + bN v 11 1 * 1048576 + bN v 12 8 * 4096 + cN k ∧ cN k < 128 := by
  have hw := want_parts k hk
  have hb := fixed_bd k hk h1
  rw [hf] at hw hb
  simp [fixedB] at hb
  rw [show gP 2 = 0 from rfl] at hw
  have t0 : bN v 20 1 < 2 := bN_lt ..
  have t1 : bN v 1 10 < 1024 := bN_lt ..
  have t2 : bN v 11 1 < 2 := bN_lt ..
  have t3 : bN v 12 8 < 256 := bN_lt ..
  unfold encN regsN
  rw [hf, hw]
  have ha : ∀ R, accW 2 v R 4 = ((((R ||| bN v 20 1 * 2 ^ 31 % 4294967296) ||| bN v 1 10 * 2 ^ 21 % 4294967296) ||| bN v 11 1 * 2 ^ 20 % 4294967296) ||| bN v 12 8 * 2 ^ 12 % 4294967296) := fun R => by
    show stepN v (stepN v (stepN v (stepN v (R) 20 31 1) 1 21 10) 11 20 1) 12 12 8 = _
    simp only [stepN_bN]
  rw [ha]
  rw [show bN v 20 1 * 2 ^ 31 % 4294967296 = bN v 20 1 * 2147483648 by omega]
  rw [show bN v 1 10 * 2 ^ 21 % 4294967296 = bN v 1 10 * 2097152 by omega]
  rw [show bN v 11 1 * 2 ^ 20 % 4294967296 = bN v 11 1 * 1048576 by omega]
  rw [show bN v 12 8 * 2 ^ 12 % 4294967296 = bN v 12 8 * 4096 by omega]
  rw [show fN k = 0 by omega]
  rw [show gN k = 0 by omega]
  try simp only [Nat.zero_mul]
  try simp only [Nat.or_zero]
  try simp only [Nat.zero_or]
  try simp only [Nat.reducePow]
  try simp only [Nat.mul_one]
  rw [Nat.or_comm]
  rw [or_field (rd * 128) (bN v 20 1) 2147483648 31 1 2 rfl rfl (by omega) (by omega)]
  rw [or_field (rd * 128 + bN v 20 1 * 2147483648) (bN v 1 10) 2097152 21 10 1024 rfl rfl (by omega) (by omega)]
  rw [or_field (rd * 128 + bN v 20 1 * 2147483648 + bN v 1 10 * 2097152) (bN v 11 1) 1048576 20 1 2 rfl rfl (by omega) (by omega)]
  rw [or_field (rd * 128 + bN v 20 1 * 2147483648 + bN v 1 10 * 2097152 + bN v 11 1 * 1048576) (bN v 12 8) 4096 12 8 256 rfl rfl (by omega) (by omega)]
  rw [show (rd * 128 + bN v 20 1 * 2147483648 + bN v 1 10 * 2097152 + bN v 11 1 * 1048576 + bN v 12 8 * 4096) ||| cN k = rd * 128 + bN v 20 1 * 2147483648 + bN v 1 10 * 2097152 + bN v 11 1 * 1048576 + bN v 12 8 * 4096 + cN k by
    have := or_field (rd * 128 + bN v 20 1 * 2147483648 + bN v 1 10 * 2097152 + bN v 11 1 * 1048576 + bN v 12 8 * 4096) (cN k) 1 0 7 128 rfl rfl (by omega) (by omega)
    simpa using this]
  refine ⟨by omega, by omega⟩
theorem enc_I (k v rd rs1 : Nat) (hk : k ≤ 67) (h1 : 1 ≤ k) (hf : fmtAt k = 3) (hrd : rd < 32) (hrs1 : rs1 < 32) : encN k v rd rs1 0 = rd * 128 + rs1 * 32768 + bN v 0 12 * 1048576 + cN k + fN k * 4096 ∧ cN k < 128 ∧ fN k < 8 := by
  have hw := want_parts k hk
  have hb := fixed_bd k hk h1
  rw [hf] at hw hb
  simp [fixedB] at hb
  rw [show gP 3 = 0 from rfl] at hw
  have t0 : bN v 0 12 < 4096 := bN_lt ..
  unfold encN regsN
  rw [hf, hw]
  have ha : ∀ R, accW 3 v R 4 = (R ||| bN v 0 12 * 2 ^ 20 % 4294967296) := fun R => by
    show stepN v (stepN v (stepN v (stepN v (R) 0 20 12) 0 0 0) 0 0 0) 0 0 0 = _
    simp only [stepN_bN, bN_zero, Nat.zero_mul, Nat.zero_mod, Nat.or_zero]
  rw [ha]
  rw [show bN v 0 12 * 2 ^ 20 % 4294967296 = bN v 0 12 * 1048576 by omega]
  rw [show gN k = 0 by omega]
  try simp only [Nat.zero_mul]
  try simp only [Nat.or_zero]
  try simp only [Nat.zero_or]
  try simp only [Nat.reducePow]
  try simp only [Nat.mul_one]
  rw [Nat.or_comm]
  rw [or_field (rd * 128) (rs1) 32768 15 5 32 rfl rfl (by omega) (by omega)]
  rw [or_field (rd * 128 + rs1 * 32768) (bN v 0 12) 1048576 20 12 4096 rfl rfl (by omega) (by omega)]
  rw [← Nat.or_assoc]
  rw [show (rd * 128 + rs1 * 32768 + bN v 0 12 * 1048576) ||| cN k = rd * 128 + rs1 * 32768 + bN v 0 12 * 1048576 + cN k by
    have := or_field (rd * 128 + rs1 * 32768 + bN v 0 12 * 1048576) (cN k) 1 0 7 128 rfl rfl (by omega) (by omega)
    simpa using this]
  rw [or_field (rd * 128 + rs1 * 32768 + bN v 0 12 * 1048576 + cN k) (fN k) 4096 12 3 8 rfl rfl (by omega) (by omega)]
  refine ⟨by omega, by omega, by omega⟩
theorem enc_L (k v rd rs1 : Nat) (hk : k ≤ 67) (h1 : 1 ≤ k) (hf : fmtAt k = 4) (hrd : rd < 32) (hrs1 : rs1 < 32) : encN k v rd rs1 0 = rd * 128 + rs1 * 32768 + bN v 0 12 * 1048576 + cN k + fN k * 4096 ∧ cN k < 128 ∧ fN k < 8 := by
  have hw := want_parts k hk
  have hb := fixed_bd k hk h1
  rw [hf] at hw hb
  simp [fixedB] at hb
  rw [show gP 4 = 0 from rfl] at hw
  have t0 : bN v 0 12 < 4096 := bN_lt ..
  unfold encN regsN
  rw [hf, hw]
  have ha : ∀ R, accW 4 v R 4 = (R ||| bN v 0 12 * 2 ^ 20 % 4294967296) := fun R => by
    show stepN v (stepN v (stepN v (stepN v (R) 0 20 12) 0 0 0) 0 0 0) 0 0 0 = _
    simp only [stepN_bN, bN_zero, Nat.zero_mul, Nat.zero_mod, Nat.or_zero]
  rw [ha]
  rw [show bN v 0 12 * 2 ^ 20 % 4294967296 = bN v 0 12 * 1048576 by omega]
  rw [show gN k = 0 by omega]
  try simp only [Nat.zero_mul]
  try simp only [Nat.or_zero]
  try simp only [Nat.zero_or]
  try simp only [Nat.reducePow]
  try simp only [Nat.mul_one]
  rw [Nat.or_comm]
  rw [or_field (rd * 128) (rs1) 32768 15 5 32 rfl rfl (by omega) (by omega)]
  rw [or_field (rd * 128 + rs1 * 32768) (bN v 0 12) 1048576 20 12 4096 rfl rfl (by omega) (by omega)]
  rw [← Nat.or_assoc]
  rw [show (rd * 128 + rs1 * 32768 + bN v 0 12 * 1048576) ||| cN k = rd * 128 + rs1 * 32768 + bN v 0 12 * 1048576 + cN k by
    have := or_field (rd * 128 + rs1 * 32768 + bN v 0 12 * 1048576) (cN k) 1 0 7 128 rfl rfl (by omega) (by omega)
    simpa using this]
  rw [or_field (rd * 128 + rs1 * 32768 + bN v 0 12 * 1048576 + cN k) (fN k) 4096 12 3 8 rfl rfl (by omega) (by omega)]
  refine ⟨by omega, by omega, by omega⟩
theorem enc_B (k v rs1 rs2 : Nat) (hk : k ≤ 67) (h1 : 1 ≤ k) (hf : fmtAt k = 5) (hrs1 : rs1 < 32) (hrs2 : rs2 < 32) : encN k v 0 rs1 rs2 = rs1 * 32768 + rs2 * 1048576 + bN v 12 1 * 2147483648 + bN v 5 6 * 33554432 + bN v 1 4 * 256 + bN v 11 1 * 128 + cN k + fN k * 4096 ∧ cN k < 128 ∧ fN k < 8 := by
  have hw := want_parts k hk
  have hb := fixed_bd k hk h1
  rw [hf] at hw hb
  simp [fixedB] at hb
  rw [show gP 5 = 0 from rfl] at hw
  have t0 : bN v 12 1 < 2 := bN_lt ..
  have t1 : bN v 5 6 < 64 := bN_lt ..
  have t2 : bN v 1 4 < 16 := bN_lt ..
  have t3 : bN v 11 1 < 2 := bN_lt ..
  unfold encN regsN
  rw [hf, hw]
  have ha : ∀ R, accW 5 v R 4 = ((((R ||| bN v 12 1 * 2 ^ 31 % 4294967296) ||| bN v 5 6 * 2 ^ 25 % 4294967296) ||| bN v 1 4 * 2 ^ 8 % 4294967296) ||| bN v 11 1 * 2 ^ 7 % 4294967296) := fun R => by
    show stepN v (stepN v (stepN v (stepN v (R) 12 31 1) 5 25 6) 1 8 4) 11 7 1 = _
    simp only [stepN_bN]
  rw [ha]
  rw [show bN v 12 1 * 2 ^ 31 % 4294967296 = bN v 12 1 * 2147483648 by omega]
  rw [show bN v 5 6 * 2 ^ 25 % 4294967296 = bN v 5 6 * 33554432 by omega]
  rw [show bN v 1 4 * 2 ^ 8 % 4294967296 = bN v 1 4 * 256 by omega]
  rw [show bN v 11 1 * 2 ^ 7 % 4294967296 = bN v 11 1 * 128 by omega]
  rw [show gN k = 0 by omega]
  try simp only [Nat.zero_mul]
  try simp only [Nat.or_zero]
  try simp only [Nat.zero_or]
  try simp only [Nat.reducePow]
  try simp only [Nat.mul_one]
  rw [Nat.or_comm]
  rw [or_field (rs1 * 32768) (rs2) 1048576 20 5 32 rfl rfl (by omega) (by omega)]
  rw [or_field (rs1 * 32768 + rs2 * 1048576) (bN v 12 1) 2147483648 31 1 2 rfl rfl (by omega) (by omega)]
  rw [or_field (rs1 * 32768 + rs2 * 1048576 + bN v 12 1 * 2147483648) (bN v 5 6) 33554432 25 6 64 rfl rfl (by omega) (by omega)]
  rw [or_field (rs1 * 32768 + rs2 * 1048576 + bN v 12 1 * 2147483648 + bN v 5 6 * 33554432) (bN v 1 4) 256 8 4 16 rfl rfl (by omega) (by omega)]
  rw [or_field (rs1 * 32768 + rs2 * 1048576 + bN v 12 1 * 2147483648 + bN v 5 6 * 33554432 + bN v 1 4 * 256) (bN v 11 1) 128 7 1 2 rfl rfl (by omega) (by omega)]
  rw [← Nat.or_assoc]
  rw [show (rs1 * 32768 + rs2 * 1048576 + bN v 12 1 * 2147483648 + bN v 5 6 * 33554432 + bN v 1 4 * 256 + bN v 11 1 * 128) ||| cN k = rs1 * 32768 + rs2 * 1048576 + bN v 12 1 * 2147483648 + bN v 5 6 * 33554432 + bN v 1 4 * 256 + bN v 11 1 * 128 + cN k by
    have := or_field (rs1 * 32768 + rs2 * 1048576 + bN v 12 1 * 2147483648 + bN v 5 6 * 33554432 + bN v 1 4 * 256 + bN v 11 1 * 128) (cN k) 1 0 7 128 rfl rfl (by omega) (by omega)
    simpa using this]
  rw [or_field (rs1 * 32768 + rs2 * 1048576 + bN v 12 1 * 2147483648 + bN v 5 6 * 33554432 + bN v 1 4 * 256 + bN v 11 1 * 128 + cN k) (fN k) 4096 12 3 8 rfl rfl (by omega) (by omega)]
  refine ⟨by omega, by omega, by omega⟩
theorem enc_S (k v rs1 rs2 : Nat) (hk : k ≤ 67) (h1 : 1 ≤ k) (hf : fmtAt k = 6) (hrs1 : rs1 < 32) (hrs2 : rs2 < 32) : encN k v 0 rs1 rs2 = rs1 * 32768 + rs2 * 1048576 + bN v 5 7 * 33554432 + bN v 0 5 * 128 + cN k + fN k * 4096 ∧ cN k < 128 ∧ fN k < 8 := by
  have hw := want_parts k hk
  have hb := fixed_bd k hk h1
  rw [hf] at hw hb
  simp [fixedB] at hb
  rw [show gP 6 = 0 from rfl] at hw
  have t0 : bN v 5 7 < 128 := bN_lt ..
  have t1 : bN v 0 5 < 32 := bN_lt ..
  unfold encN regsN
  rw [hf, hw]
  have ha : ∀ R, accW 6 v R 4 = ((R ||| bN v 5 7 * 2 ^ 25 % 4294967296) ||| bN v 0 5 * 2 ^ 7 % 4294967296) := fun R => by
    show stepN v (stepN v (stepN v (stepN v (R) 5 25 7) 0 7 5) 0 0 0) 0 0 0 = _
    simp only [stepN_bN, bN_zero, Nat.zero_mul, Nat.zero_mod, Nat.or_zero]
  rw [ha]
  rw [show bN v 5 7 * 2 ^ 25 % 4294967296 = bN v 5 7 * 33554432 by omega]
  rw [show bN v 0 5 * 2 ^ 7 % 4294967296 = bN v 0 5 * 128 by omega]
  rw [show gN k = 0 by omega]
  try simp only [Nat.zero_mul]
  try simp only [Nat.or_zero]
  try simp only [Nat.zero_or]
  try simp only [Nat.reducePow]
  try simp only [Nat.mul_one]
  rw [Nat.or_comm]
  rw [or_field (rs1 * 32768) (rs2) 1048576 20 5 32 rfl rfl (by omega) (by omega)]
  rw [or_field (rs1 * 32768 + rs2 * 1048576) (bN v 5 7) 33554432 25 7 128 rfl rfl (by omega) (by omega)]
  rw [or_field (rs1 * 32768 + rs2 * 1048576 + bN v 5 7 * 33554432) (bN v 0 5) 128 7 5 32 rfl rfl (by omega) (by omega)]
  rw [← Nat.or_assoc]
  rw [show (rs1 * 32768 + rs2 * 1048576 + bN v 5 7 * 33554432 + bN v 0 5 * 128) ||| cN k = rs1 * 32768 + rs2 * 1048576 + bN v 5 7 * 33554432 + bN v 0 5 * 128 + cN k by
    have := or_field (rs1 * 32768 + rs2 * 1048576 + bN v 5 7 * 33554432 + bN v 0 5 * 128) (cN k) 1 0 7 128 rfl rfl (by omega) (by omega)
    simpa using this]
  rw [or_field (rs1 * 32768 + rs2 * 1048576 + bN v 5 7 * 33554432 + bN v 0 5 * 128 + cN k) (fN k) 4096 12 3 8 rfl rfl (by omega) (by omega)]
  refine ⟨by omega, by omega, by omega⟩
theorem enc_H (k v rd rs1 : Nat) (hk : k ≤ 67) (h1 : 1 ≤ k) (hf : fmtAt k = 7) (hrd : rd < 32) (hrs1 : rs1 < 32) : encN k v rd rs1 0 = rd * 128 + rs1 * 32768 + bN v 0 5 * 1048576 + cN k + fN k * 4096 + gN k * 33554432 ∧ cN k < 128 ∧ fN k < 8 ∧ gN k < 128 := by
  have hw := want_parts k hk
  have hb := fixed_bd k hk h1
  rw [hf] at hw hb
  simp [fixedB] at hb
  rw [show gP 7 = 25 from rfl] at hw
  have t0 : bN v 0 5 < 32 := bN_lt ..
  unfold encN regsN
  rw [hf, hw]
  have ha : ∀ R, accW 7 v R 4 = (R ||| bN v 0 5 * 2 ^ 20 % 4294967296) := fun R => by
    show stepN v (stepN v (stepN v (stepN v (R) 0 20 5) 0 0 0) 0 0 0) 0 0 0 = _
    simp only [stepN_bN, bN_zero, Nat.zero_mul, Nat.zero_mod, Nat.or_zero]
  rw [ha]
  rw [show bN v 0 5 * 2 ^ 20 % 4294967296 = bN v 0 5 * 1048576 by omega]
  try simp only [Nat.zero_mul]
  try simp only [Nat.or_zero]
  try simp only [Nat.zero_or]
  try simp only [Nat.reducePow]
  try simp only [Nat.mul_one]
  rw [Nat.or_comm]
  rw [or_field (rd * 128) (rs1) 32768 15 5 32 rfl rfl (by omega) (by omega)]
  rw [or_field (rd * 128 + rs1 * 32768) (bN v 0 5) 1048576 20 5 32 rfl rfl (by omega) (by omega)]
  rw [← Nat.or_assoc, ← Nat.or_assoc]
  rw [show (rd * 128 + rs1 * 32768 + bN v 0 5 * 1048576) ||| cN k = rd * 128 + rs1 * 32768 + bN v 0 5 * 1048576 + cN k by
    have := or_field (rd * 128 + rs1 * 32768 + bN v 0 5 * 1048576) (cN k) 1 0 7 128 rfl rfl (by omega) (by omega)
    simpa using this]
  rw [or_field (rd * 128 + rs1 * 32768 + bN v 0 5 * 1048576 + cN k) (fN k) 4096 12 3 8 rfl rfl (by omega) (by omega)]
  rw [or_field (rd * 128 + rs1 * 32768 + bN v 0 5 * 1048576 + cN k + fN k * 4096) (gN k) 33554432 25 7 128 rfl rfl (by omega) (by omega)]
  refine ⟨by omega, by omega, by omega, by omega⟩
theorem enc_R (k v rd rs1 rs2 : Nat) (hk : k ≤ 67) (h1 : 1 ≤ k) (hf : fmtAt k = 8) (hrd : rd < 32) (hrs1 : rs1 < 32) (hrs2 : rs2 < 32) : encN k v rd rs1 rs2 = rd * 128 + rs1 * 32768 + rs2 * 1048576 + cN k + fN k * 4096 + gN k * 33554432 ∧ cN k < 128 ∧ fN k < 8 ∧ gN k < 128 := by
  have hw := want_parts k hk
  have hb := fixed_bd k hk h1
  rw [hf] at hw hb
  simp [fixedB] at hb
  rw [show gP 8 = 25 from rfl] at hw
  unfold encN regsN
  rw [hf, hw]
  have ha : ∀ R, accW 8 v R 4 = R := fun R => by
    show stepN v (stepN v (stepN v (stepN v (R) 0 0 0) 0 0 0) 0 0 0) 0 0 0 = _
    simp only [stepN_bN, bN_zero, Nat.zero_mul, Nat.zero_mod, Nat.or_zero]
  rw [ha]
  try simp only [Nat.zero_mul]
  try simp only [Nat.or_zero]
  try simp only [Nat.zero_or]
  try simp only [Nat.reducePow]
  try simp only [Nat.mul_one]
  rw [Nat.or_comm]
  rw [or_field (rd * 128) (rs1) 32768 15 5 32 rfl rfl (by omega) (by omega)]
  rw [or_field (rd * 128 + rs1 * 32768) (rs2) 1048576 20 5 32 rfl rfl (by omega) (by omega)]
  rw [← Nat.or_assoc, ← Nat.or_assoc]
  rw [show (rd * 128 + rs1 * 32768 + rs2 * 1048576) ||| cN k = rd * 128 + rs1 * 32768 + rs2 * 1048576 + cN k by
    have := or_field (rd * 128 + rs1 * 32768 + rs2 * 1048576) (cN k) 1 0 7 128 rfl rfl (by omega) (by omega)
    simpa using this]
  rw [or_field (rd * 128 + rs1 * 32768 + rs2 * 1048576 + cN k) (fN k) 4096 12 3 8 rfl rfl (by omega) (by omega)]
  rw [or_field (rd * 128 + rs1 * 32768 + rs2 * 1048576 + cN k + fN k * 4096) (gN k) 33554432 25 7 128 rfl rfl (by omega) (by omega)]
  refine ⟨by omega, by omega, by omega, by omega⟩
theorem enc_A (k v rd rs1 rs2 : Nat) (hk : k ≤ 67) (h1 : 1 ≤ k) (hf : fmtAt k = 9) (hrd : rd < 32) (hrs1 : rs1 < 32) (hrs2 : rs2 < 32) : encN k v rd rs1 rs2 = rd * 128 + rs1 * 32768 + rs2 * 1048576 + bN v 0 2 * 33554432 + cN k + fN k * 4096 + gN k * 134217728 ∧ cN k < 128 ∧ fN k < 8 ∧ gN k < 32 := by
  have hw := want_parts k hk
  have hb := fixed_bd k hk h1
  rw [hf] at hw hb
  simp [fixedB] at hb
  rw [show gP 9 = 27 from rfl] at hw
  have t0 : bN v 0 2 < 4 := bN_lt ..
  unfold encN regsN
  rw [hf, hw]
  have ha : ∀ R, accW 9 v R 4 = (R ||| bN v 0 2 * 2 ^ 25 % 4294967296) := fun R => by
    show stepN v (stepN v (stepN v (stepN v (R) 0 25 2) 0 0 0) 0 0 0) 0 0 0 = _
    simp only [stepN_bN, bN_zero, Nat.zero_mul, Nat.zero_mod, Nat.or_zero]
  rw [ha]
  rw [show bN v 0 2 * 2 ^ 25 % 4294967296 = bN v 0 2 * 33554432 by omega]
  try simp only [Nat.zero_mul]
  try simp only [Nat.or_zero]
  try simp only [Nat.zero_or]
  try simp only [Nat.reducePow]
  try simp only [Nat.mul_one]
  rw [Nat.or_comm]
  rw [or_field (rd * 128) (rs1) 32768 15 5 32 rfl rfl (by omega) (by omega)]
  rw [or_field (rd * 128 + rs1 * 32768) (rs2) 1048576 20 5 32 rfl rfl (by omega) (by omega)]
  rw [or_field (rd * 128 + rs1 * 32768 + rs2 * 1048576) (bN v 0 2) 33554432 25 2 4 rfl rfl (by omega) (by omega)]
  rw [← Nat.or_assoc, ← Nat.or_assoc]
  rw [show (rd * 128 + rs1 * 32768 + rs2 * 1048576 + bN v 0 2 * 33554432) ||| cN k = rd * 128 + rs1 * 32768 + rs2 * 1048576 + bN v 0 2 * 33554432 + cN k by
    have := or_field (rd * 128 + rs1 * 32768 + rs2 * 1048576 + bN v 0 2 * 33554432) (cN k) 1 0 7 128 rfl rfl (by omega) (by omega)
    simpa using this]
  rw [or_field (rd * 128 + rs1 * 32768 + rs2 * 1048576 + bN v 0 2 * 33554432 + cN k) (fN k) 4096 12 3 8 rfl rfl (by omega) (by omega)]
  rw [or_field (rd * 128 + rs1 * 32768 + rs2 * 1048576 + bN v 0 2 * 33554432 + cN k + fN k * 4096) (gN k) 134217728 27 5 32 rfl rfl (by omega) (by omega)]
  refine ⟨by omega, by omega, by omega, by omega⟩
theorem enc_K (k v rd rs1 : Nat) (hk : k ≤ 67) (h1 : 1 ≤ k) (hf : fmtAt k = 10) (hrd : rd < 32) (hrs1 : rs1 < 32) : encN k v rd rs1 0 = rd * 128 + rs1 * 32768 + bN v 0 2 * 33554432 + cN k + fN k * 4096 + gN k * 134217728 ∧ cN k < 128 ∧ fN k < 8 ∧ gN k < 32 := by
  have hw := want_parts k hk
  have hb := fixed_bd k hk h1
  rw [hf] at hw hb
  simp [fixedB] at hb
  rw [show gP 10 = 27 from rfl] at hw
  have t0 : bN v 0 2 < 4 := bN_lt ..
  unfold encN regsN
  rw [hf, hw]
  have ha : ∀ R, accW 10 v R 4 = (R ||| bN v 0 2 * 2 ^ 25 % 4294967296) := fun R => by
    show stepN v (stepN v (stepN v (stepN v (R) 0 25 2) 0 0 0) 0 0 0) 0 0 0 = _
    simp only [stepN_bN, bN_zero, Nat.zero_mul, Nat.zero_mod, Nat.or_zero]
  rw [ha]
  rw [show bN v 0 2 * 2 ^ 25 % 4294967296 = bN v 0 2 * 33554432 by omega]
  try simp only [Nat.zero_mul]
  try simp only [Nat.or_zero]
  try simp only [Nat.zero_or]
  try simp only [Nat.reducePow]
  try simp only [Nat.mul_one]
  rw [Nat.or_comm]
  rw [or_field (rd * 128) (rs1) 32768 15 5 32 rfl rfl (by omega) (by omega)]
  rw [or_field (rd * 128 + rs1 * 32768) (bN v 0 2) 33554432 25 2 4 rfl rfl (by omega) (by omega)]
  rw [← Nat.or_assoc, ← Nat.or_assoc]
  rw [show (rd * 128 + rs1 * 32768 + bN v 0 2 * 33554432) ||| cN k = rd * 128 + rs1 * 32768 + bN v 0 2 * 33554432 + cN k by
    have := or_field (rd * 128 + rs1 * 32768 + bN v 0 2 * 33554432) (cN k) 1 0 7 128 rfl rfl (by omega) (by omega)
    simpa using this]
  rw [or_field (rd * 128 + rs1 * 32768 + bN v 0 2 * 33554432 + cN k) (fN k) 4096 12 3 8 rfl rfl (by omega) (by omega)]
  rw [or_field (rd * 128 + rs1 * 32768 + bN v 0 2 * 33554432 + cN k + fN k * 4096) (gN k) 134217728 27 5 32 rfl rfl (by omega) (by omega)]
  refine ⟨by omega, by omega, by omega, by omega⟩
theorem enc_F (k v : Nat) (hk : k ≤ 67) (h1 : 1 ≤ k) (hf : fmtAt k = 11)  : encN k v 0 0 0 = bN v 0 8 * 1048576 + cN k ∧ cN k < 128 := by
  have hw := want_parts k hk
  have hb := fixed_bd k hk h1
  rw [hf] at hw hb
  simp [fixedB] at hb
  rw [show gP 11 = 0 from rfl] at hw
  have t0 : bN v 0 8 < 256 := bN_lt ..
  unfold encN regsN
  rw [hf, hw]
  have ha : ∀ R, accW 11 v R 4 = (R ||| bN v 0 8 * 2 ^ 20 % 4294967296) := fun R => by
    show stepN v (stepN v (stepN v (stepN v (R) 0 20 8) 0 0 0) 0 0 0) 0 0 0 = _
    simp only [stepN_bN, bN_zero, Nat.zero_mul, Nat.zero_mod, Nat.or_zero]
  rw [ha]
  rw [show bN v 0 8 * 2 ^ 20 % 4294967296 = bN v 0 8 * 1048576 by omega]
  rw [show fN k = 0 by omega]
  rw [show gN k = 0 by omega]
  try simp only [Nat.zero_mul]
  try simp only [Nat.or_zero]
  try simp only [Nat.zero_or]
  try simp only [Nat.reducePow]
  try simp only [Nat.mul_one]
  rw [Nat.or_comm]
  rw [show (bN v 0 8 * 1048576) ||| cN k = bN v 0 8 * 1048576 + cN k by
    have := or_field (bN v 0 8 * 1048576) (cN k) 1 0 7 128 rfl rfl (by omega) (by omega)
    simpa using this]
  refine ⟨by omega, by omega⟩
theorem enc_N (k v : Nat) (hk : k ≤ 67) (h1 : 1 ≤ k) (hf : fmtAt k = 12)  : encN k v 0 0 0 = cN k + gN k * 1048576 ∧ cN k < 128 ∧ gN k < 4096 := by
  have hw := want_parts k hk
  have hb := fixed_bd k hk h1
  rw [hf] at hw hb
  simp [fixedB] at hb
  rw [show gP 12 = 20 from rfl] at hw
  unfold encN regsN
  rw [hf, hw]
  have ha : ∀ R, accW 12 v R 4 = R := fun R => by
    show stepN v (stepN v (stepN v (stepN v (R) 0 0 0) 0 0 0) 0 0 0) 0 0 0 = _
    simp only [stepN_bN, bN_zero, Nat.zero_mul, Nat.zero_mod, Nat.or_zero]
  rw [ha]
  rw [show fN k = 0 by omega]
  try simp only [Nat.zero_mul]
  try simp only [Nat.or_zero]
  try simp only [Nat.zero_or]
  try simp only [Nat.reducePow]
  try simp only [Nat.mul_one]
  rw [or_field (cN k) (gN k) 1048576 20 12 4096 rfl rfl (by omega) (by omega)]
  refine ⟨by omega, by omega, by omega⟩
theorem enc_C (k v rd rs1 : Nat) (hk : k ≤ 67) (h1 : 1 ≤ k) (hf : fmtAt k = 13) (hrd : rd < 32) (hrs1 : rs1 < 32) : encN k v rd rs1 0 = rd * 128 + rs1 * 32768 + bN v 0 12 * 1048576 + cN k + fN k * 4096 ∧ cN k < 128 ∧ fN k < 8 := by
  have hw := want_parts k hk
  have hb := fixed_bd k hk h1
  rw [hf] at hw hb
  simp [fixedB] at hb
  rw [show gP 13 = 0 from rfl] at hw
  have t0 : bN v 0 12 < 4096 := bN_lt ..
  unfold encN regsN
  rw [hf, hw]
  have ha : ∀ R, accW 13 v R 4 = (R ||| bN v 0 12 * 2 ^ 20 % 4294967296) := fun R => by
    show stepN v (stepN v (stepN v (stepN v (R) 0 20 12) 0 0 0) 0 0 0) 0 0 0 = _
    simp only [stepN_bN, bN_zero, Nat.zero_mul, Nat.zero_mod, Nat.or_zero]
  rw [ha]
  rw [show bN v 0 12 * 2 ^ 20 % 4294967296 = bN v 0 12 * 1048576 by omega]
  rw [show gN k = 0 by omega]
  try simp only [Nat.zero_mul]
  try simp only [Nat.or_zero]
  try simp only [Nat.zero_or]
  try simp only [Nat.reducePow]
  try simp only [Nat.mul_one]
  rw [Nat.or_comm]
  rw [or_field (rd * 128) (rs1) 32768 15 5 32 rfl rfl (by omega) (by omega)]
  rw [or_field (rd * 128 + rs1 * 32768) (bN v 0 12) 1048576 20 12 4096 rfl rfl (by omega) (by omega)]
  rw [← Nat.or_assoc]
  rw [show (rd * 128 + rs1 * 32768 + bN v 0 12 * 1048576) ||| cN k = rd * 128 + rs1 * 32768 + bN v 0 12 * 1048576 + cN k by
    have := or_field (rd * 128 + rs1 * 32768 + bN v 0 12 * 1048576) (cN k) 1 0 7 128 rfl rfl (by omega) (by omega)
    simpa using this]
  rw [or_field (rd * 128 + rs1 * 32768 + bN v 0 12 * 1048576 + cN k) (fN k) 4096 12 3 8 rfl rfl (by omega) (by omega)]
  refine ⟨by omega, by omega, by omega⟩
theorem enc_D (k v rd rs1 : Nat) (hk : k ≤ 67) (h1 : 1 ≤ k) (hf : fmtAt k = 14) (hrd : rd < 32) (hrs1 : rs1 < 32) : encN k v rd rs1 0 = rd * 128 + rs1 * 32768 + bN v 0 12 * 1048576 + cN k + fN k * 4096 ∧ cN k < 128 ∧ fN k < 8 := by
  have hw := want_parts k hk
  have hb := fixed_bd k hk h1
  rw [hf] at hw hb
  simp [fixedB] at hb
  rw [show gP 14 = 0 from rfl] at hw
  have t0 : bN v 0 12 < 4096 := bN_lt ..
  unfold encN regsN
  rw [hf, hw]
  have ha : ∀ R, accW 14 v R 4 = (R ||| bN v 0 12 * 2 ^ 20 % 4294967296) := fun R => by
    show stepN v (stepN v (stepN v (stepN v (R) 0 20 12) 0 0 0) 0 0 0) 0 0 0 = _
    simp only [stepN_bN, bN_zero, Nat.zero_mul, Nat.zero_mod, Nat.or_zero]
  rw [ha]
  rw [show bN v 0 12 * 2 ^ 20 % 4294967296 = bN v 0 12 * 1048576 by omega]
  rw [show gN k = 0 by omega]
  try simp only [Nat.zero_mul]
  try simp only [Nat.or_zero]
  try simp only [Nat.zero_or]
  try simp only [Nat.reducePow]
  try simp only [Nat.mul_one]
  rw [Nat.or_comm]
  rw [or_field (rd * 128) (rs1) 32768 15 5 32 rfl rfl (by omega) (by omega)]
  rw [or_field (rd * 128 + rs1 * 32768) (bN v 0 12) 1048576 20 12 4096 rfl rfl (by omega) (by omega)]
  rw [← Nat.or_assoc]
  rw [show (rd * 128 + rs1 * 32768 + bN v 0 12 * 1048576) ||| cN k = rd * 128 + rs1 * 32768 + bN v 0 12 * 1048576 + cN k by
    have := or_field (rd * 128 + rs1 * 32768 + bN v 0 12 * 1048576) (cN k) 1 0 7 128 rfl rfl (by omega) (by omega)
    simpa using this]
  rw [or_field (rd * 128 + rs1 * 32768 + bN v 0 12 * 1048576 + cN k) (fN k) 4096 12 3 8 rfl rfl (by omega) (by omega)]
  refine ⟨by omega, by omega, by omega⟩
end Go.Proofs.YtcepcjodhmjghaaDoor
