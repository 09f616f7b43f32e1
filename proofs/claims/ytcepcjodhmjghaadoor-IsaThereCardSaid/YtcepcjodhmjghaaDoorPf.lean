/-
  PLAIN NUMBERS: what is written is read again, and what is read is written again.
-/
import Derived.Test.YtcepcjodhmjghaaDoorPe
namespace Go.Proofs.YtcepcjodhmjghaaDoor
open Go Go.RowKit
theorem and_field (x p n : Nat) : x &&& ((2 ^ n - 1) * 2 ^ p) = x / 2 ^ p % 2 ^ n * 2 ^ p := by
  apply Nat.eq_of_testBit_eq
  intro i
  simp only [Nat.testBit_and, Nat.testBit_mul_two_pow, Nat.testBit_two_pow_sub_one, Nat.testBit_mod_two_pow, Nat.testBit_div_two_pow]
  by_cases h : p ≤ i
  · have h2 : i - p + p = i := by omega
    simp [h, h2]
    cases x.testBit i <;> simp
  · simp [h]
theorem and_fieldm (x p n m M L : Nat) (hm : m = 2 ^ p) (hL : L = 2 ^ n) (hM : M = (2 ^ n - 1) * 2 ^ p) : x &&& M = x / m % L * m := by
  subst hm hL hM; exact and_field x p n
theorem mask_127 (x : Nat) : x &&& 127 = x / 1 % 128 * 1 := by
  exact and_fieldm x 0 7 1 127 128 rfl rfl rfl
theorem mask_28799 (x : Nat) : x &&& 28799 = x / 1 % 128 * 1 + x / 4096 % 8 * 4096 := by
  rw [show (28799 : Nat) = (127 ||| 28672) by decide]
  rw [Nat.and_or_distrib_left]
  rw [and_fieldm x 0 7 1 127 128 rfl rfl rfl]
  rw [and_fieldm x 12 3 4096 28672 8 rfl rfl rfl]
  rw [or_field (x / 1 % 128 * 1) (x / 4096 % 8) 4096 12 3 8 rfl rfl (by omega) (by omega)]
theorem mask_4261441663 (x : Nat) : x &&& 4261441663 = x / 1 % 128 * 1 + x / 4096 % 8 * 4096 + x / 33554432 % 128 * 33554432 := by
  rw [show (4261441663 : Nat) = ((127 ||| 28672) ||| 4261412864) by decide]
  rw [Nat.and_or_distrib_left, Nat.and_or_distrib_left]
  rw [and_fieldm x 0 7 1 127 128 rfl rfl rfl]
  rw [and_fieldm x 12 3 4096 28672 8 rfl rfl rfl]
  rw [and_fieldm x 25 7 33554432 4261412864 128 rfl rfl rfl]
  rw [or_field (x / 1 % 128 * 1) (x / 4096 % 8) 4096 12 3 8 rfl rfl (by omega) (by omega)]
  rw [or_field (x / 1 % 128 * 1 + x / 4096 % 8 * 4096) (x / 33554432 % 128) 33554432 25 7 128 rfl rfl (by omega) (by omega)]
theorem mask_4160778367 (x : Nat) : x &&& 4160778367 = x / 1 % 128 * 1 + x / 4096 % 8 * 4096 + x / 134217728 % 32 * 134217728 := by
  rw [show (4160778367 : Nat) = ((127 ||| 28672) ||| 4160749568) by decide]
  rw [Nat.and_or_distrib_left, Nat.and_or_distrib_left]
  rw [and_fieldm x 0 7 1 127 128 rfl rfl rfl]
  rw [and_fieldm x 12 3 4096 28672 8 rfl rfl rfl]
  rw [and_fieldm x 27 5 134217728 4160749568 32 rfl rfl rfl]
  rw [or_field (x / 1 % 128 * 1) (x / 4096 % 8) 4096 12 3 8 rfl rfl (by omega) (by omega)]
  rw [or_field (x / 1 % 128 * 1 + x / 4096 % 8 * 4096) (x / 134217728 % 32) 134217728 27 5 32 rfl rfl (by omega) (by omega)]
theorem mask_4193284223 (x : Nat) : x &&& 4193284223 = x / 1 % 128 * 1 + x / 4096 % 8 * 4096 + x / 1048576 % 32 * 1048576 + x / 134217728 % 32 * 134217728 := by
  rw [show (4193284223 : Nat) = (((127 ||| 28672) ||| 32505856) ||| 4160749568) by decide]
  rw [Nat.and_or_distrib_left, Nat.and_or_distrib_left, Nat.and_or_distrib_left]
  rw [and_fieldm x 0 7 1 127 128 rfl rfl rfl]
  rw [and_fieldm x 12 3 4096 28672 8 rfl rfl rfl]
  rw [and_fieldm x 20 5 1048576 32505856 32 rfl rfl rfl]
  rw [and_fieldm x 27 5 134217728 4160749568 32 rfl rfl rfl]
  rw [or_field (x / 1 % 128 * 1) (x / 4096 % 8) 4096 12 3 8 rfl rfl (by omega) (by omega)]
  rw [or_field (x / 1 % 128 * 1 + x / 4096 % 8 * 4096) (x / 1048576 % 32) 1048576 20 5 32 rfl rfl (by omega) (by omega)]
  rw [or_field (x / 1 % 128 * 1 + x / 4096 % 8 * 4096 + x / 1048576 % 32 * 1048576) (x / 134217728 % 32) 134217728 27 5 32 rfl rfl (by omega) (by omega)]
theorem mask_4027580415 (x : Nat) : x &&& 4027580415 = x / 1 % 1048576 * 1 + x / 268435456 % 16 * 268435456 := by
  rw [show (4027580415 : Nat) = (1048575 ||| 4026531840) by decide]
  rw [Nat.and_or_distrib_left]
  rw [and_fieldm x 0 20 1 1048575 1048576 rfl rfl rfl]
  rw [and_fieldm x 28 4 268435456 4026531840 16 rfl rfl rfl]
  rw [or_field (x / 1 % 1048576 * 1) (x / 268435456 % 16) 268435456 28 4 16 rfl rfl (by omega) (by omega)]
theorem mask_4294967295 (x : Nat) : x &&& 4294967295 = x / 1 % 4294967296 * 1 := by
  exact and_fieldm x 0 32 1 4294967295 4294967296 rfl rfl rfl
theorem mask_fmt (k : Nat) (hk : k ≤ 67) : maskN k = (lyFixed (fmtAt k)).toNat := by
  have : ∀ k, k < 68 → maskN k = (lyFixed (fmtAt k)).toNat := by decide +kernel
  exact this k (by omega)
theorem rfit_true (r : Int) : rfit true r = true ↔ 0 ≤ r ∧ r ≤ 31 := by
  unfold rfit; simp; omega
theorem rfit_false (r : Int) : rfit false r = true ↔ r = 0 := by
  unfold rfit; simp
theorem fitB_iff (f : Nat) (rd rs1 rs2 imm : Int) : fitB f rd rs1 rs2 imm = true ↔ rfit (lyRd f) rd = true ∧ rfit (lyRs1 f) rs1 = true ∧ rfit (lyRs2 f) rs2 = true ∧ lyLow f ≤ imm ∧ imm ≤ lyHigh f ∧ (lyEven f = true → imm % 2 = 0) := by
  unfold fitB
  have e : (imm.tmod 2 != 0) = false ↔ imm % 2 = 0 := by
    rw [bne_eq_false_iff_eq, ← Int.dvd_iff_tmod_eq_zero, Int.dvd_iff_emod_eq_zero]
  cases he : lyEven f
  · simp
  · simp only [Bool.and_eq_true, decide_eq_true_eq, Bool.not_eq_true', Bool.true_and, e, forall_const]
theorem want_sum_gen (k : Nat) (hk : k ≤ 67) (h1 : 1 ≤ k) : wantN k = cN k + fN k * 4096 + gN k * 2 ^ gP (fmtAt k) := by
  have : ∀ k, k < 67 → wantN (k + 1) = cN (k + 1) + fN (k + 1) * 4096 + gN (k + 1) * 2 ^ gP (fmtAt (k + 1)) := by decide +kernel
  obtain ⟨j, rfl⟩ : ∃ j, k = j + 1 := ⟨k - 1, by omega⟩
  exact this j (by omega)
theorem bsplit (x p n q : Nat) (h : q = p + n) : x / 2 ^ p = x / 2 ^ q * 2 ^ n + bN x p n := by
  subst h
  unfold bN
  rw [Nat.pow_add, ← Nat.div_div_eq_div_mul]
  have := Nat.div_add_mod (x / 2 ^ p) (2 ^ n)
  rw [Nat.mul_comm] at this
  omega
theorem part_U (x : Nat) (hx : x < 4294967296) : x = bN x 0 7 + bN x 7 5 * 128 + bN x 12 20 * 4096 := by
  have e0 := bsplit x 0 7 7 rfl
  have e1 := bsplit x 7 5 12 rfl
  have e2 := bsplit x 12 20 32 rfl
  simp only [Nat.reducePow, Nat.div_one] at e0 e1 e2
  have z : x / 4294967296 = 0 := Nat.div_eq_of_lt hx
  rw [z] at e2
  generalize x / 128 = X7 at *
  generalize x / 4096 = X12 at *
  generalize bN x 0 7 = b0 at *
  generalize bN x 7 5 = b1 at *
  generalize bN x 12 20 = b2 at *
  omega
theorem part_J (x : Nat) (hx : x < 4294967296) : x = bN x 0 7 + bN x 7 5 * 128 + bN x 12 8 * 4096 + bN x 20 1 * 1048576 + bN x 21 10 * 2097152 + bN x 31 1 * 2147483648 := by
  have e0 := bsplit x 0 7 7 rfl
  have e1 := bsplit x 7 5 12 rfl
  have e2 := bsplit x 12 8 20 rfl
  have e3 := bsplit x 20 1 21 rfl
  have e4 := bsplit x 21 10 31 rfl
  have e5 := bsplit x 31 1 32 rfl
  simp only [Nat.reducePow, Nat.div_one] at e0 e1 e2 e3 e4 e5
  have z : x / 4294967296 = 0 := Nat.div_eq_of_lt hx
  rw [z] at e5
  generalize x / 128 = X7 at *
  generalize x / 4096 = X12 at *
  generalize x / 1048576 = X20 at *
  generalize x / 2097152 = X21 at *
  generalize x / 2147483648 = X31 at *
  generalize bN x 0 7 = b0 at *
  generalize bN x 7 5 = b1 at *
  generalize bN x 12 8 = b2 at *
  generalize bN x 20 1 = b3 at *
  generalize bN x 21 10 = b4 at *
  generalize bN x 31 1 = b5 at *
  omega
theorem part_I (x : Nat) (hx : x < 4294967296) : x = bN x 0 7 + bN x 7 5 * 128 + bN x 12 3 * 4096 + bN x 15 5 * 32768 + bN x 20 12 * 1048576 := by
  have e0 := bsplit x 0 7 7 rfl
  have e1 := bsplit x 7 5 12 rfl
  have e2 := bsplit x 12 3 15 rfl
  have e3 := bsplit x 15 5 20 rfl
  have e4 := bsplit x 20 12 32 rfl
  simp only [Nat.reducePow, Nat.div_one] at e0 e1 e2 e3 e4
  have z : x / 4294967296 = 0 := Nat.div_eq_of_lt hx
  rw [z] at e4
  generalize x / 128 = X7 at *
  generalize x / 4096 = X12 at *
  generalize x / 32768 = X15 at *
  generalize x / 1048576 = X20 at *
  generalize bN x 0 7 = b0 at *
  generalize bN x 7 5 = b1 at *
  generalize bN x 12 3 = b2 at *
  generalize bN x 15 5 = b3 at *
  generalize bN x 20 12 = b4 at *
  omega
theorem part_B (x : Nat) (hx : x < 4294967296) : x = bN x 0 7 + bN x 7 1 * 128 + bN x 8 4 * 256 + bN x 12 3 * 4096 + bN x 15 5 * 32768 + bN x 20 5 * 1048576 + bN x 25 6 * 33554432 + bN x 31 1 * 2147483648 := by
  have e0 := bsplit x 0 7 7 rfl
  have e1 := bsplit x 7 1 8 rfl
  have e2 := bsplit x 8 4 12 rfl
  have e3 := bsplit x 12 3 15 rfl
  have e4 := bsplit x 15 5 20 rfl
  have e5 := bsplit x 20 5 25 rfl
  have e6 := bsplit x 25 6 31 rfl
  have e7 := bsplit x 31 1 32 rfl
  simp only [Nat.reducePow, Nat.div_one] at e0 e1 e2 e3 e4 e5 e6 e7
  have z : x / 4294967296 = 0 := Nat.div_eq_of_lt hx
  rw [z] at e7
  generalize x / 128 = X7 at *
  generalize x / 256 = X8 at *
  generalize x / 4096 = X12 at *
  generalize x / 32768 = X15 at *
  generalize x / 1048576 = X20 at *
  generalize x / 33554432 = X25 at *
  generalize x / 2147483648 = X31 at *
  generalize bN x 0 7 = b0 at *
  generalize bN x 7 1 = b1 at *
  generalize bN x 8 4 = b2 at *
  generalize bN x 12 3 = b3 at *
  generalize bN x 15 5 = b4 at *
  generalize bN x 20 5 = b5 at *
  generalize bN x 25 6 = b6 at *
  generalize bN x 31 1 = b7 at *
  omega
theorem part_S (x : Nat) (hx : x < 4294967296) : x = bN x 0 7 + bN x 7 5 * 128 + bN x 12 3 * 4096 + bN x 15 5 * 32768 + bN x 20 5 * 1048576 + bN x 25 7 * 33554432 := by
  have e0 := bsplit x 0 7 7 rfl
  have e1 := bsplit x 7 5 12 rfl
  have e2 := bsplit x 12 3 15 rfl
  have e3 := bsplit x 15 5 20 rfl
  have e4 := bsplit x 20 5 25 rfl
  have e5 := bsplit x 25 7 32 rfl
  simp only [Nat.reducePow, Nat.div_one] at e0 e1 e2 e3 e4 e5
  have z : x / 4294967296 = 0 := Nat.div_eq_of_lt hx
  rw [z] at e5
  generalize x / 128 = X7 at *
  generalize x / 4096 = X12 at *
  generalize x / 32768 = X15 at *
  generalize x / 1048576 = X20 at *
  generalize x / 33554432 = X25 at *
  generalize bN x 0 7 = b0 at *
  generalize bN x 7 5 = b1 at *
  generalize bN x 12 3 = b2 at *
  generalize bN x 15 5 = b3 at *
  generalize bN x 20 5 = b4 at *
  generalize bN x 25 7 = b5 at *
  omega
theorem part_A (x : Nat) (hx : x < 4294967296) : x = bN x 0 7 + bN x 7 5 * 128 + bN x 12 3 * 4096 + bN x 15 5 * 32768 + bN x 20 5 * 1048576 + bN x 25 2 * 33554432 + bN x 27 5 * 134217728 := by
  have e0 := bsplit x 0 7 7 rfl
  have e1 := bsplit x 7 5 12 rfl
  have e2 := bsplit x 12 3 15 rfl
  have e3 := bsplit x 15 5 20 rfl
  have e4 := bsplit x 20 5 25 rfl
  have e5 := bsplit x 25 2 27 rfl
  have e6 := bsplit x 27 5 32 rfl
  simp only [Nat.reducePow, Nat.div_one] at e0 e1 e2 e3 e4 e5 e6
  have z : x / 4294967296 = 0 := Nat.div_eq_of_lt hx
  rw [z] at e6
  generalize x / 128 = X7 at *
  generalize x / 4096 = X12 at *
  generalize x / 32768 = X15 at *
  generalize x / 1048576 = X20 at *
  generalize x / 33554432 = X25 at *
  generalize x / 134217728 = X27 at *
  generalize bN x 0 7 = b0 at *
  generalize bN x 7 5 = b1 at *
  generalize bN x 12 3 = b2 at *
  generalize bN x 15 5 = b3 at *
  generalize bN x 20 5 = b4 at *
  generalize bN x 25 2 = b5 at *
  generalize bN x 27 5 = b6 at *
  omega
theorem part_F (x : Nat) (hx : x < 4294967296) : x = bN x 0 20 + bN x 20 8 * 1048576 + bN x 28 4 * 268435456 := by
  have e0 := bsplit x 0 20 20 rfl
  have e1 := bsplit x 20 8 28 rfl
  have e2 := bsplit x 28 4 32 rfl
  simp only [Nat.reducePow, Nat.div_one] at e0 e1 e2
  have z : x / 4294967296 = 0 := Nat.div_eq_of_lt hx
  rw [z] at e2
  generalize x / 1048576 = X20 at *
  generalize x / 268435456 = X28 at *
  generalize bN x 0 20 = b0 at *
  generalize bN x 20 8 = b1 at *
  generalize bN x 28 4 = b2 at *
  omega
theorem getx_U (x rd y0 c : Nat) (hs : x = rd * 128 + y0 * 4096 + c) (h_rd : rd < 32) (h_y0 : y0 < 1048576) (h_c : c < 128) : x / 128 % 32 = rd ∧ x / 4096 % 1048576 = y0 ∧ x / 1 % 128 * 1 = c := by
  refine ⟨by omega, by omega, by omega⟩
theorem getv_U (v y0 : Nat) (imm : Int) (u0 : bN v 0 20 = y0) (hv : imm % 4294967296 = (v : Int)) (hlo : 0 ≤ imm) (hhi : imm ≤ 1048575) : ((y0 : Nat) : Int) = imm := by
  have t0 := bN_lt v 0 20
  have e0 := bsplit v 0 20 20 rfl
  rw [u0] at t0
  rw [u0] at e0
  simp only [Nat.div_one, Nat.reducePow] at e0 t0
  generalize v / 1048576 = X20 at e0
  omega
theorem there_U (k v x rd : Nat) (imm : Int) (hk : k ≤ 67) (h1 : 1 ≤ k) (hf : fmtAt k = 1) (hrd : rd < 32) (hv : imm % 4294967296 = (v : Int)) (hlo : 0 ≤ imm) (hhi : imm ≤ 1048575) (hx : encN k v rd 0 0 = x) : matchB k x = true ∧ rdI 1 x = (rd : Nat) ∧ rs1I 1 x = (0 : Nat) ∧ rs2I 1 x = (0 : Nat) ∧ immI 1 x = imm := by
  obtain ⟨hs, a0⟩ := enc_U k v rd hk h1 hf hrd
  rw [hx] at hs
  have hw := want_sum_gen k hk h1
  have hb := fixed_bd k hk h1
  have hm := mask_fmt k hk
  rw [hf] at hw hb hm
  rw [show gP 1 = 0 from rfl] at hw
  rw [show (lyFixed 1).toNat = 127 from rfl] at hm
  simp [fixedB] at hb
  obtain ⟨r0, b0, hmask⟩ := getx_U x rd (bN v 0 20) (cN k) hs hrd (bN_lt ..) a0
  have s0 : rdI 1 x = (rd : Nat) := by
    show regZ true ((x : Int) / 128) = _
    rw [(regZ_bN x).1, show bN x 7 5 = rd from r0]
  refine ⟨?_, s0, rfl, rfl, ?_⟩
  · unfold matchB
    rw [hm, mask_127, hw, beq_iff_eq, hmask] <;> omega
  · rw [imm_U x, show bN x 12 20 = bN v 0 20 from b0]
    exact getv_U v _ imm rfl hv hlo hhi
theorem back_U (k v x : Nat) (hk : k ≤ 67) (h1 : 1 ≤ k) (hf : fmtAt k = 1) (hx : x < 4294967296) (hmx : matchB k x = true) (hv : immI 1 x % 4294967296 = (v : Int)) : encN k v (bN x 7 5) 0 0 = x := by
  have l0 : bN x 7 5 < 32 := bN_lt ..
  obtain ⟨hs, a0⟩ := enc_U k v (bN x 7 5) hk h1 hf l0
  rw [hs]
  have hw := want_sum_gen k hk h1
  have hb := fixed_bd k hk h1
  have hm := mask_fmt k hk
  rw [hf] at hw hb hm
  rw [show gP 1 = 0 from rfl] at hw
  rw [show (lyFixed 1).toNat = 127 from rfl] at hm
  simp [fixedB] at hb
  unfold matchB at hmx
  rw [hm, mask_127, hw, beq_iff_eq] at hmx
  clear hs hw hm
  have hp := part_U x hx
  have m_0_7 : x / 1 % 128 = bN x 0 7 := rfl
  rw [m_0_7] at hmx
  have c_0_7 : bN x 0 7 < 128 := bN_lt ..
  have c_7_5 : bN x 7 5 < 32 := bN_lt ..
  have c_12_20 : bN x 12 20 < 1048576 := bN_lt ..
  have hvv : v = bN x 12 20 := by
    rw [imm_U x] at hv
    clear hp hmx hb
    omega
  have w0 : bN v 0 20 = bN x 12 20 := by
    show v / 1 % 1048576 = _
    clear hp hmx hb hv
    omega
  rw [w0]
  clear hvv hv w0
  clear m_0_7
  generalize bN x 0 7 = B0_7 at *
  generalize bN x 7 5 = B7_5 at *
  generalize bN x 12 20 = B12_20 at *
  omega
theorem getx_J (x rd y0 y1 y2 y3 c : Nat) (hs : x = rd * 128 + y0 * 2147483648 + y1 * 2097152 + y2 * 1048576 + y3 * 4096 + c) (h_rd : rd < 32) (h_y0 : y0 < 2) (h_y1 : y1 < 1024) (h_y2 : y2 < 2) (h_y3 : y3 < 256) (h_c : c < 128) : x / 128 % 32 = rd ∧ x / 2147483648 % 2 = y0 ∧ x / 2097152 % 1024 = y1 ∧ x / 1048576 % 2 = y2 ∧ x / 4096 % 256 = y3 ∧ x / 1 % 128 * 1 = c := by
  refine ⟨by omega, by omega, by omega, by omega, by omega, by omega⟩
theorem getv_J (v y0 y1 y2 y3 : Nat) (imm : Int) (u0 : bN v 20 1 = y0) (u1 : bN v 1 10 = y1) (u2 : bN v 11 1 = y2) (u3 : bN v 12 8 = y3) (hv : imm % 4294967296 = (v : Int)) (hlo : -1048576 ≤ imm) (hhi : imm ≤ 1048574) (hev : imm % 2 = 0) : sgn (y1 * 2 + y2 * 2048 + y3 * 4096 + y0 * 1048576) 21 = imm := by
  have t0 := bN_lt v 20 1
  have t1 := bN_lt v 1 10
  have t2 := bN_lt v 11 1
  have t3 := bN_lt v 12 8
  have e0 := bsplit v 1 10 11 rfl
  have e1 := bsplit v 11 1 12 rfl
  have e2 := bsplit v 12 8 20 rfl
  have e3 := bsplit v 20 1 21 rfl
  rw [u0] at t0
  rw [u0] at e3
  rw [u1] at t1
  rw [u1] at e0
  rw [u2] at t2
  rw [u2] at e1
  rw [u3] at t3
  rw [u3] at e2
  simp only [Nat.reducePow] at e0 e1 e2 e3 t0 t1 t2 t3
  generalize v / 2048 = X11 at e0 e1 e2 e3
  generalize v / 4096 = X12 at e0 e1 e2 e3
  generalize v / 1048576 = X20 at e0 e1 e2 e3
  generalize v / 2097152 = X21 at e0 e1 e2 e3
  have ev : v = v / 2 * 2 := by omega
  generalize v / 2 = X1 at e0 e1 e2 e3 ev
  unfold sgn
  split <;> omega
theorem there_J (k v x rd : Nat) (imm : Int) (hk : k ≤ 67) (h1 : 1 ≤ k) (hf : fmtAt k = 2) (hrd : rd < 32) (hv : imm % 4294967296 = (v : Int)) (hlo : -1048576 ≤ imm) (hhi : imm ≤ 1048574) (hev : imm % 2 = 0) (hx : encN k v rd 0 0 = x) : matchB k x = true ∧ rdI 2 x = (rd : Nat) ∧ rs1I 2 x = (0 : Nat) ∧ rs2I 2 x = (0 : Nat) ∧ immI 2 x = imm := by
  obtain ⟨hs, a0⟩ := enc_J k v rd hk h1 hf hrd
  rw [hx] at hs
  have hw := want_sum_gen k hk h1
  have hb := fixed_bd k hk h1
  have hm := mask_fmt k hk
  rw [hf] at hw hb hm
  rw [show gP 2 = 0 from rfl] at hw
  rw [show (lyFixed 2).toNat = 127 from rfl] at hm
  simp [fixedB] at hb
  obtain ⟨r0, b0, b1, b2, b3, hmask⟩ := getx_J x rd (bN v 20 1) (bN v 1 10) (bN v 11 1) (bN v 12 8) (cN k) hs hrd (bN_lt ..) (bN_lt ..) (bN_lt ..) (bN_lt ..) a0
  have s0 : rdI 2 x = (rd : Nat) := by
    show regZ true ((x : Int) / 128) = _
    rw [(regZ_bN x).1, show bN x 7 5 = rd from r0]
  refine ⟨?_, s0, rfl, rfl, ?_⟩
  · unfold matchB
    rw [hm, mask_127, hw, beq_iff_eq, hmask] <;> omega
  · rw [imm_J x]
    unfold immJ
    rw [show bN x 21 10 = bN v 1 10 from b1, show bN x 20 1 = bN v 11 1 from b2, show bN x 12 8 = bN v 12 8 from b3, show bN x 31 1 = bN v 20 1 from b0]
    exact getv_J v _ _ _ _ imm rfl rfl rfl rfl hv hlo hhi hev
theorem back_J (k v x : Nat) (hk : k ≤ 67) (h1 : 1 ≤ k) (hf : fmtAt k = 2) (hx : x < 4294967296) (hmx : matchB k x = true) (hv : immI 2 x % 4294967296 = (v : Int)) : encN k v (bN x 7 5) 0 0 = x := by
  have l0 : bN x 7 5 < 32 := bN_lt ..
  obtain ⟨hs, a0⟩ := enc_J k v (bN x 7 5) hk h1 hf l0
  rw [hs]
  have hw := want_sum_gen k hk h1
  have hb := fixed_bd k hk h1
  have hm := mask_fmt k hk
  rw [hf] at hw hb hm
  rw [show gP 2 = 0 from rfl] at hw
  rw [show (lyFixed 2).toNat = 127 from rfl] at hm
  simp [fixedB] at hb
  unfold matchB at hmx
  rw [hm, mask_127, hw, beq_iff_eq] at hmx
  clear hs hw hm
  have hp := part_J x hx
  have m_0_7 : x / 1 % 128 = bN x 0 7 := rfl
  rw [m_0_7] at hmx
  have c_0_7 : bN x 0 7 < 128 := bN_lt ..
  have c_7_5 : bN x 7 5 < 32 := bN_lt ..
  have c_12_8 : bN x 12 8 < 256 := bN_lt ..
  have c_20_1 : bN x 20 1 < 2 := bN_lt ..
  have c_21_10 : bN x 21 10 < 1024 := bN_lt ..
  have c_31_1 : bN x 31 1 < 2 := bN_lt ..
  have hvv : v = bN x 21 10 * 2 + bN x 20 1 * 2048 + bN x 12 8 * 4096 + bN x 31 1 * 1048576 ∨ v = bN x 21 10 * 2 + bN x 20 1 * 2048 + bN x 12 8 * 4096 + bN x 31 1 * 1048576 + 4292870144 := by
    rw [imm_J x] at hv
    unfold immJ at hv
    unfold sgn at hv
    clear hp hmx hb
    split at hv <;> omega
  have w0 : bN v 20 1 = bN x 31 1 := by
    show v / 1048576 % 2 = _
    clear hp hmx hb hv
    omega
  have w1 : bN v 1 10 = bN x 21 10 := by
    show v / 2 % 1024 = _
    clear hp hmx hb hv
    omega
  have w2 : bN v 11 1 = bN x 20 1 := by
    show v / 2048 % 2 = _
    clear hp hmx hb hv
    omega
  have w3 : bN v 12 8 = bN x 12 8 := by
    show v / 4096 % 256 = _
    clear hp hmx hb hv
    omega
  rw [w0, w1, w2, w3]
  clear hvv hv w0 w1 w2 w3
  clear m_0_7
  generalize bN x 0 7 = B0_7 at *
  generalize bN x 7 5 = B7_5 at *
  generalize bN x 12 8 = B12_8 at *
  generalize bN x 20 1 = B20_1 at *
  generalize bN x 21 10 = B21_10 at *
  generalize bN x 31 1 = B31_1 at *
  omega
theorem getx_I (x rd rs1 y0 c f3 : Nat) (hs : x = rd * 128 + rs1 * 32768 + y0 * 1048576 + c + f3 * 4096) (h_rd : rd < 32) (h_rs1 : rs1 < 32) (h_y0 : y0 < 4096) (h_c : c < 128) (h_f3 : f3 < 8) : x / 128 % 32 = rd ∧ x / 32768 % 32 = rs1 ∧ x / 1048576 % 4096 = y0 ∧ x / 1 % 128 * 1 + x / 4096 % 8 * 4096 = c + f3 * 4096 := by
  refine ⟨by omega, by omega, by omega, by omega⟩
theorem getv_I (v y0 : Nat) (imm : Int) (u0 : bN v 0 12 = y0) (hv : imm % 4294967296 = (v : Int)) (hlo : -2048 ≤ imm) (hhi : imm ≤ 2047) : sgn (y0) 12 = imm := by
  have t0 := bN_lt v 0 12
  have e0 := bsplit v 0 12 12 rfl
  rw [u0] at t0
  rw [u0] at e0
  simp only [Nat.div_one, Nat.reducePow] at e0 t0
  generalize v / 4096 = X12 at e0
  unfold sgn
  split <;> omega
theorem there_I (k v x rd rs1 : Nat) (imm : Int) (hk : k ≤ 67) (h1 : 1 ≤ k) (hf : fmtAt k = 3) (hrd : rd < 32) (hrs1 : rs1 < 32) (hv : imm % 4294967296 = (v : Int)) (hlo : -2048 ≤ imm) (hhi : imm ≤ 2047) (hx : encN k v rd rs1 0 = x) : matchB k x = true ∧ rdI 3 x = (rd : Nat) ∧ rs1I 3 x = (rs1 : Nat) ∧ rs2I 3 x = (0 : Nat) ∧ immI 3 x = imm := by
  obtain ⟨hs, a0, a1⟩ := enc_I k v rd rs1 hk h1 hf hrd hrs1
  rw [hx] at hs
  have hw := want_sum_gen k hk h1
  have hb := fixed_bd k hk h1
  have hm := mask_fmt k hk
  rw [hf] at hw hb hm
  rw [show gP 3 = 0 from rfl] at hw
  rw [show (lyFixed 3).toNat = 28799 from rfl] at hm
  simp [fixedB] at hb
  obtain ⟨r0, r1, b0, hmask⟩ := getx_I x rd rs1 (bN v 0 12) (cN k) (fN k) hs hrd hrs1 (bN_lt ..) a0 a1
  have s0 : rdI 3 x = (rd : Nat) := by
    show regZ true ((x : Int) / 128) = _
    rw [(regZ_bN x).1, show bN x 7 5 = rd from r0]
  have s1 : rs1I 3 x = (rs1 : Nat) := by
    show regZ true ((x : Int) / 32768) = _
    rw [(regZ_bN x).2.1, show bN x 15 5 = rs1 from r1]
  refine ⟨?_, s0, s1, rfl, ?_⟩
  · unfold matchB
    rw [hm, mask_28799, hw, beq_iff_eq, hmask] <;> omega
  · rw [imm_I 3 x (Or.inl rfl), show bN x 20 12 = bN v 0 12 from b0]
    exact getv_I v _ imm rfl hv hlo hhi
theorem back_I (k v x : Nat) (hk : k ≤ 67) (h1 : 1 ≤ k) (hf : fmtAt k = 3) (hx : x < 4294967296) (hmx : matchB k x = true) (hv : immI 3 x % 4294967296 = (v : Int)) : encN k v (bN x 7 5) (bN x 15 5) 0 = x := by
  have l0 : bN x 7 5 < 32 := bN_lt ..
  have l1 : bN x 15 5 < 32 := bN_lt ..
  obtain ⟨hs, a0, a1⟩ := enc_I k v (bN x 7 5) (bN x 15 5) hk h1 hf l0 l1
  rw [hs]
  have hw := want_sum_gen k hk h1
  have hb := fixed_bd k hk h1
  have hm := mask_fmt k hk
  rw [hf] at hw hb hm
  rw [show gP 3 = 0 from rfl] at hw
  rw [show (lyFixed 3).toNat = 28799 from rfl] at hm
  simp [fixedB] at hb
  unfold matchB at hmx
  rw [hm, mask_28799, hw, beq_iff_eq] at hmx
  clear hs hw hm
  have hp := part_I x hx
  have m_0_7 : x / 1 % 128 = bN x 0 7 := rfl
  have m_12_3 : x / 4096 % 8 = bN x 12 3 := rfl
  rw [m_0_7, m_12_3] at hmx
  have c_0_7 : bN x 0 7 < 128 := bN_lt ..
  have c_7_5 : bN x 7 5 < 32 := bN_lt ..
  have c_12_3 : bN x 12 3 < 8 := bN_lt ..
  have c_15_5 : bN x 15 5 < 32 := bN_lt ..
  have c_20_12 : bN x 20 12 < 4096 := bN_lt ..
  have hvv : v = bN x 20 12 ∨ v = bN x 20 12 + 4294963200 := by
    rw [imm_I 3 x (Or.inl rfl)] at hv
    unfold sgn at hv
    clear hp hmx hb
    split at hv <;> omega
  have w0 : bN v 0 12 = bN x 20 12 := by
    show v / 1 % 4096 = _
    clear hp hmx hb hv
    omega
  rw [w0]
  clear hvv hv w0
  clear m_0_7 m_12_3
  generalize bN x 0 7 = B0_7 at *
  generalize bN x 7 5 = B7_5 at *
  generalize bN x 12 3 = B12_3 at *
  generalize bN x 15 5 = B15_5 at *
  generalize bN x 20 12 = B20_12 at *
  omega
theorem getx_L (x rd rs1 y0 c f3 : Nat) (hs : x = rd * 128 + rs1 * 32768 + y0 * 1048576 + c + f3 * 4096) (h_rd : rd < 32) (h_rs1 : rs1 < 32) (h_y0 : y0 < 4096) (h_c : c < 128) (h_f3 : f3 < 8) : x / 128 % 32 = rd ∧ x / 32768 % 32 = rs1 ∧ x / 1048576 % 4096 = y0 ∧ x / 1 % 128 * 1 + x / 4096 % 8 * 4096 = c + f3 * 4096 := by
  refine ⟨by omega, by omega, by omega, by omega⟩
theorem getv_L (v y0 : Nat) (imm : Int) (u0 : bN v 0 12 = y0) (hv : imm % 4294967296 = (v : Int)) (hlo : -2048 ≤ imm) (hhi : imm ≤ 2047) : sgn (y0) 12 = imm := by
  have t0 := bN_lt v 0 12
  have e0 := bsplit v 0 12 12 rfl
  rw [u0] at t0
  rw [u0] at e0
  simp only [Nat.div_one, Nat.reducePow] at e0 t0
  generalize v / 4096 = X12 at e0
  unfold sgn
  split <;> omega
theorem there_L (k v x rd rs1 : Nat) (imm : Int) (hk : k ≤ 67) (h1 : 1 ≤ k) (hf : fmtAt k = 4) (hrd : rd < 32) (hrs1 : rs1 < 32) (hv : imm % 4294967296 = (v : Int)) (hlo : -2048 ≤ imm) (hhi : imm ≤ 2047) (hx : encN k v rd rs1 0 = x) : matchB k x = true ∧ rdI 4 x = (rd : Nat) ∧ rs1I 4 x = (rs1 : Nat) ∧ rs2I 4 x = (0 : Nat) ∧ immI 4 x = imm := by
  obtain ⟨hs, a0, a1⟩ := enc_L k v rd rs1 hk h1 hf hrd hrs1
  rw [hx] at hs
  have hw := want_sum_gen k hk h1
  have hb := fixed_bd k hk h1
  have hm := mask_fmt k hk
  rw [hf] at hw hb hm
  rw [show gP 4 = 0 from rfl] at hw
  rw [show (lyFixed 4).toNat = 28799 from rfl] at hm
  simp [fixedB] at hb
  obtain ⟨r0, r1, b0, hmask⟩ := getx_L x rd rs1 (bN v 0 12) (cN k) (fN k) hs hrd hrs1 (bN_lt ..) a0 a1
  have s0 : rdI 4 x = (rd : Nat) := by
    show regZ true ((x : Int) / 128) = _
    rw [(regZ_bN x).1, show bN x 7 5 = rd from r0]
  have s1 : rs1I 4 x = (rs1 : Nat) := by
    show regZ true ((x : Int) / 32768) = _
    rw [(regZ_bN x).2.1, show bN x 15 5 = rs1 from r1]
  refine ⟨?_, s0, s1, rfl, ?_⟩
  · unfold matchB
    rw [hm, mask_28799, hw, beq_iff_eq, hmask] <;> omega
  · rw [imm_I 4 x (Or.inr rfl), show bN x 20 12 = bN v 0 12 from b0]
    exact getv_L v _ imm rfl hv hlo hhi
theorem back_L (k v x : Nat) (hk : k ≤ 67) (h1 : 1 ≤ k) (hf : fmtAt k = 4) (hx : x < 4294967296) (hmx : matchB k x = true) (hv : immI 4 x % 4294967296 = (v : Int)) : encN k v (bN x 7 5) (bN x 15 5) 0 = x := by
  have l0 : bN x 7 5 < 32 := bN_lt ..
  have l1 : bN x 15 5 < 32 := bN_lt ..
  obtain ⟨hs, a0, a1⟩ := enc_L k v (bN x 7 5) (bN x 15 5) hk h1 hf l0 l1
  rw [hs]
  have hw := want_sum_gen k hk h1
  have hb := fixed_bd k hk h1
  have hm := mask_fmt k hk
  rw [hf] at hw hb hm
  rw [show gP 4 = 0 from rfl] at hw
  rw [show (lyFixed 4).toNat = 28799 from rfl] at hm
  simp [fixedB] at hb
  unfold matchB at hmx
  rw [hm, mask_28799, hw, beq_iff_eq] at hmx
  clear hs hw hm
  have hp := part_I x hx
  have m_0_7 : x / 1 % 128 = bN x 0 7 := rfl
  have m_12_3 : x / 4096 % 8 = bN x 12 3 := rfl
  rw [m_0_7, m_12_3] at hmx
  have c_0_7 : bN x 0 7 < 128 := bN_lt ..
  have c_7_5 : bN x 7 5 < 32 := bN_lt ..
  have c_12_3 : bN x 12 3 < 8 := bN_lt ..
  have c_15_5 : bN x 15 5 < 32 := bN_lt ..
  have c_20_12 : bN x 20 12 < 4096 := bN_lt ..
  have hvv : v = bN x 20 12 ∨ v = bN x 20 12 + 4294963200 := by
    rw [imm_I 4 x (Or.inr rfl)] at hv
    unfold sgn at hv
    clear hp hmx hb
    split at hv <;> omega
  have w0 : bN v 0 12 = bN x 20 12 := by
    show v / 1 % 4096 = _
    clear hp hmx hb hv
    omega
  rw [w0]
  clear hvv hv w0
  clear m_0_7 m_12_3
  generalize bN x 0 7 = B0_7 at *
  generalize bN x 7 5 = B7_5 at *
  generalize bN x 12 3 = B12_3 at *
  generalize bN x 15 5 = B15_5 at *
  generalize bN x 20 12 = B20_12 at *
  omega
theorem getx_B (x rs1 rs2 y0 y1 y2 y3 c f3 : Nat) (hs : x = rs1 * 32768 + rs2 * 1048576 + y0 * 2147483648 + y1 * 33554432 + y2 * 256 + y3 * 128 + c + f3 * 4096) (h_rs1 : rs1 < 32) (h_rs2 : rs2 < 32) (h_y0 : y0 < 2) (h_y1 : y1 < 64) (h_y2 : y2 < 16) (h_y3 : y3 < 2) (h_c : c < 128) (h_f3 : f3 < 8) : x / 32768 % 32 = rs1 ∧ x / 1048576 % 32 = rs2 ∧ x / 2147483648 % 2 = y0 ∧ x / 33554432 % 64 = y1 ∧ x / 256 % 16 = y2 ∧ x / 128 % 2 = y3 ∧ x / 1 % 128 * 1 + x / 4096 % 8 * 4096 = c + f3 * 4096 := by
  refine ⟨by omega, by omega, by omega, by omega, by omega, by omega, by omega⟩
theorem getv_B (v y0 y1 y2 y3 : Nat) (imm : Int) (u0 : bN v 12 1 = y0) (u1 : bN v 5 6 = y1) (u2 : bN v 1 4 = y2) (u3 : bN v 11 1 = y3) (hv : imm % 4294967296 = (v : Int)) (hlo : -4096 ≤ imm) (hhi : imm ≤ 4094) (hev : imm % 2 = 0) : sgn (y2 * 2 + y1 * 32 + y3 * 2048 + y0 * 4096) 13 = imm := by
  have t0 := bN_lt v 12 1
  have t1 := bN_lt v 5 6
  have t2 := bN_lt v 1 4
  have t3 := bN_lt v 11 1
  have e0 := bsplit v 1 4 5 rfl
  have e1 := bsplit v 5 6 11 rfl
  have e2 := bsplit v 11 1 12 rfl
  have e3 := bsplit v 12 1 13 rfl
  rw [u0] at t0
  rw [u0] at e3
  rw [u1] at t1
  rw [u1] at e1
  rw [u2] at t2
  rw [u2] at e0
  rw [u3] at t3
  rw [u3] at e2
  simp only [Nat.reducePow] at e0 e1 e2 e3 t0 t1 t2 t3
  generalize v / 32 = X5 at e0 e1 e2 e3
  generalize v / 2048 = X11 at e0 e1 e2 e3
  generalize v / 4096 = X12 at e0 e1 e2 e3
  generalize v / 8192 = X13 at e0 e1 e2 e3
  have ev : v = v / 2 * 2 := by omega
  generalize v / 2 = X1 at e0 e1 e2 e3 ev
  unfold sgn
  split <;> omega
theorem there_B (k v x rs1 rs2 : Nat) (imm : Int) (hk : k ≤ 67) (h1 : 1 ≤ k) (hf : fmtAt k = 5) (hrs1 : rs1 < 32) (hrs2 : rs2 < 32) (hv : imm % 4294967296 = (v : Int)) (hlo : -4096 ≤ imm) (hhi : imm ≤ 4094) (hev : imm % 2 = 0) (hx : encN k v 0 rs1 rs2 = x) : matchB k x = true ∧ rdI 5 x = (0 : Nat) ∧ rs1I 5 x = (rs1 : Nat) ∧ rs2I 5 x = (rs2 : Nat) ∧ immI 5 x = imm := by
  obtain ⟨hs, a0, a1⟩ := enc_B k v rs1 rs2 hk h1 hf hrs1 hrs2
  rw [hx] at hs
  have hw := want_sum_gen k hk h1
  have hb := fixed_bd k hk h1
  have hm := mask_fmt k hk
  rw [hf] at hw hb hm
  rw [show gP 5 = 0 from rfl] at hw
  rw [show (lyFixed 5).toNat = 28799 from rfl] at hm
  simp [fixedB] at hb
  obtain ⟨r1, r2, b0, b1, b2, b3, hmask⟩ := getx_B x rs1 rs2 (bN v 12 1) (bN v 5 6) (bN v 1 4) (bN v 11 1) (cN k) (fN k) hs hrs1 hrs2 (bN_lt ..) (bN_lt ..) (bN_lt ..) (bN_lt ..) a0 a1
  have s1 : rs1I 5 x = (rs1 : Nat) := by
    show regZ true ((x : Int) / 32768) = _
    rw [(regZ_bN x).2.1, show bN x 15 5 = rs1 from r1]
  have s2 : rs2I 5 x = (rs2 : Nat) := by
    show regZ true ((x : Int) / 1048576) = _
    rw [(regZ_bN x).2.2, show bN x 20 5 = rs2 from r2]
  refine ⟨?_, rfl, s1, s2, ?_⟩
  · unfold matchB
    rw [hm, mask_28799, hw, beq_iff_eq, hmask] <;> omega
  · rw [imm_B x]
    unfold immB
    rw [show bN x 8 4 = bN v 1 4 from b2, show bN x 25 6 = bN v 5 6 from b1, show bN x 7 1 = bN v 11 1 from b3, show bN x 31 1 = bN v 12 1 from b0]
    exact getv_B v _ _ _ _ imm rfl rfl rfl rfl hv hlo hhi hev
theorem back_B (k v x : Nat) (hk : k ≤ 67) (h1 : 1 ≤ k) (hf : fmtAt k = 5) (hx : x < 4294967296) (hmx : matchB k x = true) (hv : immI 5 x % 4294967296 = (v : Int)) : encN k v 0 (bN x 15 5) (bN x 20 5) = x := by
  have l1 : bN x 15 5 < 32 := bN_lt ..
  have l2 : bN x 20 5 < 32 := bN_lt ..
  obtain ⟨hs, a0, a1⟩ := enc_B k v (bN x 15 5) (bN x 20 5) hk h1 hf l1 l2
  rw [hs]
  have hw := want_sum_gen k hk h1
  have hb := fixed_bd k hk h1
  have hm := mask_fmt k hk
  rw [hf] at hw hb hm
  rw [show gP 5 = 0 from rfl] at hw
  rw [show (lyFixed 5).toNat = 28799 from rfl] at hm
  simp [fixedB] at hb
  unfold matchB at hmx
  rw [hm, mask_28799, hw, beq_iff_eq] at hmx
  clear hs hw hm
  have hp := part_B x hx
  have m_0_7 : x / 1 % 128 = bN x 0 7 := rfl
  have m_12_3 : x / 4096 % 8 = bN x 12 3 := rfl
  rw [m_0_7, m_12_3] at hmx
  have c_0_7 : bN x 0 7 < 128 := bN_lt ..
  have c_7_1 : bN x 7 1 < 2 := bN_lt ..
  have c_8_4 : bN x 8 4 < 16 := bN_lt ..
  have c_12_3 : bN x 12 3 < 8 := bN_lt ..
  have c_15_5 : bN x 15 5 < 32 := bN_lt ..
  have c_20_5 : bN x 20 5 < 32 := bN_lt ..
  have c_25_6 : bN x 25 6 < 64 := bN_lt ..
  have c_31_1 : bN x 31 1 < 2 := bN_lt ..
  have hvv : v = bN x 8 4 * 2 + bN x 25 6 * 32 + bN x 7 1 * 2048 + bN x 31 1 * 4096 ∨ v = bN x 8 4 * 2 + bN x 25 6 * 32 + bN x 7 1 * 2048 + bN x 31 1 * 4096 + 4294959104 := by
    rw [imm_B x] at hv
    unfold immB at hv
    unfold sgn at hv
    clear hp hmx hb
    split at hv <;> omega
  have w0 : bN v 12 1 = bN x 31 1 := by
    show v / 4096 % 2 = _
    clear hp hmx hb hv
    omega
  have w1 : bN v 5 6 = bN x 25 6 := by
    show v / 32 % 64 = _
    clear hp hmx hb hv
    omega
  have w2 : bN v 1 4 = bN x 8 4 := by
    show v / 2 % 16 = _
    clear hp hmx hb hv
    omega
  have w3 : bN v 11 1 = bN x 7 1 := by
    show v / 2048 % 2 = _
    clear hp hmx hb hv
    omega
  rw [w0, w1, w2, w3]
  clear hvv hv w0 w1 w2 w3
  clear m_0_7 m_12_3
  generalize bN x 0 7 = B0_7 at *
  generalize bN x 7 1 = B7_1 at *
  generalize bN x 8 4 = B8_4 at *
  generalize bN x 12 3 = B12_3 at *
  generalize bN x 15 5 = B15_5 at *
  generalize bN x 20 5 = B20_5 at *
  generalize bN x 25 6 = B25_6 at *
  generalize bN x 31 1 = B31_1 at *
  omega
theorem getx_S (x rs1 rs2 y0 y1 c f3 : Nat) (hs : x = rs1 * 32768 + rs2 * 1048576 + y0 * 33554432 + y1 * 128 + c + f3 * 4096) (h_rs1 : rs1 < 32) (h_rs2 : rs2 < 32) (h_y0 : y0 < 128) (h_y1 : y1 < 32) (h_c : c < 128) (h_f3 : f3 < 8) : x / 32768 % 32 = rs1 ∧ x / 1048576 % 32 = rs2 ∧ x / 33554432 % 128 = y0 ∧ x / 128 % 32 = y1 ∧ x / 1 % 128 * 1 + x / 4096 % 8 * 4096 = c + f3 * 4096 := by
  refine ⟨by omega, by omega, by omega, by omega, by omega⟩
theorem getv_S (v y0 y1 : Nat) (imm : Int) (u0 : bN v 5 7 = y0) (u1 : bN v 0 5 = y1) (hv : imm % 4294967296 = (v : Int)) (hlo : -2048 ≤ imm) (hhi : imm ≤ 2047) : sgn (y1 + y0 * 32) 12 = imm := by
  have t0 := bN_lt v 5 7
  have t1 := bN_lt v 0 5
  have e0 := bsplit v 0 5 5 rfl
  have e1 := bsplit v 5 7 12 rfl
  rw [u0] at t0
  rw [u0] at e1
  rw [u1] at t1
  rw [u1] at e0
  simp only [Nat.div_one, Nat.reducePow] at e0 e1 t0 t1
  generalize v / 32 = X5 at e0 e1
  generalize v / 4096 = X12 at e0 e1
  unfold sgn
  split <;> omega
theorem there_S (k v x rs1 rs2 : Nat) (imm : Int) (hk : k ≤ 67) (h1 : 1 ≤ k) (hf : fmtAt k = 6) (hrs1 : rs1 < 32) (hrs2 : rs2 < 32) (hv : imm % 4294967296 = (v : Int)) (hlo : -2048 ≤ imm) (hhi : imm ≤ 2047) (hx : encN k v 0 rs1 rs2 = x) : matchB k x = true ∧ rdI 6 x = (0 : Nat) ∧ rs1I 6 x = (rs1 : Nat) ∧ rs2I 6 x = (rs2 : Nat) ∧ immI 6 x = imm := by
  obtain ⟨hs, a0, a1⟩ := enc_S k v rs1 rs2 hk h1 hf hrs1 hrs2
  rw [hx] at hs
  have hw := want_sum_gen k hk h1
  have hb := fixed_bd k hk h1
  have hm := mask_fmt k hk
  rw [hf] at hw hb hm
  rw [show gP 6 = 0 from rfl] at hw
  rw [show (lyFixed 6).toNat = 28799 from rfl] at hm
  simp [fixedB] at hb
  obtain ⟨r1, r2, b0, b1, hmask⟩ := getx_S x rs1 rs2 (bN v 5 7) (bN v 0 5) (cN k) (fN k) hs hrs1 hrs2 (bN_lt ..) (bN_lt ..) a0 a1
  have s1 : rs1I 6 x = (rs1 : Nat) := by
    show regZ true ((x : Int) / 32768) = _
    rw [(regZ_bN x).2.1, show bN x 15 5 = rs1 from r1]
  have s2 : rs2I 6 x = (rs2 : Nat) := by
    show regZ true ((x : Int) / 1048576) = _
    rw [(regZ_bN x).2.2, show bN x 20 5 = rs2 from r2]
  refine ⟨?_, rfl, s1, s2, ?_⟩
  · unfold matchB
    rw [hm, mask_28799, hw, beq_iff_eq, hmask] <;> omega
  · rw [imm_S x]
    unfold immS
    rw [show bN x 7 5 = bN v 0 5 from b1, show bN x 25 7 = bN v 5 7 from b0]
    exact getv_S v _ _ imm rfl rfl hv hlo hhi
theorem back_S (k v x : Nat) (hk : k ≤ 67) (h1 : 1 ≤ k) (hf : fmtAt k = 6) (hx : x < 4294967296) (hmx : matchB k x = true) (hv : immI 6 x % 4294967296 = (v : Int)) : encN k v 0 (bN x 15 5) (bN x 20 5) = x := by
  have l1 : bN x 15 5 < 32 := bN_lt ..
  have l2 : bN x 20 5 < 32 := bN_lt ..
  obtain ⟨hs, a0, a1⟩ := enc_S k v (bN x 15 5) (bN x 20 5) hk h1 hf l1 l2
  rw [hs]
  have hw := want_sum_gen k hk h1
  have hb := fixed_bd k hk h1
  have hm := mask_fmt k hk
  rw [hf] at hw hb hm
  rw [show gP 6 = 0 from rfl] at hw
  rw [show (lyFixed 6).toNat = 28799 from rfl] at hm
  simp [fixedB] at hb
  unfold matchB at hmx
  rw [hm, mask_28799, hw, beq_iff_eq] at hmx
  clear hs hw hm
  have hp := part_S x hx
  have m_0_7 : x / 1 % 128 = bN x 0 7 := rfl
  have m_12_3 : x / 4096 % 8 = bN x 12 3 := rfl
  rw [m_0_7, m_12_3] at hmx
  have c_0_7 : bN x 0 7 < 128 := bN_lt ..
  have c_7_5 : bN x 7 5 < 32 := bN_lt ..
  have c_12_3 : bN x 12 3 < 8 := bN_lt ..
  have c_15_5 : bN x 15 5 < 32 := bN_lt ..
  have c_20_5 : bN x 20 5 < 32 := bN_lt ..
  have c_25_7 : bN x 25 7 < 128 := bN_lt ..
  have hvv : v = bN x 7 5 + bN x 25 7 * 32 ∨ v = bN x 7 5 + bN x 25 7 * 32 + 4294963200 := by
    rw [imm_S x] at hv
    unfold immS at hv
    unfold sgn at hv
    clear hp hmx hb
    split at hv <;> omega
  have w0 : bN v 5 7 = bN x 25 7 := by
    show v / 32 % 128 = _
    clear hp hmx hb hv
    omega
  have w1 : bN v 0 5 = bN x 7 5 := by
    show v / 1 % 32 = _
    clear hp hmx hb hv
    omega
  rw [w0, w1]
  clear hvv hv w0 w1
  clear m_0_7 m_12_3
  generalize bN x 0 7 = B0_7 at *
  generalize bN x 7 5 = B7_5 at *
  generalize bN x 12 3 = B12_3 at *
  generalize bN x 15 5 = B15_5 at *
  generalize bN x 20 5 = B20_5 at *
  generalize bN x 25 7 = B25_7 at *
  omega
theorem getx_H (x rd rs1 y0 c f3 g : Nat) (hs : x = rd * 128 + rs1 * 32768 + y0 * 1048576 + c + f3 * 4096 + g * 33554432) (h_rd : rd < 32) (h_rs1 : rs1 < 32) (h_y0 : y0 < 32) (h_c : c < 128) (h_f3 : f3 < 8) (h_g : g < 128) : x / 128 % 32 = rd ∧ x / 32768 % 32 = rs1 ∧ x / 1048576 % 32 = y0 ∧ x / 1 % 128 * 1 + x / 4096 % 8 * 4096 + x / 33554432 % 128 * 33554432 = c + f3 * 4096 + g * 33554432 := by
  refine ⟨by omega, by omega, by omega, by omega⟩
theorem getv_H (v y0 : Nat) (imm : Int) (u0 : bN v 0 5 = y0) (hv : imm % 4294967296 = (v : Int)) (hlo : 0 ≤ imm) (hhi : imm ≤ 31) : ((y0 : Nat) : Int) = imm := by
  have t0 := bN_lt v 0 5
  have e0 := bsplit v 0 5 5 rfl
  rw [u0] at t0
  rw [u0] at e0
  simp only [Nat.div_one, Nat.reducePow] at e0 t0
  generalize v / 32 = X5 at e0
  omega
theorem there_H (k v x rd rs1 : Nat) (imm : Int) (hk : k ≤ 67) (h1 : 1 ≤ k) (hf : fmtAt k = 7) (hrd : rd < 32) (hrs1 : rs1 < 32) (hv : imm % 4294967296 = (v : Int)) (hlo : 0 ≤ imm) (hhi : imm ≤ 31) (hx : encN k v rd rs1 0 = x) : matchB k x = true ∧ rdI 7 x = (rd : Nat) ∧ rs1I 7 x = (rs1 : Nat) ∧ rs2I 7 x = (0 : Nat) ∧ immI 7 x = imm := by
  obtain ⟨hs, a0, a1, a2⟩ := enc_H k v rd rs1 hk h1 hf hrd hrs1
  rw [hx] at hs
  have hw := want_sum_gen k hk h1
  have hb := fixed_bd k hk h1
  have hm := mask_fmt k hk
  rw [hf] at hw hb hm
  rw [show gP 7 = 25 from rfl] at hw
  rw [show (lyFixed 7).toNat = 4261441663 from rfl] at hm
  simp [fixedB] at hb
  obtain ⟨r0, r1, b0, hmask⟩ := getx_H x rd rs1 (bN v 0 5) (cN k) (fN k) (gN k) hs hrd hrs1 (bN_lt ..) a0 a1 a2
  have s0 : rdI 7 x = (rd : Nat) := by
    show regZ true ((x : Int) / 128) = _
    rw [(regZ_bN x).1, show bN x 7 5 = rd from r0]
  have s1 : rs1I 7 x = (rs1 : Nat) := by
    show regZ true ((x : Int) / 32768) = _
    rw [(regZ_bN x).2.1, show bN x 15 5 = rs1 from r1]
  refine ⟨?_, s0, s1, rfl, ?_⟩
  · unfold matchB
    rw [hm, mask_4261441663, hw, beq_iff_eq, hmask] <;> omega
  · rw [imm_H x, show bN x 20 5 = bN v 0 5 from b0]
    exact getv_H v _ imm rfl hv hlo hhi
theorem back_H (k v x : Nat) (hk : k ≤ 67) (h1 : 1 ≤ k) (hf : fmtAt k = 7) (hx : x < 4294967296) (hmx : matchB k x = true) (hv : immI 7 x % 4294967296 = (v : Int)) : encN k v (bN x 7 5) (bN x 15 5) 0 = x := by
  have l0 : bN x 7 5 < 32 := bN_lt ..
  have l1 : bN x 15 5 < 32 := bN_lt ..
  obtain ⟨hs, a0, a1, a2⟩ := enc_H k v (bN x 7 5) (bN x 15 5) hk h1 hf l0 l1
  rw [hs]
  have hw := want_sum_gen k hk h1
  have hb := fixed_bd k hk h1
  have hm := mask_fmt k hk
  rw [hf] at hw hb hm
  rw [show gP 7 = 25 from rfl] at hw
  rw [show (lyFixed 7).toNat = 4261441663 from rfl] at hm
  simp [fixedB] at hb
  unfold matchB at hmx
  rw [hm, mask_4261441663, hw, beq_iff_eq] at hmx
  clear hs hw hm
  have hp := part_S x hx
  have m_0_7 : x / 1 % 128 = bN x 0 7 := rfl
  have m_12_3 : x / 4096 % 8 = bN x 12 3 := rfl
  have m_25_7 : x / 33554432 % 128 = bN x 25 7 := rfl
  rw [m_0_7, m_12_3, m_25_7] at hmx
  have c_0_7 : bN x 0 7 < 128 := bN_lt ..
  have c_7_5 : bN x 7 5 < 32 := bN_lt ..
  have c_12_3 : bN x 12 3 < 8 := bN_lt ..
  have c_15_5 : bN x 15 5 < 32 := bN_lt ..
  have c_20_5 : bN x 20 5 < 32 := bN_lt ..
  have c_25_7 : bN x 25 7 < 128 := bN_lt ..
  have hvv : v = bN x 20 5 := by
    rw [imm_H x] at hv
    clear hp hmx hb
    omega
  have w0 : bN v 0 5 = bN x 20 5 := by
    show v / 1 % 32 = _
    clear hp hmx hb hv
    omega
  rw [w0]
  clear hvv hv w0
  clear m_0_7 m_12_3 m_25_7
  generalize bN x 0 7 = B0_7 at *
  generalize bN x 7 5 = B7_5 at *
  generalize bN x 12 3 = B12_3 at *
  generalize bN x 15 5 = B15_5 at *
  generalize bN x 20 5 = B20_5 at *
  generalize bN x 25 7 = B25_7 at *
  omega
theorem getx_R (x rd rs1 rs2 c f3 g : Nat) (hs : x = rd * 128 + rs1 * 32768 + rs2 * 1048576 + c + f3 * 4096 + g * 33554432) (h_rd : rd < 32) (h_rs1 : rs1 < 32) (h_rs2 : rs2 < 32) (h_c : c < 128) (h_f3 : f3 < 8) (h_g : g < 128) : x / 128 % 32 = rd ∧ x / 32768 % 32 = rs1 ∧ x / 1048576 % 32 = rs2 ∧ x / 1 % 128 * 1 + x / 4096 % 8 * 4096 + x / 33554432 % 128 * 33554432 = c + f3 * 4096 + g * 33554432 := by
  refine ⟨by omega, by omega, by omega, by omega⟩
theorem there_R (k v x rd rs1 rs2 : Nat) (imm : Int) (hk : k ≤ 67) (h1 : 1 ≤ k) (hf : fmtAt k = 8) (hrd : rd < 32) (hrs1 : rs1 < 32) (hrs2 : rs2 < 32) (hlo : 0 ≤ imm) (hhi : imm ≤ 0) (hx : encN k v rd rs1 rs2 = x) : matchB k x = true ∧ rdI 8 x = (rd : Nat) ∧ rs1I 8 x = (rs1 : Nat) ∧ rs2I 8 x = (rs2 : Nat) ∧ immI 8 x = imm := by
  obtain ⟨hs, a0, a1, a2⟩ := enc_R k v rd rs1 rs2 hk h1 hf hrd hrs1 hrs2
  rw [hx] at hs
  have hw := want_sum_gen k hk h1
  have hb := fixed_bd k hk h1
  have hm := mask_fmt k hk
  rw [hf] at hw hb hm
  rw [show gP 8 = 25 from rfl] at hw
  rw [show (lyFixed 8).toNat = 4261441663 from rfl] at hm
  simp [fixedB] at hb
  obtain ⟨r0, r1, r2, hmask⟩ := getx_R x rd rs1 rs2 (cN k) (fN k) (gN k) hs hrd hrs1 hrs2 a0 a1 a2
  have s0 : rdI 8 x = (rd : Nat) := by
    show regZ true ((x : Int) / 128) = _
    rw [(regZ_bN x).1, show bN x 7 5 = rd from r0]
  have s1 : rs1I 8 x = (rs1 : Nat) := by
    show regZ true ((x : Int) / 32768) = _
    rw [(regZ_bN x).2.1, show bN x 15 5 = rs1 from r1]
  have s2 : rs2I 8 x = (rs2 : Nat) := by
    show regZ true ((x : Int) / 1048576) = _
    rw [(regZ_bN x).2.2, show bN x 20 5 = rs2 from r2]
  refine ⟨?_, s0, s1, s2, ?_⟩
  · unfold matchB
    rw [hm, mask_4261441663, hw, beq_iff_eq, hmask] <;> omega
  · rw [imm_0 8 x (Or.inr (Or.inl rfl))]; omega
theorem back_R (k v x : Nat) (hk : k ≤ 67) (h1 : 1 ≤ k) (hf : fmtAt k = 8) (hx : x < 4294967296) (hmx : matchB k x = true) : encN k v (bN x 7 5) (bN x 15 5) (bN x 20 5) = x := by
  have l0 : bN x 7 5 < 32 := bN_lt ..
  have l1 : bN x 15 5 < 32 := bN_lt ..
  have l2 : bN x 20 5 < 32 := bN_lt ..
  obtain ⟨hs, a0, a1, a2⟩ := enc_R k v (bN x 7 5) (bN x 15 5) (bN x 20 5) hk h1 hf l0 l1 l2
  rw [hs]
  have hw := want_sum_gen k hk h1
  have hb := fixed_bd k hk h1
  have hm := mask_fmt k hk
  rw [hf] at hw hb hm
  rw [show gP 8 = 25 from rfl] at hw
  rw [show (lyFixed 8).toNat = 4261441663 from rfl] at hm
  simp [fixedB] at hb
  unfold matchB at hmx
  rw [hm, mask_4261441663, hw, beq_iff_eq] at hmx
  clear hs hw hm
  have hp := part_S x hx
  have m_0_7 : x / 1 % 128 = bN x 0 7 := rfl
  have m_12_3 : x / 4096 % 8 = bN x 12 3 := rfl
  have m_25_7 : x / 33554432 % 128 = bN x 25 7 := rfl
  rw [m_0_7, m_12_3, m_25_7] at hmx
  have c_0_7 : bN x 0 7 < 128 := bN_lt ..
  have c_7_5 : bN x 7 5 < 32 := bN_lt ..
  have c_12_3 : bN x 12 3 < 8 := bN_lt ..
  have c_15_5 : bN x 15 5 < 32 := bN_lt ..
  have c_20_5 : bN x 20 5 < 32 := bN_lt ..
  have c_25_7 : bN x 25 7 < 128 := bN_lt ..
  clear m_0_7 m_12_3 m_25_7
  generalize bN x 0 7 = B0_7 at *
  generalize bN x 7 5 = B7_5 at *
  generalize bN x 12 3 = B12_3 at *
  generalize bN x 15 5 = B15_5 at *
  generalize bN x 20 5 = B20_5 at *
  generalize bN x 25 7 = B25_7 at *
  omega
theorem getx_A (x rd rs1 rs2 y0 c f3 g : Nat) (hs : x = rd * 128 + rs1 * 32768 + rs2 * 1048576 + y0 * 33554432 + c + f3 * 4096 + g * 134217728) (h_rd : rd < 32) (h_rs1 : rs1 < 32) (h_rs2 : rs2 < 32) (h_y0 : y0 < 4) (h_c : c < 128) (h_f3 : f3 < 8) (h_g : g < 32) : x / 128 % 32 = rd ∧ x / 32768 % 32 = rs1 ∧ x / 1048576 % 32 = rs2 ∧ x / 33554432 % 4 = y0 ∧ x / 1 % 128 * 1 + x / 4096 % 8 * 4096 + x / 134217728 % 32 * 134217728 = c + f3 * 4096 + g * 134217728 := by
  refine ⟨by omega, by omega, by omega, by omega, by omega⟩
theorem getv_A (v y0 : Nat) (imm : Int) (u0 : bN v 0 2 = y0) (hv : imm % 4294967296 = (v : Int)) (hlo : 0 ≤ imm) (hhi : imm ≤ 3) : ((y0 : Nat) : Int) = imm := by
  have t0 := bN_lt v 0 2
  have e0 := bsplit v 0 2 2 rfl
  rw [u0] at t0
  rw [u0] at e0
  simp only [Nat.div_one, Nat.reducePow] at e0 t0
  generalize v / 4 = X2 at e0
  omega
theorem there_A (k v x rd rs1 rs2 : Nat) (imm : Int) (hk : k ≤ 67) (h1 : 1 ≤ k) (hf : fmtAt k = 9) (hrd : rd < 32) (hrs1 : rs1 < 32) (hrs2 : rs2 < 32) (hv : imm % 4294967296 = (v : Int)) (hlo : 0 ≤ imm) (hhi : imm ≤ 3) (hx : encN k v rd rs1 rs2 = x) : matchB k x = true ∧ rdI 9 x = (rd : Nat) ∧ rs1I 9 x = (rs1 : Nat) ∧ rs2I 9 x = (rs2 : Nat) ∧ immI 9 x = imm := by
  obtain ⟨hs, a0, a1, a2⟩ := enc_A k v rd rs1 rs2 hk h1 hf hrd hrs1 hrs2
  rw [hx] at hs
  have hw := want_sum_gen k hk h1
  have hb := fixed_bd k hk h1
  have hm := mask_fmt k hk
  rw [hf] at hw hb hm
  rw [show gP 9 = 27 from rfl] at hw
  rw [show (lyFixed 9).toNat = 4160778367 from rfl] at hm
  simp [fixedB] at hb
  obtain ⟨r0, r1, r2, b0, hmask⟩ := getx_A x rd rs1 rs2 (bN v 0 2) (cN k) (fN k) (gN k) hs hrd hrs1 hrs2 (bN_lt ..) a0 a1 a2
  have s0 : rdI 9 x = (rd : Nat) := by
    show regZ true ((x : Int) / 128) = _
    rw [(regZ_bN x).1, show bN x 7 5 = rd from r0]
  have s1 : rs1I 9 x = (rs1 : Nat) := by
    show regZ true ((x : Int) / 32768) = _
    rw [(regZ_bN x).2.1, show bN x 15 5 = rs1 from r1]
  have s2 : rs2I 9 x = (rs2 : Nat) := by
    show regZ true ((x : Int) / 1048576) = _
    rw [(regZ_bN x).2.2, show bN x 20 5 = rs2 from r2]
  refine ⟨?_, s0, s1, s2, ?_⟩
  · unfold matchB
    rw [hm, mask_4160778367, hw, beq_iff_eq, hmask] <;> omega
  · rw [imm_A 9 x (Or.inl rfl), show bN x 25 2 = bN v 0 2 from b0]
    exact getv_A v _ imm rfl hv hlo hhi
theorem back_A (k v x : Nat) (hk : k ≤ 67) (h1 : 1 ≤ k) (hf : fmtAt k = 9) (hx : x < 4294967296) (hmx : matchB k x = true) (hv : immI 9 x % 4294967296 = (v : Int)) : encN k v (bN x 7 5) (bN x 15 5) (bN x 20 5) = x := by
  have l0 : bN x 7 5 < 32 := bN_lt ..
  have l1 : bN x 15 5 < 32 := bN_lt ..
  have l2 : bN x 20 5 < 32 := bN_lt ..
  obtain ⟨hs, a0, a1, a2⟩ := enc_A k v (bN x 7 5) (bN x 15 5) (bN x 20 5) hk h1 hf l0 l1 l2
  rw [hs]
  have hw := want_sum_gen k hk h1
  have hb := fixed_bd k hk h1
  have hm := mask_fmt k hk
  rw [hf] at hw hb hm
  rw [show gP 9 = 27 from rfl] at hw
  rw [show (lyFixed 9).toNat = 4160778367 from rfl] at hm
  simp [fixedB] at hb
  unfold matchB at hmx
  rw [hm, mask_4160778367, hw, beq_iff_eq] at hmx
  clear hs hw hm
  have hp := part_A x hx
  have m_0_7 : x / 1 % 128 = bN x 0 7 := rfl
  have m_12_3 : x / 4096 % 8 = bN x 12 3 := rfl
  have m_27_5 : x / 134217728 % 32 = bN x 27 5 := rfl
  rw [m_0_7, m_12_3, m_27_5] at hmx
  have c_0_7 : bN x 0 7 < 128 := bN_lt ..
  have c_7_5 : bN x 7 5 < 32 := bN_lt ..
  have c_12_3 : bN x 12 3 < 8 := bN_lt ..
  have c_15_5 : bN x 15 5 < 32 := bN_lt ..
  have c_20_5 : bN x 20 5 < 32 := bN_lt ..
  have c_25_2 : bN x 25 2 < 4 := bN_lt ..
  have c_27_5 : bN x 27 5 < 32 := bN_lt ..
  have hvv : v = bN x 25 2 := by
    rw [imm_A 9 x (Or.inl rfl)] at hv
    clear hp hmx hb
    omega
  have w0 : bN v 0 2 = bN x 25 2 := by
    show v / 1 % 4 = _
    clear hp hmx hb hv
    omega
  rw [w0]
  clear hvv hv w0
  clear m_0_7 m_12_3 m_27_5
  generalize bN x 0 7 = B0_7 at *
  generalize bN x 7 5 = B7_5 at *
  generalize bN x 12 3 = B12_3 at *
  generalize bN x 15 5 = B15_5 at *
  generalize bN x 20 5 = B20_5 at *
  generalize bN x 25 2 = B25_2 at *
  generalize bN x 27 5 = B27_5 at *
  omega
theorem getx_K (x rd rs1 y0 c f3 g : Nat) (hs : x = rd * 128 + rs1 * 32768 + y0 * 33554432 + c + f3 * 4096 + g * 134217728) (h_rd : rd < 32) (h_rs1 : rs1 < 32) (h_y0 : y0 < 4) (h_c : c < 128) (h_f3 : f3 < 8) (h_g : g < 32) : x / 128 % 32 = rd ∧ x / 32768 % 32 = rs1 ∧ x / 33554432 % 4 = y0 ∧ x / 1 % 128 * 1 + x / 4096 % 8 * 4096 + x / 1048576 % 32 * 1048576 + x / 134217728 % 32 * 134217728 = c + f3 * 4096 + g * 134217728 := by
  refine ⟨by omega, by omega, by omega, by omega⟩
theorem getv_K (v y0 : Nat) (imm : Int) (u0 : bN v 0 2 = y0) (hv : imm % 4294967296 = (v : Int)) (hlo : 0 ≤ imm) (hhi : imm ≤ 3) : ((y0 : Nat) : Int) = imm := by
  have t0 := bN_lt v 0 2
  have e0 := bsplit v 0 2 2 rfl
  rw [u0] at t0
  rw [u0] at e0
  simp only [Nat.div_one, Nat.reducePow] at e0 t0
  generalize v / 4 = X2 at e0
  omega
theorem there_K (k v x rd rs1 : Nat) (imm : Int) (hk : k ≤ 67) (h1 : 1 ≤ k) (hf : fmtAt k = 10) (hrd : rd < 32) (hrs1 : rs1 < 32) (hv : imm % 4294967296 = (v : Int)) (hlo : 0 ≤ imm) (hhi : imm ≤ 3) (hx : encN k v rd rs1 0 = x) : matchB k x = true ∧ rdI 10 x = (rd : Nat) ∧ rs1I 10 x = (rs1 : Nat) ∧ rs2I 10 x = (0 : Nat) ∧ immI 10 x = imm := by
  obtain ⟨hs, a0, a1, a2⟩ := enc_K k v rd rs1 hk h1 hf hrd hrs1
  rw [hx] at hs
  have hw := want_sum_gen k hk h1
  have hb := fixed_bd k hk h1
  have hm := mask_fmt k hk
  rw [hf] at hw hb hm
  rw [show gP 10 = 27 from rfl] at hw
  rw [show (lyFixed 10).toNat = 4193284223 from rfl] at hm
  simp [fixedB] at hb
  obtain ⟨r0, r1, b0, hmask⟩ := getx_K x rd rs1 (bN v 0 2) (cN k) (fN k) (gN k) hs hrd hrs1 (bN_lt ..) a0 a1 a2
  have s0 : rdI 10 x = (rd : Nat) := by
    show regZ true ((x : Int) / 128) = _
    rw [(regZ_bN x).1, show bN x 7 5 = rd from r0]
  have s1 : rs1I 10 x = (rs1 : Nat) := by
    show regZ true ((x : Int) / 32768) = _
    rw [(regZ_bN x).2.1, show bN x 15 5 = rs1 from r1]
  refine ⟨?_, s0, s1, rfl, ?_⟩
  · unfold matchB
    rw [hm, mask_4193284223, hw, beq_iff_eq, hmask] <;> omega
  · rw [imm_A 10 x (Or.inr rfl), show bN x 25 2 = bN v 0 2 from b0]
    exact getv_K v _ imm rfl hv hlo hhi
theorem back_K (k v x : Nat) (hk : k ≤ 67) (h1 : 1 ≤ k) (hf : fmtAt k = 10) (hx : x < 4294967296) (hmx : matchB k x = true) (hv : immI 10 x % 4294967296 = (v : Int)) : encN k v (bN x 7 5) (bN x 15 5) 0 = x := by
  have l0 : bN x 7 5 < 32 := bN_lt ..
  have l1 : bN x 15 5 < 32 := bN_lt ..
  obtain ⟨hs, a0, a1, a2⟩ := enc_K k v (bN x 7 5) (bN x 15 5) hk h1 hf l0 l1
  rw [hs]
  have hw := want_sum_gen k hk h1
  have hb := fixed_bd k hk h1
  have hm := mask_fmt k hk
  rw [hf] at hw hb hm
  rw [show gP 10 = 27 from rfl] at hw
  rw [show (lyFixed 10).toNat = 4193284223 from rfl] at hm
  simp [fixedB] at hb
  unfold matchB at hmx
  rw [hm, mask_4193284223, hw, beq_iff_eq] at hmx
  clear hs hw hm
  have hp := part_A x hx
  have m_0_7 : x / 1 % 128 = bN x 0 7 := rfl
  have m_12_3 : x / 4096 % 8 = bN x 12 3 := rfl
  have m_20_5 : x / 1048576 % 32 = bN x 20 5 := rfl
  have m_27_5 : x / 134217728 % 32 = bN x 27 5 := rfl
  rw [m_0_7, m_12_3, m_20_5, m_27_5] at hmx
  have c_0_7 : bN x 0 7 < 128 := bN_lt ..
  have c_7_5 : bN x 7 5 < 32 := bN_lt ..
  have c_12_3 : bN x 12 3 < 8 := bN_lt ..
  have c_15_5 : bN x 15 5 < 32 := bN_lt ..
  have c_20_5 : bN x 20 5 < 32 := bN_lt ..
  have c_25_2 : bN x 25 2 < 4 := bN_lt ..
  have c_27_5 : bN x 27 5 < 32 := bN_lt ..
  have hvv : v = bN x 25 2 := by
    rw [imm_A 10 x (Or.inr rfl)] at hv
    clear hp hmx hb
    omega
  have w0 : bN v 0 2 = bN x 25 2 := by
    show v / 1 % 4 = _
    clear hp hmx hb hv
    omega
  rw [w0]
  clear hvv hv w0
  clear m_0_7 m_12_3 m_20_5 m_27_5
  generalize bN x 0 7 = B0_7 at *
  generalize bN x 7 5 = B7_5 at *
  generalize bN x 12 3 = B12_3 at *
  generalize bN x 15 5 = B15_5 at *
  generalize bN x 20 5 = B20_5 at *
  generalize bN x 25 2 = B25_2 at *
  generalize bN x 27 5 = B27_5 at *
  omega
theorem getx_F (x y0 c : Nat) (hs : x = y0 * 1048576 + c) (h_y0 : y0 < 256) (h_c : c < 128) : x / 1048576 % 256 = y0 ∧ x / 1 % 1048576 * 1 + x / 268435456 % 16 * 268435456 = c := by
  refine ⟨by omega, by omega⟩
theorem getv_F (v y0 : Nat) (imm : Int) (u0 : bN v 0 8 = y0) (hv : imm % 4294967296 = (v : Int)) (hlo : 0 ≤ imm) (hhi : imm ≤ 255) : ((y0 : Nat) : Int) = imm := by
  have t0 := bN_lt v 0 8
  have e0 := bsplit v 0 8 8 rfl
  rw [u0] at t0
  rw [u0] at e0
  simp only [Nat.div_one, Nat.reducePow] at e0 t0
  generalize v / 256 = X8 at e0
  omega
theorem there_F (k v x : Nat) (imm : Int) (hk : k ≤ 67) (h1 : 1 ≤ k) (hf : fmtAt k = 11)  (hv : imm % 4294967296 = (v : Int)) (hlo : 0 ≤ imm) (hhi : imm ≤ 255) (hx : encN k v 0 0 0 = x) : matchB k x = true ∧ rdI 11 x = (0 : Nat) ∧ rs1I 11 x = (0 : Nat) ∧ rs2I 11 x = (0 : Nat) ∧ immI 11 x = imm := by
  obtain ⟨hs, a0⟩ := enc_F k v hk h1 hf
  rw [hx] at hs
  have hw := want_sum_gen k hk h1
  have hb := fixed_bd k hk h1
  have hm := mask_fmt k hk
  rw [hf] at hw hb hm
  rw [show gP 11 = 0 from rfl] at hw
  rw [show (lyFixed 11).toNat = 4027580415 from rfl] at hm
  simp [fixedB] at hb
  obtain ⟨b0, hmask⟩ := getx_F x (bN v 0 8) (cN k) hs (bN_lt ..) a0
  refine ⟨?_, rfl, rfl, rfl, ?_⟩
  · unfold matchB
    rw [hm, mask_4027580415, hw, beq_iff_eq, hmask] <;> omega
  · rw [imm_F x, show bN x 20 8 = bN v 0 8 from b0]
    exact getv_F v _ imm rfl hv hlo hhi
theorem back_F (k v x : Nat) (hk : k ≤ 67) (h1 : 1 ≤ k) (hf : fmtAt k = 11) (hx : x < 4294967296) (hmx : matchB k x = true) (hv : immI 11 x % 4294967296 = (v : Int)) : encN k v 0 0 0 = x := by
  obtain ⟨hs, a0⟩ := enc_F k v hk h1 hf
  rw [hs]
  have hw := want_sum_gen k hk h1
  have hb := fixed_bd k hk h1
  have hm := mask_fmt k hk
  rw [hf] at hw hb hm
  rw [show gP 11 = 0 from rfl] at hw
  rw [show (lyFixed 11).toNat = 4027580415 from rfl] at hm
  simp [fixedB] at hb
  unfold matchB at hmx
  rw [hm, mask_4027580415, hw, beq_iff_eq] at hmx
  clear hs hw hm
  have hp := part_F x hx
  have m_0_20 : x / 1 % 1048576 = bN x 0 20 := rfl
  have m_28_4 : x / 268435456 % 16 = bN x 28 4 := rfl
  rw [m_0_20, m_28_4] at hmx
  have c_0_20 : bN x 0 20 < 1048576 := bN_lt ..
  have c_20_8 : bN x 20 8 < 256 := bN_lt ..
  have c_28_4 : bN x 28 4 < 16 := bN_lt ..
  have hvv : v = bN x 20 8 := by
    rw [imm_F x] at hv
    clear hp hmx hb
    omega
  have w0 : bN v 0 8 = bN x 20 8 := by
    show v / 1 % 256 = _
    clear hp hmx hb hv
    omega
  rw [w0]
  clear hvv hv w0
  clear m_0_20 m_28_4
  generalize bN x 0 20 = B0_20 at *
  generalize bN x 20 8 = B20_8 at *
  generalize bN x 28 4 = B28_4 at *
  omega
theorem getx_N (x c g : Nat) (hs : x = c + g * 1048576) (h_c : c < 128) (h_g : g < 4096) : x / 1 % 4294967296 * 1 = c + g * 1048576 := by
  omega
theorem there_N (k v x : Nat) (imm : Int) (hk : k ≤ 67) (h1 : 1 ≤ k) (hf : fmtAt k = 12)  (hlo : 0 ≤ imm) (hhi : imm ≤ 0) (hx : encN k v 0 0 0 = x) : matchB k x = true ∧ rdI 12 x = (0 : Nat) ∧ rs1I 12 x = (0 : Nat) ∧ rs2I 12 x = (0 : Nat) ∧ immI 12 x = imm := by
  obtain ⟨hs, a0, a1⟩ := enc_N k v hk h1 hf
  rw [hx] at hs
  have hw := want_sum_gen k hk h1
  have hb := fixed_bd k hk h1
  have hm := mask_fmt k hk
  rw [hf] at hw hb hm
  rw [show gP 12 = 20 from rfl] at hw
  rw [show (lyFixed 12).toNat = 4294967295 from rfl] at hm
  simp [fixedB] at hb
  have hmask := getx_N x (cN k) (gN k) hs a0 a1
  refine ⟨?_, rfl, rfl, rfl, ?_⟩
  · unfold matchB
    rw [hm, mask_4294967295, hw, beq_iff_eq, hmask] <;> omega
  · rw [imm_0 12 x (Or.inr (Or.inr rfl))]; omega
theorem back_N (k v x : Nat) (hk : k ≤ 67) (h1 : 1 ≤ k) (hf : fmtAt k = 12) (hx : x < 4294967296) (hmx : matchB k x = true) : encN k v 0 0 0 = x := by
  obtain ⟨hs, a0, a1⟩ := enc_N k v hk h1 hf
  rw [hs]
  have hw := want_sum_gen k hk h1
  have hb := fixed_bd k hk h1
  have hm := mask_fmt k hk
  rw [hf] at hw hb hm
  rw [show gP 12 = 20 from rfl] at hw
  rw [show (lyFixed 12).toNat = 4294967295 from rfl] at hm
  simp [fixedB] at hb
  unfold matchB at hmx
  rw [hm, mask_4294967295, hw, beq_iff_eq] at hmx
  clear hs hw hm
  omega
theorem getx_C (x rd rs1 y0 c f3 : Nat) (hs : x = rd * 128 + rs1 * 32768 + y0 * 1048576 + c + f3 * 4096) (h_rd : rd < 32) (h_rs1 : rs1 < 32) (h_y0 : y0 < 4096) (h_c : c < 128) (h_f3 : f3 < 8) : x / 128 % 32 = rd ∧ x / 32768 % 32 = rs1 ∧ x / 1048576 % 4096 = y0 ∧ x / 1 % 128 * 1 + x / 4096 % 8 * 4096 = c + f3 * 4096 := by
  refine ⟨by omega, by omega, by omega, by omega⟩
theorem getv_C (v y0 : Nat) (imm : Int) (u0 : bN v 0 12 = y0) (hv : imm % 4294967296 = (v : Int)) (hlo : 0 ≤ imm) (hhi : imm ≤ 4095) : ((y0 : Nat) : Int) = imm := by
  have t0 := bN_lt v 0 12
  have e0 := bsplit v 0 12 12 rfl
  rw [u0] at t0
  rw [u0] at e0
  simp only [Nat.div_one, Nat.reducePow] at e0 t0
  generalize v / 4096 = X12 at e0
  omega
theorem there_C (k v x rd rs1 : Nat) (imm : Int) (hk : k ≤ 67) (h1 : 1 ≤ k) (hf : fmtAt k = 13) (hrd : rd < 32) (hrs1 : rs1 < 32) (hv : imm % 4294967296 = (v : Int)) (hlo : 0 ≤ imm) (hhi : imm ≤ 4095) (hx : encN k v rd rs1 0 = x) : matchB k x = true ∧ rdI 13 x = (rd : Nat) ∧ rs1I 13 x = (rs1 : Nat) ∧ rs2I 13 x = (0 : Nat) ∧ immI 13 x = imm := by
  obtain ⟨hs, a0, a1⟩ := enc_C k v rd rs1 hk h1 hf hrd hrs1
  rw [hx] at hs
  have hw := want_sum_gen k hk h1
  have hb := fixed_bd k hk h1
  have hm := mask_fmt k hk
  rw [hf] at hw hb hm
  rw [show gP 13 = 0 from rfl] at hw
  rw [show (lyFixed 13).toNat = 28799 from rfl] at hm
  simp [fixedB] at hb
  obtain ⟨r0, r1, b0, hmask⟩ := getx_C x rd rs1 (bN v 0 12) (cN k) (fN k) hs hrd hrs1 (bN_lt ..) a0 a1
  have s0 : rdI 13 x = (rd : Nat) := by
    show regZ true ((x : Int) / 128) = _
    rw [(regZ_bN x).1, show bN x 7 5 = rd from r0]
  have s1 : rs1I 13 x = (rs1 : Nat) := by
    show regZ true ((x : Int) / 32768) = _
    rw [(regZ_bN x).2.1, show bN x 15 5 = rs1 from r1]
  refine ⟨?_, s0, s1, rfl, ?_⟩
  · unfold matchB
    rw [hm, mask_28799, hw, beq_iff_eq, hmask] <;> omega
  · rw [imm_C 13 x (Or.inl rfl), show bN x 20 12 = bN v 0 12 from b0]
    exact getv_C v _ imm rfl hv hlo hhi
theorem back_C (k v x : Nat) (hk : k ≤ 67) (h1 : 1 ≤ k) (hf : fmtAt k = 13) (hx : x < 4294967296) (hmx : matchB k x = true) (hv : immI 13 x % 4294967296 = (v : Int)) : encN k v (bN x 7 5) (bN x 15 5) 0 = x := by
  have l0 : bN x 7 5 < 32 := bN_lt ..
  have l1 : bN x 15 5 < 32 := bN_lt ..
  obtain ⟨hs, a0, a1⟩ := enc_C k v (bN x 7 5) (bN x 15 5) hk h1 hf l0 l1
  rw [hs]
  have hw := want_sum_gen k hk h1
  have hb := fixed_bd k hk h1
  have hm := mask_fmt k hk
  rw [hf] at hw hb hm
  rw [show gP 13 = 0 from rfl] at hw
  rw [show (lyFixed 13).toNat = 28799 from rfl] at hm
  simp [fixedB] at hb
  unfold matchB at hmx
  rw [hm, mask_28799, hw, beq_iff_eq] at hmx
  clear hs hw hm
  have hp := part_I x hx
  have m_0_7 : x / 1 % 128 = bN x 0 7 := rfl
  have m_12_3 : x / 4096 % 8 = bN x 12 3 := rfl
  rw [m_0_7, m_12_3] at hmx
  have c_0_7 : bN x 0 7 < 128 := bN_lt ..
  have c_7_5 : bN x 7 5 < 32 := bN_lt ..
  have c_12_3 : bN x 12 3 < 8 := bN_lt ..
  have c_15_5 : bN x 15 5 < 32 := bN_lt ..
  have c_20_12 : bN x 20 12 < 4096 := bN_lt ..
  have hvv : v = bN x 20 12 := by
    rw [imm_C 13 x (Or.inl rfl)] at hv
    clear hp hmx hb
    omega
  have w0 : bN v 0 12 = bN x 20 12 := by
    show v / 1 % 4096 = _
    clear hp hmx hb hv
    omega
  rw [w0]
  clear hvv hv w0
  clear m_0_7 m_12_3
  generalize bN x 0 7 = B0_7 at *
  generalize bN x 7 5 = B7_5 at *
  generalize bN x 12 3 = B12_3 at *
  generalize bN x 15 5 = B15_5 at *
  generalize bN x 20 12 = B20_12 at *
  omega
theorem getx_D (x rd rs1 y0 c f3 : Nat) (hs : x = rd * 128 + rs1 * 32768 + y0 * 1048576 + c + f3 * 4096) (h_rd : rd < 32) (h_rs1 : rs1 < 32) (h_y0 : y0 < 4096) (h_c : c < 128) (h_f3 : f3 < 8) : x / 128 % 32 = rd ∧ x / 32768 % 32 = rs1 ∧ x / 1048576 % 4096 = y0 ∧ x / 1 % 128 * 1 + x / 4096 % 8 * 4096 = c + f3 * 4096 := by
  refine ⟨by omega, by omega, by omega, by omega⟩
theorem getv_D (v y0 : Nat) (imm : Int) (u0 : bN v 0 12 = y0) (hv : imm % 4294967296 = (v : Int)) (hlo : 0 ≤ imm) (hhi : imm ≤ 4095) : ((y0 : Nat) : Int) = imm := by
  have t0 := bN_lt v 0 12
  have e0 := bsplit v 0 12 12 rfl
  rw [u0] at t0
  rw [u0] at e0
  simp only [Nat.div_one, Nat.reducePow] at e0 t0
  generalize v / 4096 = X12 at e0
  omega
theorem there_D (k v x rd rs1 : Nat) (imm : Int) (hk : k ≤ 67) (h1 : 1 ≤ k) (hf : fmtAt k = 14) (hrd : rd < 32) (hrs1 : rs1 < 32) (hv : imm % 4294967296 = (v : Int)) (hlo : 0 ≤ imm) (hhi : imm ≤ 4095) (hx : encN k v rd rs1 0 = x) : matchB k x = true ∧ rdI 14 x = (rd : Nat) ∧ rs1I 14 x = (rs1 : Nat) ∧ rs2I 14 x = (0 : Nat) ∧ immI 14 x = imm := by
  obtain ⟨hs, a0, a1⟩ := enc_D k v rd rs1 hk h1 hf hrd hrs1
  rw [hx] at hs
  have hw := want_sum_gen k hk h1
  have hb := fixed_bd k hk h1
  have hm := mask_fmt k hk
  rw [hf] at hw hb hm
  rw [show gP 14 = 0 from rfl] at hw
  rw [show (lyFixed 14).toNat = 28799 from rfl] at hm
  simp [fixedB] at hb
  obtain ⟨r0, r1, b0, hmask⟩ := getx_D x rd rs1 (bN v 0 12) (cN k) (fN k) hs hrd hrs1 (bN_lt ..) a0 a1
  have s0 : rdI 14 x = (rd : Nat) := by
    show regZ true ((x : Int) / 128) = _
    rw [(regZ_bN x).1, show bN x 7 5 = rd from r0]
  have s1 : rs1I 14 x = (rs1 : Nat) := by
    show regZ true ((x : Int) / 32768) = _
    rw [(regZ_bN x).2.1, show bN x 15 5 = rs1 from r1]
  refine ⟨?_, s0, s1, rfl, ?_⟩
  · unfold matchB
    rw [hm, mask_28799, hw, beq_iff_eq, hmask] <;> omega
  · rw [imm_C 14 x (Or.inr rfl), show bN x 20 12 = bN v 0 12 from b0]
    exact getv_D v _ imm rfl hv hlo hhi
theorem back_D (k v x : Nat) (hk : k ≤ 67) (h1 : 1 ≤ k) (hf : fmtAt k = 14) (hx : x < 4294967296) (hmx : matchB k x = true) (hv : immI 14 x % 4294967296 = (v : Int)) : encN k v (bN x 7 5) (bN x 15 5) 0 = x := by
  have l0 : bN x 7 5 < 32 := bN_lt ..
  have l1 : bN x 15 5 < 32 := bN_lt ..
  obtain ⟨hs, a0, a1⟩ := enc_D k v (bN x 7 5) (bN x 15 5) hk h1 hf l0 l1
  rw [hs]
  have hw := want_sum_gen k hk h1
  have hb := fixed_bd k hk h1
  have hm := mask_fmt k hk
  rw [hf] at hw hb hm
  rw [show gP 14 = 0 from rfl] at hw
  rw [show (lyFixed 14).toNat = 28799 from rfl] at hm
  simp [fixedB] at hb
  unfold matchB at hmx
  rw [hm, mask_28799, hw, beq_iff_eq] at hmx
  clear hs hw hm
  have hp := part_I x hx
  have m_0_7 : x / 1 % 128 = bN x 0 7 := rfl
  have m_12_3 : x / 4096 % 8 = bN x 12 3 := rfl
  rw [m_0_7, m_12_3] at hmx
  have c_0_7 : bN x 0 7 < 128 := bN_lt ..
  have c_7_5 : bN x 7 5 < 32 := bN_lt ..
  have c_12_3 : bN x 12 3 < 8 := bN_lt ..
  have c_15_5 : bN x 15 5 < 32 := bN_lt ..
  have c_20_12 : bN x 20 12 < 4096 := bN_lt ..
  have hvv : v = bN x 20 12 := by
    rw [imm_C 14 x (Or.inr rfl)] at hv
    clear hp hmx hb
    omega
  have w0 : bN v 0 12 = bN x 20 12 := by
    show v / 1 % 4096 = _
    clear hp hmx hb hv
    omega
  rw [w0]
  clear hvv hv w0
  clear m_0_7 m_12_3
  generalize bN x 0 7 = B0_7 at *
  generalize bN x 7 5 = B7_5 at *
  generalize bN x 12 3 = B12_3 at *
  generalize bN x 15 5 = B15_5 at *
  generalize bN x 20 12 = B20_12 at *
  omega
end Go.Proofs.YtcepcjodhmjghaaDoor
