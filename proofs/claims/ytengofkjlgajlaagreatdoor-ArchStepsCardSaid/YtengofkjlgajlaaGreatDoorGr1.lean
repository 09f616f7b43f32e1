import Derived.Test.YtengofkjlgajlaaGreatDoorGp5
import Derived.Deep.RegionHeld3
import Derived.Test.YtengofkjlgajlaaGreatDoorGw1
/-
  THE ANSWER's bits, signed, fixed.
-/
namespace Go.Proofs.YtengofkjlgajlaaGreatDoor
open Go Go.RowKit
theorem pow2_lt (n : Nat) (h : n < 32) : 2 ^ n < 4294967296 := Nat.pow_lt_pow_of_lt (a := 2) (by decide) (show n < 32 from h)
theorem w64 (n : Nat) (h : n < 9223372036854775808) : wrap64 (n : Int) = n := by unfold wrap64; omega
theorem ofInt_64 (a : Nat) (ha : a < 9223372036854775808) : (BitVec.ofInt 64 (a : Int)).toNat = a := by
  rw [BitVec.ofInt_natCast, BitVec.toNat_ofNat]; exact Nat.mod_eq_of_lt (by omega)
theorem i64_and_nat (a b : Nat) (ha : a < 9223372036854775808) (hb : b < 9223372036854775808) : bits .and .i64 (a : Int) (b : Int) = ((a &&& b : Nat) : Int) := by
  have hx : a &&& b < 2 ^ 63 := Nat.and_lt_two_pow _ (by omega)
  show IntKind.i64.wrap ((BitVec.ofInt 64 (a : Int) &&& BitVec.ofInt 64 (b : Int)).toNat : Int) = _
  rw [BitVec.toNat_and, ofInt_64 a ha, ofInt_64 b hb, IntKind.wrap_i64]
  omega
theorem i64_or_nat (a b : Nat) (ha : a < 9223372036854775808) (hb : b < 9223372036854775808) : bits .or .i64 (a : Int) (b : Int) = ((a ||| b : Nat) : Int) := by
  have hx : a ||| b < 2 ^ 63 := Nat.or_lt_two_pow (by omega) (by omega)
  show IntKind.i64.wrap ((BitVec.ofInt 64 (a : Int) ||| BitVec.ofInt 64 (b : Int)).toNat : Int) = _
  rw [BitVec.toNat_or, ofInt_64 a ha, ofInt_64 b hb, IntKind.wrap_i64]
  omega
/-- so many bits of a word, from one on -/
def bN (x a n : Nat) : Nat := x / 2 ^ a % 2 ^ n
theorem bN_lt (x a n : Nat) : bN x a n < 2 ^ n := Nat.mod_lt _ (Nat.two_pow_pos n)
theorem bitsR_any (x a n : Nat) (h : x < 4294967296) (h1 : a < 32) (h2 : n < 32) (w : World) : Calls Tryz.prog 119 #[.int .u32 x, .int .i64 a, .int .i64 n] w fun e w' => e = .returned (.int .i64 (bN x a n : Nat)) ∧ ∃ m, w' = w.drewN m := by
  go_enter Tryz.func119, Tryz.ntmps119
  go_wp2_with fail
  go_quiet (fail)
  go_wp2
  go_ret
  refine ⟨ret_int ?_, _, rfl⟩
  have hp := pow2_lt n h2
  have h3 : 1 ≤ 2 ^ n := Nat.one_le_two_pow
  have hd : x / 2 ^ a < 4294967296 := Nat.lt_of_le_of_lt (Nat.div_le_self _ _) h
  have e1 : ((x : Int) / 2 ^ a) = ((x / 2 ^ a : Nat) : Int) := by simp
  have e2 : ((2 : Int) ^ n) = ((2 ^ n : Nat) : Int) := by simp
  rw [e1, e2, w64 _ (by omega), w64 _ (by omega), show (((2 ^ n : Nat) : Int) - 1) = ((2 ^ n - 1 : Nat) : Int) by omega, w64 _ (by omega), i64_and_nat _ _ (by omega) (by omega), Nat.and_two_pow_sub_one_eq_mod]
  rfl
def sgn (v n : Nat) : Int := if v / 2 ^ (n - 1) % 2 = 1 then (v : Int) - 2 ^ n else v
theorem signed_any (v n : Nat) (h : v < 4294967296) (h1 : 1 ≤ n) (h2 : n < 32) (w : World) : Calls Tryz.prog 120 #[.int .i64 v, .int .i64 n] w fun e w' => e = .returned (.int .i64 (sgn v n)) ∧ w' = w := by
  have hp := pow2_lt n h2
  have e1 : bits .and .i64 ((v : Int) / 2 ^ (n - 1)) 1 = ((v / 2 ^ (n - 1) % 2 : Nat) : Int) := by
    have hd : v / 2 ^ (n - 1) < 4294967296 := Nat.lt_of_le_of_lt (Nat.div_le_self _ _) h
    have := i64_and_nat (v / 2 ^ (n - 1)) 1 (by omega) (by decide)
    rw [nat_mask1] at this
    simpa using this
  by_cases hs : v / 2 ^ (n - 1) % 2 = 1
  · have t : (bits .and .i64 ((v : Int) / 2 ^ (n - 1)) 1 == 1) = true := by rw [e1, hs]; rfl
    have HS : Hid (v / 2 ^ (n - 1) % 2 = 1) := hs
    clear e1 hs hp
    go_enter Tryz.func120, Tryz.ntmps120
    go_wp2
    go_ret
    refine ⟨ret_int ?_, rfl⟩
    unfold sgn
    have hp := pow2_lt n h2
    have e2 : ((2 : Int) ^ n) = ((2 ^ n : Nat) : Int) := by simp
    rw [if_pos HS.out, e2, w64 _ (by omega)]
    generalize 2 ^ n = q at hp
    unfold wrap64
    omega
  · have t : (bits .and .i64 ((v : Int) / 2 ^ (n - 1)) 1 == 1) = false := by
      rw [e1]
      generalize v / 2 ^ (n - 1) % 2 = q at hs
      simpa using (show ¬ (q : Int) = 1 by omega)
    have HS : Hid (¬ v / 2 ^ (n - 1) % 2 = 1) := hs
    clear e1 hs hp
    go_enter Tryz.func120, Tryz.ntmps120
    go_wp2
    go_ret
    refine ⟨ret_int ?_, rfl⟩
    unfold sgn
    rw [if_neg HS.out]
/-- the bits that a row asks for, and what they must be, as the answer reckons them -/
def mwR (L C F G : Int) : Int × Int :=
  if L = 85 ∨ L = 74 then (127, C)
  else if L = 72 ∨ L = 82 then (bits .or .u32 127 4261441536, bits .or .u32 (bits .or .u32 C (F * 4096)) (G * 33554432 % 4294967296))
  else if L = 65 then (bits .or .u32 127 4160778240, bits .or .u32 (bits .or .u32 C (F * 4096)) (G * 134217728 % 4294967296))
  else if L = 75 then (bits .or .u32 127 4193284096, bits .or .u32 (bits .or .u32 C (F * 4096)) (G * 134217728 % 4294967296))
  else if L = 70 then (4027580415, C)
  else if L = 78 then (4294967295, bits .or .u32 C (G * 1048576))
  else (bits .or .u32 127 28672, bits .or .u32 C (F * 4096))
theorem ret_two {k l : IntKind} {a b c d : Int} (h1 : a = c) (h2 : b = d) : Ending.returned (.tuple #[.int k a, .int l b]) = .returned (.tuple #[.int k c, .int l d]) := by rw [h1, h2]
set_option maxHeartbeats 2000000 in
theorem fixed_let (s : ByteArray) (L C F G : Int) (hL : L ∈ letters) (hC : 0 ≤ C ∧ C < 128) (hF : 0 ≤ F ∧ F < 8) (hG : 0 ≤ G ∧ G < 1024) (w : World) : Calls Tryz.prog 104 #[.agg #[.string s, .int .u8 L, .int .i64 C, .int .i64 F, .int .i64 G]] w fun e w' => e = .returned (.tuple #[.int .u32 (mwR L C F G).1, .int .u32 (mwR L C F G).2]) ∧ Below w.heap.size w w' := by
  simp only [letters, List.mem_cons, List.not_mem_nil, or_false] at hL
  rcases hL with rfl | rfl | rfl | rfl | rfl | rfl | rfl | rfl | rfl | rfl | rfl | rfl | rfl | rfl
  all_goals
    go_enter Tryz.func104, Tryz.ntmps104
    go_wp2_with fail
    try go_quiet (fail)
    go_wp2
    go_ret2
    exact ⟨ret_two (by simp [mwR]) (by simp [mwR]), by first | exact below_drewN ((Below.refl _ _).alloc (Nat.le_refl _) _) _ | exact (Below.refl _ _).alloc (Nat.le_refl _) _⟩
end Go.Proofs.YtengofkjlgajlaaGreatDoor
/-
  PLAIN NUMBERS: what the program's pieces come to, format by format.
-/
namespace Go.Proofs.YtengofkjlgajlaaGreatDoor
open Go Go.RowKit
theorem stepN_bN (x a pw pi len : Nat) : stepN x a pw pi len = a ||| (bN x pw len * 2 ^ pi % 4294967296) := by
  unfold stepN bN
  rw [Nat.and_two_pow_sub_one_eq_mod]
theorem bN_zero (x a : Nat) : bN x a 0 = 0 := by unfold bN; exact Nat.mod_one _
theorem or_hi (i a b : Nat) (hb : b < 2 ^ i) : (a * 2 ^ i) ||| b = a * 2 ^ i + b := nat_join i _ _ (Nat.mul_mod_left _ _) hb
theorem or_lo (i a b : Nat) (hb : b < 2 ^ i) : b ||| (a * 2 ^ i) = b + a * 2 ^ i := by rw [Nat.or_comm, or_hi i a b hb, Nat.add_comm]
def immJ (x : Nat) : Nat := bN x 21 10 * 2 + bN x 20 1 * 2048 + bN x 12 8 * 4096 + bN x 31 1 * 1048576
def immB (x : Nat) : Nat := bN x 8 4 * 2 + bN x 25 6 * 32 + bN x 7 1 * 2048 + bN x 31 1 * 4096
def immS (x : Nat) : Nat := bN x 7 5 + bN x 25 7 * 32
theorem bN_lts (x : Nat) : bN x 21 10 < 1024 ∧ bN x 20 1 < 2 ∧ bN x 12 8 < 256 ∧ bN x 31 1 < 2 ∧ bN x 8 4 < 16 ∧ bN x 25 6 < 64 ∧ bN x 7 1 < 2 ∧ bN x 7 5 < 32 ∧ bN x 25 7 < 128 ∧ bN x 12 20 < 1048576 ∧ bN x 20 12 < 4096 ∧ bN x 20 5 < 32 ∧ bN x 25 2 < 4 ∧ bN x 20 8 < 256 ∧ bN x 15 5 < 32 :=
  ⟨bN_lt .., bN_lt .., bN_lt .., bN_lt .., bN_lt .., bN_lt .., bN_lt .., bN_lt .., bN_lt .., bN_lt .., bN_lt .., bN_lt .., bN_lt .., bN_lt .., bN_lt ..⟩
theorem acc1 (f x pw pi len : Nat) (h0 : pc f 0 = pw) (h1 : pc f 1 = pi) (h2 : pc f 2 = len) (h3 : pc f 5 = 0) (h4 : pc f 8 = 0) (h5 : pc f 11 = 0) (hb : bN x pw len * 2 ^ pi < 4294967296) : accN f x 4 = bN x pw len * 2 ^ pi := by
  show stepN x (stepN x (stepN x (stepN x 0 (pc f 0) (pc f 1) (pc f 2)) (pc f 3) (pc f 4) (pc f 5)) (pc f 6) (pc f 7) (pc f 8)) (pc f 9) (pc f 10) (pc f 11) = _
  rw [h0, h1, h2, h3, h4, h5]
  simp only [stepN_bN, bN_zero, Nat.zero_mul, Nat.zero_mod, Nat.or_zero, Nat.zero_or]
  exact Nat.mod_eq_of_lt hb
theorem acc_U (x : Nat) : accN 1 x 4 = bN x 12 20 := by
  have := bN_lts x
  rw [acc1 1 x 12 0 20 rfl rfl rfl rfl rfl rfl (by omega)]; omega
theorem acc_I (f x : Nat) (hf : f = 3 ∨ f = 4 ∨ f = 13 ∨ f = 14) : accN f x 4 = bN x 20 12 := by
  have := bN_lts x
  rcases hf with rfl | rfl | rfl | rfl
  · rw [acc1 3 x 20 0 12 rfl rfl rfl rfl rfl rfl (by omega)]; omega
  · rw [acc1 4 x 20 0 12 rfl rfl rfl rfl rfl rfl (by omega)]; omega
  · rw [acc1 13 x 20 0 12 rfl rfl rfl rfl rfl rfl (by omega)]; omega
  · rw [acc1 14 x 20 0 12 rfl rfl rfl rfl rfl rfl (by omega)]; omega
theorem acc_H (x : Nat) : accN 7 x 4 = bN x 20 5 := by
  have := bN_lts x
  rw [acc1 7 x 20 0 5 rfl rfl rfl rfl rfl rfl (by omega)]; omega
theorem acc_A (f x : Nat) (hf : f = 9 ∨ f = 10) : accN f x 4 = bN x 25 2 := by
  have := bN_lts x
  rcases hf with rfl | rfl
  · rw [acc1 9 x 25 0 2 rfl rfl rfl rfl rfl rfl (by omega)]; omega
  · rw [acc1 10 x 25 0 2 rfl rfl rfl rfl rfl rfl (by omega)]; omega
theorem acc_F (x : Nat) : accN 11 x 4 = bN x 20 8 := by
  have := bN_lts x
  rw [acc1 11 x 20 0 8 rfl rfl rfl rfl rfl rfl (by omega)]; omega
theorem acc_0 (f x : Nat) (hf : f = 0 ∨ f = 8 ∨ f = 12) : accN f x 4 = 0 := by
  rcases hf with rfl | rfl | rfl
  · rw [acc1 0 x 0 0 0 rfl rfl rfl rfl rfl rfl (by rw [bN_zero]; decide), bN_zero]
  · rw [acc1 8 x 0 0 0 rfl rfl rfl rfl rfl rfl (by rw [bN_zero]; decide), bN_zero]
  · rw [acc1 12 x 0 0 0 rfl rfl rfl rfl rfl rfl (by rw [bN_zero]; decide), bN_zero]
theorem acc_S (x : Nat) : accN 6 x 4 = immS x := by
  have hb := bN_lts x
  show stepN x (stepN x (stepN x (stepN x 0 25 5 7) 7 0 5) 0 0 0) 0 0 0 = _
  simp only [stepN_bN, bN_zero, Nat.zero_mul, Nat.zero_mod, Nat.or_zero, Nat.zero_or]
  rw [Nat.mod_eq_of_lt (by omega), Nat.mod_eq_of_lt (by omega), or_hi 5 _ _ (by omega)]
  unfold immS; omega
theorem acc_B (x : Nat) : accN 5 x 4 = immB x := by
  have hb := bN_lts x
  show stepN x (stepN x (stepN x (stepN x 0 31 12 1) 25 5 6) 8 1 4) 7 11 1 = _
  simp only [stepN_bN, Nat.zero_or]
  rw [Nat.mod_eq_of_lt (by omega), Nat.mod_eq_of_lt (by omega), Nat.mod_eq_of_lt (by omega), Nat.mod_eq_of_lt (by omega)]
  rw [or_hi 12 _ _ (by omega), show bN x 31 1 * 2 ^ 12 + bN x 25 6 * 2 ^ 5 = (bN x 31 1 * 128 + bN x 25 6) * 2 ^ 5 by omega, or_hi 5 _ _ (by omega)]
  have e : ((bN x 31 1 * 128 + bN x 25 6) * 2 ^ 5 + bN x 8 4 * 2 ^ 1) ||| (bN x 7 1 * 2 ^ 11) = ((bN x 31 1 * 128 + bN x 25 6) * 2 ^ 5 + bN x 8 4 * 2 ^ 1) + (bN x 7 1 * 2 ^ 11) := by
    have e1 : (bN x 31 1 * 128 + bN x 25 6) * 2 ^ 5 + bN x 8 4 * 2 ^ 1 = (bN x 31 1 * 2 ^ 12) ||| (bN x 25 6 * 2 ^ 5 + bN x 8 4 * 2 ^ 1) := by rw [or_hi 12 _ _ (by omega)]; omega
    rw [e1, Nat.or_assoc, or_lo 11 _ _ (by omega), or_hi 12 _ _ (by omega), or_hi 12 _ _ (by omega)]; omega
  rw [e]
  unfold immB; omega
theorem acc_J (x : Nat) : accN 2 x 4 = immJ x := by
  have hb := bN_lts x
  show stepN x (stepN x (stepN x (stepN x 0 31 20 1) 21 1 10) 20 11 1) 12 12 8 = _
  simp only [stepN_bN, Nat.zero_or]
  rw [Nat.mod_eq_of_lt (by omega), Nat.mod_eq_of_lt (by omega), Nat.mod_eq_of_lt (by omega), Nat.mod_eq_of_lt (by omega)]
  rw [Nat.or_assoc, Nat.or_assoc, Nat.or_comm (bN x 20 1 * 2 ^ 11), or_hi 12 _ _ (by omega)]
  rw [show bN x 12 8 * 2 ^ 12 + bN x 20 1 * 2 ^ 11 = (bN x 12 8 * 2 + bN x 20 1) * 2 ^ 11 by omega, or_lo 11 _ _ (by omega), or_hi 20 _ _ (by omega)]
  unfold immJ; omega
/-- Imm, as the chapter says it -/
theorem imm_U (x : Nat) : immI 1 x = (bN x 12 20 : Nat) := by
  have := bN_lts x
  unfold immI; rw [acc_U, if_neg (by rw [show lyHigh 1 = 1048575 from rfl]; omega)]
theorem imm_J (x : Nat) : immI 2 x = sgn (immJ x) 21 := by
  have hb := bN_lts x
  unfold immI sgn
  rw [acc_J, show lyHigh 2 = 1048574 from rfl, show lyLow 2 = -1048576 from rfl]
  have : immJ x % 2 = 0 ∧ immJ x < 2097152 := by unfold immJ; omega
  generalize immJ x = v at this
  split <;> split <;> omega
theorem imm_I (f x : Nat) (hf : f = 3 ∨ f = 4) : immI f x = sgn (bN x 20 12) 12 := by
  have hb := (bN_lts x).2.2.2.2.2.2.2.2.2.2.1
  unfold immI sgn
  rw [acc_I f x (by omega), show lyHigh f = 2047 by rcases hf with rfl | rfl <;> rfl, show lyLow f = -2048 by rcases hf with rfl | rfl <;> rfl]
  generalize bN x 20 12 = v at hb
  split <;> split <;> omega
theorem imm_C (f x : Nat) (hf : f = 13 ∨ f = 14) : immI f x = (bN x 20 12 : Nat) := by
  have hb := bN_lts x
  unfold immI
  rw [acc_I f x (by omega), show lyHigh f = 4095 by rcases hf with rfl | rfl <;> rfl, if_neg (by omega)]
theorem imm_B (x : Nat) : immI 5 x = sgn (immB x) 13 := by
  have hb := bN_lts x
  unfold immI sgn
  rw [acc_B, show lyHigh 5 = 4094 from rfl, show lyLow 5 = -4096 from rfl]
  have : immB x % 2 = 0 ∧ immB x < 8192 := by unfold immB; omega
  generalize immB x = v at this
  split <;> split <;> omega
theorem imm_S (x : Nat) : immI 6 x = sgn (immS x) 12 := by
  have hb := bN_lts x
  unfold immI sgn
  rw [acc_S, show lyHigh 6 = 2047 from rfl, show lyLow 6 = -2048 from rfl]
  have : immS x < 4096 := by unfold immS; omega
  generalize immS x = v at this
  split <;> split <;> omega
theorem imm_H (x : Nat) : immI 7 x = (bN x 20 5 : Nat) := by
  have := bN_lts x
  unfold immI; rw [acc_H, if_neg (by rw [show lyHigh 7 = 31 from rfl]; omega)]
theorem imm_A (f x : Nat) (hf : f = 9 ∨ f = 10) : immI f x = (bN x 25 2 : Nat) := by
  have := bN_lts x
  unfold immI; rw [acc_A f x hf, show lyHigh f = 3 by rcases hf with rfl | rfl <;> rfl, if_neg (by omega)]
theorem imm_F (x : Nat) : immI 11 x = (bN x 20 8 : Nat) := by
  have := bN_lts x
  unfold immI; rw [acc_F, if_neg (by rw [show lyHigh 11 = 255 from rfl]; omega)]
theorem imm_0 (f x : Nat) (hf : f = 0 ∨ f = 8 ∨ f = 12) : immI f x = 0 := by
  unfold immI; rw [acc_0 f x hf, show lyHigh f = 0 by rcases hf with rfl | rfl | rfl <;> rfl]; rfl
theorem regZ_bN (x : Nat) : regZ true ((x : Int) / 128) = (bN x 7 5 : Nat) ∧ regZ true ((x : Int) / 32768) = (bN x 15 5 : Nat) ∧ regZ true ((x : Int) / 1048576) = (bN x 20 5 : Nat) := by
  unfold regZ bN
  simp only [if_true, Nat.reducePow]
  omega
/-- a letter's format -/
def lf (L : Int) : Nat := if L = 85 then 1 else if L = 74 then 2 else if L = 73 then 3 else if L = 76 then 4 else if L = 66 then 5 else if L = 83 then 6 else if L = 72 then 7 else if L = 82 then 8 else if L = 65 then 9 else if L = 75 then 10 else if L = 70 then 11 else if L = 78 then 12 else if L = 67 then 13 else if L = 68 then 14 else 0
theorem lf_fmt (i : Nat) (hi : i < 67) : fmtAt (i + 1) = lf (letAt i) := by
  have : ∀ i, i < 67 → fmtAt (i + 1) = lf (letAt i) := by decide
  exact this i hi
theorem mw_eq (i : Nat) (hi : i < 67) : (mwR (letAt i) (codeRAt i) (fRAt i) (gRAt i)).1 = (maskN (i + 1) : Int) ∧ (mwR (letAt i) (codeRAt i) (fRAt i) (gRAt i)).2 = (wantN (i + 1) : Int) := by
  have : ∀ i, i < 67 → (mwR (letAt i) (codeRAt i) (fRAt i) (gRAt i)).1 = (maskN (i + 1) : Int) ∧ (mwR (letAt i) (codeRAt i) (fRAt i) (gRAt i)).2 = (wantN (i + 1) : Int) := by decide +kernel
  exact this i hi
end Go.Proofs.YtengofkjlgajlaaGreatDoor
/-
  THE ANSWER's fields.
-/
namespace Go.Proofs.YtengofkjlgajlaaGreatDoor
open Go Go.RowKit
theorem bitsR_int (x : Nat) (a n : Int) (h : x < 4294967296) (h1 : 0 ≤ a ∧ a < 32) (h2 : 0 ≤ n ∧ n < 32) (w : World) : Calls Tryz.prog 119 #[.int .u32 x, .int .i64 a, .int .i64 n] w fun e w' => e = .returned (.int .i64 (bN x a.toNat n.toNat : Nat)) ∧ ∃ m, w' = w.drewN m := by
  obtain ⟨A, rfl⟩ := Int.eq_ofNat_of_zero_le h1.1
  obtain ⟨N, rfl⟩ := Int.eq_ofNat_of_zero_le h2.1
  exact bitsR_any x A N h (by omega) (by omega) w
theorem orJ (x : Nat) : bits .or .i64 (bits .or .i64 (bits .or .i64 ((bN x 21 10 : Nat) * 2) ((bN x 20 1 : Nat) * 2048)) ((bN x 12 8 : Nat) * 4096)) ((bN x 31 1 : Nat) * 1048576) = (immJ x : Nat) := by
  have hb := bN_lts x
  have e1 := i64_or_nat (bN x 21 10 * 2) (bN x 20 1 * 2048) (by omega) (by omega)
  rw [or_lo 11 (bN x 20 1) (bN x 21 10 * 2) (by omega)] at e1
  have e2 := i64_or_nat (bN x 21 10 * 2 + bN x 20 1 * 2 ^ 11) (bN x 12 8 * 4096) (by omega) (by omega)
  rw [or_lo 12 (bN x 12 8) _ (by omega)] at e2
  have e3 := i64_or_nat (bN x 21 10 * 2 + bN x 20 1 * 2 ^ 11 + bN x 12 8 * 2 ^ 12) (bN x 31 1 * 1048576) (by omega) (by omega)
  rw [or_lo 20 (bN x 31 1) _ (by omega)] at e3
  have e4 : immJ x = bN x 21 10 * 2 + bN x 20 1 * 2 ^ 11 + bN x 12 8 * 2 ^ 12 + bN x 31 1 * 2 ^ 20 := by unfold immJ; omega
  rw [show ((bN x 21 10 : Nat) : Int) * 2 = ((bN x 21 10 * 2 : Nat) : Int) by simp, show ((bN x 20 1 : Nat) : Int) * 2048 = ((bN x 20 1 * 2048 : Nat) : Int) by simp, show ((bN x 12 8 : Nat) : Int) * 4096 = ((bN x 12 8 * 4096 : Nat) : Int) by simp, show ((bN x 31 1 : Nat) : Int) * 1048576 = ((bN x 31 1 * 1048576 : Nat) : Int) by simp, e1, e2, e3, e4]
theorem orB (x : Nat) : bits .or .i64 (bits .or .i64 (bits .or .i64 ((bN x 8 4 : Nat) * 2) ((bN x 25 6 : Nat) * 32)) ((bN x 7 1 : Nat) * 2048)) ((bN x 31 1 : Nat) * 4096) = (immB x : Nat) := by
  have hb := bN_lts x
  have e1 := i64_or_nat (bN x 8 4 * 2) (bN x 25 6 * 32) (by omega) (by omega)
  rw [or_lo 5 (bN x 25 6) (bN x 8 4 * 2) (by omega)] at e1
  have e2 := i64_or_nat (bN x 8 4 * 2 + bN x 25 6 * 2 ^ 5) (bN x 7 1 * 2048) (by omega) (by omega)
  rw [or_lo 11 (bN x 7 1) _ (by omega)] at e2
  have e3 := i64_or_nat (bN x 8 4 * 2 + bN x 25 6 * 2 ^ 5 + bN x 7 1 * 2 ^ 11) (bN x 31 1 * 4096) (by omega) (by omega)
  rw [or_lo 12 (bN x 31 1) _ (by omega)] at e3
  have e4 : immB x = bN x 8 4 * 2 + bN x 25 6 * 2 ^ 5 + bN x 7 1 * 2 ^ 11 + bN x 31 1 * 2 ^ 12 := by unfold immB; omega
  rw [show ((bN x 8 4 : Nat) : Int) * 2 = ((bN x 8 4 * 2 : Nat) : Int) by simp, show ((bN x 25 6 : Nat) : Int) * 32 = ((bN x 25 6 * 32 : Nat) : Int) by simp, show ((bN x 7 1 : Nat) : Int) * 2048 = ((bN x 7 1 * 2048 : Nat) : Int) by simp, show ((bN x 31 1 : Nat) : Int) * 4096 = ((bN x 31 1 * 4096 : Nat) : Int) by simp, e1, e2, e3, e4]
theorem orS (x : Nat) : bits .or .i64 (bN x 7 5 : Nat) ((bN x 25 7 : Nat) * 32) = (immS x : Nat) := by
  have hb := bN_lts x
  have e1 := i64_or_nat (bN x 7 5) (bN x 25 7 * 32) (by omega) (by omega)
  rw [or_lo 5 (bN x 25 7) (bN x 7 5) (by omega)] at e1
  have e4 : immS x = bN x 7 5 + bN x 25 7 * 2 ^ 5 := by unfold immS; omega
  rw [e4, ← e1]
  simp
theorem at3 {w W : World} {A : Obj} {c I : Array Value} {t u : TypeId} {m : Nat} (hW : (((w.alloc A).alloc (.cells c t)).drewN m).alloc (.cells I u) = W) :
    (∀ i, W.cell? ⟨w.heap.size + 1 + 1, i, none⟩ = I[i]?) ∧ (∀ i, W.cell? ⟨w.heap.size + 1, i, none⟩ = c[i]?) ∧ (∀ i, W.frozen? ⟨w.heap.size + 1, i, none⟩ = false) ∧ Below w.heap.size w W := by
  subst hW
  have hz : (((w.alloc A).alloc (.cells c t)).drewN m).heap.size = w.heap.size + 1 + 1 := by show ((w.alloc A).alloc (.cells c t)).heap.size = _; simp
  refine ⟨fun i => World.cell?_alloc_at I u _ i hz.symm, fun i => ?_, fun i => ?_, ?_⟩
  · rw [World.cell?_alloc_past _ _ _ (by omega)]
    exact World.cell?_alloc_at c t _ i (by simp)
  · rw [Below.frozen ((Below.refl _ _).alloc (Nat.le_refl _) _) (by show w.heap.size + 1 < _; omega)]
    exact World.frozen?_alloc_at c t _ i (by simp)
  · exact (below_drewN (((Below.refl _ _).alloc (Nat.le_refl _) _).alloc (by simp) _) _).alloc (by omega) _
set_option maxRecDepth 100000 in
set_option maxHeartbeats 1000000 in
theorem fields_J (s : ByteArray) (C F G : Int) (x : Nat) (hx : x < 4294967296) (w : World) : Calls Tryz.prog 105 #[.agg #[.string s, .int .u8 74, .int .i64 C, .int .i64 F, .int .i64 G], .int .u32 x] w fun e w' => e = .returned (.agg #[.int .i64 0, .int .i64 (bN x 7 5 : Nat), .int .i64 0, .int .i64 0, .int .i64 (sgn (immJ x) 21)]) ∧ Below w.heap.size w w' := by
  have q0 := bN_lt x 21 10
  have q1 := bN_lt x 20 1
  have q2 := bN_lt x 12 8
  have q3 := bN_lt x 31 1
  simp only [Nat.reducePow] at q0 q1 q2 q3
  have ej := orJ x
  have lj : immJ x < 4294967296 := by unfold immJ; omega
  go_enter Tryz.func105, Tryz.ntmps105
  go_wp2_with (first | (go_at_call 119; refine (bitsR_int x _ _ hx (by decide) (by decide) _).mono ?_; rintro e w1 ⟨rfl, m, rfl⟩) | (go_at_call 120; refine (signed_any (immJ x) 21 lj (by decide) (by decide) _).mono ?_; rintro e w1 ⟨rfl, rfl⟩))
  refine bodyPost_ret (v := .agg #[.int .i64 0, .int .i64 (bN x 7 5 : Nat), .int .i64 0, .int .i64 0, .int .i64 (sgn (immJ x) 21)]) (by simp [results, Tryz.results105, go_sem]) rfl ⟨rfl, ?_⟩
  repeat' (first | assumption | with_reducible exact Below.refl _ _ | with_reducible refine below_drewN ?_ _ | with_reducible refine Below.drew ?_ | with_reducible refine Below.setCell ?_ ?_ _ | with_reducible refine Below.alloc ?_ ?_ _)
  all_goals (simp; try omega)
set_option maxRecDepth 100000 in
set_option maxHeartbeats 1000000 in
theorem fields_I (s : ByteArray) (C F G : Int) (x : Nat) (hx : x < 4294967296) (w : World) : Calls Tryz.prog 105 #[.agg #[.string s, .int .u8 73, .int .i64 C, .int .i64 F, .int .i64 G], .int .u32 x] w fun e w' => e = .returned (.agg #[.int .i64 0, .int .i64 (bN x 7 5 : Nat), .int .i64 (bN x 15 5 : Nat), .int .i64 0, .int .i64 (sgn (bN x 20 12) 12)]) ∧ Below w.heap.size w w' := by
  have q0 := bN_lt x 20 12
  simp only [Nat.reducePow] at q0
  have lj : bN x 20 12 < 4294967296 := by omega
  go_enter Tryz.func105, Tryz.ntmps105
  go_wp2_with (first | (go_at_call 119; refine (bitsR_int x _ _ hx (by decide) (by decide) _).mono ?_; rintro e w1 ⟨rfl, m, rfl⟩) | (go_at_call 120; refine (signed_any (bN x 20 12) 12 lj (by decide) (by decide) _).mono ?_; rintro e w1 ⟨rfl, rfl⟩))
  refine bodyPost_ret (v := .agg #[.int .i64 0, .int .i64 (bN x 7 5 : Nat), .int .i64 (bN x 15 5 : Nat), .int .i64 0, .int .i64 (sgn (bN x 20 12) 12)]) (by simp [results, Tryz.results105, go_sem]) rfl ⟨rfl, ?_⟩
  repeat' (first | assumption | with_reducible exact Below.refl _ _ | with_reducible refine below_drewN ?_ _ | with_reducible refine Below.drew ?_ | with_reducible refine Below.setCell ?_ ?_ _ | with_reducible refine Below.alloc ?_ ?_ _)
  all_goals (simp; try omega)
set_option maxRecDepth 100000 in
set_option maxHeartbeats 1000000 in
theorem fields_L (s : ByteArray) (C F G : Int) (x : Nat) (hx : x < 4294967296) (w : World) : Calls Tryz.prog 105 #[.agg #[.string s, .int .u8 76, .int .i64 C, .int .i64 F, .int .i64 G], .int .u32 x] w fun e w' => e = .returned (.agg #[.int .i64 0, .int .i64 (bN x 7 5 : Nat), .int .i64 (bN x 15 5 : Nat), .int .i64 0, .int .i64 (sgn (bN x 20 12) 12)]) ∧ Below w.heap.size w w' := by
  have q0 := bN_lt x 20 12
  simp only [Nat.reducePow] at q0
  have lj : bN x 20 12 < 4294967296 := by omega
  go_enter Tryz.func105, Tryz.ntmps105
  go_wp2_with (first | (go_at_call 119; refine (bitsR_int x _ _ hx (by decide) (by decide) _).mono ?_; rintro e w1 ⟨rfl, m, rfl⟩) | (go_at_call 120; refine (signed_any (bN x 20 12) 12 lj (by decide) (by decide) _).mono ?_; rintro e w1 ⟨rfl, rfl⟩))
  refine bodyPost_ret (v := .agg #[.int .i64 0, .int .i64 (bN x 7 5 : Nat), .int .i64 (bN x 15 5 : Nat), .int .i64 0, .int .i64 (sgn (bN x 20 12) 12)]) (by simp [results, Tryz.results105, go_sem]) rfl ⟨rfl, ?_⟩
  repeat' (first | assumption | with_reducible exact Below.refl _ _ | with_reducible refine below_drewN ?_ _ | with_reducible refine Below.drew ?_ | with_reducible refine Below.setCell ?_ ?_ _ | with_reducible refine Below.alloc ?_ ?_ _)
  all_goals (simp; try omega)
set_option maxRecDepth 100000 in
set_option maxHeartbeats 1000000 in
theorem fields_H (s : ByteArray) (C F G : Int) (x : Nat) (hx : x < 4294967296) (w : World) : Calls Tryz.prog 105 #[.agg #[.string s, .int .u8 72, .int .i64 C, .int .i64 F, .int .i64 G], .int .u32 x] w fun e w' => e = .returned (.agg #[.int .i64 0, .int .i64 (bN x 7 5 : Nat), .int .i64 (bN x 15 5 : Nat), .int .i64 0, .int .i64 (bN x 20 5 : Nat)]) ∧ Below w.heap.size w w' := by
  go_enter Tryz.func105, Tryz.ntmps105
  go_wp2_with ((go_at_call 119; refine (bitsR_int x _ _ hx (by decide) (by decide) _).mono ?_; rintro e w1 ⟨rfl, m, rfl⟩))
  refine bodyPost_ret (v := .agg #[.int .i64 0, .int .i64 (bN x 7 5 : Nat), .int .i64 (bN x 15 5 : Nat), .int .i64 0, .int .i64 (bN x 20 5 : Nat)]) (by simp [results, Tryz.results105, go_sem]) rfl ⟨rfl, ?_⟩
  repeat' (first | assumption | with_reducible exact Below.refl _ _ | with_reducible refine below_drewN ?_ _ | with_reducible refine Below.drew ?_ | with_reducible refine Below.setCell ?_ ?_ _ | with_reducible refine Below.alloc ?_ ?_ _)
  all_goals (simp; try omega)
set_option maxRecDepth 100000 in
set_option maxHeartbeats 1000000 in
theorem fields_R (s : ByteArray) (C F G : Int) (x : Nat) (hx : x < 4294967296) (w : World) : Calls Tryz.prog 105 #[.agg #[.string s, .int .u8 82, .int .i64 C, .int .i64 F, .int .i64 G], .int .u32 x] w fun e w' => e = .returned (.agg #[.int .i64 0, .int .i64 (bN x 7 5 : Nat), .int .i64 (bN x 15 5 : Nat), .int .i64 (bN x 20 5 : Nat), .int .i64 0]) ∧ Below w.heap.size w w' := by
  go_enter Tryz.func105, Tryz.ntmps105
  go_wp2_with ((go_at_call 119; refine (bitsR_int x _ _ hx (by decide) (by decide) _).mono ?_; rintro e w1 ⟨rfl, m, rfl⟩))
  refine bodyPost_ret (v := .agg #[.int .i64 0, .int .i64 (bN x 7 5 : Nat), .int .i64 (bN x 15 5 : Nat), .int .i64 (bN x 20 5 : Nat), .int .i64 0]) (by simp [results, Tryz.results105, go_sem]) rfl ⟨rfl, ?_⟩
  repeat' (first | assumption | with_reducible exact Below.refl _ _ | with_reducible refine below_drewN ?_ _ | with_reducible refine Below.drew ?_ | with_reducible refine Below.setCell ?_ ?_ _ | with_reducible refine Below.alloc ?_ ?_ _)
  all_goals (simp; try omega)
set_option maxRecDepth 100000 in
set_option maxHeartbeats 1000000 in
theorem fields_F (s : ByteArray) (C F G : Int) (x : Nat) (hx : x < 4294967296) (w : World) : Calls Tryz.prog 105 #[.agg #[.string s, .int .u8 70, .int .i64 C, .int .i64 F, .int .i64 G], .int .u32 x] w fun e w' => e = .returned (.agg #[.int .i64 0, .int .i64 0, .int .i64 0, .int .i64 0, .int .i64 (bN x 20 8 : Nat)]) ∧ Below w.heap.size w w' := by
  go_enter Tryz.func105, Tryz.ntmps105
  go_wp2_with ((go_at_call 119; refine (bitsR_int x _ _ hx (by decide) (by decide) _).mono ?_; rintro e w1 ⟨rfl, m, rfl⟩))
  refine bodyPost_ret (v := .agg #[.int .i64 0, .int .i64 0, .int .i64 0, .int .i64 0, .int .i64 (bN x 20 8 : Nat)]) (by simp [results, Tryz.results105, go_sem]) rfl ⟨rfl, ?_⟩
  repeat' (first | assumption | with_reducible exact Below.refl _ _ | with_reducible refine below_drewN ?_ _ | with_reducible refine Below.drew ?_ | with_reducible refine Below.setCell ?_ ?_ _ | with_reducible refine Below.alloc ?_ ?_ _)
  all_goals (simp; try omega)
set_option maxRecDepth 100000 in
set_option maxHeartbeats 1000000 in
theorem fields_N (s : ByteArray) (C F G : Int) (x : Nat) (hx : x < 4294967296) (w : World) : Calls Tryz.prog 105 #[.agg #[.string s, .int .u8 78, .int .i64 C, .int .i64 F, .int .i64 G], .int .u32 x] w fun e w' => e = .returned (.agg #[.int .i64 0, .int .i64 0, .int .i64 0, .int .i64 0, .int .i64 0]) ∧ Below w.heap.size w w' := by
  go_enter Tryz.func105, Tryz.ntmps105
  go_wp2_with ((go_at_call 119; refine (bitsR_int x _ _ hx (by decide) (by decide) _).mono ?_; rintro e w1 ⟨rfl, m, rfl⟩))
  refine bodyPost_ret (v := .agg #[.int .i64 0, .int .i64 0, .int .i64 0, .int .i64 0, .int .i64 0]) (by simp [results, Tryz.results105, go_sem]) rfl ⟨rfl, ?_⟩
  repeat' (first | assumption | with_reducible exact Below.refl _ _ | with_reducible refine below_drewN ?_ _ | with_reducible refine Below.drew ?_ | with_reducible refine Below.setCell ?_ ?_ _ | with_reducible refine Below.alloc ?_ ?_ _)
  all_goals (simp; try omega)
set_option maxRecDepth 100000 in
set_option maxHeartbeats 1000000 in
theorem fields_B (s : ByteArray) (C F G : Int) (x : Nat) (hx : x < 4294967296) (w : World) : Calls Tryz.prog 105 #[.agg #[.string s, .int .u8 66, .int .i64 C, .int .i64 F, .int .i64 G], .int .u32 x] w fun e w' => e = .returned (.agg #[.int .i64 0, .int .i64 0, .int .i64 (bN x 15 5 : Nat), .int .i64 (bN x 20 5 : Nat), .int .i64 (sgn (immB x) 13)]) ∧ Below w.heap.size w w' := by
  have q0 := bN_lt x 8 4
  have q1 := bN_lt x 25 6
  have q2 := bN_lt x 7 1
  have q3 := bN_lt x 31 1
  simp only [Nat.reducePow] at q0 q1 q2 q3
  have ej := orB x
  have lj : immB x < 4294967296 := by unfold immB; omega
  go_enter Tryz.func105, Tryz.ntmps105
  go_wp2_with (first | (go_at_call 119; refine (bitsR_int x _ _ hx (by decide) (by decide) _).mono ?_; rintro e w1 ⟨rfl, m, rfl⟩) | (go_at_call 120; refine (signed_any (immB x) 13 lj (by decide) (by decide) _).mono ?_; rintro e w1 ⟨rfl, rfl⟩))
  refine bodyPost_ret (v := .agg #[.int .i64 0, .int .i64 0, .int .i64 (bN x 15 5 : Nat), .int .i64 (bN x 20 5 : Nat), .int .i64 (sgn (immB x) 13)]) (by simp [results, Tryz.results105, go_sem]) rfl ⟨rfl, ?_⟩
  repeat' (first | assumption | with_reducible exact Below.refl _ _ | with_reducible refine below_drewN ?_ _ | with_reducible refine Below.drew ?_ | with_reducible refine Below.setCell ?_ ?_ _ | with_reducible refine Below.alloc ?_ ?_ _)
  all_goals (simp; try omega)
set_option maxRecDepth 100000 in
set_option maxHeartbeats 1000000 in
theorem fields_S (s : ByteArray) (C F G : Int) (x : Nat) (hx : x < 4294967296) (w : World) : Calls Tryz.prog 105 #[.agg #[.string s, .int .u8 83, .int .i64 C, .int .i64 F, .int .i64 G], .int .u32 x] w fun e w' => e = .returned (.agg #[.int .i64 0, .int .i64 0, .int .i64 (bN x 15 5 : Nat), .int .i64 (bN x 20 5 : Nat), .int .i64 (sgn (immS x) 12)]) ∧ Below w.heap.size w w' := by
  have q0 := bN_lt x 7 5
  have q1 := bN_lt x 25 7
  simp only [Nat.reducePow] at q0 q1
  have ej := orS x
  have lj : immS x < 4294967296 := by unfold immS; omega
  go_enter Tryz.func105, Tryz.ntmps105
  go_wp2_with (first | (go_at_call 119; refine (bitsR_int x _ _ hx (by decide) (by decide) _).mono ?_; rintro e w1 ⟨rfl, m, rfl⟩) | (go_at_call 120; refine (signed_any (immS x) 12 lj (by decide) (by decide) _).mono ?_; rintro e w1 ⟨rfl, rfl⟩))
  refine bodyPost_ret (v := .agg #[.int .i64 0, .int .i64 0, .int .i64 (bN x 15 5 : Nat), .int .i64 (bN x 20 5 : Nat), .int .i64 (sgn (immS x) 12)]) (by simp [results, Tryz.results105, go_sem]) rfl ⟨rfl, ?_⟩
  repeat' (first | assumption | with_reducible exact Below.refl _ _ | with_reducible refine below_drewN ?_ _ | with_reducible refine Below.drew ?_ | with_reducible refine Below.setCell ?_ ?_ _ | with_reducible refine Below.alloc ?_ ?_ _)
  all_goals (simp; try omega)
set_option maxRecDepth 100000 in
set_option maxHeartbeats 1000000 in
theorem fields_U (s : ByteArray) (C F G : Int) (x : Nat) (hx : x < 4294967296) (w : World) : Calls Tryz.prog 105 #[.agg #[.string s, .int .u8 85, .int .i64 C, .int .i64 F, .int .i64 G], .int .u32 x] w fun e w' => e = .returned (.agg #[.int .i64 0, .int .i64 (bN x 7 5 : Nat), .int .i64 0, .int .i64 0, .int .i64 (bN x 12 20 : Nat)]) ∧ Below w.heap.size w w' := by
  go_enter Tryz.func105, Tryz.ntmps105
  go_wp2_with ((go_at_call 119; refine (bitsR_int x _ _ hx (by decide) (by decide) _).mono ?_; rintro e w1 ⟨rfl, m, rfl⟩))
  generalize hW : ((((w.alloc _).alloc _).drewN _).alloc _) = W
  obtain ⟨h1, h2, h4, h5⟩ := at3 hW
  clear hW
  go_region_held3 (fun w' => w'.cell? ⟨w.heap.size + 1 + 1, 1, none⟩ = some (.int .i64 (bN x 7 5 : Nat))) (go_keep) ((go_at_call 119; refine (bitsR_int x _ _ hx (by decide) (by decide) _).mono ?_; rintro e w1 ⟨rfl, m, rfl⟩))
  go_wp2
  refine bodyPost_ret (v := .agg #[.int .i64 0, .int .i64 (bN x 7 5 : Nat), .int .i64 0, .int .i64 0, .int .i64 (bN x 12 20 : Nat)]) (by simp [results, Tryz.results105, go_sem, h2]) rfl ⟨rfl, ?_⟩
  repeat' (first | assumption | with_reducible exact Below.refl _ _ | with_reducible refine below_drewN ?_ _ | with_reducible refine Below.drew ?_ | with_reducible refine Below.setCell ?_ ?_ _ | with_reducible refine Below.alloc ?_ ?_ _)
  all_goals (simp; try omega)
set_option maxRecDepth 100000 in
set_option maxHeartbeats 1000000 in
theorem fields_C (s : ByteArray) (C F G : Int) (x : Nat) (hx : x < 4294967296) (w : World) : Calls Tryz.prog 105 #[.agg #[.string s, .int .u8 67, .int .i64 C, .int .i64 F, .int .i64 G], .int .u32 x] w fun e w' => e = .returned (.agg #[.int .i64 0, .int .i64 (bN x 7 5 : Nat), .int .i64 (bN x 15 5 : Nat), .int .i64 0, .int .i64 (bN x 20 12 : Nat)]) ∧ Below w.heap.size w w' := by
  go_enter Tryz.func105, Tryz.ntmps105
  go_wp2_with ((go_at_call 119; refine (bitsR_int x _ _ hx (by decide) (by decide) _).mono ?_; rintro e w1 ⟨rfl, m, rfl⟩))
  generalize hW : ((((w.alloc _).alloc _).drewN _).alloc _) = W
  obtain ⟨h1, h2, h4, h5⟩ := at3 hW
  clear hW
  go_region_held3 (fun w' => w'.cell? ⟨w.heap.size + 1 + 1, 1, none⟩ = some (.int .i64 (bN x 7 5 : Nat)) ∧ w'.cell? ⟨w.heap.size + 1 + 1, 2, none⟩ = some (.int .i64 (bN x 15 5 : Nat))) (go_keep) ((go_at_call 119; refine (bitsR_int x _ _ hx (by decide) (by decide) _).mono ?_; rintro e w1 ⟨rfl, m, rfl⟩))
  go_wp2
  refine bodyPost_ret (v := .agg #[.int .i64 0, .int .i64 (bN x 7 5 : Nat), .int .i64 (bN x 15 5 : Nat), .int .i64 0, .int .i64 (bN x 20 12 : Nat)]) (by simp [results, Tryz.results105, go_sem, h2]) rfl ⟨rfl, ?_⟩
  repeat' (first | assumption | with_reducible exact Below.refl _ _ | with_reducible refine below_drewN ?_ _ | with_reducible refine Below.drew ?_ | with_reducible refine Below.setCell ?_ ?_ _ | with_reducible refine Below.alloc ?_ ?_ _)
  all_goals (simp; try omega)
set_option maxRecDepth 100000 in
set_option maxHeartbeats 1000000 in
theorem fields_D (s : ByteArray) (C F G : Int) (x : Nat) (hx : x < 4294967296) (w : World) : Calls Tryz.prog 105 #[.agg #[.string s, .int .u8 68, .int .i64 C, .int .i64 F, .int .i64 G], .int .u32 x] w fun e w' => e = .returned (.agg #[.int .i64 0, .int .i64 (bN x 7 5 : Nat), .int .i64 (bN x 15 5 : Nat), .int .i64 0, .int .i64 (bN x 20 12 : Nat)]) ∧ Below w.heap.size w w' := by
  go_enter Tryz.func105, Tryz.ntmps105
  go_wp2_with ((go_at_call 119; refine (bitsR_int x _ _ hx (by decide) (by decide) _).mono ?_; rintro e w1 ⟨rfl, m, rfl⟩))
  generalize hW : ((((w.alloc _).alloc _).drewN _).alloc _) = W
  obtain ⟨h1, h2, h4, h5⟩ := at3 hW
  clear hW
  go_region_held3 (fun w' => w'.cell? ⟨w.heap.size + 1 + 1, 1, none⟩ = some (.int .i64 (bN x 7 5 : Nat)) ∧ w'.cell? ⟨w.heap.size + 1 + 1, 2, none⟩ = some (.int .i64 (bN x 15 5 : Nat))) (go_keep) ((go_at_call 119; refine (bitsR_int x _ _ hx (by decide) (by decide) _).mono ?_; rintro e w1 ⟨rfl, m, rfl⟩))
  go_wp2
  refine bodyPost_ret (v := .agg #[.int .i64 0, .int .i64 (bN x 7 5 : Nat), .int .i64 (bN x 15 5 : Nat), .int .i64 0, .int .i64 (bN x 20 12 : Nat)]) (by simp [results, Tryz.results105, go_sem, h2]) rfl ⟨rfl, ?_⟩
  repeat' (first | assumption | with_reducible exact Below.refl _ _ | with_reducible refine below_drewN ?_ _ | with_reducible refine Below.drew ?_ | with_reducible refine Below.setCell ?_ ?_ _ | with_reducible refine Below.alloc ?_ ?_ _)
  all_goals (simp; try omega)
set_option maxRecDepth 100000 in
set_option maxHeartbeats 1000000 in
theorem fields_K (s : ByteArray) (C F G : Int) (x : Nat) (hx : x < 4294967296) (w : World) : Calls Tryz.prog 105 #[.agg #[.string s, .int .u8 75, .int .i64 C, .int .i64 F, .int .i64 G], .int .u32 x] w fun e w' => e = .returned (.agg #[.int .i64 0, .int .i64 (bN x 7 5 : Nat), .int .i64 (bN x 15 5 : Nat), .int .i64 0, .int .i64 (bN x 25 2 : Nat)]) ∧ Below w.heap.size w w' := by
  go_enter Tryz.func105, Tryz.ntmps105
  go_wp2_with ((go_at_call 119; refine (bitsR_int x _ _ hx (by decide) (by decide) _).mono ?_; rintro e w1 ⟨rfl, m, rfl⟩))
  generalize hW : ((((w.alloc _).alloc _).drewN _).alloc _) = W
  obtain ⟨h1, h2, h4, h5⟩ := at3 hW
  clear hW
  go_region_held3 (fun w' => w'.cell? ⟨w.heap.size + 1 + 1, 1, none⟩ = some (.int .i64 (bN x 7 5 : Nat)) ∧ w'.cell? ⟨w.heap.size + 1 + 1, 2, none⟩ = some (.int .i64 (bN x 15 5 : Nat))) (go_keep) ((go_at_call 119; refine (bitsR_int x _ _ hx (by decide) (by decide) _).mono ?_; rintro e w1 ⟨rfl, m, rfl⟩))
  go_wp2
  refine bodyPost_ret (v := .agg #[.int .i64 0, .int .i64 (bN x 7 5 : Nat), .int .i64 (bN x 15 5 : Nat), .int .i64 0, .int .i64 (bN x 25 2 : Nat)]) (by simp [results, Tryz.results105, go_sem, h2]) rfl ⟨rfl, ?_⟩
  repeat' (first | assumption | with_reducible exact Below.refl _ _ | with_reducible refine below_drewN ?_ _ | with_reducible refine Below.drew ?_ | with_reducible refine Below.setCell ?_ ?_ _ | with_reducible refine Below.alloc ?_ ?_ _)
  all_goals (simp; try omega)
set_option maxRecDepth 100000 in
set_option maxHeartbeats 1000000 in
theorem fields_A (s : ByteArray) (C F G : Int) (x : Nat) (hx : x < 4294967296) (w : World) : Calls Tryz.prog 105 #[.agg #[.string s, .int .u8 65, .int .i64 C, .int .i64 F, .int .i64 G], .int .u32 x] w fun e w' => e = .returned (.agg #[.int .i64 0, .int .i64 (bN x 7 5 : Nat), .int .i64 (bN x 15 5 : Nat), .int .i64 (bN x 20 5 : Nat), .int .i64 (bN x 25 2 : Nat)]) ∧ Below w.heap.size w w' := by
  go_enter Tryz.func105, Tryz.ntmps105
  go_wp2_with ((go_at_call 119; refine (bitsR_int x _ _ hx (by decide) (by decide) _).mono ?_; rintro e w1 ⟨rfl, m, rfl⟩))
  generalize hW : ((((w.alloc _).alloc _).drewN _).alloc _) = W
  obtain ⟨h1, h2, h4, h5⟩ := at3 hW
  clear hW
  go_region_held3 (fun w' => w'.cell? ⟨w.heap.size + 1 + 1, 1, none⟩ = some (.int .i64 (bN x 7 5 : Nat)) ∧ w'.cell? ⟨w.heap.size + 1 + 1, 2, none⟩ = some (.int .i64 (bN x 15 5 : Nat)) ∧ w'.cell? ⟨w.heap.size + 1 + 1, 3, none⟩ = some (.int .i64 (bN x 20 5 : Nat))) (go_keep) ((go_at_call 119; refine (bitsR_int x _ _ hx (by decide) (by decide) _).mono ?_; rintro e w1 ⟨rfl, m, rfl⟩))
  go_wp2
  refine bodyPost_ret (v := .agg #[.int .i64 0, .int .i64 (bN x 7 5 : Nat), .int .i64 (bN x 15 5 : Nat), .int .i64 (bN x 20 5 : Nat), .int .i64 (bN x 25 2 : Nat)]) (by simp [results, Tryz.results105, go_sem, h2]) rfl ⟨rfl, ?_⟩
  repeat' (first | assumption | with_reducible exact Below.refl _ _ | with_reducible refine below_drewN ?_ _ | with_reducible refine Below.drew ?_ | with_reducible refine Below.setCell ?_ ?_ _ | with_reducible refine Below.alloc ?_ ?_ _)
  all_goals (simp; try omega)
end Go.Proofs.YtengofkjlgajlaaGreatDoor
/-
  THE ANSWER's Decode.
-/
namespace Go.Proofs.YtengofkjlgajlaaGreatDoor
open Go Go.RowKit
theorem fields_row (i : Nat) (hi : i < 67) (x : Nat) (hx : x < 4294967296) (w : World) : Calls Tryz.prog 105 #[.agg #[.string (nameAt i), .int .u8 (letAt i), .int .i64 (codeRAt i), .int .i64 (fRAt i), .int .i64 (gRAt i)], .int .u32 x] w fun e w' => e = .returned (.agg #[.int .i64 0, .int .i64 (rdI (fmtAt (i + 1)) x), .int .i64 (rs1I (fmtAt (i + 1)) x), .int .i64 (rs2I (fmtAt (i + 1)) x), .int .i64 (immI (fmtAt (i + 1)) x)]) ∧ Below w.heap.size w w' := by
  have hm := let_mem i hi
  rw [lf_fmt i hi]
  generalize letAt i = L at hm
  simp only [letters, List.mem_cons, List.not_mem_nil, or_false] at hm
  rcases hm with rfl | rfl | rfl | rfl | rfl | rfl | rfl | rfl | rfl | rfl | rfl | rfl | rfl | rfl
  · rw [show rdI (lf 85) x = (bN x 7 5 : Nat) from (regZ_bN x).1, show rs1I (lf 85) x = 0 from rfl, show rs2I (lf 85) x = 0 from rfl, show immI (lf 85) x = (bN x 12 20 : Nat) from imm_U x]
    exact fields_U _ _ _ _ x hx w
  · rw [show rdI (lf 74) x = (bN x 7 5 : Nat) from (regZ_bN x).1, show rs1I (lf 74) x = 0 from rfl, show rs2I (lf 74) x = 0 from rfl, show immI (lf 74) x = sgn (immJ x) 21 from imm_J x]
    exact fields_J _ _ _ _ x hx w
  · rw [show rdI (lf 73) x = (bN x 7 5 : Nat) from (regZ_bN x).1, show rs1I (lf 73) x = (bN x 15 5 : Nat) from (regZ_bN x).2.1, show rs2I (lf 73) x = 0 from rfl, show immI (lf 73) x = sgn (bN x 20 12) 12 from imm_I 3 x (Or.inl rfl)]
    exact fields_I _ _ _ _ x hx w
  · rw [show rdI (lf 76) x = (bN x 7 5 : Nat) from (regZ_bN x).1, show rs1I (lf 76) x = (bN x 15 5 : Nat) from (regZ_bN x).2.1, show rs2I (lf 76) x = 0 from rfl, show immI (lf 76) x = sgn (bN x 20 12) 12 from imm_I 4 x (Or.inr rfl)]
    exact fields_L _ _ _ _ x hx w
  · rw [show rdI (lf 66) x = 0 from rfl, show rs1I (lf 66) x = (bN x 15 5 : Nat) from (regZ_bN x).2.1, show rs2I (lf 66) x = (bN x 20 5 : Nat) from (regZ_bN x).2.2, show immI (lf 66) x = sgn (immB x) 13 from imm_B x]
    exact fields_B _ _ _ _ x hx w
  · rw [show rdI (lf 83) x = 0 from rfl, show rs1I (lf 83) x = (bN x 15 5 : Nat) from (regZ_bN x).2.1, show rs2I (lf 83) x = (bN x 20 5 : Nat) from (regZ_bN x).2.2, show immI (lf 83) x = sgn (immS x) 12 from imm_S x]
    exact fields_S _ _ _ _ x hx w
  · rw [show rdI (lf 72) x = (bN x 7 5 : Nat) from (regZ_bN x).1, show rs1I (lf 72) x = (bN x 15 5 : Nat) from (regZ_bN x).2.1, show rs2I (lf 72) x = 0 from rfl, show immI (lf 72) x = (bN x 20 5 : Nat) from imm_H x]
    exact fields_H _ _ _ _ x hx w
  · rw [show rdI (lf 82) x = (bN x 7 5 : Nat) from (regZ_bN x).1, show rs1I (lf 82) x = (bN x 15 5 : Nat) from (regZ_bN x).2.1, show rs2I (lf 82) x = (bN x 20 5 : Nat) from (regZ_bN x).2.2, show immI (lf 82) x = 0 from imm_0 8 x (Or.inr (Or.inl rfl))]
    exact fields_R _ _ _ _ x hx w
  · rw [show rdI (lf 65) x = (bN x 7 5 : Nat) from (regZ_bN x).1, show rs1I (lf 65) x = (bN x 15 5 : Nat) from (regZ_bN x).2.1, show rs2I (lf 65) x = (bN x 20 5 : Nat) from (regZ_bN x).2.2, show immI (lf 65) x = (bN x 25 2 : Nat) from imm_A 9 x (Or.inl rfl)]
    exact fields_A _ _ _ _ x hx w
  · rw [show rdI (lf 75) x = (bN x 7 5 : Nat) from (regZ_bN x).1, show rs1I (lf 75) x = (bN x 15 5 : Nat) from (regZ_bN x).2.1, show rs2I (lf 75) x = 0 from rfl, show immI (lf 75) x = (bN x 25 2 : Nat) from imm_A 10 x (Or.inr rfl)]
    exact fields_K _ _ _ _ x hx w
  · rw [show rdI (lf 70) x = 0 from rfl, show rs1I (lf 70) x = 0 from rfl, show rs2I (lf 70) x = 0 from rfl, show immI (lf 70) x = (bN x 20 8 : Nat) from imm_F x]
    exact fields_F _ _ _ _ x hx w
  · rw [show rdI (lf 78) x = 0 from rfl, show rs1I (lf 78) x = 0 from rfl, show rs2I (lf 78) x = 0 from rfl, show immI (lf 78) x = 0 from imm_0 12 x (Or.inr (Or.inr rfl))]
    exact fields_N _ _ _ _ x hx w
  · rw [show rdI (lf 67) x = (bN x 7 5 : Nat) from (regZ_bN x).1, show rs1I (lf 67) x = (bN x 15 5 : Nat) from (regZ_bN x).2.1, show rs2I (lf 67) x = 0 from rfl, show immI (lf 67) x = (bN x 20 12 : Nat) from imm_C 13 x (Or.inl rfl)]
    exact fields_C _ _ _ _ x hx w
  · rw [show rdI (lf 68) x = (bN x 7 5 : Nat) from (regZ_bN x).1, show rs1I (lf 68) x = (bN x 15 5 : Nat) from (regZ_bN x).2.1, show rs2I (lf 68) x = 0 from rfl, show immI (lf 68) x = (bN x 20 12 : Nat) from imm_C 14 x (Or.inr rfl)]
    exact fields_D _ _ _ _ x hx w
theorem rows_bd (i : Nat) (hi : i < 67) : (0 ≤ codeRAt i ∧ codeRAt i < 128) ∧ (0 ≤ fRAt i ∧ fRAt i < 8) ∧ (0 ≤ gRAt i ∧ gRAt i < 1024) := by
  have : ∀ i, i < 67 → (0 ≤ codeRAt i ∧ codeRAt i < 128) ∧ (0 ≤ fRAt i ∧ fRAt i < 8) ∧ (0 ≤ gRAt i ∧ gRAt i < 1024) := by decide
  exact this i hi
theorem fixed_row (i : Nat) (hi : i < 67) (w : World) : Calls Tryz.prog 104 #[.agg #[.string (nameAt i), .int .u8 (letAt i), .int .i64 (codeRAt i), .int .i64 (fRAt i), .int .i64 (gRAt i)]] w fun e w' => e = .returned (.tuple #[.int .u32 (maskN (i + 1) : Nat), .int .u32 (wantN (i + 1) : Nat)]) ∧ Below w.heap.size w w' := by
  have hb := rows_bd i hi
  have := fixed_let (nameAt i) (letAt i) (codeRAt i) (fRAt i) (gRAt i) (let_mem i hi) hb.1 hb.2.1 hb.2.2 w
  rw [(mw_eq i hi).1, (mw_eq i hi).2] at this
  exact this
abbrev Z29 : Obj := .cells #[.int .i64 0, .int .i64 0, .int .i64 0, .int .i64 0, .int .i64 0] 102
theorem match_at (k x : Nat) (hk : k ≤ 67) (hx : x < 4294967296) : (bits .and .u32 (x : Int) (maskN k : Nat) == (wantN k : Nat)) = matchB k x := by
  obtain ⟨h1, h2⟩ := mask_eq k hk
  have := match_eq k x hk hx
  rw [h1, want_eq k hk] at this
  exact this
set_option maxHeartbeats 1000000 in
theorem decodeR_some (x k : Nat) (hx : x < 4294967296) (hk2 : k < 67) (hm : matchB (k + 1) x = true) (w : World) : Calls Tryz.prog 73 #[.int .u32 x] w fun e w' => e = .returned (.tuple #[.agg #[.int .i64 (k + 1 : Nat), .int .i64 (rdI (fmtAt (k + 1)) x), .int .i64 (rs1I (fmtAt (k + 1)) x), .int .i64 (rs2I (fmtAt (k + 1)) x), .int .i64 (immI (fmtAt (k + 1)) x)], .bool true]) ∧ Below w.heap.size w w' := by
  have HM : Hid (matchB (k + 1) x = true) := hm
  clear hm
  go_enter Tryz.func73, Tryz.ntmps73
  go_wp2_with (go_at_call 57; refine (rows_made _).mono ?_; rintro e w1 ⟨rfl, hR, hb, hz⟩)
  have hR0 : RowsAt w1 (w.heap.size + 1) := by simpa using hR
  have hb0 : Below (w.heap.size + 1) (w.alloc Z29) w1 := hb.mono (by simp)
  clear hR hb hz
  go_loopw [5] (fun v wr => ∃ j : Nat, j ≤ k ∧ v = .int .i64 j ∧ Below (w.heap.size + 1) (w.alloc Z29) wr ∧ RowsAt wr (w.heap.size + 1)) (fun v _ => 68 - (intOf v).toNat)
  case atStart => exact ⟨0, Nat.zero_le _, rfl, hb0, hR0⟩
  case round =>
    clear hb0 hR0
    obtain ⟨j, hj2, rfl, hbr, hRr⟩ := hrel
    obtain ⟨k1, k2, k3, k4⟩ := keep1 hbr
    have c0 := hRr.r0 j (by omega)
    have c1 := hRr.r1 j (by omega)
    have c2 := hRr.r2 j (by omega)
    have c3 := hRr.r3 j (by omega)
    have c4 := hRr.r4 j (by omega)
    have HR : Hid (RowsAt wr (w.heap.size + 1)) := hRr
    have hz := hRr.here
    have HB : Hid (Below (w.heap.size + 1) (w.alloc Z29) wr) := hbr
    clear hbr k4 hRr
    by_cases hlt : j < k
    · have hno : matchB (j + 1) x = false := by
        cases e : matchB (j + 1) x
        · rfl
        · exact absurd (match_uniq x (j + 1) (k + 1) (by omega) (by omega) (by omega) (by omega) e HM.out) (by omega)
      have ht := match_at (j + 1) x (by omega) hx
      rw [hno] at ht
      clear k1 k2 hno
      go_wp2_with (go_at_call 104; refine (fixed_row j (by omega) _).mono ?_; rintro e w2 ⟨rfl, hb2⟩)
      obtain ⟨b1, z1⟩ := chain_next HB.out (by omega) hb2
      go_roundw
      case rel => exact ⟨j + 1, by omega, by go_num, b1, HR.out.below hz hb2⟩
      case measure => simp [intOf]; omega
    · have hjk : j = k := by omega
      subst hjk
      have ht := match_at (j + 1) x (by omega) hx
      rw [HM.out] at ht
      clear k1 k2
      have HZ : Hid (w.heap.size + 1 ≤ wr.heap.size) := by show _ ≤ _; omega
      have HZ1 : Hid (w.heap.size + 1 < wr.heap.size) := hz
      clear k3
      go_wp2_with (first | (go_at_call 104; refine (fixed_row j (by omega) _).mono ?_; rintro e w2 ⟨rfl, hb2⟩; have hR2 := HR.out.below HZ1.out hb2; have d0 := hR2.r0 j (by omega); have d1 := hR2.r1 j (by omega); have d2 := hR2.r2 j (by omega); have d3 := hR2.r3 j (by omega); have d4 := hR2.r4 j (by omega); clear hR2 c0 c1 c2 c3 c4) | (go_at_call 105; refine (fields_row j (by omega) x hx _).mono ?_; rintro e w3 ⟨rfl, hb3⟩; obtain ⟨b1, z1⟩ := chain_next HB.out (HZ.out) hb2; obtain ⟨b2, z2⟩ := chain_next b1 z1 hb3; clear d0 d1 d2 d3 d4 b1 z1 hb2 hb3; obtain ⟨k1, k2, k3, k4⟩ := keep1 b2))
      refine bodyPost_ret (v := .tuple #[.agg #[.int .i64 (j + 1 : Nat), .int .i64 (rdI (fmtAt (j + 1)) x), .int .i64 (rs1I (fmtAt (j + 1)) x), .int .i64 (rs2I (fmtAt (j + 1)) x), .int .i64 (immI (fmtAt (j + 1)) x)], .bool true]) (by simp [results, Tryz.results73, go_sem, k1, k3]) rfl ⟨rfl, ?_⟩
      exact (((((k4.setCell (Nat.le_refl _) _).setCell (Nat.le_refl _) _).setCell (Nat.le_refl _) _).setCell (Nat.le_refl _) _).setCell (Nat.le_refl _) _).alloc (by simp; omega) _
set_option maxHeartbeats 1000000 in
theorem decodeR_none (x : Nat) (hx : x < 4294967296) (hm : ∀ k, 1 ≤ k → k ≤ 67 → matchB k x = false) (w : World) : Calls Tryz.prog 73 #[.int .u32 x] w fun e w' => e = .returned (.tuple #[.agg #[.int .i64 0, .int .i64 0, .int .i64 0, .int .i64 0, .int .i64 0], .bool false]) ∧ Below w.heap.size w w' := by
  have HM : Hid (∀ k, 1 ≤ k → k ≤ 67 → matchB k x = false) := hm
  clear hm
  go_enter Tryz.func73, Tryz.ntmps73
  go_wp2_with (go_at_call 57; refine (rows_made _).mono ?_; rintro e w1 ⟨rfl, hR, hb, hz⟩)
  have hR0 : RowsAt w1 (w.heap.size + 1) := by simpa using hR
  have hb0 : Below (w.heap.size + 1) (w.alloc Z29) w1 := hb.mono (by simp)
  clear hR hb hz
  go_loopw [5] (fun v wr => ∃ j : Nat, j ≤ 67 ∧ v = .int .i64 j ∧ Below (w.heap.size + 1) (w.alloc Z29) wr ∧ RowsAt wr (w.heap.size + 1)) (fun v _ => 68 - (intOf v).toNat)
  case atStart => exact ⟨0, Nat.zero_le _, rfl, hb0, hR0⟩
  case round =>
    clear hb0 hR0
    obtain ⟨j, hj2, rfl, hbr, hRr⟩ := hrel
    obtain ⟨k1, k2, k3, k4⟩ := keep1 hbr
    have HR : Hid (RowsAt wr (w.heap.size + 1)) := hRr
    have hz := hRr.here
    have HB : Hid (Below (w.heap.size + 1) (w.alloc Z29) wr) := hbr
    have HK4 : Hid (Below w.heap.size w wr) := k4
    clear hbr k4 hRr
    by_cases hlt : j < 67
    · have hno : matchB (j + 1) x = false := HM.out (j + 1) (by omega) (by omega)
      have c0 := HR.out.r0 j (by omega)
      have c1 := HR.out.r1 j (by omega)
      have c2 := HR.out.r2 j (by omega)
      have c3 := HR.out.r3 j (by omega)
      have c4 := HR.out.r4 j (by omega)
      have ht := match_at (j + 1) x (by omega) hx
      rw [hno] at ht
      clear k1 k2 hno
      go_wp2_with (go_at_call 104; refine (fixed_row j (by omega) _).mono ?_; rintro e w2 ⟨rfl, hb2⟩)
      obtain ⟨b1, z1⟩ := chain_next HB.out (by omega) hb2
      go_roundw
      case rel => exact ⟨j + 1, by omega, by go_num, b1, HR.out.below hz hb2⟩
      case measure => simp [intOf]; omega
    · go_wp2
      refine bodyPost_ret (v := .tuple #[.agg #[.int .i64 0, .int .i64 0, .int .i64 0, .int .i64 0, .int .i64 0], .bool false]) (by simp [results, Tryz.results73, go_sem, k1]) rfl ⟨rfl, ?_⟩
      exact ((((HK4.out.setCell (Nat.le_refl _) _).setCell (Nat.le_refl _) _).setCell (Nat.le_refl _) _).setCell (Nat.le_refl _) _).setCell (Nat.le_refl _) _
end Go.Proofs.YtengofkjlgajlaaGreatDoor
