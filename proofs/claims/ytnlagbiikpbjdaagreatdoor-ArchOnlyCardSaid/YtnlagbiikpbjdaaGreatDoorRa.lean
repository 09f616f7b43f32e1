/-
  THE ANSWER's bits, signed, fixed.
-/
import Derived.Test.YtnlagbiikpbjdaaGreatDoorWd
import Derived.Deep.RegionHeld3
namespace Go.Proofs.YtnlagbiikpbjdaaGreatDoor
open Go Go.RowKit
theorem pow2_lt (n : Nat) (h : n < 32) : 2 ^ n < 4294967296 := Nat.pow_lt_pow_of_lt (a := 2) (by decide) (show n < 32 from h)
theorem w64 (n : Nat) (h : n < 9223372036854775808) : wrap64 (n : Int) = n := by unfold wrap64; omega
theorem ofInt_64 (a : Nat) (ha : a < 9223372036854775808) : (BitVec.ofInt 64 (a : Int)).toNat = a := by
  rw [BitVec.ofInt_natCast, BitVec.toNat_ofNat]; exact Nat.mod_eq_of_lt (by omega)
theorem i64_and_nat (a b : Nat) (ha : a < 9223372036854775808) (hb : b < 9223372036854775808) : bits .and .i64 (a : Int) (b : Int) = ((a &&& b : Nat) : Int) := by
  have hx : a &&& b < 2 ^ 63 := Nat.and_lt_two_pow _ (by omega)
  show IntKind.i64.wrap ((BitVec.ofInt 64 (a : Int) &&& BitVec.ofInt 64 (b : Int)).toNat : Int) = _
  rw [BitVec.toNat_and, ofInt_64 a ha, ofInt_64 b hb, IntKind.wrap_i64]
  omega
theorem i64_or_nat (a b : Nat) (ha : a < 9223372036854775808) (hb : b < 9223372036854775808) : bits .or .i64 (a : Int) (b : Int) = ((a ||| b : Nat) : Int) := by
  have hx : a ||| b < 2 ^ 63 := Nat.or_lt_two_pow (by omega) (by omega)
  show IntKind.i64.wrap ((BitVec.ofInt 64 (a : Int) ||| BitVec.ofInt 64 (b : Int)).toNat : Int) = _
  rw [BitVec.toNat_or, ofInt_64 a ha, ofInt_64 b hb, IntKind.wrap_i64]
  omega
/-- so many bits of a word, from one on -/
def bN (x a n : Nat) : Nat := x / 2 ^ a % 2 ^ n
theorem bN_lt (x a n : Nat) : bN x a n < 2 ^ n := Nat.mod_lt _ (Nat.two_pow_pos n)
theorem bitsR_any (x a n : Nat) (h : x < 4294967296) (h1 : a < 32) (h2 : n < 32) (w : World) : Calls Tryz.prog 157 #[.int .u32 x, .int .i64 a, .int .i64 n] w fun e w' => e = .returned (.int .i64 (bN x a n : Nat)) ∧ ∃ m, w' = w.drewN m := by
  go_enter Tryz.func157, Tryz.ntmps157
  go_wp2_with fail
  go_quiet (fail)
  go_wp2
  go_ret
  refine ⟨ret_int ?_, _, rfl⟩
  have hp := pow2_lt n h2
  have h3 : 1 ≤ 2 ^ n := Nat.one_le_two_pow
  have hd : x / 2 ^ a < 4294967296 := Nat.lt_of_le_of_lt (Nat.div_le_self _ _) h
  have e1 : ((x : Int) / 2 ^ a) = ((x / 2 ^ a : Nat) : Int) := by simp
  have e2 : ((2 : Int) ^ n) = ((2 ^ n : Nat) : Int) := by simp
  rw [e1, e2, w64 _ (by omega), w64 _ (by omega), show (((2 ^ n : Nat) : Int) - 1) = ((2 ^ n - 1 : Nat) : Int) by omega, w64 _ (by omega), i64_and_nat _ _ (by omega) (by omega), Nat.and_two_pow_sub_one_eq_mod]
  rfl
def sgn (v n : Nat) : Int := if v / 2 ^ (n - 1) % 2 = 1 then (v : Int) - 2 ^ n else v
theorem signed_any (v n : Nat) (h : v < 4294967296) (h1 : 1 ≤ n) (h2 : n < 32) (w : World) : Calls Tryz.prog 158 #[.int .i64 v, .int .i64 n] w fun e w' => e = .returned (.int .i64 (sgn v n)) ∧ w' = w := by
  have hp := pow2_lt n h2
  have e1 : bits .and .i64 ((v : Int) / 2 ^ (n - 1)) 1 = ((v / 2 ^ (n - 1) % 2 : Nat) : Int) := by
    have hd : v / 2 ^ (n - 1) < 4294967296 := Nat.lt_of_le_of_lt (Nat.div_le_self _ _) h
    have := i64_and_nat (v / 2 ^ (n - 1)) 1 (by omega) (by decide)
    rw [nat_mask1] at this
    simpa using this
  by_cases hs : v / 2 ^ (n - 1) % 2 = 1
  · have t : (bits .and .i64 ((v : Int) / 2 ^ (n - 1)) 1 == 1) = true := by rw [e1, hs]; rfl
    have HS : Hid (v / 2 ^ (n - 1) % 2 = 1) := hs
    clear e1 hs hp
    go_enter Tryz.func158, Tryz.ntmps158
    go_wp2
    go_ret
    refine ⟨ret_int ?_, rfl⟩
    unfold sgn
    have hp := pow2_lt n h2
    have e2 : ((2 : Int) ^ n) = ((2 ^ n : Nat) : Int) := by simp
    rw [if_pos HS.out, e2, w64 _ (by omega)]
    generalize 2 ^ n = q at hp
    unfold wrap64
    omega
  · have t : (bits .and .i64 ((v : Int) / 2 ^ (n - 1)) 1 == 1) = false := by
      rw [e1]
      generalize v / 2 ^ (n - 1) % 2 = q at hs
      simpa using (show ¬ (q : Int) = 1 by omega)
    have HS : Hid (¬ v / 2 ^ (n - 1) % 2 = 1) := hs
    clear e1 hs hp
    go_enter Tryz.func158, Tryz.ntmps158
    go_wp2
    go_ret
    refine ⟨ret_int ?_, rfl⟩
    unfold sgn
    rw [if_neg HS.out]
/-- the bits that a row asks for, and what they must be, as the answer reckons them -/
def mwR (L C F G : Int) : Int × Int :=
  if L = 85 ∨ L = 74 then (127, C)
  else if L = 72 ∨ L = 82 then (bits .or .u32 127 4261441536, bits .or .u32 (bits .or .u32 C (F * 4096)) (G * 33554432 % 4294967296))
  else if L = 65 then (bits .or .u32 127 4160778240, bits .or .u32 (bits .or .u32 C (F * 4096)) (G * 134217728 % 4294967296))
  else if L = 75 then (bits .or .u32 127 4193284096, bits .or .u32 (bits .or .u32 C (F * 4096)) (G * 134217728 % 4294967296))
  else if L = 70 then (4027580415, C)
  else if L = 78 then (4294967295, bits .or .u32 C (G * 1048576))
  else (bits .or .u32 127 28672, bits .or .u32 C (F * 4096))
theorem ret_two {k l : IntKind} {a b c d : Int} (h1 : a = c) (h2 : b = d) : Ending.returned (.tuple #[.int k a, .int l b]) = .returned (.tuple #[.int k c, .int l d]) := by rw [h1, h2]
set_option maxHeartbeats 2000000 in
theorem fixed_let (s : ByteArray) (L C F G : Int) (hL : L ∈ letters) (hC : 0 ≤ C ∧ C < 128) (hF : 0 ≤ F ∧ F < 8) (hG : 0 ≤ G ∧ G < 1024) (w : World) : Calls Tryz.prog 110 #[.agg #[.string s, .int .u8 L, .int .i64 C, .int .i64 F, .int .i64 G]] w fun e w' => e = .returned (.tuple #[.int .u32 (mwR L C F G).1, .int .u32 (mwR L C F G).2]) ∧ Below w.heap.size w w' := by
  simp only [letters, List.mem_cons, List.not_mem_nil, or_false] at hL
  rcases hL with rfl | rfl | rfl | rfl | rfl | rfl | rfl | rfl | rfl | rfl | rfl | rfl | rfl | rfl
  all_goals
    go_enter Tryz.func110, Tryz.ntmps110
    go_wp2_with fail
    try go_quiet (fail)
    go_wp2
    go_ret2
    exact ⟨ret_two (by simp [mwR]) (by simp [mwR]), by first | exact below_drewN ((Below.refl _ _).alloc (Nat.le_refl _) _) _ | exact (Below.refl _ _).alloc (Nat.le_refl _) _⟩
end Go.Proofs.YtnlagbiikpbjdaaGreatDoor
