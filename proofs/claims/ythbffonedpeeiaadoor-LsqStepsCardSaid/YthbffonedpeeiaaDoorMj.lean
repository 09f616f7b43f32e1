/-
  LSQ: bytes put together.
-/
import Derived.Test.YthbffonedpeeiaaDoorMi
import Derived.Laws.BitsAllLaws
namespace Go.Proofs.YthbffonedpeeiaaDoor
open Go Go.RowKit
theorem pow_is (k : Nat) : (2 : Nat) ^ (8 * k) = 256 ^ k := by rw [Nat.pow_mul]
theorem byte_is (d k : Nat) : (d : Int) / 2 ^ (8 * k) % 256 = ((d / 256 ^ k % 256 : Nat) : Int) := by
  rw [← pow_is]
  simp
theorem byteAt_any (e : Ac) (y k : Nat) (w : World) (hk : k < 4) (hy : y = e.a + k) (_h2 : y < 4294967296) (_hd : e.d < 4294967296) : Calls Tryd.prog 75 #[.agg e.vs.toArray, .int .u32 y] w fun r w' => r = .returned (.int .u8 (e.d / 256 ^ k % 256 : Nat)) ∧ Below w.heap.size w w' := by
  obtain ⟨X, hX, r1, hb, hs⟩ := boxed e w 86
  obtain ⟨c0, c1, c2, c3, c4, c5, c6, c7⟩ := row_cells0 r1
  have HX := Hid.in hX
  have HB := Hid.in hb
  have h3 : ((y : Int) - (e.a : Int)) % 4294967296 = k := by omega
  have h4 : (8 * (k : Int)) % 4294967296 = 8 * k := by omega
  clear r1 hX hb c0 c1 c3 c5 c6 c7
  go_enter Tryd.func75, Tryd.ntmps75
  go_upto_region 1 with fail
  rw [HX.out]
  go_wp2
  go_ret
  exact ⟨congrArg (fun x => Ending.returned (.int .u8 x)) (byte_is e.d k), HB.out⟩
theorem lowBytes_any (e : Ac) (w : World) (hz : e.z = 1 ∨ e.z = 2 ∨ e.z = 4) (hd : e.d < 4294967296) : Calls Tryd.prog 77 #[.agg e.vs.toArray] w fun r w' => r = .returned (.int .u32 (e.d % 256 ^ e.z : Nat)) ∧ Below w.heap.size w w' := by
  obtain ⟨X, hX, r1, hb, hs⟩ := boxed e w 86
  obtain ⟨c0, c1, c2, c3, c4, c5, c6, c7⟩ := row_cells0 r1
  have HX := Hid.in hX
  have HB := Hid.in hb
  obtain ⟨z, hez⟩ : ∃ z, e.z = z := ⟨_, rfl⟩
  obtain ⟨d, hed⟩ : ∃ d, e.d = d := ⟨_, rfl⟩
  rw [hez] at hz c3 ⊢
  rw [hed] at hd c4 ⊢
  clear r1 hX hb c0 c1 c2 c5 c6 c7 hez hed
  rcases hz with rfl | rfl | rfl
  · go_enter Tryd.func77, Tryd.ntmps77
    go_upto_region 1 with fail
    rw [HX.out]
    go_wp2
    go_ret
    exact ⟨congrArg (fun x => Ending.returned (.int .u32 x)) (by show (d : Int) * 16777216 % 4294967296 / 16777216 = ((d % 256 ^ 1 : Nat) : Int); omega), HB.out⟩
  · go_enter Tryd.func77, Tryd.ntmps77
    go_upto_region 1 with fail
    rw [HX.out]
    go_wp2
    go_ret
    exact ⟨congrArg (fun x => Ending.returned (.int .u32 x)) (by show (d : Int) * 65536 % 4294967296 / 65536 = ((d % 256 ^ 2 : Nat) : Int); omega), HB.out⟩
  · go_enter Tryd.func77, Tryd.ntmps77
    go_upto_region 1 with fail
    rw [HX.out]
    go_wp2
    go_ret
    exact ⟨congrArg (fun x => Ending.returned (.int .u32 x)) (by show (d : Int) = ((d % 256 ^ 4 : Nat) : Int); omega), HB.out⟩
def gmN (l : List Int) : Nat → Nat
  | 0 => 0
  | i + 1 => gmN l i + if l.getD i 0 = -1 then 0 else 2 ^ i
def QS.byteOf (S : QS) (e : Ac) (i : Nat) (k : Int) : Nat := (S.at k.toNat).d / 256 ^ (e.a + i - (S.at k.toNat).a) % 256
def QS.gvN (S : QS) (e : Ac) (l : List Int) : Nat → Nat
  | 0 => 0
  | i + 1 => S.gvN e l i + if l.getD i 0 = -1 then 0 else S.byteOf e i (l.getD i 0) * 256 ^ i
theorem gmN_lt (l : List Int) : ∀ i, gmN l i < 2 ^ i
  | 0 => by simp [gmN]
  | i + 1 => by
    have := gmN_lt l i
    unfold gmN
    rw [Nat.pow_succ]
    split <;> omega
theorem QS.gvN_lt (S : QS) (e : Ac) (l : List Int) : ∀ i, S.gvN e l i < 256 ^ i
  | 0 => by simp [QS.gvN]
  | i + 1 => by
    have := QS.gvN_lt S e l i
    have hb : S.byteOf e i (l.getD i 0) < 256 := Nat.mod_lt _ (by decide)
    have hm : S.byteOf e i (l.getD i 0) * 256 ^ i ≤ 255 * 256 ^ i := Nat.mul_le_mul_right _ (by omega)
    unfold QS.gvN
    rw [Nat.pow_succ]
    split <;> omega
theorem ofInt_64 (a : Nat) (ha : a < 9223372036854775808) : (BitVec.ofInt 64 (a : Int)).toNat = a := by
  rw [BitVec.ofInt_natCast, BitVec.toNat_ofNat]; exact Nat.mod_eq_of_lt (by omega)
theorem i64_or_nat (a b : Nat) (ha : a < 9223372036854775808) (hb : b < 9223372036854775808) : bits .or .i64 (a : Int) (b : Int) = ((a ||| b : Nat) : Int) := by
  have hx : a ||| b < 2 ^ 63 := Nat.or_lt_two_pow (by omega) (by omega)
  show IntKind.i64.wrap ((BitVec.ofInt 64 (a : Int) ||| BitVec.ofInt 64 (b : Int)).toNat : Int) = _
  rw [BitVec.toNat_or, ofInt_64 a ha, ofInt_64 b hb, IntKind.wrap_i64]
  omega
theorem or_mask (m i : Nat) (hm : m < 2 ^ i) (hi : i < 4) : bits .or .i64 (m : Int) (2 ^ i) = ((m + 2 ^ i : Nat) : Int) := by
  have hp : 2 ^ i ≤ 8 := by
    have : 2 ^ i ≤ 2 ^ 3 := Nat.pow_le_pow_right (by omega) (by omega)
    omega
  have e1 : (2 : Int) ^ i = ((2 ^ i : Nat) : Int) := by simp
  rw [e1, i64_or_nat _ _ (by omega) (by omega), Nat.or_comm, nat_join i _ _ (Nat.mod_self _) hm, Nat.add_comm]
theorem or_step (x y k : Nat) (hx : x < 256 ^ k) (hy : y < 256) (hk : k < 4) : bits .or .u32 (x : Int) ((y : Int) * 2 ^ (8 * k) % 4294967296) = ((x + y * 256 ^ k : Nat) : Int) := by
  have e : (2 : Nat) ^ (8 * k) = 256 ^ k := by rw [Nat.pow_mul]
  have hp : 256 ^ k ≤ 16777216 := by
    have : 256 ^ k ≤ 256 ^ 3 := Nat.pow_le_pow_right (by omega) (by omega)
    omega
  have h1 : y * 256 ^ k < 4294967296 := by
    have : y * 256 ^ k ≤ 255 * 256 ^ k := Nat.mul_le_mul_right _ (by omega)
    omega
  have e1 : (y : Int) * 2 ^ (8 * k) % 4294967296 = ((y * 256 ^ k : Nat) : Int) := by
    have : (y : Int) * 2 ^ (8 * k) = ((y * 256 ^ k : Nat) : Int) := by
      rw [← e]
      simp
    rw [this]
    omega
  rw [e1, u32_or_nat _ _ (by omega) h1, Nat.or_comm, nat_join (8 * k) _ _ (by rw [e]; exact Nat.mul_mod_left _ _) (by rw [e]; exact hx), Nat.add_comm]
end Go.Proofs.YthbffonedpeeiaaDoor
