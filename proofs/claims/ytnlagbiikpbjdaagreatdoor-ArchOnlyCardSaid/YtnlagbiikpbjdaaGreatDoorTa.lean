/-
  THE CHAPTER 'alu' IN PLAIN NUMBERS, AND THE ANSWER's SMALL FUNCTIONS.
-/
import Derived.Test.YtnlagbiikpbjdaaGreatDoorWc
namespace Go.Proofs.YtnlagbiikpbjdaaGreatDoor
open Go Go.RowKit
def bitI (b : Bool) : Int := if b then 1 else 0
/-- what an operation computes, by its number -/
def exN : Nat → Int → Int → Int
  | 1, _, b => b * 4096 % 4294967296
  | 2, a, b => (a + b * 4096) % 4294967296
  | 19, a, b => (a + b) % 4294967296
  | 28, a, b => (a + b) % 4294967296
  | 29, a, b => (a - b) % 4294967296
  | 20, a, b => bitI (decide (wrap32 a < wrap32 b))
  | 31, a, b => bitI (decide (wrap32 a < wrap32 b))
  | 21, a, b => bitI (decide (a < b))
  | 32, a, b => bitI (decide (a < b))
  | 22, a, b => bits .xor .u32 a b
  | 33, a, b => bits .xor .u32 a b
  | 23, a, b => bits .or .u32 a b
  | 36, a, b => bits .or .u32 a b
  | 24, a, b => bits .and .u32 a b
  | 37, a, b => bits .and .u32 a b
  | 25, a, b => a * 2 ^ (b % 32).toNat % 4294967296
  | 30, a, b => a * 2 ^ (b % 32).toNat % 4294967296
  | 26, a, b => a / 2 ^ (b % 32).toNat
  | 34, a, b => a / 2 ^ (b % 32).toNat
  | 27, a, b => wrap32 a / 2 ^ (b % 32).toNat % 4294967296
  | 35, a, b => wrap32 a / 2 ^ (b % 32).toNat % 4294967296
  | 38, a, b => a * b % 4294967296
  | 39, a, b => wrap32 a * wrap32 b / 4294967296 % 4294967296
  | 40, a, b => wrap32 a * b / 4294967296 % 4294967296
  | 41, a, b => a * b / 4294967296 % 4294967296
  | 42, a, b => if b = 0 then 4294967295 else (wrap32 a).tdiv (wrap32 b) % 4294967296
  | 43, a, b => if b = 0 then 4294967295 else a / b
  | 44, a, b => if b = 0 then a else (wrap32 a).tmod (wrap32 b) % 4294967296
  | 45, a, b => if b = 0 then a else a % b
  | _, _, _ => 0
def exI (op a b : Int) : Int := if 0 ≤ op then exN op.toNat a b else 0
/-- is a branch taken, by its number -/
def tkN : Nat → Int → Int → Bool
  | 5, a, b => a == b
  | 6, a, b => a != b
  | 7, a, b => decide (wrap32 a < wrap32 b)
  | 8, a, b => decide (wrap32 b ≤ wrap32 a)
  | 9, a, b => decide (a < b)
  | 10, a, b => decide (b ≤ a)
  | _, _, _ => false
def tkI (op a b : Int) : Bool := if 0 ≤ op then tkN op.toNat a b else false
/-- how many bytes -/
def szN : Nat → Int
  | 11 => 1 | 14 => 1 | 16 => 1
  | 12 => 2 | 15 => 2 | 17 => 2
  | 13 => 4 | 18 => 4
  | 46 => 4 | 47 => 4 | 48 => 4 | 49 => 4 | 50 => 4 | 51 => 4 | 52 => 4 | 53 => 4 | 54 => 4 | 55 => 4 | 56 => 4
  | _ => 0
def szI (op : Int) : Int := if 0 ≤ op then szN op.toNat else 0
/-- a register's value of loaded bytes -/
def wdN : Nat → Int → Int
  | 11, r => ((r + 128) % 256 - 128) % 4294967296
  | 12, r => ((r + 32768) % 65536 - 32768) % 4294967296
  | 13, r => r
  | 14, r => r % 256
  | 15, r => r % 65536
  | 46, r => r | 47, r => r | 48, r => r | 49, r => r | 50, r => r | 51, r => r | 52, r => r | 53, r => r | 54, r => r | 55, r => r | 56, r => r
  | _, _ => 0
def wdI (op r : Int) : Int := if 0 ≤ op then wdN op.toNat r else 0
/-- what an atomic operation writes -/
def swN : Nat → Int → Int → Int
  | 47, _, b => b
  | 48, _, b => b
  | 49, o, b => (o + b) % 4294967296
  | 50, o, b => bits .xor .u32 o b
  | 51, o, b => bits .and .u32 o b
  | 52, o, b => bits .or .u32 o b
  | 53, o, b => if wrap32 o < wrap32 b then o else b
  | 54, o, b => if wrap32 o < wrap32 b then b else o
  | 55, o, b => if o < b then o else b
  | 56, o, b => if o < b then b else o
  | _, o, _ => o
def swI (op o b : Int) : Int := if 0 ≤ op then swN op.toNat o b else o

theorem w64_mod (z : Int) : wrap64 z % 4294967296 = z % 4294967296 := by unfold wrap64; omega
theorem w64_high (z : Int) : wrap64 z / 4294967296 % 4294967296 = z / 4294967296 % 4294967296 := by unfold wrap64; omega
theorem u64_high (z : Int) : IntKind.u64.wrap z / 4294967296 % 4294967296 = z / 4294967296 % 4294967296 := by rw [IntKind.wrap_u64]; omega
theorem w32_mod (z : Int) : wrap32 z % 4294967296 = z % 4294967296 := by unfold wrap32; omega
theorem w32_add (a b : Int) : (wrap32 a + wrap32 b) % 4294967296 = (a + b) % 4294967296 := by unfold wrap32; omega
theorem w32_sub (a b : Int) : (wrap32 a - wrap32 b) % 4294967296 = (a - b) % 4294967296 := by unfold wrap32; omega
theorem w32_mul (a b : Int) : wrap32 a * wrap32 b % 4294967296 = a * b % 4294967296 := by
  rw [Int.mul_emod, w32_mod, w32_mod, ← Int.mul_emod]
theorem wraps_u32 (n : Int) (h₀ : 0 ≤ n) (h₁ : n < 2 ^ 32) : IntKind.u32.wrap n = n := by rw [IntKind.wrap_u32]; omega
theorem and31 (b : Int) (h : 0 ≤ b ∧ b < 4294967296) : bits .and .u32 b 31 = b % 32 :=
  bits_mask .u32 32 (by decide) wraps_u32 5 (by decide) b h.1 (by omega)
theorem or_less_and (a b : Int) : (bits .or .u32 a b - bits .and .u32 a b) % 4294967296 = bits .xor .u32 a b := by
  have h : ∀ x y : BitVec 32, ((x ||| y).toNat : Int) - (x &&& y).toNat = ((x ^^^ y).toNat : Int) := fun x y => by
    have h1 : (x ^^^ y) + (x &&& y) = (x ^^^ y) ||| (x &&& y) := BitVec.add_eq_or_of_and_eq_zero _ _ (by ext i hi; simp; cases x[i] <;> cases y[i] <;> decide)
    have h2 : (x ^^^ y) ||| (x &&& y) = x ||| y := by ext i hi; simp; cases x[i] <;> cases y[i] <;> rfl
    have h3 : (x ^^^ y).toNat + (x &&& y).toNat < 2 ^ 32 := by
      have e : (x ^^^ y).toNat + (x &&& y).toNat = (x ||| y).toNat := by
        have := BitVec.toNat_add_of_and_eq_zero (x := x ^^^ y) (y := x &&& y) (by ext i hi; simp; cases x[i] <;> cases y[i] <;> decide)
        rw [← this, h1, h2]
      rw [e]; exact (x ||| y).isLt
    have h4 := congrArg BitVec.toNat (h1.trans h2)
    rw [BitVec.toNat_add, Nat.mod_eq_of_lt h3] at h4
    omega
  have hw : ∀ n : Nat, n < 2 ^ 32 → IntKind.u32.wrap (n : Int) = n := fun n hn => wraps_u32 _ (by omega) (by exact_mod_cast hn)
  have e1 : bits .or .u32 a b = ((BitVec.ofInt 32 a ||| BitVec.ofInt 32 b).toNat : Int) := hw _ (BitVec.isLt _)
  have e2 : bits .and .u32 a b = ((BitVec.ofInt 32 a &&& BitVec.ofInt 32 b).toNat : Int) := hw _ (BitVec.isLt _)
  have e3 : bits .xor .u32 a b = ((BitVec.ofInt 32 a ^^^ BitVec.ofInt 32 b).toNat : Int) := hw _ (BitVec.isLt _)
  rw [e1, e2, e3, h]
  have := (BitVec.ofInt 32 a ^^^ BitVec.ofInt 32 b).isLt
  omega
theorem shr_mod (a : Int) (n : Nat) (h : 0 ≤ a ∧ a < 4294967296) : a / 2 ^ n % 4294967296 = a / 2 ^ n := by
  have h1 : (0 : Int) ≤ a / 2 ^ n := Int.ediv_nonneg h.1 (Int.pow_nonneg (by decide))
  have h2 : a / 2 ^ n ≤ a := Int.ediv_le_self _ h.1
  omega

theorem udiv_mod (a b : Int) (h : 0 ≤ a ∧ a < 4294967296) (hb : 0 < b) : a / b % 4294967296 = a / b := by
  have h1 : (0 : Int) ≤ a / b := Int.ediv_nonneg h.1 (by omega)
  have h2 : a / b ≤ a := Int.ediv_le_self _ h.1
  omega
theorem below2 {a b c : World} (h : Below a.heap.size a b) (k : Below b.heap.size b c) : Below a.heap.size a c := h.trans (k.mono h.size)
/-- an operation's name in the answer -/
def nameOp (op : Int) : ByteArray := if 1 ≤ op ∧ op ≤ 67 then nameAt (op - 1).toNat else ⟨#[]⟩
theorem name_any (op : Int) (w : World) : Calls Tryz.prog 93 #[.int .i64 op] w fun e w' => e = .returned (.string (nameOp op)) ∧ Below w.heap.size w w' := by
  by_cases h1 : op < 1
  · rw [nameOp, if_neg (by omega)]
    go_enter Tryz.func93, Tryz.ntmps93
    go_wp2
    go_ret
    exact ⟨rfl, Below.refl _ _⟩
  · by_cases h2 : 67 < op
    · rw [nameOp, if_neg (by omega)]
      go_enter Tryz.func93, Tryz.ntmps93
      go_wp2
      go_ret
      exact ⟨rfl, Below.refl _ _⟩
    · obtain ⟨i, rfl⟩ : ∃ i : Nat, op = (i : Int) + 1 := ⟨(op - 1).toNat, by omega⟩
      have hi : i < 67 := by omega
      rw [nameOp, if_pos (by omega), show ((i : Int) + 1 - 1).toNat = i by omega]
      clear h1 h2
      go_enter Tryz.func93, Tryz.ntmps93
      go_wp2_with (go_at_call 61; refine (rows_made _).mono ?_; rintro e w' ⟨rfl, hR, hb, hz⟩; have c0 := hR.r0 i hi; clear hR)
      go_ret
      exact ⟨rfl, hb⟩
theorem signed3_any (a : Int) (w : World) : Calls Tryz.prog 94 #[.int .u32 a] w fun e w' => e = .returned (.int .i64 (wrap32 a)) ∧ w' = w := by
  go_enter Tryz.func94, Tryz.ntmps94
  go_wp2
  go_ret
  exact ⟨ret_int (by unfold wrap64 wrap32; omega), rfl⟩
theorem bit_any (b : Bool) (w : World) : Calls Tryz.prog 112 #[.bool b] w fun e w' => e = .returned (.int .u32 (bitI b)) ∧ w' = w := by
  cases b
  all_goals
    go_enter Tryz.func112, Tryz.ntmps112
    go_wp2
    go_ret
    exact ⟨rfl, rfl⟩
end Go.Proofs.YtnlagbiikpbjdaaGreatDoor
