/-
  THE PROGRAM's READING OF A WORD: register, mask, bits, pieces, number.
-/
import Derived.Test.YtnlagbiikpbjdaaGreatDoorWd
namespace Go.Proofs.YtnlagbiikpbjdaaGreatDoor
open Go Go.RowKit
theorem u32_and' (a b : Nat) (ha : a < 4294967296) (hb : b < 4294967296) : bits .and .u32 (a : Int) (b : Int) = ((a &&& b : Nat) : Int) := u32_and_nat a b ha hb
def regI (b : Bool) (y : Nat) : Int := if b then ((y % 32 : Nat) : Int) else 0
theorem wrap64_nat (n : Nat) (h : n < 4294967296) : wrap64 (n : Int) = n := by unfold wrap64; omega
theorem register_any (b : Bool) (y : Nat) (h : y < 4294967296) (w : World) : Calls Tryz.prog 126 #[.bool b, .int .u32 y] w fun e w' => e = .returned (.int .i64 (regI b y)) ∧ w' = w := by
  cases b
  · go_enter Tryz.func126, Tryz.ntmps126
    go_wp2
    go_ret
    exact ⟨rfl, rfl⟩
  · go_enter Tryz.func126, Tryz.ntmps126
    go_wp2
    go_ret
    refine ⟨ret_int ?_, rfl⟩
    have e := u32_and_nat y 31 h (by decide)
    rw [nat_mask5] at e
    have e' : bits .and .u32 (y : Int) 31 = ((y % 32 : Nat) : Int) := e
    rw [e', wrap64_nat _ (by omega)]
    rfl
theorem mask_any (a b n : Nat) (h : n < 32) (w : World) : Calls Tryz.prog 162 #[.agg #[.int .u8 a, .int .u8 b, .int .u8 n]] w fun e w' => e = .returned (.int .u32 ((2 ^ n - 1 : Nat) : Int)) ∧ w' = w.alloc (.cells #[.int .u8 a, .int .u8 b, .int .u8 n] 220) := by
  go_enter Tryz.func162, Tryz.ntmps162
  go_wp2
  go_ret
  refine ⟨ret_int ?_, rfl⟩
  have h2 : 2 ^ n < 4294967296 := Nat.pow_lt_pow_of_lt (a := 2) (by decide) (show n < 32 from h)
  have h3 : 1 ≤ 2 ^ n := Nat.one_le_two_pow
  have e : ((2 : Int) ^ n) = ((2 ^ n : Nat) : Int) := by simp
  rw [e]
  omega
/-- a format's pieces: where in the word, where in Imm, how long -/
def pcs (f : Nat) : List Nat := match f with
  | 1 => [12, 0, 20, 0, 0, 0, 0, 0, 0, 0, 0, 0]
  | 2 => [31, 20, 1, 21, 1, 10, 20, 11, 1, 12, 12, 8]
  | 3 => [20, 0, 12, 0, 0, 0, 0, 0, 0, 0, 0, 0]
  | 4 => [20, 0, 12, 0, 0, 0, 0, 0, 0, 0, 0, 0]
  | 5 => [31, 12, 1, 25, 5, 6, 8, 1, 4, 7, 11, 1]
  | 6 => [25, 5, 7, 7, 0, 5, 0, 0, 0, 0, 0, 0]
  | 7 => [20, 0, 5, 0, 0, 0, 0, 0, 0, 0, 0, 0]
  | 9 => [25, 0, 2, 0, 0, 0, 0, 0, 0, 0, 0, 0]
  | 10 => [25, 0, 2, 0, 0, 0, 0, 0, 0, 0, 0, 0]
  | 11 => [20, 0, 8, 0, 0, 0, 0, 0, 0, 0, 0, 0]
  | 13 => [20, 0, 12, 0, 0, 0, 0, 0, 0, 0, 0, 0]
  | 14 => [20, 0, 12, 0, 0, 0, 0, 0, 0, 0, 0, 0]
  | _ => [0, 0, 0, 0, 0, 0, 0, 0, 0, 0, 0, 0]
def pc (f j : Nat) : Nat := (pcs f).getD j 0
def pcsV (f : Nat) : Value := .agg #[.int .u8 (pc f 0), .int .u8 (pc f 1), .int .u8 (pc f 2), .int .u8 (pc f 3), .int .u8 (pc f 4), .int .u8 (pc f 5), .int .u8 (pc f 6), .int .u8 (pc f 7), .int .u8 (pc f 8), .int .u8 (pc f 9), .int .u8 (pc f 10), .int .u8 (pc f 11)]
theorem lt15 {P : Nat → Prop} (h0 : P 0) (h1 : P 1) (h2 : P 2) (h3 : P 3) (h4 : P 4) (h5 : P 5) (h6 : P 6) (h7 : P 7) (h8 : P 8) (h9 : P 9) (h10 : P 10) (h11 : P 11) (h12 : P 12) (h13 : P 13) (h14 : P 14) : ∀ f, f < 15 → P f
  | 0, _ => h0 | 1, _ => h1 | 2, _ => h2 | 3, _ => h3 | 4, _ => h4 | 5, _ => h5 | 6, _ => h6 | 7, _ => h7 | 8, _ => h8 | 9, _ => h9 | 10, _ => h10 | 11, _ => h11 | 12, _ => h12 | 13, _ => h13 | 14, _ => h14
  | n + 15, h => absurd h (by omega)
set_option maxHeartbeats 1000000 in
theorem pieces_any (f : Nat) (hf : f < 15) (w : World) : Calls Tryz.prog 161 #[.int .i64 f] w fun e w' => e = .returned (pcsV f) ∧ Below w.heap.size w w' := by
  revert f
  apply lt15
  all_goals
    go_enter Tryz.func161, Tryz.ntmps161
    go_wp2
    refine bodyPost_ret (v := _) (by simp [results, Tryz.results161, go_sem]; rfl) rfl ⟨rfl, (Below.refl _ _).alloc (Nat.le_refl _) _⟩
end Go.Proofs.YtnlagbiikpbjdaaGreatDoor
