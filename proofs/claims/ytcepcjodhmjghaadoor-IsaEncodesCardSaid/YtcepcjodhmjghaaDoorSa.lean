/-
  THE ANSWER's spread.
-/
import Derived.Test.YtcepcjodhmjghaaDoorPg
namespace Go.Proofs.YtcepcjodhmjghaaDoor
open Go Go.RowKit
/-- the bits of an instruction's fields, as the answer reckons them -/
def spI (L : Int) (rd rs1 rs2 v : Nat) : Int :=
  if L = 85 then bits .or .u32 ((rd : Int) * 128) ((v : Int) * 4096 % 4294967296)
  else if L = 74 then bits .or .u32 (bits .or .u32 (bits .or .u32 (bits .or .u32 ((rd : Int) * 128) (bits .and .u32 ((v : Int) / 1048576) 1 * 2147483648 % 4294967296)) (bits .and .u32 ((v : Int) / 2) 1023 * 2097152 % 4294967296)) (bits .and .u32 ((v : Int) / 2048) 1 * 1048576 % 4294967296)) (bits .and .u32 ((v : Int) / 4096) 255 * 4096 % 4294967296)
  else if L = 73 ∨ L = 76 ∨ L = 67 ∨ L = 68 ∨ L = 72 then bits .or .u32 (bits .or .u32 ((rd : Int) * 128) ((rs1 : Int) * 32768)) ((v : Int) * 1048576 % 4294967296)
  else if L = 66 then bits .or .u32 (bits .or .u32 (bits .or .u32 (bits .or .u32 (bits .or .u32 ((rs1 : Int) * 32768) ((rs2 : Int) * 1048576)) (bits .and .u32 ((v : Int) / 4096) 1 * 2147483648 % 4294967296)) (bits .and .u32 ((v : Int) / 32) 63 * 33554432 % 4294967296)) (bits .and .u32 ((v : Int) / 2) 15 * 256 % 4294967296)) (bits .and .u32 ((v : Int) / 2048) 1 * 128 % 4294967296)
  else if L = 83 then bits .or .u32 (bits .or .u32 (bits .or .u32 ((rs1 : Int) * 32768) ((rs2 : Int) * 1048576)) (bits .and .u32 ((v : Int) / 32) 127 * 33554432 % 4294967296)) (bits .and .u32 (v : Int) 31 * 128 % 4294967296)
  else if L = 75 ∨ L = 65 then bits .or .u32 (bits .or .u32 (bits .or .u32 ((rd : Int) * 128) ((rs1 : Int) * 32768)) ((rs2 : Int) * 1048576)) ((v : Int) * 33554432 % 4294967296)
  else if L = 70 then (v : Int) * 1048576 % 4294967296
  else bits .or .u32 (bits .or .u32 ((rd : Int) * 128) ((rs1 : Int) * 32768)) ((rs2 : Int) * 1048576)
theorem bits_range (op : BinOp) (a b : Int) : 0 ≤ bits op .u32 a b ∧ bits op .u32 a b < 4294967296 := by
  have := bounds_u32 (wf_bits op .u32 a b)
  omega
set_option maxRecDepth 100000 in
set_option maxHeartbeats 2000000 in
theorem spread_let (s : ByteArray) (L C F G op imm : Int) (hL : L ∈ letters) (rd rs1 rs2 v : Nat) (h1 : rd < 32) (h2 : rs1 < 32) (h3 : rs2 < 32) (hv : imm % 4294967296 = (v : Int)) (_hv : v < 4294967296) (w : World) :
    Calls Tryd.prog 28 #[.agg #[.string s, .int .u8 L, .int .i64 C, .int .i64 F, .int .i64 G], .agg #[.int .i64 op, .int .i64 rd, .int .i64 rs1, .int .i64 rs2, .int .i64 imm]] w fun e w' => e = .returned (.int .u32 (spI L rd rs1 rs2 v)) ∧ Below w.heap.size w w' := by
  simp only [letters, List.mem_cons, List.not_mem_nil, or_false] at hL
  rcases hL with rfl | rfl | rfl | rfl | rfl | rfl | rfl | rfl | rfl | rfl | rfl | rfl | rfl | rfl
  all_goals
    go_enter Tryd.func28, Tryd.ntmps28
    go_wp2
    go_ret
    exact ⟨ret_int (by simp [spI]), ((Below.refl _ _).alloc (Nat.le_refl _) _).alloc (by simp) _⟩
/-! ### where the instruction fits: the program's bits -/
theorem um (v m M L : Nat) (hv : v < 4294967296) (hM : M < 4294967296) (e : ∀ y, y &&& M = y % L) : bits .and .u32 ((v : Int) / (m : Nat)) (M : Nat) = ((v / m % L : Nat) : Int) := by
  have h := u32_and_nat (v / m) M (Nat.lt_of_le_of_lt (Nat.div_le_self _ _) hv) hM
  rw [e] at h
  rw [show ((v : Int) / (m : Nat)) = ((v / m : Nat) : Int) by simp]
  exact h
theorem regs_lt (rd : Nat) (h : rd < 32) : rd * 128 < 4294967296 ∧ rd * 32768 < 4294967296 ∧ rd * 1048576 < 4294967296 := by omega
theorem mulmod (y m : Nat) : ((y : Nat) : Int) * (m : Nat) % 4294967296 = ((y * m % 4294967296 : Nat) : Int) := by simp
end Go.Proofs.YtcepcjodhmjghaaDoor
