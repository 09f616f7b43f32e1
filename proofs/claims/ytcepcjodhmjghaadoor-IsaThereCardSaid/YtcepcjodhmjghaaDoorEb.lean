/-
  THE PROGRAM's WRITING OF A WORD: write.
-/
import Derived.Test.YtcepcjodhmjghaaDoorWi
namespace Go.Proofs.YtcepcjodhmjghaaDoor
open Go Go.RowKit
def accW (f v r : Nat) : Nat → Nat
  | 0 => r
  | j + 1 => stepN v (accW f v r j) (pc f (3 * j + 1)) (pc f (3 * j)) (pc f (3 * j + 2))
theorem accW_lt (f v r : Nat) (hr : r < 4294967296) : ∀ j, accW f v r j < 4294967296
  | 0 => hr
  | j + 1 => stepN_lt _ _ _ _ _ (accW_lt f v r hr j)
def regsN (rd rs1 rs2 : Nat) : Nat := (rd * 128 ||| rs1 * 32768) ||| rs2 * 1048576
theorem regsN_lt (rd rs1 rs2 : Nat) (h1 : rd < 32) (h2 : rs1 < 32) (h3 : rs2 < 32) : regsN rd rs1 rs2 < 4294967296 :=
  Nat.or_lt_two_pow (n := 32) (Nat.or_lt_two_pow (n := 32) (by omega) (by omega)) (by omega)
theorem regsN_int (rd rs1 rs2 : Nat) (h1 : rd < 32) (h2 : rs1 < 32) (h3 : rs2 < 32) : bits .or .u32 (bits .or .u32 ((rd : Int) * 128) ((rs1 : Int) * 32768)) ((rs2 : Int) * 1048576) = (regsN rd rs1 rs2 : Nat) := by
  have e1 := u32_or_nat (rd * 128) (rs1 * 32768) (by omega) (by omega)
  have e2 := u32_or_nat (rd * 128 ||| rs1 * 32768) (rs2 * 1048576) (Nat.or_lt_two_pow (n := 32) (by omega) (by omega)) (by omega)
  rw [show (rd : Int) * 128 = ((rd * 128 : Nat) : Int) by simp, show (rs1 : Int) * 32768 = ((rs1 * 32768 : Nat) : Int) by simp, show (rs2 : Int) * 1048576 = ((rs2 * 1048576 : Nat) : Int) by simp, e1, e2]
  rfl
set_option maxHeartbeats 1000000 in
theorem write_any (f : Nat) (hf : f < 15) (op : Int) (rd rs1 rs2 : Nat) (h1 : rd < 32) (h2 : rs1 < 32) (h3 : rs2 < 32) (imm : Int) (v : Nat) (hv : imm % 4294967296 = (v : Int)) (w : World) :
    Calls Tryd.prog 27 #[.int .i64 f, .agg #[.int .i64 op, .int .i64 rd, .int .i64 rs1, .int .i64 rs2, .int .i64 imm]] w fun e w' => e = .returned (.int .u32 (accW f v (regsN rd rs1 rs2) 4 : Nat)) ∧ Below w.heap.size w w' := by
  have hr := regsN_int rd rs1 rs2 h1 h2 h3
  have HR : Hid (regsN rd rs1 rs2 < 4294967296) := regsN_lt rd rs1 rs2 h1 h2 h3
  have hv32 : v < 4294967296 := by omega
  go_enter Tryd.func27, Tryd.ntmps27
  go_wp2_with (go_at_call 41; refine (pieces_any f hf _).mono ?_; rintro e w1 ⟨rfl, hb1⟩)
  have hb0 : Below (w.heap.size + 1) (w.alloc (.cells #[.int .i64 op, .int .i64 rd, .int .i64 rs1, .int .i64 rs2, .int .i64 imm] 25)) w1 := hb1.mono (by simp)
  clear hb1 hr
  go_loopw [5, 24] (fun u v' wr => ∃ j : Nat, j ≤ 4 ∧ v' = .int .i64 j ∧ u = .int .u32 (accW f v (regsN rd rs1 rs2) j : Nat) ∧ Below (w.heap.size + 1) (w.alloc (.cells #[.int .i64 op, .int .i64 rd, .int .i64 rs1, .int .i64 rs2, .int .i64 imm] 25)) wr) (fun _ v _ => 4 - (intOf v).toNat)
  case atStart => exact ⟨0, Nat.zero_le _, rfl, rfl, hb0⟩
  case round =>
    clear hb0
    obtain ⟨j, hj, rfl, rfl, hbr⟩ := hrel
    obtain ⟨k1, k2, k3, k4⟩ := keep1 hbr
    have HB : Hid (Below (w.heap.size + 1) (w.alloc (.cells #[.int .i64 op, .int .i64 rd, .int .i64 rs1, .int .i64 rs2, .int .i64 imm] 25)) wr) := hbr
    have HK4 : Hid (Below w.heap.size w wr) := k4
    have ki : wr.cell? ⟨w.heap.size, 4, none⟩ = some (.int .i64 imm) := by rw [k1]; rfl
    clear k1 k2 k4 hbr
    have ha := accW_lt f v _ HR.out j
    obtain ⟨a, hae⟩ : ∃ a, accW f v (regsN rd rs1 rs2) j = a := ⟨_, rfl⟩
    have HA : Hid (accW f v (regsN rd rs1 rs2) j = a) := hae
    rw [hae] at ha ⊢
    clear hae
    by_cases hlt : j < 4
    · have hidx := run_index79 f j hlt
      have q0 := pc_lt f (3 * j) hf
      have q1 := pc_lt f (3 * j + 1) hf
      have q2 := pc_lt f (3 * j + 2) hf
      obtain ⟨pw, e0⟩ : ∃ a, pc f (3 * j) = a := ⟨_, rfl⟩
      obtain ⟨pi, e1⟩ : ∃ a, pc f (3 * j + 1) = a := ⟨_, rfl⟩
      obtain ⟨len, e2⟩ : ∃ a, pc f (3 * j + 2) = a := ⟨_, rfl⟩
      have HA2 : Hid (accW f v (regsN rd rs1 rs2) (j + 1) = stepN v a pi pw len) := by
        show stepN v (accW f v (regsN rd rs1 rs2) j) _ _ _ = _
        rw [HA.out, e0, e1, e2]
      rw [e0] at q0 hidx; rw [e1] at q1 hidx; rw [e2] at q2 hidx
      clear e0 e1 e2
      go_wp2_with fail
      go_region_held3 (fun w' => w'.cell? ⟨w.heap.size, 4, none⟩ = some (.int .i64 imm) ∧ w'.cell? ⟨wr.heap.size, 0, none⟩ = some (.int .u8 pw) ∧ w'.cell? ⟨wr.heap.size, 1, none⟩ = some (.int .u8 pi) ∧ w'.cell? ⟨wr.heap.size, 2, none⟩ = some (.int .u8 len)) (go_keep) ((go_at_call 42; refine (mask_any pw pi len q2 _).mono ?_; rintro e w2 ⟨rfl, rfl⟩))
      have hst := stepN_int v a pi pw len hv32 ha q2
      rw [← hv, ← IntKind.wrap_u32' imm, ← IntKind.wrap_u32'] at hst
      have HST : Hid (bits .or .u32 (a : Int) (IntKind.u32.wrap (bits .and .u32 (IntKind.u32.wrap imm / 2 ^ pi) ((2 ^ len - 1 : Nat) : Int) * 2 ^ pw)) = (stepN v a pi pw len : Nat)) := hst
      rw [HST.out]
      clear hst
      go_wp2
      go_roundw
      case rel => exact ⟨j + 1, by omega, by go_num, by rw [HA2.out], ((HB.out.alloc (by have := HB.out.size; simp at this; omega) _).alloc (by simp; have := HB.out.size; simp at this; omega) _).drew⟩
      case measure => simp [intOf]; omega
    · have hj4 : j = 4 := by omega
      subst hj4
      go_wp2
      go_ret
      exact ⟨ret_int (by rw [HA.out]), HK4.out⟩
end Go.Proofs.YtcepcjodhmjghaaDoor
