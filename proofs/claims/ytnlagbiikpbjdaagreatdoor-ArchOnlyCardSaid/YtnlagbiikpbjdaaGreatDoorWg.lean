/-
  THE PROGRAM's READING OF A WORD: number, read.
-/
import Derived.Test.YtnlagbiikpbjdaaGreatDoorWf
import Derived.Deep.CutRange
import Derived.Deep.DeepCutAuto
namespace Go.Proofs.YtnlagbiikpbjdaaGreatDoor
open Go Go.RowKit
def stepN (x a pw pi len : Nat) : Nat := a ||| ((x / 2 ^ pw) &&& (2 ^ len - 1)) * 2 ^ pi % 4294967296
def accN (f x : Nat) : Nat → Nat
  | 0 => 0
  | j + 1 => stepN x (accN f x j) (pc f (3 * j)) (pc f (3 * j + 1)) (pc f (3 * j + 2))
theorem stepN_lt (x a pw pi len : Nat) (ha : a < 4294967296) : stepN x a pw pi len < 4294967296 :=
  Nat.or_lt_two_pow (n := 32) ha (Nat.mod_lt _ (by decide))
theorem accN_lt (f x : Nat) : ∀ j, accN f x j < 4294967296
  | 0 => by simp [accN]
  | j + 1 => stepN_lt _ _ _ _ _ (accN_lt f x j)
theorem stepN_int (x a pw pi len : Nat) (hx : x < 4294967296) (ha : a < 4294967296) (hl : len < 32) :
    bits .or .u32 (a : Int) (bits .and .u32 ((x : Int) / 2 ^ pw) ((2 ^ len - 1 : Nat) : Int) * 2 ^ pi % 4294967296) = ((stepN x a pw pi len : Nat) : Int) := by
  have e0 : ((x : Int) / 2 ^ pw) = ((x / 2 ^ pw : Nat) : Int) := by simp
  have h2 : 2 ^ len < 4294967296 := Nat.pow_lt_pow_of_lt (a := 2) (by decide) (show len < 32 from hl)
  have hd : x / 2 ^ pw < 4294967296 := Nat.lt_of_le_of_lt (Nat.div_le_self _ _) hx
  rw [e0, u32_and_nat _ _ hd (by omega)]
  have e1 : (((x / 2 ^ pw &&& 2 ^ len - 1 : Nat) : Int) * 2 ^ pi % 4294967296) = (((x / 2 ^ pw &&& 2 ^ len - 1) * 2 ^ pi % 4294967296 : Nat) : Int) := by simp
  rw [e1, u32_or_nat _ _ ha (Nat.mod_lt _ (by decide))]
  rfl
theorem pc_lt (f j : Nat) (hf : f < 15) : pc f j < 32 := by
  by_cases h : j < 12
  · have : ∀ f, f < 15 → ∀ j, j < 12 → pc f j < 32 := by decide
    exact this f hf j h
  · have : (pcs f).length = 12 := by
      have : ∀ f, f < 15 → (pcs f).length = 12 := by decide
      exact this f hf
    unfold pc
    rw [List.getD_eq_getElem?_getD, List.getElem?_eq_none (by omega)]; decide
theorem run_index79_0 (f : Nat) (w : World) : (Instr.index 221 (pcsV f) (.int .i64 0)).run Tryz.prog w = .ok (.agg #[.int .u8 (pc f 0), .int .u8 (pc f 1), .int .u8 (pc f 2)]) w := by kernel_rfl
theorem run_index79_1 (f : Nat) (w : World) : (Instr.index 221 (pcsV f) (.int .i64 1)).run Tryz.prog w = .ok (.agg #[.int .u8 (pc f 3), .int .u8 (pc f 4), .int .u8 (pc f 5)]) w := by kernel_rfl
theorem run_index79_2 (f : Nat) (w : World) : (Instr.index 221 (pcsV f) (.int .i64 2)).run Tryz.prog w = .ok (.agg #[.int .u8 (pc f 6), .int .u8 (pc f 7), .int .u8 (pc f 8)]) w := by kernel_rfl
theorem run_index79_3 (f : Nat) (w : World) : (Instr.index 221 (pcsV f) (.int .i64 3)).run Tryz.prog w = .ok (.agg #[.int .u8 (pc f 9), .int .u8 (pc f 10), .int .u8 (pc f 11)]) w := by kernel_rfl
theorem run_index79 (f j : Nat) (hj : j < 4) (w : World) : (Instr.index 221 (pcsV f) (.int .i64 j)).run Tryz.prog w = .ok (.agg #[.int .u8 (pc f (3 * j)), .int .u8 (pc f (3 * j + 1)), .int .u8 (pc f (3 * j + 2))]) w := by
  match j, hj with
  | 0, _ => exact run_index79_0 f w
  | 1, _ => exact run_index79_1 f w
  | 2, _ => exact run_index79_2 f w
  | 3, _ => exact run_index79_3 f w
theorem ly_bd (f : Nat) (hf : f < 15) : -1048576 ≤ lyLow f ∧ lyLow f ≤ 0 ∧ 0 ≤ lyHigh f ∧ lyHigh f ≤ 1048575 := by
  have : ∀ f, f < 15 → -1048576 ≤ lyLow f ∧ lyLow f ≤ 0 ∧ 0 ≤ lyHigh f ∧ lyHigh f ≤ 1048575 := by decide
  exact this f hf
def immI (f x : Nat) : Int := if lyHigh f < (accN f x 4 : Int) then (accN f x 4 : Int) + 2 * lyLow f else accN f x 4
theorem below_al {B : Nat} {w w1 w2 : World} {o : Obj} (h : Below B w w1) (hB : B ≤ w1.heap.size) (hb : w2 = (w1.alloc o)) : Below B w w2 := hb ▸ h.alloc hB _
set_option maxHeartbeats 1000000 in
theorem number_any (f : Nat) (hf : f < 15) (x : Nat) (hx : x < 4294967296) (w : World) (hL : Laid w) : Calls Tryz.prog 127 #[.int .i64 f, .int .u32 x] w fun e w' => e = .returned (.int .i64 (immI f x)) ∧ Below w.heap.size w w' := by
  have HL : Hid (Laid w) := hL
  clear hL
  go_enter Tryz.func127, Tryz.ntmps127
  go_wp2_with (go_at_call 161; refine (pieces_any f hf _).mono ?_; rintro e w1 ⟨rfl, hb1⟩)
  go_loopw [5, 12] (fun u v wr => ∃ j : Nat, j ≤ 4 ∧ v = .int .i64 j ∧ u = .int .u32 (accN f x j : Nat) ∧ Below w.heap.size w wr) (fun _ v _ => 4 - (intOf v).toNat)
  case atStart => exact ⟨0, Nat.zero_le _, rfl, rfl, hb1⟩
  case round =>
    clear hb1
    obtain ⟨j, hj, rfl, rfl, hbr⟩ := hrel
    have HB : Hid (Below w.heap.size w wr) := hbr
    have ha := accN_lt f x j
    obtain ⟨a, hae⟩ : ∃ a, accN f x j = a := ⟨_, rfl⟩
    have HA : Hid (accN f x j = a) := hae
    rw [hae] at ha ⊢
    clear hae hbr
    by_cases hlt : j < 4
    · have hidx := run_index79 f j hlt
      have q0 := pc_lt f (3 * j) hf
      have q1 := pc_lt f (3 * j + 1) hf
      have q2 := pc_lt f (3 * j + 2) hf
      obtain ⟨pw, h0⟩ : ∃ a, pc f (3 * j) = a := ⟨_, rfl⟩
      obtain ⟨pi, h1⟩ : ∃ a, pc f (3 * j + 1) = a := ⟨_, rfl⟩
      obtain ⟨len, h2⟩ : ∃ a, pc f (3 * j + 2) = a := ⟨_, rfl⟩
      have HA2 : Hid (accN f x (j + 1) = stepN x a pw pi len) := by
        show stepN x (accN f x j) _ _ _ = _
        rw [HA.out, h0, h1, h2]
      rw [h0] at q0 hidx; rw [h1] at q1 hidx; rw [h2] at q2 hidx
      clear h0 h1 h2
      go_wp2_with fail
      go_region_with (go_at_call 162; refine (mask_any pw pi len q2 _).mono ?_; rintro e w2 ⟨rfl, rfl⟩)
      all_goals
        go_wp2
        go_roundw
        case rel => exact ⟨j + 1, by omega, by go_num, by rw [HA2.out]; exact congrArg _ (stepN_int x a pw pi len hx ha q2), ((HB.out.alloc HB.out.size _).alloc (by simp; have := HB.out.size; omega) _).drew⟩
        case measure => simp [intOf]; omega
    · have HL2 := HL.out.below HB.out
      have hj4 : j = 4 := by omega
      subst hj4
      have c0 := HL2.l0 f hf
      have c1 := HL2.l1 f hf
      have c2 := HL2.l2 f hf
      have c3 := HL2.l3 f hf
      have c4 := HL2.l4 f hf
      have c5 := HL2.l5 f hf
      have c6 := HL2.l6 f hf
      have c7 := HL2.l7 f hf
      have c8 := HL2.l8 f hf
      have z2 : 3 < wr.heap.size := HL2.zl
      have cs := ly_bd f hf
      have HI : Hid (immI f x = if lyHigh f < (a : Int) then (a : Int) + 2 * lyLow f else a) := by
        show immI f x = _
        unfold immI
        rw [HA.out]
      clear HL2
      by_cases hh : lyHigh f < (a : Int)
      · go_wp2
        go_ret
        exact ⟨ret_int (by rw [HI.out, if_pos hh]), HB.out.alloc HB.out.size _⟩
      · go_wp2
        go_ret
        exact ⟨ret_int (by rw [HI.out, if_neg (by omega)]), HB.out.alloc HB.out.size _⟩
end Go.Proofs.YtnlagbiikpbjdaaGreatDoor
