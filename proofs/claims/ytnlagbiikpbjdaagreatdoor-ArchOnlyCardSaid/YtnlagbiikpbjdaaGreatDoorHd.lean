/-
  THE ANSWER's HART: where an instruction goes, what it computes, what is wrong with an address.
-/
import Derived.Test.YtnlagbiikpbjdaaGreatDoorHc
namespace Go.Proofs.YtnlagbiikpbjdaaGreatDoor
open Go Go.RowKit
theorem keepB {w w2 : World} {c : Array Value} {t : TypeId} (hb : Below (w.alloc (.cells c t)).heap.size (w.alloc (.cells c t)) w2) :
    (∀ i, w2.cell? ⟨w.heap.size, i, none⟩ = c[i]?) ∧ (∀ i, w2.frozen? ⟨w.heap.size, i, none⟩ = false) ∧ w.heap.size < w2.heap.size ∧ Below w.heap.size w w2 := by
  have hs := hb.size
  simp only [World.size_alloc] at hs
  refine ⟨fun i => ?_, fun i => ?_, by omega, ((Below.refl _ _).alloc (Nat.le_refl _) _).trans (hb.mono (by simp))⟩
  · rw [hb.cell (p := ⟨w.heap.size, i, none⟩) (by simp)]
    exact World.cell?_alloc_new w c t i
  · rw [hb.frozen (p := ⟨w.heap.size, i, none⟩) (by simp)]
    exact World.frozen?_alloc_at c t _ i rfl
/-- a number of 32 bits -/
abbrev U32 (a : Int) : Prop := 0 ≤ a ∧ a < 4294967296
/-- where an instruction goes -/
def HS.whereI (S : HS) (op : Int) (rs1 : Nat) (imm : Int) : Int := if clR op = 6 then S.regs rs1 else (S.regs rs1 + imm % 4294967296) % 4294967296
set_option maxHeartbeats 2000000 in
theorem where_any (b : Nat) (S : HS) (op rd : Int) (rs1 : Nat) (rs2 imm : Int) (w : World) (h : RH w b S) (hr : rs1 < 32) : Calls Tryz.prog 59 #[.pointer (some ⟨b, 0, none⟩), .agg #[.int .i64 op, .int .i64 rd, .int .i64 rs1, .int .i64 rs2, .int .i64 imm]] w fun e w' => e = .returned (.int .u32 (S.whereI op rs1 imm)) ∧ Below w.heap.size w w' := by
  have creg := h.atReg rs1 hr
  have h3 := h.here
  clear h
  obtain ⟨c, hc⟩ : ∃ c, clR op = c := ⟨_, rfl⟩
  unfold HS.whereI
  rw [hc]
  by_cases h6 : c = 6
  · subst h6
    rw [if_pos rfl]
    go_enter Tryz.func59, Tryz.ntmps59
    go_wp2_with (first | (go_at_call 30; refine (clsR_any _ _).mono ?_; rintro e w1 ⟨rfl, hb1⟩; rw [hc]; obtain ⟨k1, k2, k3, k4⟩ := keepB hb1; have creg1 : w1.cell? ⟨b, 4 + rs1, none⟩ = some (.int .u32 (S.regs rs1)) := (k4.cell (p := ⟨b, 4 + rs1, none⟩) h3).trans creg))
    go_region
    go_wp2
    go_ret
    exact ⟨rfl, k4.drew⟩
  · have h7 : (c == 6) = false := by simp; exact h6
    rw [if_neg h6]
    go_enter Tryz.func59, Tryz.ntmps59
    go_wp2_with (first | (go_at_call 30; refine (clsR_any _ _).mono ?_; rintro e w1 ⟨rfl, hb1⟩; rw [hc]; obtain ⟨k1, k2, k3, k4⟩ := keepB hb1; have creg1 : w1.cell? ⟨b, 4 + rs1, none⟩ = some (.int .u32 (S.regs rs1)) := (k4.cell (p := ⟨b, 4 + rs1, none⟩) h3).trans creg))
    go_region
    go_wp2
    go_ret
    exact ⟨rfl, k4.drew⟩
/-- what an instruction of the classes Alu and Muldiv computes -/
def HS.compI (S : HS) (op imm a b : Int) : Int :=
  if letAt (op - 1).toNat = 85 then exI op S.pc (imm % 4294967296) else if letAt (op - 1).toNat = 73 ∨ letAt (op - 1).toNat = 72 then exI op a (imm % 4294967296) else exI op a b
set_option maxHeartbeats 2000000 in
theorem computed_any (b : Nat) (S : HS) (i : Nat) (rd rs1 rs2 imm x y : Int) (w : World) (h : RH w b S) (hi : i < 67) (hp : U32 S.pc) (hx : U32 x) (hy : U32 y) : Calls Tryz.prog 63 #[.pointer (some ⟨b, 0, none⟩), .agg #[.int .i64 ((i : Int) + 1), .int .i64 rd, .int .i64 rs1, .int .i64 rs2, .int .i64 imm], .int .u32 x, .int .u32 y] w fun e w' => e = .returned (.int .u32 (S.compI ((i : Int) + 1) imm x y)) ∧ Below w.heap.size w w' := by
  have cpc : w.cell? ⟨b, 3, none⟩ = some (.int .u32 S.pc) := h.cell 3 (by decide)
  have h3 := h.here
  have hm : U32 (imm % 4294967296) := by unfold U32; omega
  clear h
  unfold HS.compI
  rw [show ((i : Int) + 1 - 1).toNat = i by omega]
  obtain ⟨L, hL⟩ : ∃ L, letAt i = L := ⟨_, rfl⟩
  rw [hL]
  by_cases l1 : L = 85
  · subst l1
    rw [if_pos rfl]
    go_enter Tryz.func63, Tryz.ntmps63
    go_wp2_with (first
      | (go_at_call 61; refine (rows_made _).mono ?_; rintro e w1 ⟨rfl, hR, hb1, hz⟩; have c1 := hR.r1 i hi; rw [hL, World.size_alloc] at c1; have hh := hR.here; rw [World.size_alloc] at hh; clear hR; obtain ⟨k1, k2, k3, k4⟩ := keepB hb1; have cpc1 : w1.cell? ⟨b, 3, none⟩ = some (.int .u32 S.pc) := (k4.cell (p := ⟨b, 3, none⟩) h3).trans cpc)
      | (go_at_call 95; refine (exec_any _ _ _ _ (by assumption) (by assumption)).mono ?_; rintro e w2 ⟨rfl, hb2⟩))
    go_ret
    exact ⟨rfl, below2 k4 hb2⟩
  · rw [if_neg l1]
    have m1 : (L == 85) = false := by simp; exact l1
    by_cases l2 : L = 73 ∨ L = 72
    · rw [if_pos l2]
      rcases l2 with rfl | rfl
      · go_enter Tryz.func63, Tryz.ntmps63
        go_wp2_with (first
          | (go_at_call 61; refine (rows_made _).mono ?_; rintro e w1 ⟨rfl, hR, hb1, hz⟩; have c1 := hR.r1 i hi; rw [hL, World.size_alloc] at c1; have hh := hR.here; rw [World.size_alloc] at hh; clear hR; obtain ⟨k1, k2, k3, k4⟩ := keepB hb1; have cpc1 : w1.cell? ⟨b, 3, none⟩ = some (.int .u32 S.pc) := (k4.cell (p := ⟨b, 3, none⟩) h3).trans cpc)
          | (go_at_call 95; refine (exec_any _ _ _ _ (by assumption) (by assumption)).mono ?_; rintro e w2 ⟨rfl, hb2⟩))
        go_ret
        exact ⟨rfl, below2 k4 hb2⟩
      · go_enter Tryz.func63, Tryz.ntmps63
        go_wp2_with (first
          | (go_at_call 61; refine (rows_made _).mono ?_; rintro e w1 ⟨rfl, hR, hb1, hz⟩; have c1 := hR.r1 i hi; rw [hL, World.size_alloc] at c1; have hh := hR.here; rw [World.size_alloc] at hh; clear hR; obtain ⟨k1, k2, k3, k4⟩ := keepB hb1; have cpc1 : w1.cell? ⟨b, 3, none⟩ = some (.int .u32 S.pc) := (k4.cell (p := ⟨b, 3, none⟩) h3).trans cpc)
          | (go_at_call 95; refine (exec_any _ _ _ _ (by assumption) (by assumption)).mono ?_; rintro e w2 ⟨rfl, hb2⟩))
        go_ret
        exact ⟨rfl, below2 k4 hb2⟩
    · rw [if_neg l2]
      have m2 : (L == 73) = false := by simp; omega
      have m3 : (L == 72) = false := by simp; omega
      go_enter Tryz.func63, Tryz.ntmps63
      go_wp2_with (first
        | (go_at_call 61; refine (rows_made _).mono ?_; rintro e w1 ⟨rfl, hR, hb1, hz⟩; have c1 := hR.r1 i hi; rw [hL, World.size_alloc] at c1; have hh := hR.here; rw [World.size_alloc] at hh; clear hR; obtain ⟨k1, k2, k3, k4⟩ := keepB hb1; have cpc1 : w1.cell? ⟨b, 3, none⟩ = some (.int .u32 S.pc) := (k4.cell (p := ⟨b, 3, none⟩) h3).trans cpc)
        | (go_at_call 95; refine (exec_any _ _ _ _ (by assumption) (by assumption)).mono ?_; rintro e w2 ⟨rfl, hb2⟩))
      go_ret
      exact ⟨rfl, below2 k4 hb2⟩
end Go.Proofs.YtnlagbiikpbjdaaGreatDoor
