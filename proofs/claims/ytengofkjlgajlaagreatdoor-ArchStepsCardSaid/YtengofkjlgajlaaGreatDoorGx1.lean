import Derived.Test.YtengofkjlgajlaaGreatDoorGh1
import Derived.Test.YtengofkjlgajlaaGreatDoorGp5
import Derived.Shelf.Abstract
import Derived.Deep.RegionHeld3
/-
  THE PROGRAM's HART IN MEMORY.
-/
namespace Go.Proofs.YtengofkjlgajlaaGreatDoor
open Go Go.RowKit
/-- its cells; cv: its own copy of the code -/
def HS.encP2 (S : HS) (cv : Value) : Nat → Value
  | 0 => .int .u32 S.status
  | 1 => .int .u32 S.enable
  | 2 => .int .u32 S.vector
  | 3 => .int .u32 S.scratch
  | 4 => .int .u32 S.epc
  | 5 => .int .u32 S.cause
  | 6 => .int .u32 S.tval
  | 7 => .int .u32 (S.count % 4294967296)
  | 8 => .int .u32 (S.num % 4294967296)
  | 9 => cv
  | 10 => .int .u32 S.size
  | 11 => .int .u32 S.pc
  | 44 => .bool S.halted
  | _ => undef
def HS.encP (S : HS) (cv : Value) (o : Nat) : Value := if 12 ≤ o ∧ o < 44 then .int .u32 (S.regs (o - 12)) else S.encP2 cv o
abbrev PH (w : World) (p : Nat) (cv : Value) (S : HS) : Prop := CellsAt 45 w p (S.encP cv)
theorem encP_status (S : HS) (cv : Value) (v : Int) : upd (S.encP cv) 0 (.int .u32 v) = { S with status := v }.encP cv := by
  funext o
  unfold upd
  split
  · subst o; rfl
  · unfold HS.encP
    split
    · rfl
    · unfold HS.encP2; split <;> first | rfl | (exfalso; omega)
theorem PH.status {w : World} {p : Nat} {cv : Value} {S : HS} (h : CellsAt 45 w p (S.encP cv)) (v : Int) : CellsAt 45 (w.setCell ⟨p, 0, none⟩ (.int .u32 v)) p ({ S with status := v }.encP cv) := (h.set 0 (by decide) _).to (encP_status S cv v)
theorem encP_enable (S : HS) (cv : Value) (v : Int) : upd (S.encP cv) 1 (.int .u32 v) = { S with enable := v }.encP cv := by
  funext o
  unfold upd
  split
  · subst o; rfl
  · unfold HS.encP
    split
    · rfl
    · unfold HS.encP2; split <;> first | rfl | (exfalso; omega)
theorem PH.enable {w : World} {p : Nat} {cv : Value} {S : HS} (h : CellsAt 45 w p (S.encP cv)) (v : Int) : CellsAt 45 (w.setCell ⟨p, 1, none⟩ (.int .u32 v)) p ({ S with enable := v }.encP cv) := (h.set 1 (by decide) _).to (encP_enable S cv v)
theorem encP_vector (S : HS) (cv : Value) (v : Int) : upd (S.encP cv) 2 (.int .u32 v) = { S with vector := v }.encP cv := by
  funext o
  unfold upd
  split
  · subst o; rfl
  · unfold HS.encP
    split
    · rfl
    · unfold HS.encP2; split <;> first | rfl | (exfalso; omega)
theorem PH.vector {w : World} {p : Nat} {cv : Value} {S : HS} (h : CellsAt 45 w p (S.encP cv)) (v : Int) : CellsAt 45 (w.setCell ⟨p, 2, none⟩ (.int .u32 v)) p ({ S with vector := v }.encP cv) := (h.set 2 (by decide) _).to (encP_vector S cv v)
theorem encP_scratch (S : HS) (cv : Value) (v : Int) : upd (S.encP cv) 3 (.int .u32 v) = { S with scratch := v }.encP cv := by
  funext o
  unfold upd
  split
  · subst o; rfl
  · unfold HS.encP
    split
    · rfl
    · unfold HS.encP2; split <;> first | rfl | (exfalso; omega)
theorem PH.scratch {w : World} {p : Nat} {cv : Value} {S : HS} (h : CellsAt 45 w p (S.encP cv)) (v : Int) : CellsAt 45 (w.setCell ⟨p, 3, none⟩ (.int .u32 v)) p ({ S with scratch := v }.encP cv) := (h.set 3 (by decide) _).to (encP_scratch S cv v)
theorem encP_epc (S : HS) (cv : Value) (v : Int) : upd (S.encP cv) 4 (.int .u32 v) = { S with epc := v }.encP cv := by
  funext o
  unfold upd
  split
  · subst o; rfl
  · unfold HS.encP
    split
    · rfl
    · unfold HS.encP2; split <;> first | rfl | (exfalso; omega)
theorem PH.epc {w : World} {p : Nat} {cv : Value} {S : HS} (h : CellsAt 45 w p (S.encP cv)) (v : Int) : CellsAt 45 (w.setCell ⟨p, 4, none⟩ (.int .u32 v)) p ({ S with epc := v }.encP cv) := (h.set 4 (by decide) _).to (encP_epc S cv v)
theorem encP_cause (S : HS) (cv : Value) (v : Int) : upd (S.encP cv) 5 (.int .u32 v) = { S with cause := v }.encP cv := by
  funext o
  unfold upd
  split
  · subst o; rfl
  · unfold HS.encP
    split
    · rfl
    · unfold HS.encP2; split <;> first | rfl | (exfalso; omega)
theorem PH.cause {w : World} {p : Nat} {cv : Value} {S : HS} (h : CellsAt 45 w p (S.encP cv)) (v : Int) : CellsAt 45 (w.setCell ⟨p, 5, none⟩ (.int .u32 v)) p ({ S with cause := v }.encP cv) := (h.set 5 (by decide) _).to (encP_cause S cv v)
theorem encP_tval (S : HS) (cv : Value) (v : Int) : upd (S.encP cv) 6 (.int .u32 v) = { S with tval := v }.encP cv := by
  funext o
  unfold upd
  split
  · subst o; rfl
  · unfold HS.encP
    split
    · rfl
    · unfold HS.encP2; split <;> first | rfl | (exfalso; omega)
theorem PH.tval {w : World} {p : Nat} {cv : Value} {S : HS} (h : CellsAt 45 w p (S.encP cv)) (v : Int) : CellsAt 45 (w.setCell ⟨p, 6, none⟩ (.int .u32 v)) p ({ S with tval := v }.encP cv) := (h.set 6 (by decide) _).to (encP_tval S cv v)
theorem encP_pc (S : HS) (cv : Value) (v : Int) : upd (S.encP cv) 11 (.int .u32 v) = { S with pc := v }.encP cv := by
  funext o
  unfold upd
  split
  · subst o; rfl
  · unfold HS.encP
    split
    · rfl
    · unfold HS.encP2; split <;> first | rfl | (exfalso; omega)
theorem PH.pc {w : World} {p : Nat} {cv : Value} {S : HS} (h : CellsAt 45 w p (S.encP cv)) (v : Int) : CellsAt 45 (w.setCell ⟨p, 11, none⟩ (.int .u32 v)) p ({ S with pc := v }.encP cv) := (h.set 11 (by decide) _).to (encP_pc S cv v)
theorem encP_halted (S : HS) (cv : Value) (v : Bool) : upd (S.encP cv) 44 (.bool v) = { S with halted := v }.encP cv := by
  funext o
  unfold upd
  split
  · subst o; rfl
  · unfold HS.encP
    split
    · rfl
    · unfold HS.encP2; split <;> first | rfl | (exfalso; omega)
theorem PH.halted {w : World} {p : Nat} {cv : Value} {S : HS} (h : CellsAt 45 w p (S.encP cv)) (v : Bool) : CellsAt 45 (w.setCell ⟨p, 44, none⟩ (.bool v)) p ({ S with halted := v }.encP cv) := (h.set 44 (by decide) _).to (encP_halted S cv v)
theorem encP_count (S : HS) (cv : Value) : upd (S.encP cv) 7 (.int .u32 ((S.count % 4294967296 + 1) % 4294967296)) = { S with count := wrap64 (S.count + 1) }.encP cv := by
  have e : (S.count % 4294967296 + 1) % 4294967296 = wrap64 (S.count + 1) % 4294967296 := by unfold wrap64; omega
  rw [e]
  funext o
  unfold upd
  split
  · subst o; rfl
  · unfold HS.encP
    split
    · rfl
    · unfold HS.encP2; split <;> first | rfl | (exfalso; omega)
theorem PH.count {w : World} {p : Nat} {cv : Value} {S : HS} (h : CellsAt 45 w p (S.encP cv)) : CellsAt 45 (w.setCell ⟨p, 7, none⟩ (.int .u32 ((S.count % 4294967296 + 1) % 4294967296))) p ({ S with count := wrap64 (S.count + 1) }.encP cv) := (h.set 7 (by decide) _).to (encP_count S cv)
theorem encP_reg (S : HS) (cv : Value) (r : Nat) (hr : r < 32) (v : Int) : upd (S.encP cv) (12 + r) (.int .u32 v) = (S.setReg r v).encP cv := by
  funext o
  unfold upd
  by_cases e : o = 12 + r
  · subst e
    rw [if_pos rfl]
    unfold HS.encP
    rw [if_pos (by omega)]
    show _ = Value.int IntKind.u32 (if 12 + r - 12 = r then v else _)
    rw [if_pos (by omega)]
  · rw [if_neg e]
    unfold HS.encP
    by_cases k : 12 ≤ o ∧ o < 44
    · rw [if_pos k, if_pos k]
      show _ = Value.int IntKind.u32 (if o - 12 = r then v else _)
      rw [if_neg (by omega)]
    · rw [if_neg k, if_neg k]
      rfl
theorem PH.reg {w : World} {p : Nat} {cv : Value} {S : HS} (h : CellsAt 45 w p (S.encP cv)) (r : Nat) (hr : r < 32) (v : Int) : CellsAt 45 (w.setCell ⟨p, 12 + r, none⟩ (.int .u32 v)) p ((S.setReg r v).encP cv) := (h.set (12 + r) (by omega) _).to (encP_reg S cv r hr v)
theorem PH.atReg {w : World} {p : Nat} {cv : Value} {S : HS} (h : CellsAt 45 w p (S.encP cv)) (r : Nat) (hr : r < 32) : w.cell? ⟨p, 12 + r, none⟩ = some (.int .u32 (S.regs r)) := by
  rw [h.cell (12 + r) (by omega)]
  unfold HS.encP
  rw [if_pos (by omega), show 12 + r - 12 = r by omega]
end Go.Proofs.YtengofkjlgajlaaGreatDoor
/-
  THE PROGRAM's HART: control registers.
-/
namespace Go.Proofs.YtengofkjlgajlaaGreatDoor
open Go Go.RowKit
def hcB (op : Int) : Bool := decide (62 ≤ op) && decide (op ≤ 67)
theorem handles_any (op : Int) (w : World) : Calls Tryz.prog 100 #[.int .i64 op] w fun e w' => e = .returned (.bool (hcB op)) ∧ w' = w := by
  by_cases h : 62 ≤ op
  · have e : hcB op = decide (op ≤ 67) := by unfold hcB; rw [decide_eq_true h]; rfl
    rw [e]
    clear e
    go_enter Tryz.func100, Tryz.ntmps100
    go_wp2
    go_ret
    exact ⟨rfl, rfl⟩
  · have e : hcB op = false := by unfold hcB; rw [decide_eq_false h]; rfl
    rw [e]
    clear e
    go_enter Tryz.func100, Tryz.ntmps100
    go_wp2
    go_ret
    exact ⟨rfl, rfl⟩
/-- does an instruction write a control register -/
def wcB (op : Int) (rs1 : Nat) : Bool := hcB op && (op == 62 || (op == 65 || rs1 != 0))
theorem writesC_any (op rd : Int) (rs1 : Nat) (rs2 imm : Int) (w : World) : Calls Tryz.prog 84 #[.agg #[.int .i64 op, .int .i64 rd, .int .i64 rs1, .int .i64 rs2, .int .i64 imm]] w fun e w' => e = .returned (.bool (wcB op rs1)) ∧ Below w.heap.size w w' := by
  have hb : Below w.heap.size w (w.alloc (.cells #[.int .i64 op, .int .i64 rd, .int .i64 rs1, .int .i64 rs2, .int .i64 imm] 93)) := (Below.refl _ _).alloc (Nat.le_refl _) _
  have hr : (((rs1 : Nat) : Int) != 0) = (rs1 != 0) := by rw [Bool.eq_iff_iff]; simp
  cases h0 : hcB op
  · have e : wcB op rs1 = false := by unfold wcB; rw [h0]; rfl
    rw [e]
    clear e hr
    go_enter Tryz.func84, Tryz.ntmps84
    go_wp2_with (go_at_call 100; refine (handles_any _ _).mono ?_; rintro e w1 ⟨rfl, rfl⟩; rw [h0])
    go_ret
    exact ⟨rfl, hb⟩
  · by_cases h1 : op = 62
    · subst h1
      have e : wcB 62 rs1 = true := rfl
      rw [e]
      clear e hr
      go_enter Tryz.func84, Tryz.ntmps84
      go_wp2_with (go_at_call 100; refine (handles_any _ _).mono ?_; rintro e w1 ⟨rfl, rfl⟩; rw [h0])
      go_ret
      exact ⟨rfl, hb⟩
    · have n1 : (op == 62) = false := by simp; exact h1
      by_cases h2 : op = 65
      · subst h2
        have e : wcB 65 rs1 = true := rfl
        rw [e]
        clear e hr
        go_enter Tryz.func84, Tryz.ntmps84
        go_wp2_with (go_at_call 100; refine (handles_any _ _).mono ?_; rintro e w1 ⟨rfl, rfl⟩; rw [h0])
        go_ret
        exact ⟨rfl, hb⟩
      · have n2 : (op == 65) = false := by simp; exact h2
        have e : wcB op rs1 = (rs1 != 0) := by unfold wcB; rw [h0, n1, n2]; rfl
        rw [e, ← hr]
        clear e hr h1 h2
        go_enter Tryz.func84, Tryz.ntmps84
        go_wp2_with (go_at_call 100; refine (handles_any _ _).mono ?_; rintro e w1 ⟨rfl, rfl⟩; rw [h0])
        go_ret
        exact ⟨rfl, hb⟩
/-- where a control register lies -/
def csrK (n : Int) : Option Nat := if n = 768 then some 0 else if n = 772 then some 1 else if n = 773 then some 2 else if n = 832 then some 3 else if n = 833 then some 4 else if n = 834 then some 5 else if n = 835 then some 6 else if n = 3074 then some 7 else if n = 3860 then some 8 else none
theorem at_768 (p : Nat) (w : World) : Calls Tryz.prog 69 #[.pointer (some ⟨p, 0, none⟩), .int .i64 768] w fun e w' => e = .returned (.pointer (some ⟨p, 0, none⟩)) ∧ w' = w := by
  go_enter Tryz.func69, Tryz.ntmps69
  go_wp2
  go_ret
  exact ⟨rfl, rfl⟩
theorem at_772 (p : Nat) (w : World) : Calls Tryz.prog 69 #[.pointer (some ⟨p, 0, none⟩), .int .i64 772] w fun e w' => e = .returned (.pointer (some ⟨p, 1, none⟩)) ∧ w' = w := by
  go_enter Tryz.func69, Tryz.ntmps69
  go_wp2
  go_ret
  exact ⟨rfl, rfl⟩
theorem at_773 (p : Nat) (w : World) : Calls Tryz.prog 69 #[.pointer (some ⟨p, 0, none⟩), .int .i64 773] w fun e w' => e = .returned (.pointer (some ⟨p, 2, none⟩)) ∧ w' = w := by
  go_enter Tryz.func69, Tryz.ntmps69
  go_wp2
  go_ret
  exact ⟨rfl, rfl⟩
theorem at_832 (p : Nat) (w : World) : Calls Tryz.prog 69 #[.pointer (some ⟨p, 0, none⟩), .int .i64 832] w fun e w' => e = .returned (.pointer (some ⟨p, 3, none⟩)) ∧ w' = w := by
  go_enter Tryz.func69, Tryz.ntmps69
  go_wp2
  go_ret
  exact ⟨rfl, rfl⟩
theorem at_833 (p : Nat) (w : World) : Calls Tryz.prog 69 #[.pointer (some ⟨p, 0, none⟩), .int .i64 833] w fun e w' => e = .returned (.pointer (some ⟨p, 4, none⟩)) ∧ w' = w := by
  go_enter Tryz.func69, Tryz.ntmps69
  go_wp2
  go_ret
  exact ⟨rfl, rfl⟩
theorem at_834 (p : Nat) (w : World) : Calls Tryz.prog 69 #[.pointer (some ⟨p, 0, none⟩), .int .i64 834] w fun e w' => e = .returned (.pointer (some ⟨p, 5, none⟩)) ∧ w' = w := by
  go_enter Tryz.func69, Tryz.ntmps69
  go_wp2
  go_ret
  exact ⟨rfl, rfl⟩
theorem at_835 (p : Nat) (w : World) : Calls Tryz.prog 69 #[.pointer (some ⟨p, 0, none⟩), .int .i64 835] w fun e w' => e = .returned (.pointer (some ⟨p, 6, none⟩)) ∧ w' = w := by
  go_enter Tryz.func69, Tryz.ntmps69
  go_wp2
  go_ret
  exact ⟨rfl, rfl⟩
theorem at_3074 (p : Nat) (w : World) : Calls Tryz.prog 69 #[.pointer (some ⟨p, 0, none⟩), .int .i64 3074] w fun e w' => e = .returned (.pointer (some ⟨p, 7, none⟩)) ∧ w' = w := by
  go_enter Tryz.func69, Tryz.ntmps69
  go_wp2
  go_ret
  exact ⟨rfl, rfl⟩
theorem at_3860 (p : Nat) (w : World) : Calls Tryz.prog 69 #[.pointer (some ⟨p, 0, none⟩), .int .i64 3860] w fun e w' => e = .returned (.pointer (some ⟨p, 8, none⟩)) ∧ w' = w := by
  go_enter Tryz.func69, Tryz.ntmps69
  go_wp2
  go_ret
  exact ⟨rfl, rfl⟩
theorem at_no (p : Nat) (n : Int) (w : World) (h768 : ¬ n = 768) (h772 : ¬ n = 772) (h773 : ¬ n = 773) (h832 : ¬ n = 832) (h833 : ¬ n = 833) (h834 : ¬ n = 834) (h835 : ¬ n = 835) (h3074 : ¬ n = 3074) (h3860 : ¬ n = 3860) : Calls Tryz.prog 69 #[.pointer (some ⟨p, 0, none⟩), .int .i64 n] w fun e w' => e = .returned (.pointer none) ∧ w' = w := by
  have e768 : (n == 768) = false := by simp; exact h768
  have e772 : (n == 772) = false := by simp; exact h772
  have e773 : (n == 773) = false := by simp; exact h773
  have e832 : (n == 832) = false := by simp; exact h832
  have e833 : (n == 833) = false := by simp; exact h833
  have e834 : (n == 834) = false := by simp; exact h834
  have e835 : (n == 835) = false := by simp; exact h835
  have e3074 : (n == 3074) = false := by simp; exact h3074
  have e3860 : (n == 3860) = false := by simp; exact h3860
  clear h768 h772 h773 h832 h833 h834 h835 h3074 h3860
  go_enter Tryz.func69, Tryz.ntmps69
  go_wp2
  go_ret
  exact ⟨rfl, rfl⟩
theorem at_any (p : Nat) (n : Int) (w : World) : Calls Tryz.prog 69 #[.pointer (some ⟨p, 0, none⟩), .int .i64 n] w fun e w' => e = .returned (.pointer ((csrK n).map fun k => ⟨p, k, none⟩)) ∧ w' = w := by
  by_cases h768 : n = 768
  · subst h768
    exact at_768 p w
  by_cases h772 : n = 772
  · subst h772
    exact at_772 p w
  by_cases h773 : n = 773
  · subst h773
    exact at_773 p w
  by_cases h832 : n = 832
  · subst h832
    exact at_832 p w
  by_cases h833 : n = 833
  · subst h833
    exact at_833 p w
  by_cases h834 : n = 834
  · subst h834
    exact at_834 p w
  by_cases h835 : n = 835
  · subst h835
    exact at_835 p w
  by_cases h3074 : n = 3074
  · subst h3074
    exact at_3074 p w
  by_cases h3860 : n = 3860
  · subst h3860
    exact at_3860 p w
  have e : csrK n = none := by unfold csrK; rw [if_neg h768, if_neg h772, if_neg h773, if_neg h832, if_neg h833, if_neg h834, if_neg h835, if_neg h3074, if_neg h3860]
  rw [e]
  exact at_no p n w h768 h772 h773 h832 h833 h834 h835 h3074 h3860
/-- the bits of a control register that can be written -/
def wrI (n : Int) : Int := if n = 768 then 136 else if n = 772 then 2048 else if n = 773 then 4294967292 else if n = 833 then 4294967292 else if n = 832 then 4294967295 else if n = 834 then 4294967295 else if n = 835 then 4294967295 else 0
theorem wr_768 (w : World) : Calls Tryz.prog 101 #[.int .i64 768] w fun e w' => e = .returned (.int .u32 136) ∧ w' = w := by
  go_enter Tryz.func101, Tryz.ntmps101
  go_wp2
  go_ret
  exact ⟨rfl, rfl⟩
theorem wr_772 (w : World) : Calls Tryz.prog 101 #[.int .i64 772] w fun e w' => e = .returned (.int .u32 2048) ∧ w' = w := by
  go_enter Tryz.func101, Tryz.ntmps101
  go_wp2
  go_ret
  exact ⟨rfl, rfl⟩
theorem wr_773 (w : World) : Calls Tryz.prog 101 #[.int .i64 773] w fun e w' => e = .returned (.int .u32 4294967292) ∧ w' = w := by
  go_enter Tryz.func101, Tryz.ntmps101
  go_wp2
  go_ret
  exact ⟨rfl, rfl⟩
theorem wr_833 (w : World) : Calls Tryz.prog 101 #[.int .i64 833] w fun e w' => e = .returned (.int .u32 4294967292) ∧ w' = w := by
  go_enter Tryz.func101, Tryz.ntmps101
  go_wp2
  go_ret
  exact ⟨rfl, rfl⟩
theorem wr_832 (w : World) : Calls Tryz.prog 101 #[.int .i64 832] w fun e w' => e = .returned (.int .u32 4294967295) ∧ w' = w := by
  go_enter Tryz.func101, Tryz.ntmps101
  go_wp2
  go_ret
  exact ⟨rfl, rfl⟩
theorem wr_834 (w : World) : Calls Tryz.prog 101 #[.int .i64 834] w fun e w' => e = .returned (.int .u32 4294967295) ∧ w' = w := by
  go_enter Tryz.func101, Tryz.ntmps101
  go_wp2
  go_ret
  exact ⟨rfl, rfl⟩
theorem wr_835 (w : World) : Calls Tryz.prog 101 #[.int .i64 835] w fun e w' => e = .returned (.int .u32 4294967295) ∧ w' = w := by
  go_enter Tryz.func101, Tryz.ntmps101
  go_wp2
  go_ret
  exact ⟨rfl, rfl⟩
theorem wr_no (n : Int) (w : World) (h768 : ¬ n = 768) (h772 : ¬ n = 772) (h773 : ¬ n = 773) (h833 : ¬ n = 833) (h832 : ¬ n = 832) (h834 : ¬ n = 834) (h835 : ¬ n = 835) : Calls Tryz.prog 101 #[.int .i64 n] w fun e w' => e = .returned (.int .u32 0) ∧ w' = w := by
  have e768 : (n == 768) = false := by simp; exact h768
  have e772 : (n == 772) = false := by simp; exact h772
  have e773 : (n == 773) = false := by simp; exact h773
  have e833 : (n == 833) = false := by simp; exact h833
  have e832 : (n == 832) = false := by simp; exact h832
  have e834 : (n == 834) = false := by simp; exact h834
  have e835 : (n == 835) = false := by simp; exact h835
  clear h768 h772 h773 h833 h832 h834 h835
  go_enter Tryz.func101, Tryz.ntmps101
  go_wp2
  go_ret
  exact ⟨rfl, rfl⟩
theorem wr_any (n : Int) (w : World) : Calls Tryz.prog 101 #[.int .i64 n] w fun e w' => e = .returned (.int .u32 (wrI n)) ∧ w' = w := by
  by_cases h768 : n = 768
  · subst h768
    exact wr_768 w
  by_cases h772 : n = 772
  · subst h772
    exact wr_772 w
  by_cases h773 : n = 773
  · subst h773
    exact wr_773 w
  by_cases h833 : n = 833
  · subst h833
    exact wr_833 w
  by_cases h832 : n = 832
  · subst h832
    exact wr_832 w
  by_cases h834 : n = 834
  · subst h834
    exact wr_834 w
  by_cases h835 : n = 835
  · subst h835
    exact wr_835 w
  have e : wrI n = 0 := by unfold wrI; rw [if_neg h768, if_neg h772, if_neg h773, if_neg h833, if_neg h832, if_neg h834, if_neg h835]
  rw [e]
  exact wr_no n w h768 h772 h773 h833 h832 h834 h835
def setA : Array Value := #[.func (.func 151) #[] #[], .func (.func 152) #[] #[], .func (.func 153) #[] #[], .func (.func 151) #[] #[], .func (.func 152) #[] #[], .func (.func 153) #[] #[]]
theorem settings_any (w : World) : Calls Tryz.prog 110 #[] w fun e w' => e = .returned (.slice (some ⟨w.heap.size, 0, none⟩) 6 6) ∧ w' = w.alloc (.cells setA 194) :=
  calls_of_run Tryz.func110 (by kernel_rfl)
theorem sett_1 (a b : Int) (w : World) : Calls Tryz.prog 151 #[.int .u32 a, .int .u32 b] w fun e w' => e = .returned (.int .u32 (b)) ∧ w' = w := by
  go_enter Tryz.func151, Tryz.ntmps151
  go_wp2
  go_ret
  exact ⟨rfl, rfl⟩
theorem sett_2 (a b : Int) (w : World) : Calls Tryz.prog 152 #[.int .u32 a, .int .u32 b] w fun e w' => e = .returned (.int .u32 (bits .or .u32 a b)) ∧ w' = w := by
  go_enter Tryz.func152, Tryz.ntmps152
  go_wp2
  go_ret
  exact ⟨rfl, rfl⟩
theorem sett_3 (a b : Int) (w : World) : Calls Tryz.prog 153 #[.int .u32 a, .int .u32 b] w fun e w' => e = .returned (.int .u32 (bits .andNot .u32 a b)) ∧ w' = w := by
  go_enter Tryz.func153, Tryz.ntmps153
  go_wp2
  go_ret
  exact ⟨rfl, rfl⟩
theorem csrK_none (n : Int) : csrB n = (csrK n).isSome := by
  unfold csrB csrK
  repeat' split
  all_goals (try subst n); try rfl
  simp_all
theorem pcsr_768 (p : Nat) (cv : Value) (S : HS) (w : World) (h : PH w p cv S) : Calls Tryz.prog 35 #[.pointer (some ⟨p, 0, none⟩), .int .i64 768] w fun e w' => e = .returned (.tuple #[.int .u32 (S.status), .bool true]) ∧ w' = w := by
  have h1 : w.cell? ⟨p, 0, none⟩ = some (.int .u32 (S.status)) := h.cell 0 (by decide)
  have h2 := h.here
  clear h
  go_enter Tryz.func35, Tryz.ntmps35
  go_wp2_with (go_at_call 69; refine (at_768 p _).mono ?_; rintro e w1 ⟨rfl, rfl⟩)
  exact bodyPost_ret (v := .tuple #[.int .u32 (S.status), .bool true]) (by simp [results, Tryz.results35, go_sem]) rfl ⟨rfl, rfl⟩
theorem pcsr_772 (p : Nat) (cv : Value) (S : HS) (w : World) (h : PH w p cv S) : Calls Tryz.prog 35 #[.pointer (some ⟨p, 0, none⟩), .int .i64 772] w fun e w' => e = .returned (.tuple #[.int .u32 (S.enable), .bool true]) ∧ w' = w := by
  have h1 : w.cell? ⟨p, 1, none⟩ = some (.int .u32 (S.enable)) := h.cell 1 (by decide)
  have h2 := h.here
  clear h
  go_enter Tryz.func35, Tryz.ntmps35
  go_wp2_with (go_at_call 69; refine (at_772 p _).mono ?_; rintro e w1 ⟨rfl, rfl⟩)
  exact bodyPost_ret (v := .tuple #[.int .u32 (S.enable), .bool true]) (by simp [results, Tryz.results35, go_sem]) rfl ⟨rfl, rfl⟩
theorem pcsr_773 (p : Nat) (cv : Value) (S : HS) (w : World) (h : PH w p cv S) : Calls Tryz.prog 35 #[.pointer (some ⟨p, 0, none⟩), .int .i64 773] w fun e w' => e = .returned (.tuple #[.int .u32 (S.vector), .bool true]) ∧ w' = w := by
  have h1 : w.cell? ⟨p, 2, none⟩ = some (.int .u32 (S.vector)) := h.cell 2 (by decide)
  have h2 := h.here
  clear h
  go_enter Tryz.func35, Tryz.ntmps35
  go_wp2_with (go_at_call 69; refine (at_773 p _).mono ?_; rintro e w1 ⟨rfl, rfl⟩)
  exact bodyPost_ret (v := .tuple #[.int .u32 (S.vector), .bool true]) (by simp [results, Tryz.results35, go_sem]) rfl ⟨rfl, rfl⟩
theorem pcsr_832 (p : Nat) (cv : Value) (S : HS) (w : World) (h : PH w p cv S) : Calls Tryz.prog 35 #[.pointer (some ⟨p, 0, none⟩), .int .i64 832] w fun e w' => e = .returned (.tuple #[.int .u32 (S.scratch), .bool true]) ∧ w' = w := by
  have h1 : w.cell? ⟨p, 3, none⟩ = some (.int .u32 (S.scratch)) := h.cell 3 (by decide)
  have h2 := h.here
  clear h
  go_enter Tryz.func35, Tryz.ntmps35
  go_wp2_with (go_at_call 69; refine (at_832 p _).mono ?_; rintro e w1 ⟨rfl, rfl⟩)
  exact bodyPost_ret (v := .tuple #[.int .u32 (S.scratch), .bool true]) (by simp [results, Tryz.results35, go_sem]) rfl ⟨rfl, rfl⟩
theorem pcsr_833 (p : Nat) (cv : Value) (S : HS) (w : World) (h : PH w p cv S) : Calls Tryz.prog 35 #[.pointer (some ⟨p, 0, none⟩), .int .i64 833] w fun e w' => e = .returned (.tuple #[.int .u32 (S.epc), .bool true]) ∧ w' = w := by
  have h1 : w.cell? ⟨p, 4, none⟩ = some (.int .u32 (S.epc)) := h.cell 4 (by decide)
  have h2 := h.here
  clear h
  go_enter Tryz.func35, Tryz.ntmps35
  go_wp2_with (go_at_call 69; refine (at_833 p _).mono ?_; rintro e w1 ⟨rfl, rfl⟩)
  exact bodyPost_ret (v := .tuple #[.int .u32 (S.epc), .bool true]) (by simp [results, Tryz.results35, go_sem]) rfl ⟨rfl, rfl⟩
theorem pcsr_834 (p : Nat) (cv : Value) (S : HS) (w : World) (h : PH w p cv S) : Calls Tryz.prog 35 #[.pointer (some ⟨p, 0, none⟩), .int .i64 834] w fun e w' => e = .returned (.tuple #[.int .u32 (S.cause), .bool true]) ∧ w' = w := by
  have h1 : w.cell? ⟨p, 5, none⟩ = some (.int .u32 (S.cause)) := h.cell 5 (by decide)
  have h2 := h.here
  clear h
  go_enter Tryz.func35, Tryz.ntmps35
  go_wp2_with (go_at_call 69; refine (at_834 p _).mono ?_; rintro e w1 ⟨rfl, rfl⟩)
  exact bodyPost_ret (v := .tuple #[.int .u32 (S.cause), .bool true]) (by simp [results, Tryz.results35, go_sem]) rfl ⟨rfl, rfl⟩
theorem pcsr_835 (p : Nat) (cv : Value) (S : HS) (w : World) (h : PH w p cv S) : Calls Tryz.prog 35 #[.pointer (some ⟨p, 0, none⟩), .int .i64 835] w fun e w' => e = .returned (.tuple #[.int .u32 (S.tval), .bool true]) ∧ w' = w := by
  have h1 : w.cell? ⟨p, 6, none⟩ = some (.int .u32 (S.tval)) := h.cell 6 (by decide)
  have h2 := h.here
  clear h
  go_enter Tryz.func35, Tryz.ntmps35
  go_wp2_with (go_at_call 69; refine (at_835 p _).mono ?_; rintro e w1 ⟨rfl, rfl⟩)
  exact bodyPost_ret (v := .tuple #[.int .u32 (S.tval), .bool true]) (by simp [results, Tryz.results35, go_sem]) rfl ⟨rfl, rfl⟩
theorem pcsr_3074 (p : Nat) (cv : Value) (S : HS) (w : World) (h : PH w p cv S) : Calls Tryz.prog 35 #[.pointer (some ⟨p, 0, none⟩), .int .i64 3074] w fun e w' => e = .returned (.tuple #[.int .u32 (S.count % 4294967296), .bool true]) ∧ w' = w := by
  have h1 : w.cell? ⟨p, 7, none⟩ = some (.int .u32 (S.count % 4294967296)) := h.cell 7 (by decide)
  have h2 := h.here
  clear h
  go_enter Tryz.func35, Tryz.ntmps35
  go_wp2_with (go_at_call 69; refine (at_3074 p _).mono ?_; rintro e w1 ⟨rfl, rfl⟩)
  exact bodyPost_ret (v := .tuple #[.int .u32 (S.count % 4294967296), .bool true]) (by simp [results, Tryz.results35, go_sem]) rfl ⟨rfl, rfl⟩
theorem pcsr_3860 (p : Nat) (cv : Value) (S : HS) (w : World) (h : PH w p cv S) : Calls Tryz.prog 35 #[.pointer (some ⟨p, 0, none⟩), .int .i64 3860] w fun e w' => e = .returned (.tuple #[.int .u32 (S.num % 4294967296), .bool true]) ∧ w' = w := by
  have h1 : w.cell? ⟨p, 8, none⟩ = some (.int .u32 (S.num % 4294967296)) := h.cell 8 (by decide)
  have h2 := h.here
  clear h
  go_enter Tryz.func35, Tryz.ntmps35
  go_wp2_with (go_at_call 69; refine (at_3860 p _).mono ?_; rintro e w1 ⟨rfl, rfl⟩)
  exact bodyPost_ret (v := .tuple #[.int .u32 (S.num % 4294967296), .bool true]) (by simp [results, Tryz.results35, go_sem]) rfl ⟨rfl, rfl⟩
theorem pcsr_no (p : Nat) (n : Int) (w : World) (hk : csrK n = none) : Calls Tryz.prog 35 #[.pointer (some ⟨p, 0, none⟩), .int .i64 n] w fun e w' => e = .returned (.tuple #[.int .u32 0, .bool false]) ∧ w' = w := by
  go_enter Tryz.func35, Tryz.ntmps35
  go_wp2_with (go_at_call 69; refine (at_any p n _).mono ?_; rintro e w1 ⟨rfl, rfl⟩; rw [hk])
  exact bodyPost_ret (v := .tuple #[.int .u32 0, .bool false]) (by simp [results, Tryz.results35, go_sem]) rfl ⟨rfl, rfl⟩
theorem pcsr_any (p : Nat) (cv : Value) (S : HS) (n : Int) (w : World) (h : PH w p cv S) : Calls Tryz.prog 35 #[.pointer (some ⟨p, 0, none⟩), .int .i64 n] w fun e w' => e = .returned (.tuple #[.int .u32 (S.csrV n), .bool (csrB n)]) ∧ w' = w := by
  by_cases h768 : n = 768
  · subst h768
    exact pcsr_768 p cv S w h
  by_cases h772 : n = 772
  · subst h772
    exact pcsr_772 p cv S w h
  by_cases h773 : n = 773
  · subst h773
    exact pcsr_773 p cv S w h
  by_cases h832 : n = 832
  · subst h832
    exact pcsr_832 p cv S w h
  by_cases h833 : n = 833
  · subst h833
    exact pcsr_833 p cv S w h
  by_cases h834 : n = 834
  · subst h834
    exact pcsr_834 p cv S w h
  by_cases h835 : n = 835
  · subst h835
    exact pcsr_835 p cv S w h
  by_cases h3074 : n = 3074
  · subst h3074
    exact pcsr_3074 p cv S w h
  by_cases h3860 : n = 3860
  · subst h3860
    exact pcsr_3860 p cv S w h
  have e : csrK n = none := by unfold csrK; rw [if_neg h768, if_neg h772, if_neg h773, if_neg h832, if_neg h833, if_neg h834, if_neg h835, if_neg h3074, if_neg h3860]
  have e2 : S.csrV n = 0 := by unfold HS.csrV; rw [if_neg h768, if_neg h772, if_neg h773, if_neg h832, if_neg h833, if_neg h834, if_neg h835, if_neg h3074, if_neg h3860]
  have e3 : csrB n = false := by rw [csrK_none, e]; rfl
  rw [e2, e3]
  exact pcsr_no p n w e
end Go.Proofs.YtengofkjlgajlaaGreatDoor
/-
  THE PROGRAM's HART: what traps and mret do to control registers.
-/
namespace Go.Proofs.YtengofkjlgajlaaGreatDoor
open Go Go.RowKit
theorem Only.undrew {p : Nat} {x y : World} (h : Only p x.drew y) : Only p x y := ⟨h.os, h.tape, h.output, h.size, h.block⟩
theorem Only.to_cell {p : Nat} {x y : World} (h : Only p x y) {k i : Nat} {v : Option Value} (hk : k < x.heap.size) (hp : k ≠ p) (hc : x.cell? ⟨k, i, none⟩ = v) : y.cell? ⟨k, i, none⟩ = v := (World.cell?_of_block (w := x) (h.block k hk hp)).trans hc
theorem Only.to_frozen {p : Nat} {x y : World} (h : Only p x y) {k i : Nat} {v : Bool} (hk : k < x.heap.size) (hp : k ≠ p) (hc : x.frozen? ⟨k, i, none⟩ = v) : y.frozen? ⟨k, i, none⟩ = v := (World.frozen?_of_block (w := x) (h.block k hk hp)).trans hc
theorem alloc_old {W : World} {o : Obj} {a : Addr} (h : a.block < W.heap.size) : (W.alloc o).cell? a = W.cell? a := ((Below.refl _ _).alloc (Nat.le_refl _) o).cell h
theorem alloc_oldf {W : World} {o : Obj} {a : Addr} (h : a.block < W.heap.size) : (W.alloc o).frozen? a = W.frozen? a := ((Below.refl _ _).alloc (Nat.le_refl _) o).frozen h
theorem keep3p {p : Nat} {w w9 : World} {G R Z : Array Value} {t u v : TypeId} (hO : Only p (((w.alloc (.cells G t)).alloc (.cells R u)).alloc (.cells Z v)) w9) (hp : p < w.heap.size) :
    (∀ i, w9.cell? ⟨w.heap.size, i, none⟩ = G[i]?) ∧ (∀ i, w9.cell? ⟨w.heap.size + 1, i, none⟩ = R[i]?) ∧ (∀ i, w9.cell? ⟨w.heap.size + 1 + 1, i, none⟩ = Z[i]?) ∧ (∀ i, w9.frozen? ⟨w.heap.size, i, none⟩ = false) ∧ (∀ i, w9.frozen? ⟨w.heap.size + 1, i, none⟩ = false) ∧ (∀ i, w9.frozen? ⟨w.heap.size + 1 + 1, i, none⟩ = false) ∧ w.heap.size + 1 + 1 < w9.heap.size ∧ Only p w w9 := by
  have hs := hO.size
  simp only [World.size_alloc] at hs
  have q1 : ∀ i, (((w.alloc (.cells G t)).alloc (.cells R u)).alloc (.cells Z v)).cell? ⟨w.heap.size, i, none⟩ = G[i]? := fun i => (alloc_old (by simp <;> omega)).trans ((alloc_old (by simp)).trans (World.cell?_alloc_new w G t i))
  have q2 : ∀ i, (((w.alloc (.cells G t)).alloc (.cells R u)).alloc (.cells Z v)).cell? ⟨w.heap.size + 1, i, none⟩ = R[i]? := fun i => (alloc_old (by simp)).trans (by first | simp | simpa using World.cell?_alloc_new (w.alloc (.cells G t)) R u i)
  have q3 : ∀ i, (((w.alloc (.cells G t)).alloc (.cells R u)).alloc (.cells Z v)).cell? ⟨w.heap.size + 1 + 1, i, none⟩ = Z[i]? := fun i => by first | simp | simpa using World.cell?_alloc_new ((w.alloc (.cells G t)).alloc (.cells R u)) Z v i
  have r1 : ∀ i, (((w.alloc (.cells G t)).alloc (.cells R u)).alloc (.cells Z v)).frozen? ⟨w.heap.size, i, none⟩ = false := fun i => (alloc_oldf (by simp <;> omega)).trans ((alloc_oldf (by simp)).trans (World.frozen?_alloc_at G t _ i rfl))
  have r2 : ∀ i, (((w.alloc (.cells G t)).alloc (.cells R u)).alloc (.cells Z v)).frozen? ⟨w.heap.size + 1, i, none⟩ = false := fun i => (alloc_oldf (by simp)).trans (World.frozen?_alloc_at R u _ i (by simp))
  have r3 : ∀ i, (((w.alloc (.cells G t)).alloc (.cells R u)).alloc (.cells Z v)).frozen? ⟨w.heap.size + 1 + 1, i, none⟩ = false := fun i => World.frozen?_alloc_at Z v _ i (by simp)
  exact ⟨fun i => hO.to_cell (by simp <;> omega) (by omega) (q1 i), fun i => hO.to_cell (by simp <;> omega) (by omega) (q2 i), fun i => hO.to_cell (by simp) (by omega) (q3 i), fun i => hO.to_frozen (by simp <;> omega) (by omega) (r1 i), fun i => hO.to_frozen (by simp <;> omega) (by omega) (r2 i), fun i => hO.to_frozen (by simp) (by omega) (r3 i), by omega, ((((Only.refl p w).alloc _).alloc _).alloc _).trans hO⟩
theorem keep3o {p : Nat} {w w9 : World} {G R Z : Array Value} {t u v : TypeId} (hO : Only p (((w.alloc (.cells G t)).alloc (.cells R u)).alloc (.cells Z v)).drew.drew w9) (hp : p < w.heap.size) :
    (∀ i, w9.cell? ⟨w.heap.size, i, none⟩ = G[i]?) ∧ (∀ i, w9.cell? ⟨w.heap.size + 1, i, none⟩ = R[i]?) ∧ (∀ i, w9.cell? ⟨w.heap.size + 1 + 1, i, none⟩ = Z[i]?) ∧ (∀ i, w9.frozen? ⟨w.heap.size, i, none⟩ = false) ∧ (∀ i, w9.frozen? ⟨w.heap.size + 1, i, none⟩ = false) ∧ (∀ i, w9.frozen? ⟨w.heap.size + 1 + 1, i, none⟩ = false) ∧ w.heap.size + 1 + 1 < w9.heap.size ∧ Only p w w9 := keep3p hO.undrew.undrew hp
theorem inter_any (p : Nat) (cv : Value) (S : HS) (w : World) (h : PH w p cv S) : Calls Tryz.prog 46 #[.pointer (some ⟨p, 0, none⟩)] w fun e w' => e = .returned (.bool (bits .and .u32 S.status 8 != 0 && S.enable != 0)) ∧ w' = w := by
  have cstatus : w.cell? ⟨p, 0, none⟩ = some (.int .u32 S.status) := h.cell 0 (by decide)
  have cenable : w.cell? ⟨p, 1, none⟩ = some (.int .u32 S.enable) := h.cell 1 (by decide)
  have h3 := h.here
  clear h
  cases h1 : (bits .and .u32 S.status 8 != 0)
  all_goals
    go_enter Tryz.func46, Tryz.ntmps46
    go_wp2
    go_ret
    exact ⟨rfl, rfl⟩
set_option maxHeartbeats 2000000 in
theorem enter_any (p : Nat) (cv : Value) (S : HS) (place c t : Int) (w : World) (h : PH w p cv S) : Calls Tryz.prog 75 #[.pointer (some ⟨p, 0, none⟩), .int .u32 place, .agg #[.int .i64 c, .int .u32 t]] w fun e w' => e = .returned (.tuple #[]) ∧ PH w' p cv { S with epc := place, cause := c % 4294967296, tval := t, status := bits .and .u32 S.status 8 * 16 % 4294967296 } ∧ Only p w w' := by
  have cstatus : w.cell? ⟨p, 0, none⟩ = some (.int .u32 S.status) := h.cell 0 (by decide)
  have cepc : w.cell? ⟨p, 4, none⟩ = some (.int .u32 S.epc) := h.cell 4 (by decide)
  have ccause : w.cell? ⟨p, 5, none⟩ = some (.int .u32 S.cause) := h.cell 5 (by decide)
  have ctval : w.cell? ⟨p, 6, none⟩ = some (.int .u32 S.tval) := h.cell 6 (by decide)
  have h3 := h.here
  have h4 := h.free
  have HH : Hid (PH w p cv S) := h
  clear h
  go_enter Tryz.func75, Tryz.ntmps75
  go_wp2
  go_region
  go_wp2
  refine bodyPost_end (results_none Tryz.results75 _ _ _) rfl ⟨rfl, ?_, ?_⟩
  · exact ((PH.status (PH.tval (PH.cause (PH.epc HH.out _) _) _) _).alloc _).drew
  · exact (((((Only.refl p w).set _ _).set _ _).set _ _).set _ _).alloc _ |>.drew
set_option maxHeartbeats 2000000 in
theorem leave_any (p : Nat) (cv : Value) (S : HS) (w : World) (h : PH w p cv S) : Calls Tryz.prog 83 #[.pointer (some ⟨p, 0, none⟩)] w fun e w' => e = .returned (.tuple #[]) ∧ PH w' p cv { S with status := bits .or .u32 128 (bits .and .u32 S.status 128 / 16) } ∧ Only p w w' := by
  have cstatus : w.cell? ⟨p, 0, none⟩ = some (.int .u32 S.status) := h.cell 0 (by decide)
  have h3 := h.here
  have h4 := h.free
  have HH : Hid (PH w p cv S) := h
  clear h
  go_enter Tryz.func83, Tryz.ntmps83
  go_wp2
  exact bodyPost_end (results_none Tryz.results83 _ _ _) rfl ⟨rfl, PH.status HH.out _, (Only.refl p w).set _ _⟩
set_option maxHeartbeats 4000000 in
theorem ptrap_0 (p : Nat) (cv : Value) (S : HS) (word c t : Int) (w : World) (h : PH w p cv S) (hv : S.vector = 0) : Calls Tryz.prog 47 #[.pointer (some ⟨p, 0, none⟩), .int .u32 word, .agg #[.int .i64 c, .int .u32 t]] w fun e w' => e = .returned (S.trapR word c t) ∧ PH w' p cv (S.trapped c t) ∧ Only p w w' := by
  have cpc : w.cell? ⟨p, 11, none⟩ = some (.int .u32 S.pc) := h.cell 11 (by decide)
  have cvector : w.cell? ⟨p, 2, none⟩ = some (.int .u32 S.vector) := h.cell 2 (by decide)
  have chalted : w.cell? ⟨p, 44, none⟩ = some (.bool S.halted) := h.cell 44 (by decide)
  have e1 : S.trapTo = S.pc := if_pos hv
  have e2 : S.trapped c t = { S with halted := true } := if_pos hv
  unfold HS.trapR
  rw [e1, e2]
  clear e1 e2
  rw [hv] at cvector
  have h3 := h.here
  have h4 := h.free
  have HH : Hid (PH w p cv S) := h
  clear h
  have h5 : p < w.heap.size + 1 := by omega
  have h6 : p < w.heap.size + 1 + 1 := by omega
  have h7 : p < w.heap.size + 2 := by omega
  go_enter Tryz.func47, Tryz.ntmps47
  go_wp2
  go_region
  go_wp2
  refine bodyPost_ret (v := .agg #[.int .u32 S.pc, .int .u32 word, .int .i64 0, .int .u32 0, .int .i64 c, .int .u32 t, .int .u32 S.pc]) (by simp [results, Tryz.results47, go_sem]) rfl ⟨rfl, ?_, ?_⟩
  · exact ((((PH.halted HH.out true).alloc _).alloc _).alloc _).drew
  · exact (((((Only.refl p w).set _ _).alloc _).alloc _).alloc _).drew
set_option maxHeartbeats 4000000 in
theorem ptrap_1 (p : Nat) (cv : Value) (S : HS) (word c t : Int) (w : World) (h : PH w p cv S) (hv : ¬ S.vector = 0) : Calls Tryz.prog 47 #[.pointer (some ⟨p, 0, none⟩), .int .u32 word, .agg #[.int .i64 c, .int .u32 t]] w fun e w' => e = .returned (S.trapR word c t) ∧ PH w' p cv (S.trapped c t) ∧ Only p w w' := by
  have cpc : w.cell? ⟨p, 11, none⟩ = some (.int .u32 S.pc) := h.cell 11 (by decide)
  have cvector : w.cell? ⟨p, 2, none⟩ = some (.int .u32 S.vector) := h.cell 2 (by decide)
  have e1 : S.trapTo = S.vector := if_neg hv
  have e2 : S.trapped c t = { S with epc := S.pc, cause := c % 4294967296, tval := t, status := bits .and .u32 S.status 8 * 16 % 4294967296, pc := S.vector } := if_neg hv
  unfold HS.trapR
  rw [e1, e2]
  clear e1 e2
  have hv' : (S.vector == 0) = false := by simp; exact hv
  have h3 := h.here
  have h4 := h.free
  have HH : Hid (PH w p cv S) := h
  clear h
  have h5 : p < w.heap.size + 1 := by omega
  have h6 : p < w.heap.size + 1 + 1 := by omega
  have h7 : p < w.heap.size + 2 := by omega
  go_enter Tryz.func47, Tryz.ntmps47
  go_wp2
  go_region
  go_wp2
  go_region_with ((go_at_call 75; refine (enter_any p cv S _ _ _ _ (by repeat (first | exact HH.out | refine CellsAt.drew ?_ | refine CellsAt.alloc ?_ _))).mono ?_; rintro e w9 ⟨rfl, hR, hO⟩; obtain ⟨a1, a2, a3, b1, b2, b3, z9, o9⟩ := keep3o hO h3; have cv9 : w9.cell? ⟨p, 2, none⟩ = some (.int .u32 S.vector) := hR.cell 2 (by decide); have cp9 : w9.cell? ⟨p, 11, none⟩ = some (.int .u32 S.pc) := hR.cell 11 (by decide); have h39 := hR.here; have h49 := hR.free))
  all_goals
    try go_wp2
    refine bodyPost_ret (v := .agg #[.int .u32 S.pc, .int .u32 word, .int .i64 0, .int .u32 0, .int .i64 c, .int .u32 t, .int .u32 S.vector]) (by simp [results, Tryz.results47, go_sem, a2]) rfl ⟨rfl, ?_, ?_⟩
    · exact ((PH.pc hR _).far (by omega) _ _).far7 (by omega) _ _ _ _ _ _ _
    · exact ((o9.set _ _).new (by omega) _ _).new7 (by omega) _ _ _ _ _ _ _
theorem ptrap_any (p : Nat) (cv : Value) (S : HS) (word c t : Int) (w : World) (h : PH w p cv S) : Calls Tryz.prog 47 #[.pointer (some ⟨p, 0, none⟩), .int .u32 word, .agg #[.int .i64 c, .int .u32 t]] w fun e w' => e = .returned (S.trapR word c t) ∧ PH w' p cv (S.trapped c t) ∧ Only p w w' := by
  by_cases hv : S.vector = 0
  · exact ptrap_0 p cv S word c t w h hv
  · exact ptrap_1 p cv S word c t w h hv
end Go.Proofs.YtengofkjlgajlaaGreatDoor
/-
  THE PROGRAM's HART: operands, addresses, targets.
-/
namespace Go.Proofs.YtengofkjlgajlaaGreatDoor
open Go Go.RowKit
set_option maxHeartbeats 2000000 in
theorem paddr_any (p : Nat) (cv : Value) (S : HS) (op rd : Int) (rs1 rs2 : Nat) (imm : Int) (w : World) (h : PH w p cv S) (hL : Laid w) (hr : rs1 < 32) : Calls Tryz.prog 40 #[.pointer (some ⟨p, 0, none⟩), .agg #[.int .i64 op, .int .i64 rd, .int .i64 rs1, .int .i64 rs2, .int .i64 imm]] w fun e w' => e = .returned (.int .u32 (S.whereI op rs1 imm)) ∧ Below w.heap.size w w' := by
  have creg := PH.atReg h rs1 hr
  have h3 := h.here
  have HL : Hid (Laid w) := hL
  clear h hL
  obtain ⟨c, hc⟩ : ∃ c, clR op = c := ⟨_, rfl⟩
  unfold HS.whereI
  rw [hc]
  by_cases h6 : c = 6
  · subst h6
    rw [if_pos rfl]
    go_enter Tryz.func40, Tryz.ntmps40
    go_wp2_with (go_at_call 64; refine (p_class _ _ (HL.out.alloc _)).mono ?_; rintro e w1 ⟨rfl, hb1⟩; rw [hc]; obtain ⟨k1, k2, k3, k4⟩ := keepB hb1; have creg1 : w1.cell? ⟨p, 12 + rs1, none⟩ = some (.int .u32 (S.regs rs1)) := (k4.cell (p := ⟨p, 12 + rs1, none⟩) h3).trans creg)
    go_region
    go_wp2
    go_ret
    exact ⟨rfl, k4.drew⟩
  · have h7 : (c == 6) = false := by simp; exact h6
    rw [if_neg h6]
    go_enter Tryz.func40, Tryz.ntmps40
    go_wp2_with (go_at_call 64; refine (p_class _ _ (HL.out.alloc _)).mono ?_; rintro e w1 ⟨rfl, hb1⟩; rw [hc]; obtain ⟨k1, k2, k3, k4⟩ := keepB hb1; have creg1 : w1.cell? ⟨p, 12 + rs1, none⟩ = some (.int .u32 (S.regs rs1)) := (k4.cell (p := ⟨p, 12 + rs1, none⟩) h3).trans creg)
    go_region
    go_wp2
    go_ret
    exact ⟨rfl, k4.drew⟩
/-- is there memory at an address -/
def HS.hasB (S : HS) (op x : Int) : Bool := decide ((x - 65536) % 4294967296 < S.size) || (clR op == 5 && decide ((x - 131072) % 4294967296 < 4))
set_option maxHeartbeats 2000000 in
theorem has_any (p : Nat) (cv : Value) (S : HS) (op rd : Int) (rs1 rs2 : Nat) (imm : Int) (x : Int) (w : World) (h : PH w p cv S) (hL : Laid w) : Calls Tryz.prog 118 #[.pointer (some ⟨p, 0, none⟩), .agg #[.int .i64 op, .int .i64 rd, .int .i64 rs1, .int .i64 rs2, .int .i64 imm], .int .u32 x] w fun e w' => e = .returned (.bool (S.hasB op x)) ∧ Below w.heap.size w w' := by
  have csize : w.cell? ⟨p, 10, none⟩ = some (.int .u32 S.size) := h.cell 10 (by decide)
  have h3 := h.here
  have HL : Hid (Laid w) := hL
  clear h hL
  obtain ⟨c, hc⟩ : ∃ c, clR op = c := ⟨_, rfl⟩
  unfold HS.hasB
  rw [hc]
  cases h1 : decide ((x - 65536) % 4294967296 < S.size)
  · cases h2 : (c == 5)
    all_goals
      go_enter Tryz.func118, Tryz.ntmps118
      go_wp2_with (go_at_call 64; refine (p_class _ _ (HL.out.alloc _)).mono ?_; rintro e w1 ⟨rfl, hb1⟩; rw [hc]; obtain ⟨k1, k2, k3, k4⟩ := keepB hb1)
      go_ret
      exact ⟨rfl, k4⟩
  · go_enter Tryz.func118, Tryz.ntmps118
    go_wp2
    go_ret
    exact ⟨rfl, (Below.refl _ _).alloc (Nat.le_refl _) _⟩
theorem cut_1 (x : Int) (w : World) (hx : U32 x) : Calls Tryz.prog 41 #[.int .u32 x, .int .i64 1] w fun e w' => e = .returned (.int .u32 (x % 256)) ∧ w' = w := by
  have HM : Hid (bits .and .u32 x 255 = x % 256) := bits_mask .u32 32 (by decide) wraps_u32 8 (by decide) x hx.1 (by have := hx.2; omega)
  go_enter Tryz.func41, Tryz.ntmps41
  go_wp2
  go_ret
  exact ⟨ret_int HM.out, rfl⟩
theorem cut_2 (x : Int) (w : World) (hx : U32 x) : Calls Tryz.prog 41 #[.int .u32 x, .int .i64 2] w fun e w' => e = .returned (.int .u32 (x % 65536)) ∧ w' = w := by
  have HM : Hid (bits .and .u32 x 65535 = x % 65536) := bits_mask .u32 32 (by decide) wraps_u32 16 (by decide) x hx.1 (by have := hx.2; omega)
  go_enter Tryz.func41, Tryz.ntmps41
  go_wp2
  go_ret
  exact ⟨ret_int HM.out, rfl⟩
theorem cut_4 (x : Int) (w : World) (_hx : U32 x) : Calls Tryz.prog 41 #[.int .u32 x, .int .i64 4] w fun e w' => e = .returned (.int .u32 (x)) ∧ w' = w := by
  go_enter Tryz.func41, Tryz.ntmps41
  go_wp2
  go_ret
  exact ⟨rfl, rfl⟩
theorem missed_any (b : Bool) (w : World) : Calls Tryz.prog 82 #[.bool b] w fun e w' => e = .returned (.int .u32 (if b then 0 else 1)) ∧ w' = w := by
  cases b
  all_goals
    go_enter Tryz.func82, Tryz.ntmps82
    go_wp2
    go_ret
    exact ⟨rfl, rfl⟩
theorem belowU {w x : World} (h : Below w.drew.heap.size w.drew x) : Below w.heap.size w x := ⟨h.os, h.tape, h.output, h.size, h.block⟩
/-- which registers an operation reads -/
def rd1 (op : Int) : Bool := rf (fmtAt (opN op))
def rd2 (op : Int) : Bool := lyRs2 (fmtAt (opN op))
theorem reads_any (op : Int) (w : World) (hL : Laid w) : Calls Tryz.prog 107 #[.int .i64 op] w fun e w' => e = .returned (.tuple #[.bool (rd1 op), .bool (rd2 op)]) ∧ Below w.heap.size w w' := readsOf_any op _ rfl w hL
/-- Rs1's value, or Rs1 itself -/
def HS.firstI (S : HS) (op : Int) (rs1 : Nat) : Int := if rd1 op then S.regs rs1 else (rs1 : Int)
set_option maxHeartbeats 2000000 in
theorem first_any (p : Nat) (cv : Value) (S : HS) (op rd : Int) (rs1 rs2 : Nat) (imm : Int) (w : World) (h : PH w p cv S) (hL : Laid w) (hr : rs1 < 32) : Calls Tryz.prog 86 #[.pointer (some ⟨p, 0, none⟩), .agg #[.int .i64 op, .int .i64 rd, .int .i64 rs1, .int .i64 rs2, .int .i64 imm]] w fun e w' => e = .returned (.int .u32 (S.firstI op rs1)) ∧ Below w.heap.size w w' := by
  have creg := PH.atReg h rs1 hr
  have h3 := h.here
  have HL : Hid (Laid w) := hL
  clear h hL
  unfold HS.firstI
  cases hr1 : rd1 op
  · go_enter Tryz.func86, Tryz.ntmps86
    go_wp2_with (go_at_call 107; refine (reads_any _ _ (HL.out.alloc _)).mono ?_; rintro e w1 ⟨rfl, hb1⟩; rw [hr1]; obtain ⟨k1, k2, k3, k4⟩ := keepB hb1)
    go_ret
    exact ⟨ret_int (by simp; try omega), k4⟩
  · go_enter Tryz.func86, Tryz.ntmps86
    go_wp2_with (go_at_call 107; refine (reads_any _ _ (HL.out.alloc _)).mono ?_; rintro e w1 ⟨rfl, hb1⟩; rw [hr1]; obtain ⟨k1, k2, k3, k4⟩ := keepB hb1; have creg1 : w1.cell? ⟨p, 12 + rs1, none⟩ = some (.int .u32 (S.regs rs1)) := (k4.cell (p := ⟨p, 12 + rs1, none⟩) h3).trans creg)
    go_region
    go_wp2
    go_ret
    exact ⟨rfl, k4.drew⟩
/-- what is computed with -/
def HS.oprA (S : HS) (op : Int) (rs1 : Nat) : Int := if rd1 op then S.regs rs1 else S.pc
def HS.oprB (S : HS) (op : Int) (rs2 : Nat) (imm : Int) : Int := if rd2 op then S.regs rs2 else imm % 4294967296
set_option maxHeartbeats 4000000 in
theorem operands_any (p : Nat) (cv : Value) (S : HS) (op rd : Int) (rs1 rs2 : Nat) (imm : Int) (w : World) (h : PH w p cv S) (hL : Laid w) (hr : rs1 < 32) (hs : rs2 < 32) : Calls Tryz.prog 79 #[.pointer (some ⟨p, 0, none⟩), .agg #[.int .i64 op, .int .i64 rd, .int .i64 rs1, .int .i64 rs2, .int .i64 imm]] w fun e w' => e = .returned (.tuple #[.int .u32 (S.oprA op rs1), .int .u32 (S.oprB op rs2 imm)]) ∧ Below w.heap.size w w' := by
  have crega := PH.atReg h rs1 hr
  have cregb := PH.atReg h rs2 hs
  have cpc : w.cell? ⟨p, 11, none⟩ = some (.int .u32 S.pc) := h.cell 11 (by decide)
  have h3 := h.here
  have HL : Hid (Laid w) := hL
  clear h hL
  unfold HS.oprA HS.oprB
  cases hr1 : rd1 op
  all_goals
    cases hr2 : rd2 op
    all_goals
      go_enter Tryz.func79, Tryz.ntmps79
      go_wp2
      go_region
      go_wp2_with (go_at_call 107; refine (reads_any _ _ ((HL.out.alloc _).drew)).mono ?_; rintro e w1 ⟨rfl, hb1⟩; rw [hr1, hr2]; obtain ⟨k1, k2, k3, k4⟩ := keepB (belowU hb1); have crega1 : w1.cell? ⟨p, 12 + rs1, none⟩ = some (.int .u32 (S.regs rs1)) := (k4.cell (p := ⟨p, 12 + rs1, none⟩) h3).trans crega; have cregb1 : w1.cell? ⟨p, 12 + rs2, none⟩ = some (.int .u32 (S.regs rs2)) := (k4.cell (p := ⟨p, 12 + rs2, none⟩) h3).trans cregb; have h31 := Nat.lt_of_lt_of_le h3 k4.size)
      all_goals (try go_region)
      all_goals (try go_wp2)
      all_goals (try go_region)
      all_goals (try go_wp2)
      all_goals (refine bodyPost_ret (v := .tuple #[_, _]) (by simp [results, Tryz.results79, go_sem]) rfl ⟨rfl, ?_⟩)
      all_goals first | exact k4 | exact k4.drew | exact k4.drew.drew
end Go.Proofs.YtengofkjlgajlaaGreatDoor
/-
  THE PROGRAM's HART: where branches and jumps go.
-/
namespace Go.Proofs.YtengofkjlgajlaaGreatDoor
open Go Go.RowKit
/-- does a branch or a jump go, and where -/
def HS.goB (S : HS) (op : Int) (rs1 rs2 : Nat) : Bool := op == 4 || (op == 3 || tkI op (S.regs rs1) (S.regs rs2))
def HS.toI (S : HS) (op : Int) (rs1 rs2 : Nat) (imm : Int) : Int := if op = 4 then bits .andNot .u32 ((S.regs rs1 + imm % 4294967296) % 4294967296) 1 else if S.goB op rs1 rs2 then (S.pc + imm % 4294967296) % 4294967296 else 0
set_option maxHeartbeats 4000000 in
theorem target_4 (p : Nat) (cv : Value) (S : HS) (rd : Int) (rs1 rs2 : Nat) (imm : Int) (w : World) (h : PH w p cv S) (hr : rs1 < 32) : Calls Tryz.prog 76 #[.pointer (some ⟨p, 0, none⟩), .agg #[.int .i64 4, .int .i64 rd, .int .i64 rs1, .int .i64 rs2, .int .i64 imm]] w fun e w' => e = .returned (.tuple #[.int .u32 (bits .andNot .u32 ((S.regs rs1 + imm % 4294967296) % 4294967296) 1), .bool true]) ∧ Below w.heap.size w w' := by
  have crega := PH.atReg h rs1 hr
  have h3 := h.here
  clear h
  go_enter Tryz.func76, Tryz.ntmps76
  go_wp2
  go_region
  go_wp2
  exact bodyPost_ret (v := .tuple #[_, _]) (by simp [results, Tryz.results76, go_sem]) rfl ⟨rfl, ((Below.refl _ _).alloc (Nat.le_refl _) _).drew⟩
set_option maxHeartbeats 4000000 in
theorem target_3 (p : Nat) (cv : Value) (S : HS) (rd : Int) (rs1 rs2 : Nat) (imm : Int) (w : World) (h : PH w p cv S) : Calls Tryz.prog 76 #[.pointer (some ⟨p, 0, none⟩), .agg #[.int .i64 3, .int .i64 rd, .int .i64 rs1, .int .i64 rs2, .int .i64 imm]] w fun e w' => e = .returned (.tuple #[.int .u32 ((S.pc + imm % 4294967296) % 4294967296), .bool true]) ∧ Below w.heap.size w w' := by
  have cpc : w.cell? ⟨p, 11, none⟩ = some (.int .u32 S.pc) := h.cell 11 (by decide)
  have h3 := h.here
  clear h
  go_enter Tryz.func76, Tryz.ntmps76
  go_wp2
  go_region
  go_wp2
  exact bodyPost_ret (v := .tuple #[_, _]) (by simp [results, Tryz.results76, go_sem]) rfl ⟨rfl, ((Below.refl _ _).alloc (Nat.le_refl _) _).drew⟩
set_option maxHeartbeats 4000000 in
theorem target_t (p : Nat) (cv : Value) (S : HS) (op rd : Int) (rs1 rs2 : Nat) (imm : Int) (w : World) (h : PH w p cv S) (hr : rs1 < 32) (hs : rs2 < 32) (n4 : (op == 4) = false) (n3 : (op == 3) = false) (ht : tkI op (S.regs rs1) (S.regs rs2) = true) : Calls Tryz.prog 76 #[.pointer (some ⟨p, 0, none⟩), .agg #[.int .i64 op, .int .i64 rd, .int .i64 rs1, .int .i64 rs2, .int .i64 imm]] w fun e w' => e = .returned (.tuple #[.int .u32 ((S.pc + imm % 4294967296) % 4294967296), .bool true]) ∧ Below w.heap.size w w' := by
  have crega := PH.atReg h rs1 hr
  have cregb := PH.atReg h rs2 hs
  have cpc : w.cell? ⟨p, 11, none⟩ = some (.int .u32 S.pc) := h.cell 11 (by decide)
  have h3 := h.here
  clear h
  have i1 : (0 : Int) ≤ (rs1 : Int) := by omega
  have i2 : (rs1 : Int) < 32 := by omega
  have i3 : (0 : Int) ≤ (rs2 : Int) := by omega
  have i4 : (rs2 : Int) < 32 := by omega
  go_enter Tryz.func76, Tryz.ntmps76
  go_wp2
  go_region_held3 (fun w' => w'.cell? ⟨w.heap.size, 0, none⟩ = some (.int .i64 op) ∧ w'.cell? ⟨w.heap.size, 2, none⟩ = some (.int .i64 rs1) ∧ w'.cell? ⟨w.heap.size, 3, none⟩ = some (.int .i64 rs2) ∧ w'.cell? ⟨p, 12 + rs1, none⟩ = some (.int .u32 (S.regs rs1)) ∧ w'.cell? ⟨p, 12 + rs2, none⟩ = some (.int .u32 (S.regs rs2))) (go_keep) ((go_at_call 106; refine (p_taken _ _ _ _).mono ?_; rintro e w1 ⟨rfl, hb1⟩; rw [ht]; obtain ⟨k1, k2, k3, k4⟩ := keepB (belowU hb1); have cpc1 : w1.cell? ⟨p, 11, none⟩ = some (.int .u32 S.pc) := (k4.cell (p := ⟨p, 11, none⟩) h3).trans cpc; have h31 := Nat.lt_of_lt_of_le h3 k4.size; have crega1 : w1.cell? ⟨p, 12 + rs1, none⟩ = some (.int .u32 (S.regs rs1)) := (k4.cell (p := ⟨p, 12 + rs1, none⟩) h3).trans crega; have cregb1 : w1.cell? ⟨p, 12 + rs2, none⟩ = some (.int .u32 (S.regs rs2)) := (k4.cell (p := ⟨p, 12 + rs2, none⟩) h3).trans cregb))
  all_goals (try go_wp2)
  all_goals (try go_region)
  all_goals (try go_wp2)
  all_goals (refine bodyPost_ret (v := .tuple #[_, _]) (by simp [results, Tryz.results76, go_sem]) rfl ⟨rfl, ?_⟩)
  all_goals first | exact k4 | exact k4.drew | exact k4.drew.drew
set_option maxHeartbeats 4000000 in
theorem target_f (p : Nat) (cv : Value) (S : HS) (op rd : Int) (rs1 rs2 : Nat) (imm : Int) (w : World) (h : PH w p cv S) (hr : rs1 < 32) (hs : rs2 < 32) (n4 : (op == 4) = false) (n3 : (op == 3) = false) (ht : tkI op (S.regs rs1) (S.regs rs2) = false) : Calls Tryz.prog 76 #[.pointer (some ⟨p, 0, none⟩), .agg #[.int .i64 op, .int .i64 rd, .int .i64 rs1, .int .i64 rs2, .int .i64 imm]] w fun e w' => e = .returned (.tuple #[.int .u32 (0), .bool false]) ∧ Below w.heap.size w w' := by
  have crega := PH.atReg h rs1 hr
  have cregb := PH.atReg h rs2 hs
  have cpc : w.cell? ⟨p, 11, none⟩ = some (.int .u32 S.pc) := h.cell 11 (by decide)
  have h3 := h.here
  clear h
  have i1 : (0 : Int) ≤ (rs1 : Int) := by omega
  have i2 : (rs1 : Int) < 32 := by omega
  have i3 : (0 : Int) ≤ (rs2 : Int) := by omega
  have i4 : (rs2 : Int) < 32 := by omega
  go_enter Tryz.func76, Tryz.ntmps76
  go_wp2
  go_region_held3 (fun w' => w'.cell? ⟨w.heap.size, 0, none⟩ = some (.int .i64 op) ∧ w'.cell? ⟨w.heap.size, 2, none⟩ = some (.int .i64 rs1) ∧ w'.cell? ⟨w.heap.size, 3, none⟩ = some (.int .i64 rs2) ∧ w'.cell? ⟨p, 12 + rs1, none⟩ = some (.int .u32 (S.regs rs1)) ∧ w'.cell? ⟨p, 12 + rs2, none⟩ = some (.int .u32 (S.regs rs2))) (go_keep) ((go_at_call 106; refine (p_taken _ _ _ _).mono ?_; rintro e w1 ⟨rfl, hb1⟩; rw [ht]; obtain ⟨k1, k2, k3, k4⟩ := keepB (belowU hb1); have cpc1 : w1.cell? ⟨p, 11, none⟩ = some (.int .u32 S.pc) := (k4.cell (p := ⟨p, 11, none⟩) h3).trans cpc; have h31 := Nat.lt_of_lt_of_le h3 k4.size; have crega1 : w1.cell? ⟨p, 12 + rs1, none⟩ = some (.int .u32 (S.regs rs1)) := (k4.cell (p := ⟨p, 12 + rs1, none⟩) h3).trans crega; have cregb1 : w1.cell? ⟨p, 12 + rs2, none⟩ = some (.int .u32 (S.regs rs2)) := (k4.cell (p := ⟨p, 12 + rs2, none⟩) h3).trans cregb))
  all_goals (try go_wp2)
  all_goals (try go_region)
  all_goals (try go_wp2)
  all_goals (refine bodyPost_ret (v := .tuple #[_, _]) (by simp [results, Tryz.results76, go_sem]) rfl ⟨rfl, ?_⟩)
  all_goals first | exact k4 | exact k4.drew | exact k4.drew.drew
theorem target_any (p : Nat) (cv : Value) (S : HS) (op rd : Int) (rs1 rs2 : Nat) (imm : Int) (w : World) (h : PH w p cv S) (hr : rs1 < 32) (hs : rs2 < 32) : Calls Tryz.prog 76 #[.pointer (some ⟨p, 0, none⟩), .agg #[.int .i64 op, .int .i64 rd, .int .i64 rs1, .int .i64 rs2, .int .i64 imm]] w fun e w' => e = .returned (.tuple #[.int .u32 (S.toI op rs1 rs2 imm), .bool (S.goB op rs1 rs2)]) ∧ Below w.heap.size w w' := by
  unfold HS.toI
  by_cases n4 : op = 4
  · subst n4
    rw [if_pos rfl]
    exact target_4 p cv S rd rs1 rs2 imm w h hr
  have m4 : (op == 4) = false := by simp; exact n4
  rw [if_neg n4]
  by_cases n3 : op = 3
  · subst n3
    exact target_3 p cv S rd rs1 rs2 imm w h
  have m3 : (op == 3) = false := by simp; exact n3
  cases ht : tkI op (S.regs rs1) (S.regs rs2)
  · have e : S.goB op rs1 rs2 = false := by unfold HS.goB; rw [m4, m3, ht]; rfl
    rw [e]
    exact target_f p cv S op rd rs1 rs2 imm w h hr hs m4 m3 ht
  · have e : S.goB op rs1 rs2 = true := by unfold HS.goB; rw [m4, m3, ht]; rfl
    rw [e]
    exact target_t p cv S op rd rs1 rs2 imm w h hr hs m4 m3 ht
/-- where the next instruction stands -/
def HS.nextI (S : HS) (op : Int) (rs1 rs2 : Nat) (imm : Int) : Int := if op = 60 then S.epc else if S.goB op rs1 rs2 then S.toI op rs1 rs2 imm else (S.pc + 4) % 4294967296
set_option maxHeartbeats 4000000 in
theorem next_any (p : Nat) (cv : Value) (S : HS) (op rd : Int) (rs1 rs2 : Nat) (imm : Int) (w : World) (h : PH w p cv S) (hr : rs1 < 32) (hs : rs2 < 32) : Calls Tryz.prog 49 #[.pointer (some ⟨p, 0, none⟩), .agg #[.int .i64 op, .int .i64 rd, .int .i64 rs1, .int .i64 rs2, .int .i64 imm]] w fun e w' => e = .returned (.int .u32 (S.nextI op rs1 rs2 imm)) ∧ Below w.heap.size w w' := by
  have cpc : w.cell? ⟨p, 11, none⟩ = some (.int .u32 S.pc) := h.cell 11 (by decide)
  have cepc : w.cell? ⟨p, 4, none⟩ = some (.int .u32 S.epc) := h.cell 4 (by decide)
  have h3 := h.here
  have HH : Hid (PH w p cv S) := h
  clear h
  unfold HS.nextI
  by_cases n60 : op = 60
  · subst n60
    rw [if_pos rfl]
    go_enter Tryz.func49, Tryz.ntmps49
    go_wp2
    go_ret
    exact ⟨rfl, (Below.refl _ _).alloc (Nat.le_refl _) _⟩
  have m60 : (op == 60) = false := by simp; exact n60
  rw [if_neg n60]
  clear n60
  obtain ⟨to, hto⟩ : ∃ to, S.toI op rs1 rs2 imm = to := ⟨_, rfl⟩
  rw [hto]
  cases hg : S.goB op rs1 rs2
  all_goals
    go_enter Tryz.func49, Tryz.ntmps49
    go_wp2_with (go_at_call 76; refine (target_any p cv S _ _ _ _ _ _ (HH.out.alloc _) hr hs).mono ?_; rintro e w1 ⟨rfl, hb1⟩; rw [hg, hto]; obtain ⟨k1, k2, k3, k4⟩ := keepB hb1; have cpc1 : w1.cell? ⟨p, 11, none⟩ = some (.int .u32 S.pc) := (k4.cell (p := ⟨p, 11, none⟩) h3).trans cpc; have h31 := Nat.lt_of_lt_of_le h3 k4.size)
    go_ret
    exact ⟨rfl, k4⟩
end Go.Proofs.YtengofkjlgajlaaGreatDoor
