/-
  THE ANSWER's Size, Widen, Swap.
-/
import Derived.Test.YtengofkjlgajlaaGreatDoorGp2
namespace Go.Proofs.YtengofkjlgajlaaGreatDoor
open Go Go.RowKit
theorem wrap8_i (n : Int) : IntKind.i8.wrap n = (n + 128) % 256 - 128 := by
  simp [IntKind.wrap, IntKind.bits, IntKind.signed]
  split <;> omega
theorem wrap16_i (n : Int) : IntKind.i16.wrap n = (n + 32768) % 65536 - 32768 := by
  simp [IntKind.wrap, IntKind.bits, IntKind.signed]
  split <;> omega
/-- the answer's class, by the number -/
def clR (op : Int) : Int := if 1 ≤ op ∧ op ≤ 67 then classR (letAt (op - 1).toNat) (codeRAt (op - 1).toNat) (gRAt (op - 1).toNat) else 7
theorem clsR_any (op : Int) (w : World) : Calls Tryz.prog 29 #[.int .i64 op] w fun e w' => e = .returned (.int .i64 (clR op)) ∧ Below w.heap.size w w' := by
  by_cases h : 1 ≤ op ∧ op ≤ 67
  · obtain ⟨i, rfl⟩ : ∃ i : Nat, op = (i : Int) + 1 := ⟨(op - 1).toNat, by omega⟩
    have hi : i < 67 := by omega
    rw [clR, if_pos h, show ((i : Int) + 1 - 1).toNat = i by omega]
    exact classR_in i hi w
  · rw [clR, if_neg h]
    exact classR_none op w (by omega)
theorem cl6_all : ((List.range 67).all fun i => (classR (letAt i) (codeRAt i) (gRAt i) == 6) == (decide (45 ≤ i) && decide (i < 56))) = true := by kernel_rfl
theorem cl6 (op : Int) : (clR op == 6) = (decide (46 ≤ op) && decide (op ≤ 56)) := by
  unfold clR
  split
  · have := List.all_eq_true.1 cl6_all (op - 1).toNat (List.mem_range.2 (by omega))
    rw [beq_iff_eq] at this
    rw [this]
    rcases Int.lt_or_le op 46 with h | h
    · rw [decide_eq_false (by omega), decide_eq_false (show ¬ 46 ≤ op by omega)]; rfl
    · rw [decide_eq_true (by omega), decide_eq_true h]
      congr 1
      simp; omega
  · rcases Int.lt_or_le op 46 with h | h
    · rw [decide_eq_false (show ¬ 46 ≤ op by omega)]; rfl
    · rw [decide_eq_false (show ¬ op ≤ 56 by omega), Bool.and_false]; rfl
set_option maxHeartbeats 1000000 in
theorem size_11 (w : World) : Calls Tryz.prog 43 #[.int .i64 11] w fun e w' => e = .returned (.int .i64 (szI 11)) ∧ Below w.heap.size w w' := by
  have hs : nameOp 11 = ⟨#[108, 98]⟩ := by kernel_rfl
  go_enter Tryz.func43, Tryz.ntmps43
  go_wp2_with (first
    | (go_at_call 88; refine (signed3_any _ _).mono ?_; rintro e w1 ⟨rfl, rfl⟩)
    | (go_at_call 74; refine (name_any _ _).mono ?_; rintro e w1 ⟨rfl, hb1⟩; rw [hs]))
  all_goals
    go_ret
    exact ⟨rfl, by first | exact below2 (by assumption) hb1 | exact hb1 | exact below2 (by assumption) hb0⟩
set_option maxHeartbeats 1000000 in
theorem size_14 (w : World) : Calls Tryz.prog 43 #[.int .i64 14] w fun e w' => e = .returned (.int .i64 (szI 14)) ∧ Below w.heap.size w w' := by
  have hs : nameOp 14 = ⟨#[108, 98, 117]⟩ := by kernel_rfl
  go_enter Tryz.func43, Tryz.ntmps43
  go_wp2_with (first
    | (go_at_call 88; refine (signed3_any _ _).mono ?_; rintro e w1 ⟨rfl, rfl⟩)
    | (go_at_call 74; refine (name_any _ _).mono ?_; rintro e w1 ⟨rfl, hb1⟩; rw [hs]))
  all_goals
    go_ret
    exact ⟨rfl, by first | exact below2 (by assumption) hb1 | exact hb1 | exact below2 (by assumption) hb0⟩
set_option maxHeartbeats 1000000 in
theorem size_16 (w : World) : Calls Tryz.prog 43 #[.int .i64 16] w fun e w' => e = .returned (.int .i64 (szI 16)) ∧ Below w.heap.size w w' := by
  have hs : nameOp 16 = ⟨#[115, 98]⟩ := by kernel_rfl
  go_enter Tryz.func43, Tryz.ntmps43
  go_wp2_with (first
    | (go_at_call 88; refine (signed3_any _ _).mono ?_; rintro e w1 ⟨rfl, rfl⟩)
    | (go_at_call 74; refine (name_any _ _).mono ?_; rintro e w1 ⟨rfl, hb1⟩; rw [hs]))
  all_goals
    go_ret
    exact ⟨rfl, by first | exact below2 (by assumption) hb1 | exact hb1 | exact below2 (by assumption) hb0⟩
set_option maxHeartbeats 1000000 in
theorem size_12 (w : World) : Calls Tryz.prog 43 #[.int .i64 12] w fun e w' => e = .returned (.int .i64 (szI 12)) ∧ Below w.heap.size w w' := by
  have hs : nameOp 12 = ⟨#[108, 104]⟩ := by kernel_rfl
  go_enter Tryz.func43, Tryz.ntmps43
  go_wp2_with (first
    | (go_at_call 88; refine (signed3_any _ _).mono ?_; rintro e w1 ⟨rfl, rfl⟩)
    | (go_at_call 74; refine (name_any _ _).mono ?_; rintro e w1 ⟨rfl, hb1⟩; rw [hs]))
  all_goals
    go_ret
    exact ⟨rfl, by first | exact below2 (by assumption) hb1 | exact hb1 | exact below2 (by assumption) hb0⟩
set_option maxHeartbeats 1000000 in
theorem size_15 (w : World) : Calls Tryz.prog 43 #[.int .i64 15] w fun e w' => e = .returned (.int .i64 (szI 15)) ∧ Below w.heap.size w w' := by
  have hs : nameOp 15 = ⟨#[108, 104, 117]⟩ := by kernel_rfl
  go_enter Tryz.func43, Tryz.ntmps43
  go_wp2_with (first
    | (go_at_call 88; refine (signed3_any _ _).mono ?_; rintro e w1 ⟨rfl, rfl⟩)
    | (go_at_call 74; refine (name_any _ _).mono ?_; rintro e w1 ⟨rfl, hb1⟩; rw [hs]))
  all_goals
    go_ret
    exact ⟨rfl, by first | exact below2 (by assumption) hb1 | exact hb1 | exact below2 (by assumption) hb0⟩
set_option maxHeartbeats 1000000 in
theorem size_17 (w : World) : Calls Tryz.prog 43 #[.int .i64 17] w fun e w' => e = .returned (.int .i64 (szI 17)) ∧ Below w.heap.size w w' := by
  have hs : nameOp 17 = ⟨#[115, 104]⟩ := by kernel_rfl
  go_enter Tryz.func43, Tryz.ntmps43
  go_wp2_with (first
    | (go_at_call 88; refine (signed3_any _ _).mono ?_; rintro e w1 ⟨rfl, rfl⟩)
    | (go_at_call 74; refine (name_any _ _).mono ?_; rintro e w1 ⟨rfl, hb1⟩; rw [hs]))
  all_goals
    go_ret
    exact ⟨rfl, by first | exact below2 (by assumption) hb1 | exact hb1 | exact below2 (by assumption) hb0⟩
set_option maxHeartbeats 1000000 in
theorem size_13 (w : World) : Calls Tryz.prog 43 #[.int .i64 13] w fun e w' => e = .returned (.int .i64 (szI 13)) ∧ Below w.heap.size w w' := by
  have hs : nameOp 13 = ⟨#[108, 119]⟩ := by kernel_rfl
  go_enter Tryz.func43, Tryz.ntmps43
  go_wp2_with (first
    | (go_at_call 88; refine (signed3_any _ _).mono ?_; rintro e w1 ⟨rfl, rfl⟩)
    | (go_at_call 74; refine (name_any _ _).mono ?_; rintro e w1 ⟨rfl, hb1⟩; rw [hs]))
  all_goals
    go_ret
    exact ⟨rfl, by first | exact below2 (by assumption) hb1 | exact hb1 | exact below2 (by assumption) hb0⟩
set_option maxHeartbeats 1000000 in
theorem size_18 (w : World) : Calls Tryz.prog 43 #[.int .i64 18] w fun e w' => e = .returned (.int .i64 (szI 18)) ∧ Below w.heap.size w w' := by
  have hs : nameOp 18 = ⟨#[115, 119]⟩ := by kernel_rfl
  go_enter Tryz.func43, Tryz.ntmps43
  go_wp2_with (first
    | (go_at_call 88; refine (signed3_any _ _).mono ?_; rintro e w1 ⟨rfl, rfl⟩)
    | (go_at_call 74; refine (name_any _ _).mono ?_; rintro e w1 ⟨rfl, hb1⟩; rw [hs]))
  all_goals
    go_ret
    exact ⟨rfl, by first | exact below2 (by assumption) hb1 | exact hb1 | exact below2 (by assumption) hb0⟩
set_option maxHeartbeats 1000000 in
theorem widen_11 (r : Int) (w : World) (_hr : 0 ≤ r ∧ r < 4294967296) : Calls Tryz.prog 90 #[.int .i64 11, .int .u32 r] w fun e w' => e = .returned (.int .u32 (wdI 11 r)) ∧ Below w.heap.size w w' := by
  have hs : nameOp 11 = ⟨#[108, 98]⟩ := by kernel_rfl
  have hc : clR 11 = 4 := by kernel_rfl
  go_enter Tryz.func90, Tryz.ntmps90
  go_wp2_with (first
    | (go_at_call 88; refine (signed3_any _ _).mono ?_; rintro e w1 ⟨rfl, rfl⟩)
    | (go_at_call 29; refine (clsR_any _ _).mono ?_; rintro e w1 ⟨rfl, hb0⟩; rw [hc])
    | (go_at_call 74; refine (name_any _ _).mono ?_; rintro e w1 ⟨rfl, hb1⟩; rw [hs]))
  all_goals
    go_ret
    exact ⟨ret_int (by show _ = ((r + 128) % 256 - 128) % 4294967296; first | rfl | (rw [wrap8_i]; unfold wrap32; omega) | (rw [wrap16_i]; unfold wrap32; omega)), by first | exact below2 (by assumption) hb1 | exact hb1 | exact below2 (by assumption) hb0⟩
set_option maxHeartbeats 1000000 in
theorem widen_12 (r : Int) (w : World) (_hr : 0 ≤ r ∧ r < 4294967296) : Calls Tryz.prog 90 #[.int .i64 12, .int .u32 r] w fun e w' => e = .returned (.int .u32 (wdI 12 r)) ∧ Below w.heap.size w w' := by
  have hs : nameOp 12 = ⟨#[108, 104]⟩ := by kernel_rfl
  have hc : clR 12 = 4 := by kernel_rfl
  go_enter Tryz.func90, Tryz.ntmps90
  go_wp2_with (first
    | (go_at_call 88; refine (signed3_any _ _).mono ?_; rintro e w1 ⟨rfl, rfl⟩)
    | (go_at_call 29; refine (clsR_any _ _).mono ?_; rintro e w1 ⟨rfl, hb0⟩; rw [hc])
    | (go_at_call 74; refine (name_any _ _).mono ?_; rintro e w1 ⟨rfl, hb1⟩; rw [hs]))
  all_goals
    go_ret
    exact ⟨ret_int (by show _ = ((r + 32768) % 65536 - 32768) % 4294967296; first | rfl | (rw [wrap8_i]; unfold wrap32; omega) | (rw [wrap16_i]; unfold wrap32; omega)), by first | exact below2 (by assumption) hb1 | exact hb1 | exact below2 (by assumption) hb0⟩
set_option maxHeartbeats 1000000 in
theorem widen_14 (r : Int) (w : World) (_hr : 0 ≤ r ∧ r < 4294967296) : Calls Tryz.prog 90 #[.int .i64 14, .int .u32 r] w fun e w' => e = .returned (.int .u32 (wdI 14 r)) ∧ Below w.heap.size w w' := by
  have hs : nameOp 14 = ⟨#[108, 98, 117]⟩ := by kernel_rfl
  have hc : clR 14 = 4 := by kernel_rfl
  go_enter Tryz.func90, Tryz.ntmps90
  go_wp2_with (first
    | (go_at_call 88; refine (signed3_any _ _).mono ?_; rintro e w1 ⟨rfl, rfl⟩)
    | (go_at_call 29; refine (clsR_any _ _).mono ?_; rintro e w1 ⟨rfl, hb0⟩; rw [hc])
    | (go_at_call 74; refine (name_any _ _).mono ?_; rintro e w1 ⟨rfl, hb1⟩; rw [hs]))
  all_goals
    go_ret
    exact ⟨ret_int (by show _ = r % 256; first | rfl | (rw [wrap8_i]; unfold wrap32; omega) | (rw [wrap16_i]; unfold wrap32; omega)), by first | exact below2 (by assumption) hb1 | exact hb1 | exact below2 (by assumption) hb0⟩
set_option maxHeartbeats 1000000 in
theorem widen_15 (r : Int) (w : World) (_hr : 0 ≤ r ∧ r < 4294967296) : Calls Tryz.prog 90 #[.int .i64 15, .int .u32 r] w fun e w' => e = .returned (.int .u32 (wdI 15 r)) ∧ Below w.heap.size w w' := by
  have hs : nameOp 15 = ⟨#[108, 104, 117]⟩ := by kernel_rfl
  have hc : clR 15 = 4 := by kernel_rfl
  go_enter Tryz.func90, Tryz.ntmps90
  go_wp2_with (first
    | (go_at_call 88; refine (signed3_any _ _).mono ?_; rintro e w1 ⟨rfl, rfl⟩)
    | (go_at_call 29; refine (clsR_any _ _).mono ?_; rintro e w1 ⟨rfl, hb0⟩; rw [hc])
    | (go_at_call 74; refine (name_any _ _).mono ?_; rintro e w1 ⟨rfl, hb1⟩; rw [hs]))
  all_goals
    go_ret
    exact ⟨ret_int (by show _ = r % 65536; first | rfl | (rw [wrap8_i]; unfold wrap32; omega) | (rw [wrap16_i]; unfold wrap32; omega)), by first | exact below2 (by assumption) hb1 | exact hb1 | exact below2 (by assumption) hb0⟩
set_option maxHeartbeats 1000000 in
theorem widen_13 (r : Int) (w : World) (_hr : 0 ≤ r ∧ r < 4294967296) : Calls Tryz.prog 90 #[.int .i64 13, .int .u32 r] w fun e w' => e = .returned (.int .u32 (wdI 13 r)) ∧ Below w.heap.size w w' := by
  have hs : nameOp 13 = ⟨#[108, 119]⟩ := by kernel_rfl
  have hc : clR 13 = 4 := by kernel_rfl
  go_enter Tryz.func90, Tryz.ntmps90
  go_wp2_with (first
    | (go_at_call 88; refine (signed3_any _ _).mono ?_; rintro e w1 ⟨rfl, rfl⟩)
    | (go_at_call 29; refine (clsR_any _ _).mono ?_; rintro e w1 ⟨rfl, hb0⟩; rw [hc])
    | (go_at_call 74; refine (name_any _ _).mono ?_; rintro e w1 ⟨rfl, hb1⟩; rw [hs]))
  all_goals
    go_ret
    exact ⟨ret_int (by show _ = r; first | rfl | (rw [wrap8_i]; unfold wrap32; omega) | (rw [wrap16_i]; unfold wrap32; omega)), by first | exact below2 (by assumption) hb1 | exact hb1 | exact below2 (by assumption) hb0⟩
set_option maxHeartbeats 1000000 in
theorem size_rest (op : Int) (s : ByteArray) (hs : nameOp op = s) (n0 : (s.toList == [108, 98]) = false) (n1 : (s.toList == [108, 98, 117]) = false) (n2 : (s.toList == [115, 98]) = false) (n3 : (s.toList == [108, 104]) = false) (n4 : (s.toList == [108, 104, 117]) = false) (n5 : (s.toList == [115, 104]) = false) (n6 : (s.toList == [108, 119]) = false) (n7 : (s.toList == [115, 119]) = false) (w : World) : Calls Tryz.prog 43 #[.int .i64 op] w fun e w' => e = .returned (.int .i64 (if clR op = 6 then 4 else 0)) ∧ Below w.heap.size w w' := by
  obtain ⟨c, hc⟩ : ∃ c, clR op = c := ⟨_, rfl⟩
  rw [hc]
  by_cases h6 : c = 6
  · subst h6
    rw [if_pos rfl]
    go_enter Tryz.func43, Tryz.ntmps43
    go_wp2_with (first
    | (go_at_call 88; refine (signed3_any _ _).mono ?_; rintro e w1 ⟨rfl, rfl⟩)
    | (go_at_call 29; refine (clsR_any _ _).mono ?_; rintro e w1 ⟨rfl, hb0⟩; rw [hc])
    | (go_at_call 74; refine (name_any _ _).mono ?_; rintro e w1 ⟨rfl, hb1⟩; rw [hs]))
    go_ret
    exact ⟨rfl, by first | exact below2 (by assumption) hb1 | exact hb1 | exact below2 (by assumption) hb0⟩
  · have h7 : (c == 6) = false := by simp; exact h6
    rw [if_neg h6]
    go_enter Tryz.func43, Tryz.ntmps43
    go_wp2_with (first
    | (go_at_call 88; refine (signed3_any _ _).mono ?_; rintro e w1 ⟨rfl, rfl⟩)
    | (go_at_call 29; refine (clsR_any _ _).mono ?_; rintro e w1 ⟨rfl, hb0⟩; rw [hc])
    | (go_at_call 74; refine (name_any _ _).mono ?_; rintro e w1 ⟨rfl, hb1⟩; rw [hs]))
    go_ret
    exact ⟨rfl, by first | exact below2 (by assumption) hb1 | exact hb1 | exact below2 (by assumption) hb0⟩
set_option maxHeartbeats 1000000 in
theorem widen_rest (op r : Int) (s : ByteArray) (hs : nameOp op = s) (n0 : (s.toList == [108, 98]) = false) (n1 : (s.toList == [108, 104]) = false) (n2 : (s.toList == [108, 98, 117]) = false) (n3 : (s.toList == [108, 104, 117]) = false) (n4 : (s.toList == [108, 119]) = false) (w : World) : Calls Tryz.prog 90 #[.int .i64 op, .int .u32 r] w fun e w' => e = .returned (.int .u32 (if clR op = 6 then r else 0)) ∧ Below w.heap.size w w' := by
  obtain ⟨c, hc⟩ : ∃ c, clR op = c := ⟨_, rfl⟩
  rw [hc]
  by_cases h6 : c = 6
  · subst h6
    rw [if_pos rfl]
    go_enter Tryz.func90, Tryz.ntmps90
    go_wp2_with (first
    | (go_at_call 88; refine (signed3_any _ _).mono ?_; rintro e w1 ⟨rfl, rfl⟩)
    | (go_at_call 29; refine (clsR_any _ _).mono ?_; rintro e w1 ⟨rfl, hb0⟩; rw [hc])
    | (go_at_call 74; refine (name_any _ _).mono ?_; rintro e w1 ⟨rfl, hb1⟩; rw [hs]))
    go_ret
    exact ⟨rfl, by first | exact below2 (by assumption) hb1 | exact hb1 | exact below2 (by assumption) hb0⟩
  · have h7 : (c == 6) = false := by simp; exact h6
    rw [if_neg h6]
    go_enter Tryz.func90, Tryz.ntmps90
    go_wp2_with (first
    | (go_at_call 88; refine (signed3_any _ _).mono ?_; rintro e w1 ⟨rfl, rfl⟩)
    | (go_at_call 29; refine (clsR_any _ _).mono ?_; rintro e w1 ⟨rfl, hb0⟩; rw [hc])
    | (go_at_call 74; refine (name_any _ _).mono ?_; rintro e w1 ⟨rfl, hb1⟩; rw [hs]))
    go_ret
    exact ⟨rfl, by first | exact below2 (by assumption) hb1 | exact hb1 | exact below2 (by assumption) hb0⟩
def snB (s : List UInt8) : Bool := !(s == [108, 98]) && !(s == [108, 98, 117]) && !(s == [115, 98]) && !(s == [108, 104]) && !(s == [108, 104, 117]) && !(s == [115, 104]) && !(s == [108, 119]) && !(s == [115, 119])
theorem sn_all : ((List.range 67).all fun i => ((i == 10) || (i == 13) || (i == 15) || (i == 11) || (i == 14) || (i == 16) || (i == 12) || (i == 17)) || snB (nameAt i).toList) = true := by kernel_rfl
theorem sn_not (op : Int) (h : ¬ op = 11 ∧ ¬ op = 14 ∧ ¬ op = 16 ∧ ¬ op = 12 ∧ ¬ op = 15 ∧ ¬ op = 17 ∧ ¬ op = 13 ∧ ¬ op = 18) : snB (nameOp op).toList = true := by
  unfold nameOp
  split
  · have := List.all_eq_true.1 sn_all (op - 1).toNat (List.mem_range.2 (by omega))
    simp only [Bool.or_eq_true, beq_iff_eq] at this
    rcases this with this | this
    · exfalso; omega
    · exact this
  · kernel_rfl
def wnB (s : List UInt8) : Bool := !(s == [108, 98]) && !(s == [108, 104]) && !(s == [108, 98, 117]) && !(s == [108, 104, 117]) && !(s == [108, 119])
theorem wn_all : ((List.range 67).all fun i => ((i == 10) || (i == 11) || (i == 13) || (i == 14) || (i == 12)) || wnB (nameAt i).toList) = true := by kernel_rfl
theorem wn_not (op : Int) (h : ¬ op = 11 ∧ ¬ op = 12 ∧ ¬ op = 14 ∧ ¬ op = 15 ∧ ¬ op = 13) : wnB (nameOp op).toList = true := by
  unfold nameOp
  split
  · have := List.all_eq_true.1 wn_all (op - 1).toNat (List.mem_range.2 (by omega))
    simp only [Bool.or_eq_true, beq_iff_eq] at this
    rcases this with this | this
    · exfalso; omega
    · exact this
  · kernel_rfl
theorem cl6_eq (op : Int) : (clR op = 6) ↔ (46 ≤ op ∧ op ≤ 56) := by
  have := cl6 op
  rw [Bool.eq_iff_iff] at this
  simpa using this
theorem szI_rest (op : Int) (h : ¬ op = 11 ∧ ¬ op = 14 ∧ ¬ op = 16 ∧ ¬ op = 12 ∧ ¬ op = 15 ∧ ¬ op = 17 ∧ ¬ op = 13 ∧ ¬ op = 18) : (if clR op = 6 then (4 : Int) else 0) = szI op := by
  by_cases h6 : 46 ≤ op ∧ op ≤ 56
  · rw [if_pos ((cl6_eq op).2 h6)]
    have hm : op = 46 ∨ op = 47 ∨ op = 48 ∨ op = 49 ∨ op = 50 ∨ op = 51 ∨ op = 52 ∨ op = 53 ∨ op = 54 ∨ op = 55 ∨ op = 56 := by omega
    rcases hm with rfl | rfl | rfl | rfl | rfl | rfl | rfl | rfl | rfl | rfl | rfl
    all_goals rfl
  · rw [if_neg (fun e => h6 ((cl6_eq op).1 e))]
    unfold szI
    split
    · obtain ⟨n, rfl⟩ : ∃ n : Nat, op = n := ⟨op.toNat, by omega⟩
      rw [Int.toNat_natCast]
      unfold szN
      split <;> first | rfl | (exfalso; omega)
    · rfl
theorem wdI_rest (op r : Int) (h : ¬ op = 11 ∧ ¬ op = 12 ∧ ¬ op = 14 ∧ ¬ op = 15 ∧ ¬ op = 13) : (if clR op = 6 then r else 0) = wdI op r := by
  by_cases h6 : 46 ≤ op ∧ op ≤ 56
  · rw [if_pos ((cl6_eq op).2 h6)]
    have hm : op = 46 ∨ op = 47 ∨ op = 48 ∨ op = 49 ∨ op = 50 ∨ op = 51 ∨ op = 52 ∨ op = 53 ∨ op = 54 ∨ op = 55 ∨ op = 56 := by omega
    rcases hm with rfl | rfl | rfl | rfl | rfl | rfl | rfl | rfl | rfl | rfl | rfl
    all_goals rfl
  · rw [if_neg (fun e => h6 ((cl6_eq op).1 e))]
    unfold wdI
    split
    · obtain ⟨n, rfl⟩ : ∃ n : Nat, op = n := ⟨op.toNat, by omega⟩
      rw [Int.toNat_natCast]
      unfold wdN
      split <;> first | rfl | (exfalso; omega)
    · rfl
theorem size_any (op : Int) (w : World) : Calls Tryz.prog 43 #[.int .i64 op] w fun e w' => e = .returned (.int .i64 (szI op)) ∧ Below w.heap.size w w' := by
  by_cases h11 : op = 11
  · subst h11; exact size_11 w
  by_cases h14 : op = 14
  · subst h14; exact size_14 w
  by_cases h16 : op = 16
  · subst h16; exact size_16 w
  by_cases h12 : op = 12
  · subst h12; exact size_12 w
  by_cases h15 : op = 15
  · subst h15; exact size_15 w
  by_cases h17 : op = 17
  · subst h17; exact size_17 w
  by_cases h13 : op = 13
  · subst h13; exact size_13 w
  by_cases h18 : op = 18
  · subst h18; exact size_18 w
  have hn := sn_not op ⟨h11, h14, h16, h12, h15, h17, h13, h18⟩
  simp only [snB, Bool.and_eq_true, Bool.not_eq_true'] at hn
  obtain ⟨⟨⟨⟨⟨⟨⟨n0, n1⟩, n2⟩, n3⟩, n4⟩, n5⟩, n6⟩, n7⟩ := hn
  rw [← szI_rest op ⟨h11, h14, h16, h12, h15, h17, h13, h18⟩]
  exact size_rest op _ rfl n0 n1 n2 n3 n4 n5 n6 n7 w
theorem widen_any (op r : Int) (w : World) (hr : 0 ≤ r ∧ r < 4294967296) : Calls Tryz.prog 90 #[.int .i64 op, .int .u32 r] w fun e w' => e = .returned (.int .u32 (wdI op r)) ∧ Below w.heap.size w w' := by
  by_cases h11 : op = 11
  · subst h11; exact widen_11 r w hr
  by_cases h12 : op = 12
  · subst h12; exact widen_12 r w hr
  by_cases h14 : op = 14
  · subst h14; exact widen_14 r w hr
  by_cases h15 : op = 15
  · subst h15; exact widen_15 r w hr
  by_cases h13 : op = 13
  · subst h13; exact widen_13 r w hr
  have hn := wn_not op ⟨h11, h12, h14, h15, h13⟩
  simp only [wnB, Bool.and_eq_true, Bool.not_eq_true'] at hn
  obtain ⟨⟨⟨⟨n0, n1⟩, n2⟩, n3⟩, n4⟩ := hn
  rw [← wdI_rest op r ⟨h11, h12, h14, h15, h13⟩]
  exact widen_rest op r _ rfl n0 n1 n2 n3 n4 w
set_option maxHeartbeats 1000000 in
theorem swap_48 (o b : Int) (w : World) : Calls Tryz.prog 68 #[.int .i64 48, .int .u32 o, .int .u32 b] w fun e w' => e = .returned (.int .u32 (swI 48 o b)) ∧ Below w.heap.size w w' := by
  have hs : nameOp 48 = ⟨#[97, 109, 111, 115, 119, 97, 112, 46, 119]⟩ := by kernel_rfl
  go_enter Tryz.func68, Tryz.ntmps68
  go_wp2_with (first
    | (go_at_call 88; refine (signed3_any _ _).mono ?_; rintro e w1 ⟨rfl, rfl⟩)
    | (go_at_call 74; refine (name_any _ _).mono ?_; rintro e w1 ⟨rfl, hb1⟩; rw [hs]))
  all_goals
    go_ret
    exact ⟨rfl, by first | exact below2 (by assumption) hb1 | exact hb1 | exact below2 (by assumption) hb0⟩
set_option maxHeartbeats 1000000 in
theorem swap_47 (o b : Int) (w : World) : Calls Tryz.prog 68 #[.int .i64 47, .int .u32 o, .int .u32 b] w fun e w' => e = .returned (.int .u32 (swI 47 o b)) ∧ Below w.heap.size w w' := by
  have hs : nameOp 47 = ⟨#[115, 99, 46, 119]⟩ := by kernel_rfl
  go_enter Tryz.func68, Tryz.ntmps68
  go_wp2_with (first
    | (go_at_call 88; refine (signed3_any _ _).mono ?_; rintro e w1 ⟨rfl, rfl⟩)
    | (go_at_call 74; refine (name_any _ _).mono ?_; rintro e w1 ⟨rfl, hb1⟩; rw [hs]))
  all_goals
    go_ret
    exact ⟨rfl, by first | exact below2 (by assumption) hb1 | exact hb1 | exact below2 (by assumption) hb0⟩
set_option maxHeartbeats 1000000 in
theorem swap_49 (o b : Int) (w : World) : Calls Tryz.prog 68 #[.int .i64 49, .int .u32 o, .int .u32 b] w fun e w' => e = .returned (.int .u32 (swI 49 o b)) ∧ Below w.heap.size w w' := by
  have hs : nameOp 49 = ⟨#[97, 109, 111, 97, 100, 100, 46, 119]⟩ := by kernel_rfl
  go_enter Tryz.func68, Tryz.ntmps68
  go_wp2_with (first
    | (go_at_call 88; refine (signed3_any _ _).mono ?_; rintro e w1 ⟨rfl, rfl⟩)
    | (go_at_call 74; refine (name_any _ _).mono ?_; rintro e w1 ⟨rfl, hb1⟩; rw [hs]))
  all_goals
    go_ret
    exact ⟨rfl, by first | exact below2 (by assumption) hb1 | exact hb1 | exact below2 (by assumption) hb0⟩
set_option maxHeartbeats 1000000 in
theorem swap_50 (o b : Int) (w : World) : Calls Tryz.prog 68 #[.int .i64 50, .int .u32 o, .int .u32 b] w fun e w' => e = .returned (.int .u32 (swI 50 o b)) ∧ Below w.heap.size w w' := by
  have hs : nameOp 50 = ⟨#[97, 109, 111, 120, 111, 114, 46, 119]⟩ := by kernel_rfl
  go_enter Tryz.func68, Tryz.ntmps68
  go_wp2_with (first
    | (go_at_call 88; refine (signed3_any _ _).mono ?_; rintro e w1 ⟨rfl, rfl⟩)
    | (go_at_call 74; refine (name_any _ _).mono ?_; rintro e w1 ⟨rfl, hb1⟩; rw [hs]))
  all_goals
    go_ret
    exact ⟨rfl, by first | exact below2 (by assumption) hb1 | exact hb1 | exact below2 (by assumption) hb0⟩
set_option maxHeartbeats 1000000 in
theorem swap_51 (o b : Int) (w : World) : Calls Tryz.prog 68 #[.int .i64 51, .int .u32 o, .int .u32 b] w fun e w' => e = .returned (.int .u32 (swI 51 o b)) ∧ Below w.heap.size w w' := by
  have hs : nameOp 51 = ⟨#[97, 109, 111, 97, 110, 100, 46, 119]⟩ := by kernel_rfl
  go_enter Tryz.func68, Tryz.ntmps68
  go_wp2_with (first
    | (go_at_call 88; refine (signed3_any _ _).mono ?_; rintro e w1 ⟨rfl, rfl⟩)
    | (go_at_call 74; refine (name_any _ _).mono ?_; rintro e w1 ⟨rfl, hb1⟩; rw [hs]))
  all_goals
    go_ret
    exact ⟨rfl, by first | exact below2 (by assumption) hb1 | exact hb1 | exact below2 (by assumption) hb0⟩
set_option maxHeartbeats 1000000 in
theorem swap_52 (o b : Int) (w : World) : Calls Tryz.prog 68 #[.int .i64 52, .int .u32 o, .int .u32 b] w fun e w' => e = .returned (.int .u32 (swI 52 o b)) ∧ Below w.heap.size w w' := by
  have hs : nameOp 52 = ⟨#[97, 109, 111, 111, 114, 46, 119]⟩ := by kernel_rfl
  go_enter Tryz.func68, Tryz.ntmps68
  go_wp2_with (first
    | (go_at_call 88; refine (signed3_any _ _).mono ?_; rintro e w1 ⟨rfl, rfl⟩)
    | (go_at_call 74; refine (name_any _ _).mono ?_; rintro e w1 ⟨rfl, hb1⟩; rw [hs]))
  all_goals
    go_ret
    exact ⟨rfl, by first | exact below2 (by assumption) hb1 | exact hb1 | exact below2 (by assumption) hb0⟩
set_option maxHeartbeats 1000000 in
theorem swap_53 (o b : Int) (w : World) : Calls Tryz.prog 68 #[.int .i64 53, .int .u32 o, .int .u32 b] w fun e w' => e = .returned (.int .u32 (swI 53 o b)) ∧ Below w.heap.size w w' := by
  have hs : nameOp 53 = ⟨#[97, 109, 111, 109, 105, 110, 46, 119]⟩ := by kernel_rfl
  go_enter Tryz.func68, Tryz.ntmps68
  go_wp2_with (first
    | (go_at_call 88; refine (signed3_any _ _).mono ?_; rintro e w1 ⟨rfl, rfl⟩)
    | (go_at_call 74; refine (name_any _ _).mono ?_; rintro e w1 ⟨rfl, hb1⟩; rw [hs]))
  all_goals
    go_ret
    exact ⟨ret_int (by show _ = if wrap32 o < wrap32 b then o else b; split <;> first | rfl | omega | simp_all), by first | exact below2 (by assumption) hb1 | exact hb1 | exact below2 (by assumption) hb0⟩
set_option maxHeartbeats 1000000 in
theorem swap_54 (o b : Int) (w : World) : Calls Tryz.prog 68 #[.int .i64 54, .int .u32 o, .int .u32 b] w fun e w' => e = .returned (.int .u32 (swI 54 o b)) ∧ Below w.heap.size w w' := by
  have hs : nameOp 54 = ⟨#[97, 109, 111, 109, 97, 120, 46, 119]⟩ := by kernel_rfl
  go_enter Tryz.func68, Tryz.ntmps68
  go_wp2_with (first
    | (go_at_call 88; refine (signed3_any _ _).mono ?_; rintro e w1 ⟨rfl, rfl⟩)
    | (go_at_call 74; refine (name_any _ _).mono ?_; rintro e w1 ⟨rfl, hb1⟩; rw [hs]))
  all_goals
    go_ret
    exact ⟨ret_int (by show _ = if wrap32 o < wrap32 b then b else o; split <;> first | rfl | omega | simp_all), by first | exact below2 (by assumption) hb1 | exact hb1 | exact below2 (by assumption) hb0⟩
set_option maxHeartbeats 1000000 in
theorem swap_55 (o b : Int) (w : World) : Calls Tryz.prog 68 #[.int .i64 55, .int .u32 o, .int .u32 b] w fun e w' => e = .returned (.int .u32 (swI 55 o b)) ∧ Below w.heap.size w w' := by
  have hs : nameOp 55 = ⟨#[97, 109, 111, 109, 105, 110, 117, 46, 119]⟩ := by kernel_rfl
  go_enter Tryz.func68, Tryz.ntmps68
  go_wp2_with (first
    | (go_at_call 88; refine (signed3_any _ _).mono ?_; rintro e w1 ⟨rfl, rfl⟩)
    | (go_at_call 74; refine (name_any _ _).mono ?_; rintro e w1 ⟨rfl, hb1⟩; rw [hs]))
  all_goals
    go_ret
    exact ⟨ret_int (by show _ = if o < b then o else b; split <;> first | rfl | omega | simp_all), by first | exact below2 (by assumption) hb1 | exact hb1 | exact below2 (by assumption) hb0⟩
set_option maxHeartbeats 1000000 in
theorem swap_56 (o b : Int) (w : World) : Calls Tryz.prog 68 #[.int .i64 56, .int .u32 o, .int .u32 b] w fun e w' => e = .returned (.int .u32 (swI 56 o b)) ∧ Below w.heap.size w w' := by
  have hs : nameOp 56 = ⟨#[97, 109, 111, 109, 97, 120, 117, 46, 119]⟩ := by kernel_rfl
  go_enter Tryz.func68, Tryz.ntmps68
  go_wp2_with (first
    | (go_at_call 88; refine (signed3_any _ _).mono ?_; rintro e w1 ⟨rfl, rfl⟩)
    | (go_at_call 74; refine (name_any _ _).mono ?_; rintro e w1 ⟨rfl, hb1⟩; rw [hs]))
  all_goals
    go_ret
    exact ⟨ret_int (by show _ = if o < b then b else o; split <;> first | rfl | omega | simp_all), by first | exact below2 (by assumption) hb1 | exact hb1 | exact below2 (by assumption) hb0⟩
set_option maxHeartbeats 1000000 in
theorem swap_rest (op o b : Int) (s : ByteArray) (hs : nameOp op = s) (n0 : (s.toList == [97, 109, 111, 115, 119, 97, 112, 46, 119]) = false) (n1 : (s.toList == [115, 99, 46, 119]) = false) (n2 : (s.toList == [97, 109, 111, 97, 100, 100, 46, 119]) = false) (n3 : (s.toList == [97, 109, 111, 120, 111, 114, 46, 119]) = false) (n4 : (s.toList == [97, 109, 111, 97, 110, 100, 46, 119]) = false) (n5 : (s.toList == [97, 109, 111, 111, 114, 46, 119]) = false) (n6 : (s.toList == [97, 109, 111, 109, 105, 110, 46, 119]) = false) (n7 : (s.toList == [97, 109, 111, 109, 97, 120, 46, 119]) = false) (n8 : (s.toList == [97, 109, 111, 109, 105, 110, 117, 46, 119]) = false) (n9 : (s.toList == [97, 109, 111, 109, 97, 120, 117, 46, 119]) = false) (w : World) : Calls Tryz.prog 68 #[.int .i64 op, .int .u32 o, .int .u32 b] w fun e w' => e = .returned (.int .u32 o) ∧ Below w.heap.size w w' := by
  go_enter Tryz.func68, Tryz.ntmps68
  go_wp2_with (first
    | (go_at_call 88; refine (signed3_any _ _).mono ?_; rintro e w1 ⟨rfl, rfl⟩)
    | (go_at_call 74; refine (name_any _ _).mono ?_; rintro e w1 ⟨rfl, hb1⟩; rw [hs]))
  go_ret
  exact ⟨rfl, by first | exact below2 (by assumption) hb1 | exact hb1 | exact below2 (by assumption) hb0⟩
def pnB (s : List UInt8) : Bool := !(s == [97, 109, 111, 115, 119, 97, 112, 46, 119]) && !(s == [115, 99, 46, 119]) && !(s == [97, 109, 111, 97, 100, 100, 46, 119]) && !(s == [97, 109, 111, 120, 111, 114, 46, 119]) && !(s == [97, 109, 111, 97, 110, 100, 46, 119]) && !(s == [97, 109, 111, 111, 114, 46, 119]) && !(s == [97, 109, 111, 109, 105, 110, 46, 119]) && !(s == [97, 109, 111, 109, 97, 120, 46, 119]) && !(s == [97, 109, 111, 109, 105, 110, 117, 46, 119]) && !(s == [97, 109, 111, 109, 97, 120, 117, 46, 119])
theorem pn_all : ((List.range 67).all fun i => ((i == 47) || (i == 46) || (i == 48) || (i == 49) || (i == 50) || (i == 51) || (i == 52) || (i == 53) || (i == 54) || (i == 55)) || pnB (nameAt i).toList) = true := by kernel_rfl
theorem pn_not (op : Int) (h : ¬ op = 48 ∧ ¬ op = 47 ∧ ¬ op = 49 ∧ ¬ op = 50 ∧ ¬ op = 51 ∧ ¬ op = 52 ∧ ¬ op = 53 ∧ ¬ op = 54 ∧ ¬ op = 55 ∧ ¬ op = 56) : pnB (nameOp op).toList = true := by
  unfold nameOp
  split
  · have := List.all_eq_true.1 pn_all (op - 1).toNat (List.mem_range.2 (by omega))
    simp only [Bool.or_eq_true, beq_iff_eq] at this
    rcases this with this | this
    · exfalso; omega
    · exact this
  · kernel_rfl
theorem swI_rest (op o b : Int) (h : ¬ op = 48 ∧ ¬ op = 47 ∧ ¬ op = 49 ∧ ¬ op = 50 ∧ ¬ op = 51 ∧ ¬ op = 52 ∧ ¬ op = 53 ∧ ¬ op = 54 ∧ ¬ op = 55 ∧ ¬ op = 56) : o = swI op o b := by
  unfold swI
  split
  · obtain ⟨n, rfl⟩ : ∃ n : Nat, op = n := ⟨op.toNat, by omega⟩
    rw [Int.toNat_natCast]
    unfold swN
    split <;> first | rfl | (exfalso; omega)
  · rfl
theorem swap_any (op o b : Int) (w : World) : Calls Tryz.prog 68 #[.int .i64 op, .int .u32 o, .int .u32 b] w fun e w' => e = .returned (.int .u32 (swI op o b)) ∧ Below w.heap.size w w' := by
  by_cases h48 : op = 48
  · subst h48; exact swap_48 o b w
  by_cases h47 : op = 47
  · subst h47; exact swap_47 o b w
  by_cases h49 : op = 49
  · subst h49; exact swap_49 o b w
  by_cases h50 : op = 50
  · subst h50; exact swap_50 o b w
  by_cases h51 : op = 51
  · subst h51; exact swap_51 o b w
  by_cases h52 : op = 52
  · subst h52; exact swap_52 o b w
  by_cases h53 : op = 53
  · subst h53; exact swap_53 o b w
  by_cases h54 : op = 54
  · subst h54; exact swap_54 o b w
  by_cases h55 : op = 55
  · subst h55; exact swap_55 o b w
  by_cases h56 : op = 56
  · subst h56; exact swap_56 o b w
  have hn := pn_not op ⟨h48, h47, h49, h50, h51, h52, h53, h54, h55, h56⟩
  simp only [pnB, Bool.and_eq_true, Bool.not_eq_true'] at hn
  obtain ⟨⟨⟨⟨⟨⟨⟨⟨⟨n0, n1⟩, n2⟩, n3⟩, n4⟩, n5⟩, n6⟩, n7⟩, n8⟩, n9⟩ := hn
  have e := swI_rest op o b ⟨h48, h47, h49, h50, h51, h52, h53, h54, h55, h56⟩
  rw [← e]
  exact swap_rest op o b _ rfl n0 n1 n2 n3 n4 n5 n6 n7 n8 n9 w
end Go.Proofs.YtengofkjlgajlaaGreatDoor
