import Derived.Test.YtengofkjlgajlaaGreatDoorGx3
import Derived.Deep.RegionHeld3
import Derived.Deep.RegionWith
/-
  THE PROGRAM's HART: what an instruction traps with.
-/
namespace Go.Proofs.YtengofkjlgajlaaGreatDoor
open Go Go.RowKit
theorem mod_cases (x n : Int) : (x % n != 0) = true ∨ (x % n != 0) = false := by cases (x % n != 0) <;> simp
theorem pfa_any (p : Nat) (cv : Value) (S : HS) (op rd : Int) (rs1 rs2 : Nat) (imm : Int) (w : World) (h : PH w p cv S) (hL : Laid w) (hr : rs1 < 32) (hz : szI op ≠ 0) (hx : 0 ≤ S.whereI op rs1 imm) : Calls Tryz.prog 102 #[.pointer (some ⟨p, 0, none⟩), .agg #[.int .i64 op, .int .i64 rd, .int .i64 rs1, .int .i64 rs2, .int .i64 imm]] w fun e w' => e = .returned (.agg #[.int .i64 (S.pfa op (S.whereI op rs1 imm)), .int .u32 (if S.pfa op (S.whereI op rs1 imm) = -1 then 0 else S.whereI op rs1 imm)]) ∧ Below w.heap.size w w' := by
  obtain ⟨x, hX⟩ : ∃ x, S.whereI op rs1 imm = x := ⟨_, rfl⟩
  rw [hX] at hx ⊢
  have l4 : ∀ b : Bool, ¬ (if b then (4 : Int) else 6) = -1 := by decide
  have l5 : ∀ b : Bool, ¬ (if b then (5 : Int) else 7) = -1 := by decide
  have hbad : (x % szI op != 0) = true → S.pfa op x = (if loadB op then 4 else 6) := fun q => by unfold HS.pfa; rw [if_pos q]
  have hhas : (x % szI op != 0) = false → S.hasB op x = true → S.pfa op x = -1 := fun q r => by unfold HS.pfa; rw [if_neg (by rw [q]; decide), if_pos r]
  have hno : (x % szI op != 0) = false → S.hasB op x = false → S.pfa op x = (if loadB op then 5 else 7) := fun q r => by unfold HS.pfa; rw [if_neg (by rw [q]; decide), if_neg (by rw [r]; decide)]
  rcases sz_cases op with hn | hn | hn | hn
  · exact absurd hn hz
  · have q : (x % szI op != 0) = false := by rw [hn]; simp
    cases hh : S.hasB op x
    · rw [hno q hh, if_neg (l5 _)]
      exact fa_1_n p cv S op rd rs1 rs2 imm x w h hL hr hX hn hh
    · rw [hhas q hh, if_pos rfl]
      exact fa_1_h p cv S op rd rs1 rs2 imm x w h hL hr hX hn hh
  · rcases mod_cases x 2 with q | q
    · rw [hbad (by rw [hn]; exact q), if_neg (l4 _)]
      exact fa_2_b p cv S op rd rs1 rs2 imm x w h hL hr hX hn (by rw [Int.tmod_eq_emod_of_nonneg hx]; exact q)
    · cases hh : S.hasB op x
      · rw [hno (by rw [hn]; exact q) hh, if_neg (l5 _)]
        exact fa_2_n p cv S op rd rs1 rs2 imm x w h hL hr hX hn (by rw [Int.tmod_eq_emod_of_nonneg hx]; exact q) hh
      · rw [hhas (by rw [hn]; exact q) hh, if_pos rfl]
        exact fa_2_h p cv S op rd rs1 rs2 imm x w h hL hr hX hn (by rw [Int.tmod_eq_emod_of_nonneg hx]; exact q) hh
  · rcases mod_cases x 4 with q | q
    · rw [hbad (by rw [hn]; exact q), if_neg (l4 _)]
      exact fa_4_b p cv S op rd rs1 rs2 imm x w h hL hr hX hn (by rw [Int.tmod_eq_emod_of_nonneg hx]; exact q)
    · cases hh : S.hasB op x
      · rw [hno (by rw [hn]; exact q) hh, if_neg (l5 _)]
        exact fa_4_n p cv S op rd rs1 rs2 imm x w h hL hr hX hn (by rw [Int.tmod_eq_emod_of_nonneg hx]; exact q) hh
      · rw [hhas (by rw [hn]; exact q) hh, if_pos rfl]
        exact fa_4_h p cv S op rd rs1 rs2 imm x w h hL hr hX hn (by rw [Int.tmod_eq_emod_of_nonneg hx]; exact q) hh
set_option maxHeartbeats 4000000 in
theorem fo_59 (p : Nat) (cv : Value) (S : HS) (op rd : Int) (rs1 rs2 : Nat) (imm : Int) (w : World) (h : PH w p cv S) (hL : Laid w) (_hr : rs1 < 32) (_hs : rs2 < 32) (ho : op = 59) : Calls Tryz.prog 72 #[.pointer (some ⟨p, 0, none⟩), .agg #[.int .i64 op, .int .i64 rd, .int .i64 rs1, .int .i64 rs2, .int .i64 imm]] w fun e w' => e = .returned (.agg #[.int .i64 (3), .int .u32 (S.pc)]) ∧ Below w.heap.size w w' := by
  have cpc : w.cell? ⟨p, 11, none⟩ = some (.int .u32 S.pc) := h.cell 11 (by decide)
  have h3 := h.here
  have h5 : p < w.heap.size + 1 := by omega
  have HH : Hid (PH w p cv S) := h
  have HL : Hid (Laid w) := hL
  clear h hL
  subst ho
  go_enter Tryz.func72, Tryz.ntmps72
  go_wp2
  refine bodyPost_ret (v := _) (by simp [results, Tryz.results72, go_sem]; try rfl) rfl ⟨rfl, ?_⟩
  exact ((Below.refl _ _).alloc (Nat.le_refl _) _).alloc (by simp) _
set_option maxHeartbeats 4000000 in
theorem fo_58 (p : Nat) (cv : Value) (S : HS) (op rd : Int) (rs1 rs2 : Nat) (imm : Int) (w : World) (h : PH w p cv S) (hL : Laid w) (_hr : rs1 < 32) (_hs : rs2 < 32) (ho : op = 58) : Calls Tryz.prog 72 #[.pointer (some ⟨p, 0, none⟩), .agg #[.int .i64 op, .int .i64 rd, .int .i64 rs1, .int .i64 rs2, .int .i64 imm]] w fun e w' => e = .returned (.agg #[.int .i64 (11), .int .u32 (0)]) ∧ Below w.heap.size w w' := by
  have h3 := h.here
  have h5 : p < w.heap.size + 1 := by omega
  have HH : Hid (PH w p cv S) := h
  have HL : Hid (Laid w) := hL
  clear h hL
  subst ho
  go_enter Tryz.func72, Tryz.ntmps72
  go_wp2
  refine bodyPost_ret (v := _) (by simp [results, Tryz.results72, go_sem]; try rfl) rfl ⟨rfl, ?_⟩
  exact ((Below.refl _ _).alloc (Nat.le_refl _) _).alloc (by simp) _
set_option maxHeartbeats 4000000 in
theorem fo_mem (p : Nat) (cv : Value) (S : HS) (op rd : Int) (rs1 rs2 : Nat) (imm : Int) (w : World) (h : PH w p cv S) (hL : Laid w) (hr : rs1 < 32) (_hs : rs2 < 32) (n9 : (op == 59) = false) (n8 : (op == 58) = false) (z : Int) (hz : szI op = z) (hz1 : (z != 0) = true) (hx0 : 0 ≤ S.whereI op rs1 imm) (P Q : Int) (hP : S.pfa op (S.whereI op rs1 imm) = P) (hQ : (if P = -1 then 0 else S.whereI op rs1 imm) = Q) : Calls Tryz.prog 72 #[.pointer (some ⟨p, 0, none⟩), .agg #[.int .i64 op, .int .i64 rd, .int .i64 rs1, .int .i64 rs2, .int .i64 imm]] w fun e w' => e = .returned (.agg #[.int .i64 (P), .int .u32 (Q)]) ∧ Below w.heap.size w w' := by
  have h3 := h.here
  have h5 : p < w.heap.size + 1 := by omega
  have HH : Hid (PH w p cv S) := h
  have HL : Hid (Laid w) := hL
  clear h hL
  have hz0 : szI op ≠ 0 := by rw [hz]; simpa using hz1
  go_enter Tryz.func72, Tryz.ntmps72
  go_wp2_with (first
    | (go_at_call 39; refine (p_size _ _ ((HL.out.alloc _).alloc _)).mono ?_; rintro e w1 ⟨rfl, hb1⟩; rw [hz]; obtain ⟨m1, n1, k1, j1, l1, o1⟩ := keep2g hb1)
    | (go_at_call 102; refine (pfa_any p cv S _ _ _ _ _ _ (HH.out.below o1) (HL.out.below o1) hr hz0 hx0).mono ?_; rintro e w2 ⟨rfl, hb2⟩; rw [hP, hQ]; obtain ⟨m2, n2, k2, j2, l2⟩ := keep2h m1 n1 k1 j1 l1 hb2; have o2 := below2 o1 hb2))
  refine bodyPost_ret (v := _) (by simp [results, Tryz.results72, go_sem, k2]; try rfl) rfl ⟨rfl, ?_⟩
  exact (o2.setCell (Nat.le_succ _) _).setCell (Nat.le_succ _) _
set_option maxHeartbeats 4000000 in
theorem fo_no (p : Nat) (cv : Value) (S : HS) (op rd : Int) (rs1 rs2 : Nat) (imm : Int) (w : World) (h : PH w p cv S) (hL : Laid w) (hr : rs1 < 32) (hs : rs2 < 32) (n9 : (op == 59) = false) (n8 : (op == 58) = false) (hz : szI op = 0) (tgt : Int) (hto : S.toI op rs1 rs2 imm = tgt) (hg : S.goB op rs1 rs2 = false) : Calls Tryz.prog 72 #[.pointer (some ⟨p, 0, none⟩), .agg #[.int .i64 op, .int .i64 rd, .int .i64 rs1, .int .i64 rs2, .int .i64 imm]] w fun e w' => e = .returned (.agg #[.int .i64 (-1), .int .u32 (0)]) ∧ Below w.heap.size w w' := by
  have h3 := h.here
  have h5 : p < w.heap.size + 1 := by omega
  have HH : Hid (PH w p cv S) := h
  have HL : Hid (Laid w) := hL
  clear h hL
  go_enter Tryz.func72, Tryz.ntmps72
  go_wp2_with (first
    | (go_at_call 39; refine (p_size _ _ ((HL.out.alloc _).alloc _)).mono ?_; rintro e w1 ⟨rfl, hb1⟩; rw [hz]; obtain ⟨m1, n1, k1, j1, l1, o1⟩ := keep2g hb1)
    | (go_at_call 76; refine (target_any p cv S _ _ _ _ _ _ (HH.out.below o1) hr hs).mono ?_; rintro e w2 ⟨rfl, hb2⟩; rw [hg, hto]; obtain ⟨m2, n2, k2, j2, l2⟩ := keep2h m1 n1 k1 j1 l1 hb2; have o2 := below2 o1 hb2)
    | (go_at_call 103; refine (fine_any _).mono ?_; rintro e w3 ⟨rfl, hb3⟩; obtain ⟨m3, n3, k3, j3, l3⟩ := keep2h m2 n2 k2 j2 l2 hb3; have o3 := below2 o2 hb3))
  refine bodyPost_ret (v := _) (by simp [results, Tryz.results72, go_sem, k3]; try rfl) rfl ⟨rfl, ?_⟩
  exact (o3.setCell (Nat.le_succ _) _).setCell (Nat.le_succ _) _
set_option maxHeartbeats 4000000 in
theorem fo_ok (p : Nat) (cv : Value) (S : HS) (op rd : Int) (rs1 rs2 : Nat) (imm : Int) (w : World) (h : PH w p cv S) (hL : Laid w) (hr : rs1 < 32) (hs : rs2 < 32) (n9 : (op == 59) = false) (n8 : (op == 58) = false) (hz : szI op = 0) (tgt : Int) (hto : S.toI op rs1 rs2 imm = tgt) (hg : S.goB op rs1 rs2 = true) (h4 : (tgt.tmod 4 != 0) = false) : Calls Tryz.prog 72 #[.pointer (some ⟨p, 0, none⟩), .agg #[.int .i64 op, .int .i64 rd, .int .i64 rs1, .int .i64 rs2, .int .i64 imm]] w fun e w' => e = .returned (.agg #[.int .i64 (-1), .int .u32 (0)]) ∧ Below w.heap.size w w' := by
  have h3 := h.here
  have h5 : p < w.heap.size + 1 := by omega
  have HH : Hid (PH w p cv S) := h
  have HL : Hid (Laid w) := hL
  clear h hL
  go_enter Tryz.func72, Tryz.ntmps72
  go_wp2_with (first
    | (go_at_call 39; refine (p_size _ _ ((HL.out.alloc _).alloc _)).mono ?_; rintro e w1 ⟨rfl, hb1⟩; rw [hz]; obtain ⟨m1, n1, k1, j1, l1, o1⟩ := keep2g hb1)
    | (go_at_call 76; refine (target_any p cv S _ _ _ _ _ _ (HH.out.below o1) hr hs).mono ?_; rintro e w2 ⟨rfl, hb2⟩; rw [hg, hto]; obtain ⟨m2, n2, k2, j2, l2⟩ := keep2h m1 n1 k1 j1 l1 hb2; have o2 := below2 o1 hb2)
    | (go_at_call 103; refine (fine_any _).mono ?_; rintro e w3 ⟨rfl, hb3⟩; obtain ⟨m3, n3, k3, j3, l3⟩ := keep2h m2 n2 k2 j2 l2 hb3; have o3 := below2 o2 hb3))
  refine bodyPost_ret (v := _) (by simp [results, Tryz.results72, go_sem, k3]; try rfl) rfl ⟨rfl, ?_⟩
  exact (o3.setCell (Nat.le_succ _) _).setCell (Nat.le_succ _) _
set_option maxHeartbeats 4000000 in
theorem fo_odd (p : Nat) (cv : Value) (S : HS) (op rd : Int) (rs1 rs2 : Nat) (imm : Int) (w : World) (h : PH w p cv S) (hL : Laid w) (hr : rs1 < 32) (hs : rs2 < 32) (n9 : (op == 59) = false) (n8 : (op == 58) = false) (hz : szI op = 0) (tgt : Int) (hto : S.toI op rs1 rs2 imm = tgt) (hg : S.goB op rs1 rs2 = true) (h4 : (tgt.tmod 4 != 0) = true) : Calls Tryz.prog 72 #[.pointer (some ⟨p, 0, none⟩), .agg #[.int .i64 op, .int .i64 rd, .int .i64 rs1, .int .i64 rs2, .int .i64 imm]] w fun e w' => e = .returned (.agg #[.int .i64 (0), .int .u32 (tgt)]) ∧ Below w.heap.size w w' := by
  have h3 := h.here
  have h5 : p < w.heap.size + 1 := by omega
  have HH : Hid (PH w p cv S) := h
  have HL : Hid (Laid w) := hL
  clear h hL
  go_enter Tryz.func72, Tryz.ntmps72
  go_wp2_with (first
    | (go_at_call 39; refine (p_size _ _ ((HL.out.alloc _).alloc _)).mono ?_; rintro e w1 ⟨rfl, hb1⟩; rw [hz]; obtain ⟨m1, n1, k1, j1, l1, o1⟩ := keep2g hb1)
    | (go_at_call 76; refine (target_any p cv S _ _ _ _ _ _ (HH.out.below o1) hr hs).mono ?_; rintro e w2 ⟨rfl, hb2⟩; rw [hg, hto]; obtain ⟨m2, n2, k2, j2, l2⟩ := keep2h m1 n1 k1 j1 l1 hb2; have o2 := below2 o1 hb2))
  refine bodyPost_ret (v := _) (by simp [results, Tryz.results72, go_sem, k2]; try rfl) rfl ⟨rfl, ?_⟩
  exact (o2.setCell (Nat.le_succ _) _).setCell (Nat.le_succ _) _
/-- what an instruction traps with (-1: it does not), and of what -/
def HS.pfc (S : HS) (op : Int) (rs1 rs2 : Nat) (imm : Int) : Int :=
  if op = 59 then 3 else if op = 58 then 11 else if szI op ≠ 0 then S.pfa op (S.whereI op rs1 imm) else if S.goB op rs1 rs2 = true ∧ (S.toI op rs1 rs2 imm % 4 != 0) = true then 0 else -1
def HS.pfv (S : HS) (op : Int) (rs1 rs2 : Nat) (imm : Int) : Int :=
  if op = 59 then S.pc else if op = 58 then 0 else if szI op ≠ 0 then (if S.pfa op (S.whereI op rs1 imm) = -1 then 0 else S.whereI op rs1 imm) else if S.goB op rs1 rs2 = true ∧ (S.toI op rs1 rs2 imm % 4 != 0) = true then S.toI op rs1 rs2 imm else 0
theorem toI_u32 {S : HS} (_h : S.Ok) (op : Int) (rs1 rs2 : Nat) (imm : Int) : U32 (S.toI op rs1 rs2 imm) := by
  unfold HS.toI
  repeat' split
  · exact u32_bits _ _ _
  · exact u32_mod _
  · exact u32_zero
theorem faultOf_any (p : Nat) (cv : Value) (S : HS) (op rd : Int) (rs1 rs2 : Nat) (imm : Int) (w : World) (h : PH w p cv S) (hL : Laid w) (hr : rs1 < 32) (hs : rs2 < 32) (hS : S.Ok) : Calls Tryz.prog 72 #[.pointer (some ⟨p, 0, none⟩), .agg #[.int .i64 op, .int .i64 rd, .int .i64 rs1, .int .i64 rs2, .int .i64 imm]] w fun e w' => e = .returned (.agg #[.int .i64 (S.pfc op rs1 rs2 imm), .int .u32 (S.pfv op rs1 rs2 imm)]) ∧ Below w.heap.size w w' := by
  unfold HS.pfc HS.pfv
  by_cases h9 : op = 59
  · rw [if_pos h9, if_pos h9]
    exact fo_59 p cv S op rd rs1 rs2 imm w h hL hr hs h9
  rw [if_neg h9, if_neg h9]
  by_cases h8 : op = 58
  · rw [if_pos h8, if_pos h8]
    exact fo_58 p cv S op rd rs1 rs2 imm w h hL hr hs h8
  rw [if_neg h8, if_neg h8]
  have n9 : (op == 59) = false := by simp; exact h9
  have n8 : (op == 58) = false := by simp; exact h8
  by_cases hz : szI op ≠ 0
  · rw [if_pos hz, if_pos hz]
    exact fo_mem p cv S op rd rs1 rs2 imm w h hL hr hs n9 n8 _ rfl (by simpa using hz) (whereI_u32 hS _ _ _ hr).1 _ _ rfl rfl
  rw [if_neg hz, if_neg hz]
  have hz' : szI op = 0 := Decidable.not_not.1 hz
  cases hg : S.goB op rs1 rs2
  · rw [if_neg (by simp), if_neg (by simp)]
    exact fo_no p cv S op rd rs1 rs2 imm w h hL hr hs n9 n8 hz' _ rfl hg
  · rcases mod_cases (S.toI op rs1 rs2 imm) 4 with q | q
    · rw [if_pos ⟨rfl, q⟩, if_pos ⟨rfl, q⟩]
      exact fo_odd p cv S op rd rs1 rs2 imm w h hL hr hs n9 n8 hz' _ rfl hg (by rw [Int.tmod_eq_emod_of_nonneg (toI_u32 hS _ _ _ _).1]; exact q)
    · rw [if_neg (by rw [q]; simp), if_neg (by rw [q]; simp)]
      exact fo_ok p cv S op rd rs1 rs2 imm w h hL hr hs n9 n8 hz' _ rfl hg (by rw [Int.tmod_eq_emod_of_nonneg (toI_u32 hS _ _ _ _).1]; exact q)
end Go.Proofs.YtengofkjlgajlaaGreatDoor
/-
  THE PROGRAM's HART: what it forbids; the next instruction.
-/
namespace Go.Proofs.YtengofkjlgajlaaGreatDoor
open Go Go.RowKit
set_option maxHeartbeats 1000000 in
theorem fb_a (p : Nat) (op rd : Int) (rs1 rs2 : Nat) (imm : Int) (w : World) (b1 : hcB op = false) (b3 : wcB op rs1 = false) : Calls Tryz.prog 71 #[.pointer (some ⟨p, 0, none⟩), .agg #[.int .i64 op, .int .i64 rd, .int .i64 rs1, .int .i64 rs2, .int .i64 imm]] w fun e w' => e = .returned (.bool false) ∧ Below w.heap.size w w' := by
  go_enter Tryz.func71, Tryz.ntmps71
  go_wp2
  first
    | go_region_with (first
    | (go_at_call 100; refine (handles_any _ _).mono ?_; rintro e w1 ⟨rfl, hw1⟩; have hw2 := hw1.symm; clear hw1; subst hw2; rw [b1])
    | (go_at_call 84; refine (writesC_any _ _ _ _ _ _).mono ?_; rintro e w3 ⟨rfl, hb3⟩; rw [b3]; obtain ⟨k1, k2, k3, k4⟩ := keepB (belowU hb3)))
    | fail
  all_goals (try go_wp2)
  all_goals go_ret
  all_goals exact ⟨rfl, by first | exact k4 | exact k4.drew⟩
set_option maxHeartbeats 1000000 in
theorem fb_c (p : Nat) (op rd : Int) (rs1 rs2 : Nat) (imm : Int) (w : World) (k : Nat) (b1 : hcB op = true) (b2 : csrK imm = some k) (b3 : wcB op rs1 = false) : Calls Tryz.prog 71 #[.pointer (some ⟨p, 0, none⟩), .agg #[.int .i64 op, .int .i64 rd, .int .i64 rs1, .int .i64 rs2, .int .i64 imm]] w fun e w' => e = .returned (.bool false) ∧ Below w.heap.size w w' := by
  go_enter Tryz.func71, Tryz.ntmps71
  go_wp2
  first
    | go_region_with (first
    | (go_at_call 100; refine (handles_any _ _).mono ?_; rintro e w1 ⟨rfl, hw1⟩; have hw2 := hw1.symm; clear hw1; subst hw2; rw [b1])
    | (go_at_call 69; refine (at_any p _ _).mono ?_; rintro e w1 ⟨rfl, hw1⟩; have hw2 := hw1.symm; clear hw1; subst hw2; rw [b2])
    | (go_at_call 84; refine (writesC_any _ _ _ _ _ _).mono ?_; rintro e w3 ⟨rfl, hb3⟩; rw [b3]; obtain ⟨k1, k2, k3, k4⟩ := keepB (belowU hb3)))
    | fail
  all_goals (try go_wp2)
  all_goals go_ret
  all_goals exact ⟨rfl, by first | exact k4 | exact k4.drew⟩
set_option maxHeartbeats 1000000 in
theorem fb_d (p : Nat) (op rd : Int) (rs1 rs2 : Nat) (imm : Int) (w : World) (k : Nat) (b1 : hcB op = true) (b2 : csrK imm = some k) (b3 : wcB op rs1 = true) (x : Int) (b4 : wrI imm = x) : Calls Tryz.prog 71 #[.pointer (some ⟨p, 0, none⟩), .agg #[.int .i64 op, .int .i64 rd, .int .i64 rs1, .int .i64 rs2, .int .i64 imm]] w fun e w' => e = .returned (.bool (x == 0)) ∧ Below w.heap.size w w' := by
  go_enter Tryz.func71, Tryz.ntmps71
  go_wp2
  first
    | go_region_with (first
    | (go_at_call 100; refine (handles_any _ _).mono ?_; rintro e w1 ⟨rfl, hw1⟩; have hw2 := hw1.symm; clear hw1; subst hw2; rw [b1])
    | (go_at_call 69; refine (at_any p _ _).mono ?_; rintro e w1 ⟨rfl, hw1⟩; have hw2 := hw1.symm; clear hw1; subst hw2; rw [b2])
    | (go_at_call 84; refine (writesC_any _ _ _ _ _ _).mono ?_; rintro e w3 ⟨rfl, hb3⟩; rw [b3]; obtain ⟨k1, k2, k3, k4⟩ := keepB (belowU hb3))
    | (go_at_call 101; refine (wr_any _ _).mono ?_; rintro e w4 ⟨rfl, hw1⟩; have hw2 := hw1.symm; clear hw1; subst hw2; rw [b4]))
    | fail
  all_goals (try go_wp2)
  all_goals go_ret
  all_goals exact ⟨rfl, by first | exact k4 | exact k4.drew⟩
end Go.Proofs.YtengofkjlgajlaaGreatDoor
/-
  THE PROGRAM's HART: what it forbids, one case more.
-/
namespace Go.Proofs.YtengofkjlgajlaaGreatDoor
open Go Go.RowKit
set_option maxHeartbeats 1000000 in
theorem fb_b (p : Nat) (op rd : Int) (rs1 rs2 : Nat) (imm : Int) (w : World) (b1 : hcB op = true) (b2 : csrK imm = none) : Calls Tryz.prog 71 #[.pointer (some ⟨p, 0, none⟩), .agg #[.int .i64 op, .int .i64 rd, .int .i64 rs1, .int .i64 rs2, .int .i64 imm]] w fun e w' => e = .returned (.bool true) ∧ Below w.heap.size w w' := by
  have hu : undef = Value.tuple #[] := rfl
  go_enter Tryz.func71, Tryz.ntmps71
  go_wp2
  first
    | go_region_with (first
    | (go_at_call 100; refine (handles_any _ _).mono ?_; rintro e w1 ⟨rfl, hw1⟩; have hw2 := hw1.symm; clear hw1; subst hw2; rw [b1])
    | (go_at_call 69; refine (at_any p _ _).mono ?_; rintro e w1 ⟨rfl, hw1⟩; have hw2 := hw1.symm; clear hw1; subst hw2; rw [b2]))
    | fail
  all_goals (try go_wp2)
  all_goals go_ret
  all_goals exact ⟨rfl, by first | exact ((Below.refl _ _).alloc (Nat.le_refl _) _).drew | exact (Below.refl _ _).alloc (Nat.le_refl _) _⟩
end Go.Proofs.YtengofkjlgajlaaGreatDoor
