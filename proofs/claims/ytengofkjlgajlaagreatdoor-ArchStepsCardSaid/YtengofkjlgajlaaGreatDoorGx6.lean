import Derived.Test.YtengofkjlgajlaaGreatDoorGx2
import Derived.Test.YtengofkjlgajlaaGreatDoorGx4
import Derived.Deep.RegionWith
import Derived.Test.YtengofkjlgajlaaGreatDoorXl
import Derived.Deep.RegionHeld3
/-
  THE PROGRAM's HART: what an instruction does to control registers.
-/
namespace Go.Proofs.YtengofkjlgajlaaGreatDoor
open Go Go.RowKit
set_option maxHeartbeats 1000000 in
theorem control_60 (p : Nat) (cv : Value) (S : HS) (rd : Int) (rs1 rs2 : Nat) (imm : Int) (w : World) (h : PH w p cv S) (hL : Laid w) : Calls Tryz.prog 52 #[.pointer (some ⟨p, 0, none⟩), .agg #[.int .i64 60, .int .i64 rd, .int .i64 rs1, .int .i64 rs2, .int .i64 imm]] w fun e w' => e = .returned (.tuple #[]) ∧ PH w' p cv { S with status := bits .or .u32 128 (bits .and .u32 S.status 128 / 16) } ∧ Only p w w' := by
  have h3 := h.here
  have h5 : p < w.heap.size + 1 := by omega
  have HH : Hid (PH w p cv S) := h
  have HL : Hid (Laid w) := hL
  clear h hL
  clear HL
  go_enter Tryz.func52, Tryz.ntmps52
  go_wp2_with (go_at_call 83; refine (leave_any p cv S _ (HH.out.alloc _)).mono ?_; rintro e w1 ⟨rfl, hR, hO⟩; obtain ⟨k1, k2, k3, k4⟩ := keepO hO h3)
  exact bodyPost_end (results_none Tryz.results52 _ _ _) rfl ⟨rfl, hR, k4⟩
set_option maxHeartbeats 1000000 in
theorem control_no (p : Nat) (cv : Value) (S : HS) (op rd : Int) (rs1 rs2 : Nat) (imm : Int) (w : World) (h : PH w p cv S) (hL : Laid w) (n60 : (op == 60) = false) (hw : wcB op rs1 = false) : Calls Tryz.prog 52 #[.pointer (some ⟨p, 0, none⟩), .agg #[.int .i64 op, .int .i64 rd, .int .i64 rs1, .int .i64 rs2, .int .i64 imm]] w fun e w' => e = .returned (.tuple #[]) ∧ PH w' p cv S ∧ Only p w w' := by
  have h3 := h.here
  have h5 : p < w.heap.size + 1 := by omega
  have HH : Hid (PH w p cv S) := h
  have HL : Hid (Laid w) := hL
  clear h hL
  clear HL
  go_enter Tryz.func52, Tryz.ntmps52
  go_wp2_with (go_at_call 84; refine (writesC_any _ _ _ _ _ _).mono ?_; rintro e w1 ⟨rfl, hb1⟩; rw [hw]; obtain ⟨k1, k2, k3, k4⟩ := keepB hb1)
  exact bodyPost_end (results_none Tryz.results52 _ _ _) rfl ⟨rfl, HH.out.below k4, Only.of_below k4⟩
set_option maxHeartbeats 2000000 in
theorem control_set (p : Nat) (cv : Value) (S : HS) (op rd : Int) (rs1 rs2 : Nat) (imm : Int) (w : World) (h : PH w p cv S) (hL : Laid w) (hr : rs1 < 32) (n60 : (op == 60) = false) (hw : wcB op rs1 = true) (hop : 62 ≤ op ∧ op ≤ 67) (hn : csrB imm = true) (hwr : wrI imm ≠ 0) (ha : U32 (S.firstI op rs1)) : Calls Tryz.prog 52 #[.pointer (some ⟨p, 0, none⟩), .agg #[.int .i64 op, .int .i64 rd, .int .i64 rs1, .int .i64 rs2, .int .i64 imm]] w fun e w' => e = .returned (.tuple #[]) ∧ PH w' p cv (S.setCsr imm (csrNew (sysM op) (S.csrV imm) (S.firstI op rs1))) ∧ Only p w w' := by
  have h3 := h.here
  have h5 : p < w.heap.size + 1 := by omega
  have HH : Hid (PH w p cv S) := h
  have HL : Hid (Laid w) := hL
  clear h hL
  have HO : Hid (62 ≤ op ∧ op ≤ 67) := hop
  have HN : Hid (csrB imm = true ∧ wrI imm ≠ 0) := ⟨hn, hwr⟩
  clear hop hn hwr
  go_enter Tryz.func52, Tryz.ntmps52
  go_wp2_with (go_at_call 84; refine (writesC_any _ _ _ _ _ _).mono ?_; rintro e w1 ⟨rfl, hb1⟩; rw [hw]; obtain ⟨k1, k2, k3, k4⟩ := keepB hb1)
  first
    | go_region_with (first
      | (go_at_call 86; refine (first_any p cv S _ _ _ _ _ _ (HH.out.below k4).drew (HL.out.below k4).drew hr).mono ?_; rintro e w2 ⟨rfl, hb2⟩; have o2 := below2 k4 (belowU hb2); obtain ⟨q1, q2⟩ := keepT2 k1 k3 (belowU hb2))
      | (go_at_call 85; refine (pset_any p cv S _ _ _ _ (HH.out.below o2) HO.out HN.out.1 HN.out.2 ha).mono ?_; rintro e w3 ⟨rfl, hR, hO⟩))
    | fail
  all_goals (try go_wp2)
  all_goals exact bodyPost_end (results_none Tryz.results52 _ _ _) rfl ⟨rfl, hR, (Only.of_below o2).trans hO⟩
def fbB' (op : Int) (rs1 : Nat) (imm : Int) : Bool := (hcB op && !csrB imm) || (wcB op rs1 && wrI imm == 0)
/-- what an instruction does to control registers -/
def HS.ctlS (S : HS) (op : Int) (rs1 : Nat) (imm : Int) : HS := if op = 60 then { S with status := bits .or .u32 128 (bits .and .u32 S.status 128 / 16) } else if wcB op rs1 then S.setCsr imm (csrNew (sysM op) (S.csrV imm) (S.firstI op rs1)) else S
theorem control_any (p : Nat) (cv : Value) (S : HS) (op rd : Int) (rs1 rs2 : Nat) (imm : Int) (w : World) (h : PH w p cv S) (hL : Laid w) (hr : rs1 < 32) (hf : fbB' op rs1 imm = false) (hS : S.Ok) : Calls Tryz.prog 52 #[.pointer (some ⟨p, 0, none⟩), .agg #[.int .i64 op, .int .i64 rd, .int .i64 rs1, .int .i64 rs2, .int .i64 imm]] w fun e w' => e = .returned (.tuple #[]) ∧ PH w' p cv (S.ctlS op rs1 imm) ∧ Only p w w' := by
  unfold HS.ctlS
  by_cases h60 : op = 60
  · subst h60
    rw [if_pos rfl]
    exact control_60 p cv S rd rs1 rs2 imm w h hL
  have n60 : (op == 60) = false := by simp; exact h60
  rw [if_neg h60]
  cases hw : wcB op rs1
  · rw [if_neg (by simp)]
    exact control_no p cv S op rd rs1 rs2 imm w h hL n60 hw
  · rw [if_pos rfl]
    have hh : hcB op = true := by
      unfold wcB at hw
      cases q : hcB op
      · rw [q] at hw; exact absurd hw (by simp)
      · rfl
    have hop : 62 ≤ op ∧ op ≤ 67 := by unfold hcB at hh; simpa using hh
    unfold fbB' at hf
    rw [hh, hw] at hf
    have hn : csrB imm = true ∧ wrI imm ≠ 0 := by simpa using hf
    have ha : U32 (S.firstI op rs1) := by
      unfold HS.firstI
      split
      · exact hS.regs _ hr
      · exact ⟨by omega, by omega⟩
    exact control_set p cv S op rd rs1 rs2 imm w h hL hr n60 hw hop hn.1 hn.2 ha
end Go.Proofs.YtengofkjlgajlaaGreatDoor
/-
  THE PROGRAM's HART: interrupts, what is asked of memory.
-/
namespace Go.Proofs.YtengofkjlgajlaaGreatDoor
open Go Go.RowKit
set_option maxHeartbeats 2000000 in
theorem pinterrupt_any (p : Nat) (cv : Value) (S : HS) (w : World) (h : PH w p cv S) : Calls Tryz.prog 22 #[.pointer (some ⟨p, 0, none⟩)] w fun e w' => e = .returned (.tuple #[if S.mayI then S.trapR 0 2147483659 0 else zeroR, .bool S.mayI]) ∧ PH w' p cv (if S.mayI then S.trapped 2147483659 0 else S) ∧ Only p w w' := by
  have chalted : w.cell? ⟨p, 44, none⟩ = some (.bool S.halted) := h.cell 44 (by decide)
  have h3 := h.here
  have h4 := h.free
  have HH : Hid (PH w p cv S) := h
  clear h
  cases hh : S.halted
  · rw [hh] at chalted
    cases hi : (bits .and .u32 S.status 8 != 0 && S.enable != 0)
    · have hm : S.mayI = false := by
        rw [← hi]
        unfold HS.mayI bne
        rw [hh]
        cases (bits .and .u32 S.status 8 == 0) <;> cases (S.enable == 0) <;> rfl
      rw [hm]
      go_enter Tryz.func22, Tryz.ntmps22
      go_wp2_with (go_at_call 46; refine (inter_any p cv S _ (HH.out.alloc _)).mono ?_; rintro e w1 ⟨rfl, rfl⟩; rw [hi])
      exact bodyPost_ret (v := .tuple #[zeroR, .bool false]) (by simp [results, Tryz.results22, go_sem, zeroR]) rfl ⟨rfl, HH.out.alloc _, (Only.refl p w).alloc _⟩
    · have hm : S.mayI = true := by
        rw [← hi]
        unfold HS.mayI bne
        rw [hh]
        cases (bits .and .u32 S.status 8 == 0) <;> cases (S.enable == 0) <;> rfl
      rw [hm]
      go_enter Tryz.func22, Tryz.ntmps22
      go_wp2_with (first
        | (go_at_call 46; refine (inter_any p cv S _ (HH.out.alloc _)).mono ?_; rintro e w1 ⟨rfl, hw1⟩; subst hw1; rw [hi])
        | (go_at_call 47; refine (ptrap_any p cv S _ _ _ _ (HH.out.alloc _)).mono ?_; rintro e w1 ⟨rfl, hR, hO⟩; obtain ⟨k1, k2, k3, k4⟩ := keepO hO h3; unfold HS.trapR))
      refine bodyPost_ret (v := .tuple #[S.trapR 0 2147483659 0, .bool true]) (by simp [results, Tryz.results22, go_sem, k1, HS.trapR]) rfl ⟨rfl, ?_, ?_⟩
      · exact hR.far7 (by omega) _ _ _ _ _ _ _
      · exact k4.new7 (Nat.le_refl _) _ _ _ _ _ _ _
  · rw [hh] at chalted
    have hm : S.mayI = false := by unfold HS.mayI; rw [hh]; rfl
    rw [hm]
    go_enter Tryz.func22, Tryz.ntmps22
    go_wp2
    exact bodyPost_ret (v := .tuple #[zeroR, .bool false]) (by simp [results, Tryz.results22, go_sem, zeroR]) rfl ⟨rfl, HH.out.alloc _, (Only.refl p w).alloc _⟩
theorem preg_any (p : Nat) (cv : Value) (S : HS) (i : Nat) (w : World) (h : PH w p cv S) (hi : i < 32) : Calls Tryz.prog 33 #[.pointer (some ⟨p, 0, none⟩), .int .i64 i] w fun e w' => e = .returned (.int .u32 (S.regs i)) ∧ w' = w := by
  have c := PH.atReg h i hi
  have h3 := h.here
  clear h
  go_enter Tryz.func33, Tryz.ntmps33
  go_wp2
  go_ret
  exact ⟨rfl, rfl⟩
theorem ppc_any (p : Nat) (cv : Value) (S : HS) (w : World) (h : PH w p cv S) : Calls Tryz.prog 34 #[.pointer (some ⟨p, 0, none⟩)] w fun e w' => e = .returned (.int .u32 S.pc) ∧ w' = w := by
  have cpc : w.cell? ⟨p, 11, none⟩ = some (.int .u32 S.pc) := h.cell 11 (by decide)
  have h3 := h.here
  clear h
  go_enter Tryz.func34, Tryz.ntmps34
  go_wp2
  go_ret
  exact ⟨rfl, rfl⟩
theorem phalted_any (p : Nat) (cv : Value) (S : HS) (w : World) (h : PH w p cv S) : Calls Tryz.prog 27 #[.pointer (some ⟨p, 0, none⟩)] w fun e w' => e = .returned (.bool S.halted) ∧ w' = w := by
  have chalted : w.cell? ⟨p, 44, none⟩ = some (.bool S.halted) := h.cell 44 (by decide)
  have h3 := h.here
  clear h
  go_enter Tryz.func27, Tryz.ntmps27
  go_wp2
  go_ret
  exact ⟨rfl, rfl⟩
/-- a value cut to so many bytes -/
def cutI (n x : Int) : Int := if n = 1 then x % 256 else if n = 2 then x % 65536 else x
theorem cut_any (n x : Int) (w : World) (hx : U32 x) (hn : n = 1 ∨ n = 2 ∨ n = 4) : Calls Tryz.prog 41 #[.int .u32 x, .int .i64 n] w fun e w' => e = .returned (.int .u32 (cutI n x)) ∧ w' = w := by
  rcases hn with rfl | rfl | rfl
  · exact cut_1 x w hx
  · exact cut_2 x w hx
  · exact cut_4 x w hx
set_option maxHeartbeats 1000000 in
theorem pask_halted (p : Nat) (S : HS) (cb co n cp : Nat) (w : World) (h : PH w p (.slice (some ⟨cb, co, none⟩) n cp) S) (hh : S.halted = true) : Calls Tryz.prog 20 #[.pointer (some ⟨p, 0, none⟩)] w fun e w' => e = .returned zeroQ ∧ Below w.heap.size w w' := by
  have chalted : w.cell? ⟨p, 44, none⟩ = some (.bool S.halted) := h.cell 44 (by decide)
  rw [hh] at chalted
  have h3 := h.here
  clear h
  go_enter Tryz.func20, Tryz.ntmps20
  go_wp2
  exact bodyPost_ret (v := zeroQ) (by simp [results, Tryz.results20, go_sem, zeroQ]) rfl ⟨rfl, (Below.refl _ _).alloc (Nat.le_refl _) _⟩
set_option maxHeartbeats 2000000 in
theorem pask_trap (p : Nat) (S : HS) (cb co n cp : Nat) (w : World) (h : PH w p (.slice (some ⟨cb, co, none⟩) n cp) S) (hh : S.halted = false) {D : Int → Dec} (HD : PDecOk D) (hn : n ≤ 4096) (hp : U32 S.pc) (hL : Laid w) (f : Nat → Int) (hC : CodeAt w cb co n f) (hS : S.Ok) (d : Dec) (word c t : Int) (hd : S.fetchD D n f = d) (hw : S.fetchW n f = word) (hc : S.lookC D n f = c) (ht : S.lookT D n f = t) (z : Int) (hz : szI d.op = z) (nc : (c != -1) = true) : Calls Tryz.prog 20 #[.pointer (some ⟨p, 0, none⟩)] w fun e w' => e = .returned zeroQ ∧ Below w.heap.size w w' := by
  have chalted : w.cell? ⟨p, 44, none⟩ = some (.bool S.halted) := h.cell 44 (by decide)
  rw [hh] at chalted
  have h3 := h.here
  have HH : Hid (PH w p (.slice (some ⟨cb, co, none⟩) n cp) S) := h
  have HL : Hid (Laid w) := hL
  clear h hL hh
  go_enter Tryz.func20, Tryz.ntmps20
  go_wp2_with (first
    | (go_at_call 38; refine (look_any HD p S cb co n cp _ (HH.out.alloc _) hn hp (HL.out.alloc _) f (hC.below ((Below.refl _ _).alloc (Nat.le_refl _) _)) hS).mono ?_; rintro e w1 ⟨rfl, hb1⟩; rw [hd, hw, hc, ht]; obtain ⟨k1, k2, k3, k4⟩ := keepB hb1; unfold Dec.val)
    | (go_at_call 39; refine (p_size _ _ (by repeat (first | exact HL.out.below k4 | refine Laid.drew ?_ | refine Laid.alloc ?_ _))).mono ?_; rintro e w2 ⟨rfl, hb2⟩; rw [hz]; obtain ⟨m1, n1, q1, j1, l1, o1⟩ := keep2g hb2; have o2 := below2 k4 o1; obtain ⟨r1, r2⟩ := keepT2 k1 k3 o1; have f2 : ∀ i, w2.frozen? ⟨w.heap.size, i, none⟩ = false := fun i => (o1.frozen (p := ⟨w.heap.size, i, none⟩) k3).trans (k2 i)))
  refine bodyPost_ret (v := zeroQ) (by simp [results, Tryz.results20, go_sem, zeroQ, r1]) rfl ⟨rfl, ?_⟩
  repeat (first | with_reducible exact o2 | with_reducible refine Below.drew ?_ | with_reducible refine Below.setCell ?_ (by exact Nat.le_refl _) _)
set_option maxHeartbeats 2000000 in
theorem pask_none (p : Nat) (S : HS) (cb co n cp : Nat) (w : World) (h : PH w p (.slice (some ⟨cb, co, none⟩) n cp) S) (hh : S.halted = false) {D : Int → Dec} (HD : PDecOk D) (hn : n ≤ 4096) (hp : U32 S.pc) (hL : Laid w) (f : Nat → Int) (hC : CodeAt w cb co n f) (hS : S.Ok) (d : Dec) (word c t : Int) (hd : S.fetchD D n f = d) (hw : S.fetchW n f = word) (hc : S.lookC D n f = c) (ht : S.lookT D n f = t) (z : Int) (hz : szI d.op = z) (nc : (c != -1) = false) (nz : (z == 0) = true) : Calls Tryz.prog 20 #[.pointer (some ⟨p, 0, none⟩)] w fun e w' => e = .returned zeroQ ∧ Below w.heap.size w w' := by
  have chalted : w.cell? ⟨p, 44, none⟩ = some (.bool S.halted) := h.cell 44 (by decide)
  rw [hh] at chalted
  have h3 := h.here
  have HH : Hid (PH w p (.slice (some ⟨cb, co, none⟩) n cp) S) := h
  have HL : Hid (Laid w) := hL
  clear h hL hh
  go_enter Tryz.func20, Tryz.ntmps20
  go_wp2_with (first
    | (go_at_call 38; refine (look_any HD p S cb co n cp _ (HH.out.alloc _) hn hp (HL.out.alloc _) f (hC.below ((Below.refl _ _).alloc (Nat.le_refl _) _)) hS).mono ?_; rintro e w1 ⟨rfl, hb1⟩; rw [hd, hw, hc, ht]; obtain ⟨k1, k2, k3, k4⟩ := keepB hb1; unfold Dec.val)
    | (go_at_call 39; refine (p_size _ _ (by repeat (first | exact HL.out.below k4 | refine Laid.drew ?_ | refine Laid.alloc ?_ _))).mono ?_; rintro e w2 ⟨rfl, hb2⟩; rw [hz]; obtain ⟨m1, n1, q1, j1, l1, o1⟩ := keep2g hb2; have o2 := below2 k4 o1; obtain ⟨r1, r2⟩ := keepT2 k1 k3 o1; have f2 : ∀ i, w2.frozen? ⟨w.heap.size, i, none⟩ = false := fun i => (o1.frozen (p := ⟨w.heap.size, i, none⟩) k3).trans (k2 i)))
  refine bodyPost_ret (v := zeroQ) (by simp [results, Tryz.results20, go_sem, zeroQ, r1]) rfl ⟨rfl, ?_⟩
  repeat (first | with_reducible exact o2 | with_reducible refine Below.drew ?_ | with_reducible refine Below.setCell ?_ (by exact Nat.le_refl _) _)
end Go.Proofs.YtengofkjlgajlaaGreatDoor
/-
  THE PROGRAM's HART: what is asked of memory, where something is.
-/
namespace Go.Proofs.YtengofkjlgajlaaGreatDoor
open Go Go.RowKit
set_option maxHeartbeats 2000000 in
theorem pask_some (p : Nat) (S : HS) (cb co n cp : Nat) (w : World) (h : PH w p (.slice (some ⟨cb, co, none⟩) n cp) S) (hh : S.halted = false) {D : Int → Dec} (HD : PDecOk D) (hn : n ≤ 4096) (hp : U32 S.pc) (hL : Laid w) (f : Nat → Int) (hC : CodeAt w cb co n f) (hS : S.Ok) (d : Dec) (word c t : Int) (hd : S.fetchD D n f = d) (hw : S.fetchW n f = word) (hc : S.lookC D n f = c) (ht : S.lookT D n f = t) (z : Int) (hz : szI d.op = z) (nc : (c != -1) = false) (nz : (z == 0) = false) (hzc : z = 1 ∨ z = 2 ∨ z = 4) (hr : d.rs1 < 32) (hs : d.rs2 < 32) (x : Int) (hx : S.whereI d.op d.rs1 d.imm = x) (y : Int) (hy : cutI z (S.regs d.rs2) = y) : Calls Tryz.prog 20 #[.pointer (some ⟨p, 0, none⟩)] w fun e w' => e = .returned (.agg #[.int .i64 d.op, .int .u32 x, .int .i64 z, .int .u32 y]) ∧ Below w.heap.size w w' := by
  have creg := PH.atReg h d.rs2 hs
  have hu := hS.regs d.rs2 hs
  have i1 : (0 : Int) ≤ (d.rs2 : Int) := by omega
  have i2 : (d.rs2 : Int) < 32 := by omega
  have chalted : w.cell? ⟨p, 44, none⟩ = some (.bool S.halted) := h.cell 44 (by decide)
  rw [hh] at chalted
  have h3 := h.here
  have HH : Hid (PH w p (.slice (some ⟨cb, co, none⟩) n cp) S) := h
  have HL : Hid (Laid w) := hL
  clear h hL hh
  have HZ : Hid (z = 1 ∨ z = 2 ∨ z = 4) := hzc
  clear hzc
  go_enter Tryz.func20, Tryz.ntmps20
  go_wp2_with (first
    | (go_at_call 38; refine (look_any HD p S cb co n cp _ (HH.out.alloc _) hn hp (HL.out.alloc _) f (hC.below ((Below.refl _ _).alloc (Nat.le_refl _) _)) hS).mono ?_; rintro e w1 ⟨rfl, hb1⟩; rw [hd, hw, hc, ht]; obtain ⟨k1, k2, k3, k4⟩ := keepB hb1; unfold Dec.val)
    | (go_at_call 39; refine (p_size _ _ (by repeat (first | exact HL.out.below k4 | refine Laid.drew ?_ | refine Laid.alloc ?_ _))).mono ?_; rintro e w2 ⟨rfl, hb2⟩; rw [hz]; obtain ⟨m1, n1, q1, j1, l1, o1⟩ := keep2g hb2; have o2 := below2 k4 o1; obtain ⟨r1, r2⟩ := keepT2 k1 k3 o1; have f2 : ∀ i, w2.frozen? ⟨w.heap.size, i, none⟩ = false := fun i => (o1.frozen (p := ⟨w.heap.size, i, none⟩) k3).trans (k2 i)))
  have creg2 : w2.cell? ⟨p, 12 + d.rs2, none⟩ = some (.int .u32 (S.regs d.rs2)) := (o2.cell (p := ⟨p, 12 + d.rs2, none⟩) h3).trans creg
  have ne0 : w.heap.size ≠ w1.heap.size := by omega
  have ne1 : w1.heap.size ≠ w.heap.size := by omega
  have ne2 : w.heap.size ≠ p := by omega
  have ne3 : p ≠ w.heap.size := by omega
  go_region_held3 (fun w' => w'.cell? ⟨w1.heap.size, 0, none⟩ = some (.int .i64 d.op) ∧ w'.cell? ⟨w1.heap.size, 1, none⟩ = some (.int .i64 d.rd) ∧ w'.cell? ⟨w1.heap.size, 2, none⟩ = some (.int .i64 d.rs1) ∧ w'.cell? ⟨w1.heap.size, 3, none⟩ = some (.int .i64 d.rs2) ∧ w'.cell? ⟨w1.heap.size, 4, none⟩ = some (.int .i64 d.imm) ∧ w'.cell? ⟨p, 12 + d.rs2, none⟩ = some (.int .u32 (S.regs d.rs2))) (go_keep) (first
      | (go_at_call 40; refine (paddr_any p _ S _ _ _ _ _ _ (HH.out.below o2).drew (HL.out.below o2).drew hr).mono ?_; rintro e w3 ⟨rfl, hb3⟩; rw [hx]; have o3 := below2 o2 (belowU hb3); have creg3 : w3.cell? ⟨p, 12 + d.rs2, none⟩ = some (.int .u32 (S.regs d.rs2)) := (o3.cell (p := ⟨p, 12 + d.rs2, none⟩) h3).trans creg; obtain ⟨s1, s2⟩ := keepT2 r1 r2 (belowU hb3); have f3 : ∀ i, w3.frozen? ⟨w.heap.size, i, none⟩ = false := fun i => ((belowU hb3).frozen (p := ⟨w.heap.size, i, none⟩) r2).trans (f2 i); obtain ⟨m3, n3, q3, j3, l3⟩ := keep2h m1 n1 q1 j1 l1 (belowU hb3))
      | (go_at_call 41; refine (cut_any _ _ _ hu HZ.out).mono ?_; rintro e w4 ⟨rfl, hw4⟩; have hw5 := hw4.symm; clear hw4; subst hw5; rw [hy]))
  all_goals (try go_wp2)
  all_goals (refine bodyPost_ret (v := .agg #[.int .i64 d.op, .int .u32 x, .int .i64 z, .int .u32 y]) (by simp [results, Tryz.results20, go_sem, s1]) rfl ⟨rfl, ?_⟩)
  all_goals (repeat (first | with_reducible exact o3 | with_reducible refine Below.drew ?_ | with_reducible refine Below.setCell ?_ (by exact Nat.le_refl _) _))
end Go.Proofs.YtengofkjlgajlaaGreatDoor
/-
  THE PROGRAM's HART: Do, where it is halted or traps.
-/
namespace Go.Proofs.YtengofkjlgajlaaGreatDoor
open Go Go.RowKit
set_option maxHeartbeats 1000000 in
theorem pdo_halted (p : Nat) (S : HS) (cb co n cp : Nat) (v : Int) (held : Bool) (w : World) (h : PH w p (.slice (some ⟨cb, co, none⟩) n cp) S) (hh : S.halted = true) : Calls Tryz.prog 24 #[.pointer (some ⟨p, 0, none⟩), .int .u32 v, .bool held] w fun e w' => e = .returned S.idleR ∧ PH w' p (.slice (some ⟨cb, co, none⟩) n cp) S ∧ Only p w w' := by
  have chalted : w.cell? ⟨p, 44, none⟩ = some (.bool S.halted) := h.cell 44 (by decide)
  have cpc : w.cell? ⟨p, 11, none⟩ = some (.int .u32 S.pc) := h.cell 11 (by decide)
  rw [hh] at chalted
  have h3 := h.here
  have h5 : p < w.heap.size + 1 := by omega
  have HH : Hid (PH w p (.slice (some ⟨cb, co, none⟩) n cp) S) := h
  clear h
  go_enter Tryz.func24, Tryz.ntmps24
  go_wp2
  go_region
  go_wp2
  refine bodyPost_ret (v := S.idleR) (by simp [results, Tryz.results24, go_sem, HS.idleR]) rfl ⟨rfl, ?_, ?_⟩
  · exact (HH.out.alloc _).drew
  · exact ((Only.refl p w).alloc _).drew
set_option maxHeartbeats 2000000 in
theorem pdo_trap (p : Nat) (S : HS) (cb co n cp : Nat) (v : Int) (held : Bool) (w : World) (h : PH w p (.slice (some ⟨cb, co, none⟩) n cp) S) (hh : S.halted = false) {D : Int → Dec} (HD : PDecOk D) (hn : n ≤ 4096) (hp : U32 S.pc) (hL : Laid w) (f : Nat → Int) (hC : CodeAt w cb co n f) (hS : S.Ok) (d : Dec) (word c t : Int) (hd : S.fetchD D n f = d) (hw : S.fetchW n f = word) (hc : S.lookC D n f = c) (ht : S.lookT D n f = t) (nc : (c != -1) = true) : Calls Tryz.prog 24 #[.pointer (some ⟨p, 0, none⟩), .int .u32 v, .bool held] w fun e w' => e = .returned (S.trapR word c t) ∧ PH w' p (.slice (some ⟨cb, co, none⟩) n cp) (S.trapped c t) ∧ Only p w w' := by
  have chalted : w.cell? ⟨p, 44, none⟩ = some (.bool S.halted) := h.cell 44 (by decide)
  rw [hh] at chalted
  have h3 := h.here
  have HH : Hid (PH w p (.slice (some ⟨cb, co, none⟩) n cp) S) := h
  have HL : Hid (Laid w) := hL
  clear h hL hh
  go_enter Tryz.func24, Tryz.ntmps24
  go_wp2_with (first
    | (go_at_call 38; refine (look_any HD p S cb co n cp _ (HH.out.alloc _) hn hp (HL.out.alloc _) f (hC.below ((Below.refl _ _).alloc (Nat.le_refl _) _)) hS).mono ?_; rintro e w1 ⟨rfl, hb1⟩; rw [hd, hw, hc, ht]; obtain ⟨k1, k2, k3, k4⟩ := keepB hb1; unfold Dec.val)
    | (go_at_call 47; refine (ptrap_any p _ S _ _ _ _ (((HH.out.below k4).alloc _).alloc _)).mono ?_; rintro e w3 ⟨rfl, hR, hO⟩; have o3 : Only p w w3 := (((Only.of_below k4).alloc _).alloc _).trans hO; have z3 : ∀ i, w3.cell? ⟨w.heap.size, i, none⟩ = _ := fun i => hO.to_cell (by simp; omega) (by omega) ((alloc_old (by simp; omega)).trans ((alloc_old (by omega)).trans (k1 i))); have f3 : ∀ i, w3.frozen? ⟨w.heap.size, i, none⟩ = false := fun i => hO.to_frozen (by simp; omega) (by omega) ((alloc_oldf (by simp; omega)).trans ((alloc_oldf (by omega)).trans (k2 i))); have l3 : w.heap.size < w3.heap.size := Nat.lt_of_lt_of_le (by simp; omega) hO.size; unfold HS.trapR))
  refine bodyPost_ret (v := S.trapR word c t) (by simp [results, Tryz.results24, go_sem, z3, HS.trapR]) rfl ⟨rfl, ?_, ?_⟩
  · exact hR.far7 (by omega) _ _ _ _ _ _ _
  · exact o3.new7 (Nat.le_refl _) _ _ _ _ _ _ _
end Go.Proofs.YtengofkjlgajlaaGreatDoor
/-
  THE PROGRAM's HART: Do, where nothing traps.
-/
namespace Go.Proofs.YtengofkjlgajlaaGreatDoor
open Go Go.RowKit
/-- in the midst of Do: the hart, the place of the answer, the instruction, the row that is being made -/
structure GoAt (w Y : World) (p b br : Nat) (cv : Value) (S : HS) (d : Dec) (R : Nat → Value) : Prop where
  ph : PH Y p cv S
  b0 : CellsAt 7 Y w.heap.size (fun i => (#[.int .u32 0, .int .u32 0, .int .i64 0, .int .u32 0, .int .i64 0, .int .u32 0, .int .u32 0] : Array Value).getD i undef)
  bi : CellsAt 5 Y b (fun i => (#[.int .i64 d.op, .int .i64 d.rd, .int .i64 d.rs1, .int .i64 d.rs2, .int .i64 d.imm] : Array Value).getD i undef)
  rr : CellsAt 7 Y br R
  hp : p < w.heap.size
  hb : w.heap.size < b
  hr : w.heap.size < br
  ne : br ≠ b
  ob : Below w.heap.size w Y
theorem GoAt.below {w Y Y2 : World} {p b br : Nat} {cv : Value} {S : HS} {d : Dec} {R : Nat → Value} (h : GoAt w Y p b br cv S d R) (k : Below Y.heap.size Y Y2) : GoAt w Y2 p b br cv S d R :=
  ⟨h.ph.below k, h.b0.below k, h.bi.below k, h.rr.below k, h.hp, h.hb, h.hr, h.ne, h.ob.trans (k.mono h.ob.size)⟩
theorem GoAt.put {w Y : World} {p b br : Nat} {cv : Value} {S : HS} {d : Dec} {R : Nat → Value} (h : GoAt w Y p b br cv S d R) (o : Nat) (ho : o < 7) (v : Value) : GoAt w (Y.setCell ⟨br, o, none⟩ v) p b br cv S d (upd R o v) :=
  ⟨h.ph.far (by have := h.hr; have := h.hp; omega) _ _, h.b0.far (by have := h.hr; omega) _ _, h.bi.far (fun q => h.ne q.symm) _ _, h.rr.set o ho v, h.hp, h.hb, h.hr, h.ne, h.ob.setCell (by show w.heap.size ≤ br; exact Nat.le_of_lt h.hr) _⟩
def rowV (a b c d e f g : Value) : Nat → Value := fun i => (#[a, b, c, d, e, f, g] : Array Value).getD i undef
theorem goAt_new {w w2 : World} {p b : Nat} {cv : Value} {S : HS} {d : Dec} {v0 v1 v2 v3 v4 v5 v6 : Value} {t : TypeId} (ph : PH w2 p cv S)
    (b0 : CellsAt 7 w2 w.heap.size (fun i => (#[.int .u32 0, .int .u32 0, .int .i64 0, .int .u32 0, .int .i64 0, .int .u32 0, .int .u32 0] : Array Value).getD i undef))
    (bi : CellsAt 5 w2 b (fun i => (#[.int .i64 d.op, .int .i64 d.rd, .int .i64 d.rs1, .int .i64 d.rs2, .int .i64 d.imm] : Array Value).getD i undef)) (hp : p < w.heap.size) (hb : w.heap.size < b) (ob : Below w.heap.size w w2) :
    GoAt w (w2.alloc (.cells #[v0, v1, v2, v3, v4, v5, v6] t)) p b w2.heap.size cv S d (rowV v0 v1 v2 v3 v4 v5 v6) := by
  refine ⟨ph.alloc _, b0.alloc _, bi.alloc _, cells_new w2 (fun i hi => ?_), hp, hb, b0.here, fun q => ?_, ob.alloc ob.size _⟩
  · unfold rowV
    match i, hi with
    | 0, _ => rfl
    | 1, _ => rfl
    | 2, _ => rfl
    | 3, _ => rfl
    | 4, _ => rfl
    | 5, _ => rfl
    | 6, _ => rfl
  · have := bi.here
    omega
theorem upd7 (c : Nat → Value) (v0 v1 v2 v3 v4 v5 v6 : Value) (i : Nat) (hi : i < 7) : upd (upd (upd (upd (upd (upd (upd c 0 v0) 1 v1) 2 v2) 3 v3) 4 v4) 5 v5) 6 v6 i = rowV v0 v1 v2 v3 v4 v5 v6 i := by
  match i, hi with
  | 0, _ => rfl
  | 1, _ => rfl
  | 2, _ => rfl
  | 3, _ => rfl
  | 4, _ => rfl
  | 5, _ => rfl
  | 6, _ => rfl
theorem CellsAt.like {n : Nat} {w : World} {b : Nat} {c d : Nat → Value} (h : CellsAt n w b c) (e : ∀ i, i < n → c i = d i) : CellsAt n w b d := ⟨h.here, fun i hi => (h.cell i hi).trans (congrArg some (e i hi)), h.free⟩
theorem goAt_set {w w2 : World} {p b br : Nat} {cv : Value} {S : HS} {d : Dec} {v0 v1 v2 v3 v4 v5 v6 : Value} {c : Nat → Value} (ph : PH w2 p cv S)
    (b0 : CellsAt 7 w2 w.heap.size (fun i => (#[.int .u32 0, .int .u32 0, .int .i64 0, .int .u32 0, .int .i64 0, .int .u32 0, .int .u32 0] : Array Value).getD i undef))
    (bi : CellsAt 5 w2 b (fun i => (#[.int .i64 d.op, .int .i64 d.rd, .int .i64 d.rs1, .int .i64 d.rs2, .int .i64 d.imm] : Array Value).getD i undef)) (rr : CellsAt 7 w2 br c) (hp : p < w.heap.size) (hb : w.heap.size < b) (hr : w.heap.size < br) (ne : br ≠ b) (ob : Below w.heap.size w w2) :
    GoAt w (((((((w2.setCell ⟨br, 0, none⟩ v0).setCell ⟨br, 1, none⟩ v1).setCell ⟨br, 2, none⟩ v2).setCell ⟨br, 3, none⟩ v3).setCell ⟨br, 4, none⟩ v4).setCell ⟨br, 5, none⟩ v5).setCell ⟨br, 6, none⟩ v6) p b br cv S d (rowV v0 v1 v2 v3 v4 v5 v6) := by
  have h : GoAt w w2 p b br cv S d c := ⟨ph, b0, bi, rr, hp, hb, hr, ne, ob⟩
  have q := ((((((h.put 0 (by decide) v0).put 1 (by decide) v1).put 2 (by decide) v2).put 3 (by decide) v3).put 4 (by decide) v4).put 5 (by decide) v5).put 6 (by decide) v6
  exact ⟨q.ph, q.b0, q.bi, q.rr.like (upd7 c v0 v1 v2 v3 v4 v5 v6), q.hp, q.hb, q.hr, q.ne, q.ob⟩
theorem cells7 {w : World} {b : Nat} {Z : Array Value} (hb : b < w.heap.size) (hz : Z.size = 7) (c : ∀ i, w.cell? ⟨b, i, none⟩ = Z[i]?) (f : ∀ i, w.frozen? ⟨b, i, none⟩ = false) : CellsAt 7 w b (fun i => Z.getD i undef) :=
  ⟨hb, fun i hi => by rw [c i, Array.getD_eq_getD_getElem?, Array.getElem?_eq_getElem (by omega)]; rfl, f⟩
theorem cells5 {w : World} {b : Nat} {Z : Array Value} (hb : b < w.heap.size) (hz : Z.size = 5) (c : ∀ i, w.cell? ⟨b, i, none⟩ = Z[i]?) (f : ∀ i, w.frozen? ⟨b, i, none⟩ = false) : CellsAt 5 w b (fun i => Z.getD i undef) :=
  ⟨hb, fun i hi => by rw [c i, Array.getD_eq_getD_getElem?, Array.getElem?_eq_getElem (by omega)]; rfl, f⟩
theorem PH.count2 {w : World} {p : Nat} {cv : Value} {S : HS} (h : CellsAt 45 w p (S.encP cv)) : CellsAt 45 (w.setCell ⟨p, 7, none⟩ (.int .u32 ((S.count + 1) % 4294967296))) p ({ S with count := wrap64 (S.count + 1) }.encP cv) := by
  have e : (S.count % 4294967296 + 1) % 4294967296 = (S.count + 1) % 4294967296 := by omega
  have := PH.count h
  rw [e] at this
  exact this
def wrB (op : Int) : Bool := lyRd (fmtAt (opN op))
theorem p_writes (op : Int) (w : World) (hL : Laid w) : Calls Tryz.prog 50 #[.int .i64 op] w fun e w' => e = .returned (.bool (wrB op)) ∧ Below w.heap.size w w' := writesOf_any op _ rfl w hL
end Go.Proofs.YtengofkjlgajlaaGreatDoor
