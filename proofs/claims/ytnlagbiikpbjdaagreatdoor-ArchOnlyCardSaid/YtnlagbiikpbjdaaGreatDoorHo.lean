/-
  THE ANSWER's HART: Do.
-/
import Derived.Test.YtnlagbiikpbjdaaGreatDoorHn
namespace Go.Proofs.YtnlagbiikpbjdaaGreatDoor
open Go Go.RowKit
theorem undrew {x y : World} (h : Below x.drew.heap.size x.drew y) : Below x.heap.size x y := ⟨h.os, h.tape, h.output, h.size, h.block⟩
/-- Do of a halted hart -/
def HS.idleR (S : HS) : Value := .agg #[.int .u32 S.pc, .int .u32 0, .int .i64 0, .int .u32 0, .int .i64 (-1), .int .u32 0, .int .u32 S.pc]
set_option maxRecDepth 100000 in
set_option maxHeartbeats 4000000 in
theorem do_halted (b : Nat) (S : HS) (v : Int) (held : Bool) (w : World) (h : RH w b S) (hh : S.halted = true) : Calls Tryz.prog 34 #[.pointer (some ⟨b, 0, none⟩), .int .u32 v, .bool held] w fun e w' => e = .returned S.idleR ∧ RH w' b S ∧ Only b w w' := by
  have chalt : w.cell? ⟨b, 36, none⟩ = some (.bool true) := hh ▸ h.cell 36 (by decide)
  have cpc : w.cell? ⟨b, 3, none⟩ = some (.int .u32 S.pc) := h.cell 3 (by decide)
  have h3 := h.here
  have HH : Hid (RH w b S) := h
  clear h
  go_enter Tryz.func34, Tryz.ntmps34
  go_wp2
  go_region
  go_wp2
  exact bodyPost_ret (v := S.idleR) (by simp [results, Tryz.results34, go_sem, HS.idleR]) rfl ⟨rfl, (HH.out.alloc _).drew, ((Only.refl b w).alloc _).drew⟩
set_option maxRecDepth 100000 in
set_option maxHeartbeats 4000000 in
theorem do_nocode {D : Int → Dec} (HD : DecOk D) (b : Nat) (S : HS) (cb co n cp : Nat) (f : Nat → Int) (w : World) (h : RH w b S) (hp : U32 S.pc) (hc : S.code = .slice (some ⟨cb, co, none⟩) n cp) (hC : CodeAt w cb co n f) (hn : n ≤ 4096) (v : Int) (held : Bool) (hh : S.halted = false) (hk : ¬ S.pc / 4 < n) : Calls Tryz.prog 34 #[.pointer (some ⟨b, 0, none⟩), .int .u32 v, .bool held] w fun e w' => e = .returned (S.trapR 0 1 S.pc) ∧ RH w' b (S.trapped 1 S.pc) ∧ Only b w w' := by
  have chalt : w.cell? ⟨b, 36, none⟩ = some (.bool false) := hh ▸ h.cell 36 (by decide)
  have h3 := h.here
  have HH : Hid (RH w b S) := h
  have HC2 : Hid (CodeAt w cb co n f) := hC
  clear h hC
  have HCO : Hid (S.code = .slice (some ⟨cb, co, none⟩) n cp) := hc
  have HE : Hid (S.fetchD D n f = noDec) := if_neg hk
  have HW : Hid (S.fetchW n f = 0) := if_neg hk
  go_enter Tryz.func34, Tryz.ntmps34
  go_wp2_with (first | (go_at_call 57; refine (fetch_any HD b S cb co n cp f _ (HH.out.alloc _) hp hc (HC2.out.below ((Below.refl _ _).alloc (Nat.le_refl _) _)) hn).mono ?_; rintro e w1 ⟨rfl, hb1⟩; rw [HE.out, HW.out]; unfold Dec.val; obtain ⟨k1, k2, k3, k4⟩ := keepB hb1; have R1 := Hid.in (HH.out.below k4); have p1 : w1.cell? ⟨b, 3, none⟩ = some (.int .u32 S.pc) := R1.out.cell 3 (by decide); have c1 : w1.cell? ⟨b, 0, none⟩ = some (.slice (some ⟨cb, co, none⟩) n cp) := HCO.out ▸ R1.out.cell 0 (by decide); have t1 := R1.out.here))
  go_region
  go_wp2_with (first | (go_at_call 56; refine (trap_any b S _ _ _ _ (R1.out.alloc _).drew).mono ?_; rintro e w9 ⟨rfl, hR, hO⟩; have hO2 : Only b w1 w9 := Only.trans (((Only.refl b w1).alloc _).drew) hO; obtain ⟨z9, f9, s9⟩ := keepT hO2 k1 k2 k3 (by omega); unfold HS.trapR))
  refine bodyPost_ret (v := S.trapR 0 1 S.pc) (by simp [results, Tryz.results34, go_sem, z9, HS.trapR]) rfl ⟨rfl, ?_, ?_⟩
  · exact hR.far7 (by omega) _ _ _ _ _ _ _
  · exact ((Only.of_below k4).trans hO2).new7 (Nat.le_refl _) _ _ _ _ _ _ _
set_option maxRecDepth 100000 in
set_option maxHeartbeats 4000000 in
theorem do_illegal {D : Int → Dec} (HD : DecOk D) (b : Nat) (S : HS) (cb co n cp : Nat) (f : Nat → Int) (w : World) (h : RH w b S) (hp : U32 S.pc) (hc : S.code = .slice (some ⟨cb, co, none⟩) n cp) (hC : CodeAt w cb co n f) (hn : n ≤ 4096) (v : Int) (held : Bool) (hh : S.halted = false) (hk : S.pc / 4 < n) (d : Dec) (hd : S.fetchD D n f = d) (hok : d.ok = false) (word : Int) (hw : S.fetchW n f = word) : Calls Tryz.prog 34 #[.pointer (some ⟨b, 0, none⟩), .int .u32 v, .bool held] w fun e w' => e = .returned (S.trapR word 2 word) ∧ RH w' b (S.trapped 2 word) ∧ Only b w w' := by
  have chalt : w.cell? ⟨b, 36, none⟩ = some (.bool false) := hh ▸ h.cell 36 (by decide)
  have h3 := h.here
  have HH : Hid (RH w b S) := h
  have HC2 : Hid (CodeAt w cb co n f) := hC
  clear h hC
  have HCO : Hid (S.code = .slice (some ⟨cb, co, none⟩) n cp) := hc
  have HE : Hid (S.fetchD D n f = d) := hd
  have HW : Hid (S.fetchW n f = word) := hw
  clear hd hw
  go_enter Tryz.func34, Tryz.ntmps34
  go_wp2_with (first | (go_at_call 57; refine (fetch_any HD b S cb co n cp f _ (HH.out.alloc _) hp hc (HC2.out.below ((Below.refl _ _).alloc (Nat.le_refl _) _)) hn).mono ?_; rintro e w1 ⟨rfl, hb1⟩; rw [HE.out, HW.out]; unfold Dec.val; obtain ⟨k1, k2, k3, k4⟩ := keepB hb1; have R1 := Hid.in (HH.out.below k4); have p1 : w1.cell? ⟨b, 3, none⟩ = some (.int .u32 S.pc) := R1.out.cell 3 (by decide); have c1 : w1.cell? ⟨b, 0, none⟩ = some (.slice (some ⟨cb, co, none⟩) n cp) := HCO.out ▸ R1.out.cell 0 (by decide); have t1 := R1.out.here))
  go_region
  go_wp2_with (first | (go_at_call 56; refine (trap_any b S _ _ _ _ (R1.out.alloc _).drew).mono ?_; rintro e w9 ⟨rfl, hR, hO⟩; have hO2 : Only b w1 w9 := Only.trans (((Only.refl b w1).alloc _).drew) hO; obtain ⟨z9, f9, s9⟩ := keepT hO2 k1 k2 k3 (by omega); unfold HS.trapR))
  refine bodyPost_ret (v := S.trapR word 2 word) (by simp [results, Tryz.results34, go_sem, z9, HS.trapR]) rfl ⟨rfl, ?_, ?_⟩
  · exact hR.far7 (by omega) _ _ _ _ _ _ _
  · exact ((Only.of_below k4).trans hO2).new7 (Nat.le_refl _) _ _ _ _ _ _ _
set_option maxRecDepth 100000 in
set_option maxHeartbeats 4000000 in
theorem do_sys {D : Int → Dec} (HD : DecOk D) (b : Nat) (S : HS) (cb co n cp : Nat) (f : Nat → Int) (w : World) (h : RH w b S) (hp : U32 S.pc) (hc : S.code = .slice (some ⟨cb, co, none⟩) n cp) (hC : CodeAt w cb co n f) (hn : n ≤ 4096) (v : Int) (held : Bool) (hh : S.halted = false) (hk : S.pc / 4 < n) (i rd rs1 rs2 : Nat) (imm : Int) (hd : S.fetchD D n f = ⟨i + 1, rd, rs1, rs2, imm, true⟩) (word : Int) (hw : S.fetchW n f = word) (_hi : i < 67) (_hrd : rd < 32) (hrs : rs1 < 32) (hrs2 : rs2 < 32) (hS : S.Ok) (_hv : U32 v) (hc7 : clR ((i : Int) + 1) = 7) (h57 : 57 ≤ i + 1) (R : Value) (hR0 : S.sysR word (i + 1 : Nat) rd rs1 imm (S.regs rs1) = R) (x0 x1 x2 x3 x4 x5 x6 : Int) (hRx : R = .agg #[.int .u32 x0, .int .u32 x1, .int .i64 x2, .int .u32 x3, .int .i64 x4, .int .u32 x5, .int .u32 x6]) : Calls Tryz.prog 34 #[.pointer (some ⟨b, 0, none⟩), .int .u32 v, .bool held] w fun e w' => e = .returned (.agg #[.int .u32 x0, .int .u32 x1, .int .i64 x2, .int .u32 x3, .int .i64 x4, .int .u32 x5, .int .u32 x6]) ∧ RH w' b (S.sysS word (i + 1 : Nat) rd rs1 imm (S.regs rs1)) ∧ Only b w w' := by
  have chalt : w.cell? ⟨b, 36, none⟩ = some (.bool false) := hh ▸ h.cell 36 (by decide)
  have h3 := h.here
  have HH : Hid (RH w b S) := h
  have HC2 : Hid (CodeAt w cb co n f) := hC
  clear h hC
  have HCO : Hid (S.code = .slice (some ⟨cb, co, none⟩) n cp) := hc
  have HE : Hid (S.fetchD D n f = ⟨i + 1, rd, rs1, rs2, imm, true⟩) := hd
  have HW : Hid (S.fetchW n f = word) := hw
  have HEV : Hid ((⟨i + 1, rd, rs1, rs2, imm, true⟩ : Dec).val = .agg #[.int .i64 ((i : Int) + 1), .int .i64 rd, .int .i64 rs1, .int .i64 rs2, .int .i64 imm]) := Hid.in (by simp [Dec.val])
  have HS1 : Hid S.Ok := hS
  clear hd hw hS
  have HCL : Hid (clR ((i : Int) + 1) = 7) := hc7
  have HRR : Hid (S.sysR word (i + 1 : Nat) rd rs1 imm (S.regs rs1) = .agg #[.int .u32 x0, .int .u32 x1, .int .i64 x2, .int .u32 x3, .int .i64 x4, .int .u32 x5, .int .u32 x6]) := hR0.trans hRx
  have e0 : Hid (((i + 1 : Nat) : Int) = (i : Int) + 1) := Hid.in (by omega)
  subst hRx
  clear hc7 hR0
  go_enter Tryz.func34, Tryz.ntmps34
  go_wp2_with (first | (go_at_call 57; refine (fetch_any HD b S cb co n cp f _ (HH.out.alloc _) hp hc (HC2.out.below ((Below.refl _ _).alloc (Nat.le_refl _) _)) hn).mono ?_; rintro e w1 ⟨rfl, hb1⟩; rw [HE.out, HW.out, HEV.out]; obtain ⟨k1, k2, k3, k4⟩ := keepB hb1; have R1 := Hid.in (HH.out.below k4); have p1 : w1.cell? ⟨b, 3, none⟩ = some (.int .u32 S.pc) := R1.out.cell 3 (by decide); have c1 : w1.cell? ⟨b, 0, none⟩ = some (.slice (some ⟨cb, co, none⟩) n cp) := HCO.out ▸ R1.out.cell 0 (by decide); have t1 := R1.out.here; have y1 := RH.atReg R1.out rs1 hrs; have y2 := RH.atReg R1.out rs2 hrs2))
  go_region
  go_wp2
  go_region
  go_wp2
  go_region
  go_wp2_with (first
    | (go_at_call 30; refine (clsR_any _ _).mono ?_; rintro e w2 ⟨rfl, hb2⟩; rw [HCL.out]; obtain ⟨a2, _, s2, o2⟩ := keepB (undrew (undrew (undrew hb2))); have r2 := keptC k1 k3 o2; have g2 := keptF k2 k3 o2; have z2 := Nat.lt_of_lt_of_le k3 o2.size; have R2 := Hid.in (R1.out.below o2); have q2 := below2 k4 o2; have t2 := R2.out.here; have p2 : w2.cell? ⟨b, 3, none⟩ = some (.int .u32 S.pc) := R2.out.cell 3 (by decide); clear hb2 o2)
    | (go_at_call 67; rw [← e0.out]; refine (system_any b S (i + 1) rd rs1 _ _ _ _ _ R2.out h57 (by omega) _hrd hrs (HS1.out.regs _ hrs)).mono ?_; rintro e w9 ⟨rfl, hR, hO⟩; rw [HRR.out]; have hO2 : Only b w2 w9 := hO; obtain ⟨z9, f9, s9⟩ := keepT hO2 r2 g2 z2 (by omega)))
  refine bodyPost_ret (v := .agg #[.int .u32 x0, .int .u32 x1, .int .i64 x2, .int .u32 x3, .int .i64 x4, .int .u32 x5, .int .u32 x6]) (by simp [results, Tryz.results34, go_sem, z9]) rfl ⟨rfl, ?_, ?_⟩
  · exact hR.far7 (by omega) _ _ _ _ _ _ _
  · exact ((Only.of_below q2).trans hO2).new7 (Nat.le_refl _) _ _ _ _ _ _ _
set_option maxRecDepth 100000 in
set_option maxHeartbeats 4000000 in
theorem do_mem {D : Int → Dec} (HD : DecOk D) (b : Nat) (S : HS) (cb co n cp : Nat) (f : Nat → Int) (w : World) (h : RH w b S) (hp : U32 S.pc) (hc : S.code = .slice (some ⟨cb, co, none⟩) n cp) (hC : CodeAt w cb co n f) (hn : n ≤ 4096) (v : Int) (held : Bool) (hh : S.halted = false) (hk : S.pc / 4 < n) (i rd rs1 rs2 : Nat) (imm : Int) (hd : S.fetchD D n f = ⟨i + 1, rd, rs1, rs2, imm, true⟩) (word : Int) (hw : S.fetchW n f = word) (_hi : i < 67) (_hrd : rd < 32) (hrs : rs1 < 32) (hrs2 : rs2 < 32) (hS : S.Ok) (_hv : U32 v) (c : Int) (hc0 : clR ((i : Int) + 1) = c) (n0 : (c == 0) = false) (n1 : (c == 1) = false) (n2 : (c == 2) = false) (n3 : (c == 3) = false) (n7 : (c == 7) = false) (hz : szI ((i : Int) + 1) ≠ 0) (x0 x1 x2 x3 x4 x5 x6 : Int) (hRx : S.memR word ((i : Int) + 1) rd rs1 imm v held = .agg #[.int .u32 x0, .int .u32 x1, .int .i64 x2, .int .u32 x3, .int .i64 x4, .int .u32 x5, .int .u32 x6]) : Calls Tryz.prog 34 #[.pointer (some ⟨b, 0, none⟩), .int .u32 v, .bool held] w fun e w' => e = .returned (.agg #[.int .u32 x0, .int .u32 x1, .int .i64 x2, .int .u32 x3, .int .i64 x4, .int .u32 x5, .int .u32 x6]) ∧ RH w' b (S.memS ((i : Int) + 1) rd rs1 imm v held) ∧ Only b w w' := by
  have chalt : w.cell? ⟨b, 36, none⟩ = some (.bool false) := hh ▸ h.cell 36 (by decide)
  have h3 := h.here
  have HH : Hid (RH w b S) := h
  have HC2 : Hid (CodeAt w cb co n f) := hC
  clear h hC
  have HCO : Hid (S.code = .slice (some ⟨cb, co, none⟩) n cp) := hc
  have HE : Hid (S.fetchD D n f = ⟨i + 1, rd, rs1, rs2, imm, true⟩) := hd
  have HW : Hid (S.fetchW n f = word) := hw
  have HEV : Hid ((⟨i + 1, rd, rs1, rs2, imm, true⟩ : Dec).val = .agg #[.int .i64 ((i : Int) + 1), .int .i64 rd, .int .i64 rs1, .int .i64 rs2, .int .i64 imm]) := Hid.in (by simp [Dec.val])
  have HS1 : Hid S.Ok := hS
  clear hd hw hS
  have HCL : Hid (clR ((i : Int) + 1) = c) := hc0
  have HRR : Hid (S.memR word ((i : Int) + 1) rd rs1 imm v held = .agg #[.int .u32 x0, .int .u32 x1, .int .i64 x2, .int .u32 x3, .int .i64 x4, .int .u32 x5, .int .u32 x6]) := hRx
  clear hc0 hRx
  go_enter Tryz.func34, Tryz.ntmps34
  go_wp2_with (first | (go_at_call 57; refine (fetch_any HD b S cb co n cp f _ (HH.out.alloc _) hp hc (HC2.out.below ((Below.refl _ _).alloc (Nat.le_refl _) _)) hn).mono ?_; rintro e w1 ⟨rfl, hb1⟩; rw [HE.out, HW.out, HEV.out]; obtain ⟨k1, k2, k3, k4⟩ := keepB hb1; have R1 := Hid.in (HH.out.below k4); have p1 : w1.cell? ⟨b, 3, none⟩ = some (.int .u32 S.pc) := R1.out.cell 3 (by decide); have c1 : w1.cell? ⟨b, 0, none⟩ = some (.slice (some ⟨cb, co, none⟩) n cp) := HCO.out ▸ R1.out.cell 0 (by decide); have t1 := R1.out.here; have y1 := RH.atReg R1.out rs1 hrs; have y2 := RH.atReg R1.out rs2 hrs2))
  go_region
  go_wp2
  go_region
  go_wp2
  go_region
  go_wp2_with (first
    | (go_at_call 30; refine (clsR_any _ _).mono ?_; rintro e w2 ⟨rfl, hb2⟩; rw [HCL.out]; obtain ⟨a2, _, s2, o2⟩ := keepB (undrew (undrew (undrew hb2))); have r2 := keptC k1 k3 o2; have g2 := keptF k2 k3 o2; have z2 := Nat.lt_of_lt_of_le k3 o2.size; have R2 := Hid.in (R1.out.below o2); have q2 := below2 k4 o2; have t2 := R2.out.here; have p2 : w2.cell? ⟨b, 3, none⟩ = some (.int .u32 S.pc) := R2.out.cell 3 (by decide); clear hb2 o2)
    | (go_at_call 68; refine (memory_any b S i rd rs1 _ _ _ _ _ _ R2.out _hi hrs (whereI_u32 HS1.out _ _ _ hrs) HS1.out.size hz _hrd _hv).mono ?_; rintro e w9 ⟨rfl, hR, hO⟩; rw [HRR.out]; have hO2 : Only b w2 w9 := hO; obtain ⟨z9, f9, s9⟩ := keepT hO2 r2 g2 z2 (by omega)))
  refine bodyPost_ret (v := .agg #[.int .u32 x0, .int .u32 x1, .int .i64 x2, .int .u32 x3, .int .i64 x4, .int .u32 x5, .int .u32 x6]) (by simp [results, Tryz.results34, go_sem, z9]) rfl ⟨rfl, ?_, ?_⟩
  · exact hR.far7 (by omega) _ _ _ _ _ _ _
  · exact ((Only.of_below q2).trans hO2).new7 (Nat.le_refl _) _ _ _ _ _ _ _
end Go.Proofs.YtnlagbiikpbjdaaGreatDoor
