/-
  THE ANSWER's HART: Do, branches, jumps, what is computed.
-/
import Derived.Test.YtnlagbiikpbjdaaGreatDoorHo
namespace Go.Proofs.YtnlagbiikpbjdaaGreatDoor
open Go Go.RowKit
set_option maxRecDepth 100000 in
set_option maxHeartbeats 4000000 in
theorem do_stay {D : Int → Dec} (HD : DecOk D) (b : Nat) (S : HS) (cb co n cp : Nat) (f : Nat → Int) (w : World) (h : RH w b S) (hp : U32 S.pc) (hc : S.code = .slice (some ⟨cb, co, none⟩) n cp) (hC : CodeAt w cb co n f) (hn : n ≤ 4096) (v : Int) (held : Bool) (hh : S.halted = false) (hk : S.pc / 4 < n) (i rd rs1 rs2 : Nat) (imm : Int) (hd : S.fetchD D n f = ⟨i + 1, rd, rs1, rs2, imm, true⟩) (word : Int) (hw : S.fetchW n f = word) (_hi : i < 67) (_hrd : rd < 32) (hrs : rs1 < 32) (hrs2 : rs2 < 32) (hS : S.Ok) (_hv : U32 v) (hc0 : clR ((i : Int) + 1) = 2) (ht : tkI ((i : Int) + 1) (S.regs rs1) (S.regs rs2) = false) : Calls Tryz.prog 34 #[.pointer (some ⟨b, 0, none⟩), .int .u32 v, .bool held] w fun e w' => e = .returned (S.doneR word 0 0 (S.pc + 4)) ∧ RH w' b (S.done 0 (rvI 0 0) (S.pc + 4)) ∧ Only b w w' := by
  have chalt : w.cell? ⟨b, 36, none⟩ = some (.bool false) := hh ▸ h.cell 36 (by decide)
  have h3 := h.here
  have HH : Hid (RH w b S) := h
  have HC2 : Hid (CodeAt w cb co n f) := hC
  clear h hC
  have HCO : Hid (S.code = .slice (some ⟨cb, co, none⟩) n cp) := hc
  have HE : Hid (S.fetchD D n f = ⟨i + 1, rd, rs1, rs2, imm, true⟩) := hd
  have HW : Hid (S.fetchW n f = word) := hw
  have HEV : Hid ((⟨i + 1, rd, rs1, rs2, imm, true⟩ : Dec).val = .agg #[.int .i64 ((i : Int) + 1), .int .i64 rd, .int .i64 rs1, .int .i64 rs2, .int .i64 imm]) := Hid.in (by simp [Dec.val])
  have HS1 : Hid S.Ok := hS
  clear hd hw hS
  have HCL : Hid (clR ((i : Int) + 1) = 2) := hc0
  have HT : Hid (tkI ((i : Int) + 1) (S.regs rs1) (S.regs rs2) = false) := ht
  clear hc0 ht
  go_enter Tryz.func34, Tryz.ntmps34
  go_wp2_with (first | (go_at_call 57; refine (fetch_any HD b S cb co n cp f _ (HH.out.alloc _) hp hc (HC2.out.below ((Below.refl _ _).alloc (Nat.le_refl _) _)) hn).mono ?_; rintro e w1 ⟨rfl, hb1⟩; rw [HE.out, HW.out, HEV.out]; obtain ⟨k1, k2, k3, k4⟩ := keepB hb1; have R1 := Hid.in (HH.out.below k4); have p1 : w1.cell? ⟨b, 3, none⟩ = some (.int .u32 S.pc) := R1.out.cell 3 (by decide); have c1 : w1.cell? ⟨b, 0, none⟩ = some (.slice (some ⟨cb, co, none⟩) n cp) := HCO.out ▸ R1.out.cell 0 (by decide); have t1 := R1.out.here; have y1 := RH.atReg R1.out rs1 hrs; have y2 := RH.atReg R1.out rs2 hrs2))
  go_region
  go_wp2
  go_region
  go_wp2
  go_region
  go_wp2_with (first
    | (go_at_call 30; refine (clsR_any _ _).mono ?_; rintro e w2 ⟨rfl, hb2⟩; rw [HCL.out]; obtain ⟨a2, _, s2, o2⟩ := keepB (undrew (undrew (undrew hb2))); have r2 := keptC k1 k3 o2; have g2 := keptF k2 k3 o2; have z2 := Nat.lt_of_lt_of_le k3 o2.size; have R2 := Hid.in (R1.out.below o2); have q2 := below2 k4 o2; have t2 := R2.out.here; have p2 : w2.cell? ⟨b, 3, none⟩ = some (.int .u32 S.pc) := R2.out.cell 3 (by decide); clear hb2 o2)
    | (go_at_call 65; refine (taken_any _ _ _ _).mono ?_; rintro e w3 ⟨rfl, hb3⟩; rw [HT.out]; have r3 := keptC r2 z2 hb3; have g3 := keptF g2 z2 hb3; have z3 := Nat.lt_of_lt_of_le z2 hb3.size; have R3 := Hid.in (R2.out.below hb3); have q3 := below2 q2 hb3; have p3 : w3.cell? ⟨b, 3, none⟩ = some (.int .u32 S.pc) := R3.out.cell 3 (by decide); have t3 := R3.out.here)
    | (go_at_call 64; refine (done_any b S _ 0 _ _ _ R3.out (by decide)).mono ?_; rintro e w9 ⟨rfl, hR, hO⟩; obtain ⟨z9, f9, s9⟩ := keepT hO r3 g3 z3 (by omega); unfold HS.doneR))
  refine bodyPost_ret (v := S.doneR word 0 0 (S.pc + 4)) (by simp [results, Tryz.results34, go_sem, z9, HS.doneR]) rfl ⟨rfl, ?_, ?_⟩
  · exact hR.far7 (by omega) _ _ _ _ _ _ _
  · exact ((Only.of_below q3).trans hO).new7 (Nat.le_refl _) _ _ _ _ _ _ _
set_option maxRecDepth 100000 in
set_option maxHeartbeats 4000000 in
theorem do_alu0 {D : Int → Dec} (HD : DecOk D) (b : Nat) (S : HS) (cb co n cp : Nat) (f : Nat → Int) (w : World) (h : RH w b S) (hp : U32 S.pc) (hc : S.code = .slice (some ⟨cb, co, none⟩) n cp) (hC : CodeAt w cb co n f) (hn : n ≤ 4096) (v : Int) (held : Bool) (hh : S.halted = false) (hk : S.pc / 4 < n) (i rd rs1 rs2 : Nat) (imm : Int) (hd : S.fetchD D n f = ⟨i + 1, rd, rs1, rs2, imm, true⟩) (word : Int) (hw : S.fetchW n f = word) (_hi : i < 67) (_hrd : rd < 32) (hrs : rs1 < 32) (hrs2 : rs2 < 32) (hS : S.Ok) (_hv : U32 v) (hc0 : clR ((i : Int) + 1) = 0) : Calls Tryz.prog 34 #[.pointer (some ⟨b, 0, none⟩), .int .u32 v, .bool held] w fun e w' => e = .returned (S.doneR word rd (S.compI ((i : Int) + 1) imm (S.regs rs1) (S.regs rs2)) (S.pc + 4)) ∧ RH w' b (S.done rd (rvI rd (S.compI ((i : Int) + 1) imm (S.regs rs1) (S.regs rs2))) (S.pc + 4)) ∧ Only b w w' := by
  have chalt : w.cell? ⟨b, 36, none⟩ = some (.bool false) := hh ▸ h.cell 36 (by decide)
  have h3 := h.here
  have HH : Hid (RH w b S) := h
  have HC2 : Hid (CodeAt w cb co n f) := hC
  clear h hC
  have HCO : Hid (S.code = .slice (some ⟨cb, co, none⟩) n cp) := hc
  have HE : Hid (S.fetchD D n f = ⟨i + 1, rd, rs1, rs2, imm, true⟩) := hd
  have HW : Hid (S.fetchW n f = word) := hw
  have HEV : Hid ((⟨i + 1, rd, rs1, rs2, imm, true⟩ : Dec).val = .agg #[.int .i64 ((i : Int) + 1), .int .i64 rd, .int .i64 rs1, .int .i64 rs2, .int .i64 imm]) := Hid.in (by simp [Dec.val])
  have HS1 : Hid S.Ok := hS
  clear hd hw hS
  have HCL : Hid (clR ((i : Int) + 1) = 0) := hc0
  have E4 : Hid ((S.pc + 4) % 4294967296 = S.pc + 4) := Hid.in (by have := hp.1; omega)
  clear hc0
  go_enter Tryz.func34, Tryz.ntmps34
  go_wp2_with (first | (go_at_call 57; refine (fetch_any HD b S cb co n cp f _ (HH.out.alloc _) hp hc (HC2.out.below ((Below.refl _ _).alloc (Nat.le_refl _) _)) hn).mono ?_; rintro e w1 ⟨rfl, hb1⟩; rw [HE.out, HW.out, HEV.out]; obtain ⟨k1, k2, k3, k4⟩ := keepB hb1; have R1 := Hid.in (HH.out.below k4); have p1 : w1.cell? ⟨b, 3, none⟩ = some (.int .u32 S.pc) := R1.out.cell 3 (by decide); have c1 : w1.cell? ⟨b, 0, none⟩ = some (.slice (some ⟨cb, co, none⟩) n cp) := HCO.out ▸ R1.out.cell 0 (by decide); have t1 := R1.out.here; have y1 := RH.atReg R1.out rs1 hrs; have y2 := RH.atReg R1.out rs2 hrs2))
  go_region
  go_wp2
  go_region
  go_wp2
  go_region
  go_wp2_with (first
    | (go_at_call 30; refine (clsR_any _ _).mono ?_; rintro e w2 ⟨rfl, hb2⟩; rw [HCL.out]; obtain ⟨a2, _, s2, o2⟩ := keepB (undrew (undrew (undrew hb2))); have r2 := keptC k1 k3 o2; have g2 := keptF k2 k3 o2; have z2 := Nat.lt_of_lt_of_le k3 o2.size; have R2 := Hid.in (R1.out.below o2); have q2 := below2 k4 o2; have t2 := R2.out.here; have p2 : w2.cell? ⟨b, 3, none⟩ = some (.int .u32 S.pc) := R2.out.cell 3 (by decide); clear hb2 o2)
    | (go_at_call 63; refine (computed_any b S i _ _ _ _ _ _ _ R2.out _hi hp (HS1.out.regs _ hrs) (HS1.out.regs _ hrs2)).mono ?_; rintro e w3 ⟨rfl, hb3⟩; have r3 := keptC r2 z2 hb3; have g3 := keptF g2 z2 hb3; have z3 := Nat.lt_of_lt_of_le z2 hb3.size; have a3 := keptC a2 s2 hb3; have s3 := Nat.lt_of_lt_of_le s2 hb3.size; have R3 := Hid.in (R2.out.below hb3); have q3 := below2 q2 hb3; have p3 : w3.cell? ⟨b, 3, none⟩ = some (.int .u32 S.pc) := R3.out.cell 3 (by decide); have t3 := R3.out.here))
  go_region_with (go_at_call 64; try simp only [IntKind.wrap_u32, E4.out]; refine (done_any b S _ rd _ _ _ (by first | exact CellsAt.drew R3.out | exact R3.out) _hrd).mono ?_; rintro e w9 ⟨rfl, hR, hO⟩; have hO2 : Only b w3 w9 := Only.trans (by first | exact (Only.refl b w3).drew | exact Only.refl b w3) hO; obtain ⟨z9, f9, s9⟩ := keepT hO2 r3 g3 z3 (by omega); unfold HS.doneR)
  all_goals
    try go_wp2
    refine bodyPost_ret (v := S.doneR word rd (S.compI ((i : Int) + 1) imm (S.regs rs1) (S.regs rs2)) (S.pc + 4)) (by simp [results, Tryz.results34, go_sem, z9, HS.doneR]) rfl ⟨rfl, ?_, ?_⟩
    · exact hR.far7 (by omega) _ _ _ _ _ _ _
    · exact ((Only.of_below q3).trans hO2).new7 (Nat.le_refl _) _ _ _ _ _ _ _
set_option maxRecDepth 100000 in
set_option maxHeartbeats 4000000 in
theorem do_alu1 {D : Int → Dec} (HD : DecOk D) (b : Nat) (S : HS) (cb co n cp : Nat) (f : Nat → Int) (w : World) (h : RH w b S) (hp : U32 S.pc) (hc : S.code = .slice (some ⟨cb, co, none⟩) n cp) (hC : CodeAt w cb co n f) (hn : n ≤ 4096) (v : Int) (held : Bool) (hh : S.halted = false) (hk : S.pc / 4 < n) (i rd rs1 rs2 : Nat) (imm : Int) (hd : S.fetchD D n f = ⟨i + 1, rd, rs1, rs2, imm, true⟩) (word : Int) (hw : S.fetchW n f = word) (_hi : i < 67) (_hrd : rd < 32) (hrs : rs1 < 32) (hrs2 : rs2 < 32) (hS : S.Ok) (_hv : U32 v) (hc0 : clR ((i : Int) + 1) = 1) : Calls Tryz.prog 34 #[.pointer (some ⟨b, 0, none⟩), .int .u32 v, .bool held] w fun e w' => e = .returned (S.doneR word rd (S.compI ((i : Int) + 1) imm (S.regs rs1) (S.regs rs2)) (S.pc + 4)) ∧ RH w' b (S.done rd (rvI rd (S.compI ((i : Int) + 1) imm (S.regs rs1) (S.regs rs2))) (S.pc + 4)) ∧ Only b w w' := by
  have chalt : w.cell? ⟨b, 36, none⟩ = some (.bool false) := hh ▸ h.cell 36 (by decide)
  have h3 := h.here
  have HH : Hid (RH w b S) := h
  have HC2 : Hid (CodeAt w cb co n f) := hC
  clear h hC
  have HCO : Hid (S.code = .slice (some ⟨cb, co, none⟩) n cp) := hc
  have HE : Hid (S.fetchD D n f = ⟨i + 1, rd, rs1, rs2, imm, true⟩) := hd
  have HW : Hid (S.fetchW n f = word) := hw
  have HEV : Hid ((⟨i + 1, rd, rs1, rs2, imm, true⟩ : Dec).val = .agg #[.int .i64 ((i : Int) + 1), .int .i64 rd, .int .i64 rs1, .int .i64 rs2, .int .i64 imm]) := Hid.in (by simp [Dec.val])
  have HS1 : Hid S.Ok := hS
  clear hd hw hS
  have HCL : Hid (clR ((i : Int) + 1) = 1) := hc0
  have E4 : Hid ((S.pc + 4) % 4294967296 = S.pc + 4) := Hid.in (by have := hp.1; omega)
  clear hc0
  go_enter Tryz.func34, Tryz.ntmps34
  go_wp2_with (first | (go_at_call 57; refine (fetch_any HD b S cb co n cp f _ (HH.out.alloc _) hp hc (HC2.out.below ((Below.refl _ _).alloc (Nat.le_refl _) _)) hn).mono ?_; rintro e w1 ⟨rfl, hb1⟩; rw [HE.out, HW.out, HEV.out]; obtain ⟨k1, k2, k3, k4⟩ := keepB hb1; have R1 := Hid.in (HH.out.below k4); have p1 : w1.cell? ⟨b, 3, none⟩ = some (.int .u32 S.pc) := R1.out.cell 3 (by decide); have c1 : w1.cell? ⟨b, 0, none⟩ = some (.slice (some ⟨cb, co, none⟩) n cp) := HCO.out ▸ R1.out.cell 0 (by decide); have t1 := R1.out.here; have y1 := RH.atReg R1.out rs1 hrs; have y2 := RH.atReg R1.out rs2 hrs2))
  go_region
  go_wp2
  go_region
  go_wp2
  go_region
  go_wp2_with (first
    | (go_at_call 30; refine (clsR_any _ _).mono ?_; rintro e w2 ⟨rfl, hb2⟩; rw [HCL.out]; obtain ⟨a2, _, s2, o2⟩ := keepB (undrew (undrew (undrew hb2))); have r2 := keptC k1 k3 o2; have g2 := keptF k2 k3 o2; have z2 := Nat.lt_of_lt_of_le k3 o2.size; have R2 := Hid.in (R1.out.below o2); have q2 := below2 k4 o2; have t2 := R2.out.here; have p2 : w2.cell? ⟨b, 3, none⟩ = some (.int .u32 S.pc) := R2.out.cell 3 (by decide); clear hb2 o2)
    | (go_at_call 63; refine (computed_any b S i _ _ _ _ _ _ _ R2.out _hi hp (HS1.out.regs _ hrs) (HS1.out.regs _ hrs2)).mono ?_; rintro e w3 ⟨rfl, hb3⟩; have r3 := keptC r2 z2 hb3; have g3 := keptF g2 z2 hb3; have z3 := Nat.lt_of_lt_of_le z2 hb3.size; have a3 := keptC a2 s2 hb3; have s3 := Nat.lt_of_lt_of_le s2 hb3.size; have R3 := Hid.in (R2.out.below hb3); have q3 := below2 q2 hb3; have p3 : w3.cell? ⟨b, 3, none⟩ = some (.int .u32 S.pc) := R3.out.cell 3 (by decide); have t3 := R3.out.here))
  go_region_with (go_at_call 64; try simp only [IntKind.wrap_u32, E4.out]; refine (done_any b S _ rd _ _ _ (by first | exact CellsAt.drew R3.out | exact R3.out) _hrd).mono ?_; rintro e w9 ⟨rfl, hR, hO⟩; have hO2 : Only b w3 w9 := Only.trans (by first | exact (Only.refl b w3).drew | exact Only.refl b w3) hO; obtain ⟨z9, f9, s9⟩ := keepT hO2 r3 g3 z3 (by omega); unfold HS.doneR)
  all_goals
    try go_wp2
    refine bodyPost_ret (v := S.doneR word rd (S.compI ((i : Int) + 1) imm (S.regs rs1) (S.regs rs2)) (S.pc + 4)) (by simp [results, Tryz.results34, go_sem, z9, HS.doneR]) rfl ⟨rfl, ?_, ?_⟩
    · exact hR.far7 (by omega) _ _ _ _ _ _ _
    · exact ((Only.of_below q3).trans hO2).new7 (Nat.le_refl _) _ _ _ _ _ _ _
theorem jalr_all : ((List.range 67).all fun i => ((nameAt i).toList == [106, 97, 108, 114]) == (i == 3)) = true := by kernel_rfl
theorem jalr_name (i : Nat) (hi : i < 67) : ((nameAt i).toList == [106, 97, 108, 114]) = (i == 3) := by
  have := List.all_eq_true.1 jalr_all i (List.mem_range.2 hi)
  rwa [beq_iff_eq] at this
set_option maxRecDepth 100000 in
set_option maxHeartbeats 4000000 in
theorem do_take {D : Int → Dec} (HD : DecOk D) (b : Nat) (S : HS) (cb co n cp : Nat) (f : Nat → Int) (w : World) (h : RH w b S) (hp : U32 S.pc) (hc : S.code = .slice (some ⟨cb, co, none⟩) n cp) (hC : CodeAt w cb co n f) (hn : n ≤ 4096) (v : Int) (held : Bool) (hh : S.halted = false) (hk : S.pc / 4 < n) (i rd rs1 rs2 : Nat) (imm : Int) (hd : S.fetchD D n f = ⟨i + 1, rd, rs1, rs2, imm, true⟩) (word : Int) (hw : S.fetchW n f = word) (_hi : i < 67) (_hrd : rd < 32) (hrs : rs1 < 32) (hrs2 : rs2 < 32) (hS : S.Ok) (_hv : U32 v) (hc0 : clR ((i : Int) + 1) = 2) (ht : tkI ((i : Int) + 1) (S.regs rs1) (S.regs rs2) = true) (x0 x1 x2 x3 x4 x5 x6 : Int) (hRx : S.jumpR word 0 ((S.pc + imm % 4294967296) % 4294967296) = .agg #[.int .u32 x0, .int .u32 x1, .int .i64 x2, .int .u32 x3, .int .i64 x4, .int .u32 x5, .int .u32 x6]) : Calls Tryz.prog 34 #[.pointer (some ⟨b, 0, none⟩), .int .u32 v, .bool held] w fun e w' => e = .returned (.agg #[.int .u32 x0, .int .u32 x1, .int .i64 x2, .int .u32 x3, .int .i64 x4, .int .u32 x5, .int .u32 x6]) ∧ RH w' b (S.jumped 0 ((S.pc + imm % 4294967296) % 4294967296)) ∧ Only b w w' := by
  have chalt : w.cell? ⟨b, 36, none⟩ = some (.bool false) := hh ▸ h.cell 36 (by decide)
  have h3 := h.here
  have HH : Hid (RH w b S) := h
  have HC2 : Hid (CodeAt w cb co n f) := hC
  clear h hC
  have HCO : Hid (S.code = .slice (some ⟨cb, co, none⟩) n cp) := hc
  have HE : Hid (S.fetchD D n f = ⟨i + 1, rd, rs1, rs2, imm, true⟩) := hd
  have HW : Hid (S.fetchW n f = word) := hw
  have HEV : Hid ((⟨i + 1, rd, rs1, rs2, imm, true⟩ : Dec).val = .agg #[.int .i64 ((i : Int) + 1), .int .i64 rd, .int .i64 rs1, .int .i64 rs2, .int .i64 imm]) := Hid.in (by simp [Dec.val])
  have HS1 : Hid S.Ok := hS
  clear hd hw hS
  have HCL : Hid (clR ((i : Int) + 1) = 2) := hc0
  have HT : Hid (tkI ((i : Int) + 1) (S.regs rs1) (S.regs rs2) = true) := ht
  have HRR : Hid (S.jumpR word 0 ((S.pc + imm % 4294967296) % 4294967296) = .agg #[.int .u32 x0, .int .u32 x1, .int .i64 x2, .int .u32 x3, .int .i64 x4, .int .u32 x5, .int .u32 x6]) := hRx
  clear hc0 ht hRx
  go_enter Tryz.func34, Tryz.ntmps34
  go_wp2_with (first | (go_at_call 57; refine (fetch_any HD b S cb co n cp f _ (HH.out.alloc _) hp hc (HC2.out.below ((Below.refl _ _).alloc (Nat.le_refl _) _)) hn).mono ?_; rintro e w1 ⟨rfl, hb1⟩; rw [HE.out, HW.out, HEV.out]; obtain ⟨k1, k2, k3, k4⟩ := keepB hb1; have R1 := Hid.in (HH.out.below k4); have p1 : w1.cell? ⟨b, 3, none⟩ = some (.int .u32 S.pc) := R1.out.cell 3 (by decide); have c1 : w1.cell? ⟨b, 0, none⟩ = some (.slice (some ⟨cb, co, none⟩) n cp) := HCO.out ▸ R1.out.cell 0 (by decide); have t1 := R1.out.here; have y1 := RH.atReg R1.out rs1 hrs; have y2 := RH.atReg R1.out rs2 hrs2))
  go_region
  go_wp2
  go_region
  go_wp2
  go_region
  go_wp2_with (first
    | (go_at_call 30; refine (clsR_any _ _).mono ?_; rintro e w2 ⟨rfl, hb2⟩; rw [HCL.out]; obtain ⟨a2, _, s2, o2⟩ := keepB (undrew (undrew (undrew hb2))); have r2 := keptC k1 k3 o2; have g2 := keptF k2 k3 o2; have z2 := Nat.lt_of_lt_of_le k3 o2.size; have R2 := Hid.in (R1.out.below o2); have q2 := below2 k4 o2; have t2 := R2.out.here; have p2 : w2.cell? ⟨b, 3, none⟩ = some (.int .u32 S.pc) := R2.out.cell 3 (by decide); clear hb2 o2)
    | (go_at_call 65; refine (taken_any _ _ _ _).mono ?_; rintro e w3 ⟨rfl, hb3⟩; rw [HT.out]; have r3 := keptC r2 z2 hb3; have g3 := keptF g2 z2 hb3; have z3 := Nat.lt_of_lt_of_le z2 hb3.size; have a3 := keptC a2 s2 hb3; have s3 := Nat.lt_of_lt_of_le s2 hb3.size; have R3 := Hid.in (R2.out.below hb3); have q3 := below2 q2 hb3; have p3 : w3.cell? ⟨b, 3, none⟩ = some (.int .u32 S.pc) := R3.out.cell 3 (by decide); have t3 := R3.out.here))
  go_region_with (go_at_call 66; try simp only [IntKind.wrap_u32]; refine (jump_any b S _ 0 _ _ (by first | exact CellsAt.drew R3.out | exact R3.out) (by decide) (by omega)).mono ?_; rintro e w9 ⟨rfl, hR, hO⟩; rw [HRR.out]; have hO2 : Only b w3 w9 := Only.trans (by first | exact (Only.refl b w3).drew | exact Only.refl b w3) hO; obtain ⟨z9, f9, s9⟩ := keepT hO2 r3 g3 z3 (by omega))
  all_goals
    try go_wp2
    refine bodyPost_ret (v := .agg #[.int .u32 x0, .int .u32 x1, .int .i64 x2, .int .u32 x3, .int .i64 x4, .int .u32 x5, .int .u32 x6]) (by simp [results, Tryz.results34, go_sem, z9]) rfl ⟨rfl, ?_, ?_⟩
    · exact hR.far7 (by omega) _ _ _ _ _ _ _
    · exact ((Only.of_below q3).trans hO2).new7 (Nat.le_refl _) _ _ _ _ _ _ _
set_option maxRecDepth 100000 in
set_option maxHeartbeats 4000000 in
theorem do_jal {D : Int → Dec} (HD : DecOk D) (b : Nat) (S : HS) (cb co n cp : Nat) (f : Nat → Int) (w : World) (h : RH w b S) (hp : U32 S.pc) (hc : S.code = .slice (some ⟨cb, co, none⟩) n cp) (hC : CodeAt w cb co n f) (hn : n ≤ 4096) (v : Int) (held : Bool) (hh : S.halted = false) (hk : S.pc / 4 < n) (i rd rs1 rs2 : Nat) (imm : Int) (hd : S.fetchD D n f = ⟨i + 1, rd, rs1, rs2, imm, true⟩) (word : Int) (hw : S.fetchW n f = word) (_hi : i < 67) (_hrd : rd < 32) (hrs : rs1 < 32) (hrs2 : rs2 < 32) (hS : S.Ok) (_hv : U32 v) (hc0 : clR ((i : Int) + 1) = 3) (hj : (i == 3) = false) (x0 x1 x2 x3 x4 x5 x6 : Int) (hRx : S.jumpR word rd ((S.pc + imm) % 4294967296) = .agg #[.int .u32 x0, .int .u32 x1, .int .i64 x2, .int .u32 x3, .int .i64 x4, .int .u32 x5, .int .u32 x6]) : Calls Tryz.prog 34 #[.pointer (some ⟨b, 0, none⟩), .int .u32 v, .bool held] w fun e w' => e = .returned (.agg #[.int .u32 x0, .int .u32 x1, .int .i64 x2, .int .u32 x3, .int .i64 x4, .int .u32 x5, .int .u32 x6]) ∧ RH w' b (S.jumped rd ((S.pc + imm) % 4294967296)) ∧ Only b w w' := by
  have chalt : w.cell? ⟨b, 36, none⟩ = some (.bool false) := hh ▸ h.cell 36 (by decide)
  have h3 := h.here
  have HH : Hid (RH w b S) := h
  have HC2 : Hid (CodeAt w cb co n f) := hC
  clear h hC
  have HCO : Hid (S.code = .slice (some ⟨cb, co, none⟩) n cp) := hc
  have HE : Hid (S.fetchD D n f = ⟨i + 1, rd, rs1, rs2, imm, true⟩) := hd
  have HW : Hid (S.fetchW n f = word) := hw
  have HEV : Hid ((⟨i + 1, rd, rs1, rs2, imm, true⟩ : Dec).val = .agg #[.int .i64 ((i : Int) + 1), .int .i64 rd, .int .i64 rs1, .int .i64 rs2, .int .i64 imm]) := Hid.in (by simp [Dec.val])
  have HS1 : Hid S.Ok := hS
  clear hd hw hS
  have HCL : Hid (clR ((i : Int) + 1) = 3) := hc0
  have hN : ((nameAt i).toList == [106, 97, 108, 114]) = false := (jalr_name i _hi).trans hj
  have HRR : Hid (S.jumpR word rd ((S.pc + imm) % 4294967296) = .agg #[.int .u32 x0, .int .u32 x1, .int .i64 x2, .int .u32 x3, .int .i64 x4, .int .u32 x5, .int .u32 x6]) := hRx
  clear hc0 hRx hj
  go_enter Tryz.func34, Tryz.ntmps34
  go_wp2_with (first | (go_at_call 57; refine (fetch_any HD b S cb co n cp f _ (HH.out.alloc _) hp hc (HC2.out.below ((Below.refl _ _).alloc (Nat.le_refl _) _)) hn).mono ?_; rintro e w1 ⟨rfl, hb1⟩; rw [HE.out, HW.out, HEV.out]; obtain ⟨k1, k2, k3, k4⟩ := keepB hb1; have R1 := Hid.in (HH.out.below k4); have p1 : w1.cell? ⟨b, 3, none⟩ = some (.int .u32 S.pc) := R1.out.cell 3 (by decide); have c1 : w1.cell? ⟨b, 0, none⟩ = some (.slice (some ⟨cb, co, none⟩) n cp) := HCO.out ▸ R1.out.cell 0 (by decide); have t1 := R1.out.here; have y1 := RH.atReg R1.out rs1 hrs; have y2 := RH.atReg R1.out rs2 hrs2))
  go_region
  go_wp2
  go_region
  go_wp2
  go_region
  go_wp2_with (first
    | (go_at_call 30; refine (clsR_any _ _).mono ?_; rintro e w2 ⟨rfl, hb2⟩; rw [HCL.out]; obtain ⟨a2, _, s2, o2⟩ := keepB (undrew (undrew (undrew hb2))); have r2 := keptC k1 k3 o2; have g2 := keptF k2 k3 o2; have z2 := Nat.lt_of_lt_of_le k3 o2.size; have R2 := Hid.in (R1.out.below o2); have q2 := below2 k4 o2; have t2 := R2.out.here; have p2 : w2.cell? ⟨b, 3, none⟩ = some (.int .u32 S.pc) := R2.out.cell 3 (by decide); clear hb2 o2)
    | (fail))
  go_region
  go_wp2_with (first
    | (go_at_call 61; refine (rows_made _).mono ?_; rintro e w3 ⟨rfl, hRw, hb3d, hz⟩; have hb3 := undrew hb3d; have u0 : w3.cell? ⟨w2.heap.size, i * 5, none⟩ = some (.string (nameAt i)) := hRw.r0 i _hi; have uh : w2.heap.size < w3.heap.size := hRw.here; clear hRw hz hb3d; have r3 := keptC r2 z2 hb3; have g3 := keptF g2 z2 hb3; have z3 := Nat.lt_of_lt_of_le z2 hb3.size; have a3 := keptC a2 s2 hb3; have s3 := Nat.lt_of_lt_of_le s2 hb3.size; have R3 := Hid.in (R2.out.below hb3); have q3 := below2 q2 hb3; have p3 : w3.cell? ⟨b, 3, none⟩ = some (.int .u32 S.pc) := R3.out.cell 3 (by decide); have t3 := R3.out.here)
    | (go_at_call 66; refine (jump_any b S _ rd _ _ R3.out _hrd (by omega)).mono ?_; rintro e w9 ⟨rfl, hR, hO⟩; rw [HRR.out]; have hO2 : Only b w3 w9 := hO; obtain ⟨z9, f9, s9⟩ := keepT hO2 r3 g3 z3 (by omega)))
  refine bodyPost_ret (v := .agg #[.int .u32 x0, .int .u32 x1, .int .i64 x2, .int .u32 x3, .int .i64 x4, .int .u32 x5, .int .u32 x6]) (by simp [results, Tryz.results34, go_sem, z9]) rfl ⟨rfl, ?_, ?_⟩
  · exact hR.far7 (by omega) _ _ _ _ _ _ _
  · exact ((Only.of_below q3).trans hO2).new7 (Nat.le_refl _) _ _ _ _ _ _ _
set_option maxRecDepth 100000 in
set_option maxHeartbeats 4000000 in
theorem do_jalr {D : Int → Dec} (HD : DecOk D) (b : Nat) (S : HS) (cb co n cp : Nat) (f : Nat → Int) (w : World) (h : RH w b S) (hp : U32 S.pc) (hc : S.code = .slice (some ⟨cb, co, none⟩) n cp) (hC : CodeAt w cb co n f) (hn : n ≤ 4096) (v : Int) (held : Bool) (hh : S.halted = false) (hk : S.pc / 4 < n) (i rd rs1 rs2 : Nat) (imm : Int) (hd : S.fetchD D n f = ⟨i + 1, rd, rs1, rs2, imm, true⟩) (word : Int) (hw : S.fetchW n f = word) (_hi : i < 67) (_hrd : rd < 32) (hrs : rs1 < 32) (hrs2 : rs2 < 32) (hS : S.Ok) (_hv : U32 v) (hc0 : clR ((i : Int) + 1) = 3) (hj : (i == 3) = true) (x0 x1 x2 x3 x4 x5 x6 : Int) (hRx : S.jumpR word rd ((S.regs rs1 + imm) % 4294967296 / 2 * 2) = .agg #[.int .u32 x0, .int .u32 x1, .int .i64 x2, .int .u32 x3, .int .i64 x4, .int .u32 x5, .int .u32 x6]) : Calls Tryz.prog 34 #[.pointer (some ⟨b, 0, none⟩), .int .u32 v, .bool held] w fun e w' => e = .returned (.agg #[.int .u32 x0, .int .u32 x1, .int .i64 x2, .int .u32 x3, .int .i64 x4, .int .u32 x5, .int .u32 x6]) ∧ RH w' b (S.jumped rd ((S.regs rs1 + imm) % 4294967296 / 2 * 2)) ∧ Only b w w' := by
  have chalt : w.cell? ⟨b, 36, none⟩ = some (.bool false) := hh ▸ h.cell 36 (by decide)
  have h3 := h.here
  have HH : Hid (RH w b S) := h
  have HC2 : Hid (CodeAt w cb co n f) := hC
  clear h hC
  have HCO : Hid (S.code = .slice (some ⟨cb, co, none⟩) n cp) := hc
  have HE : Hid (S.fetchD D n f = ⟨i + 1, rd, rs1, rs2, imm, true⟩) := hd
  have HW : Hid (S.fetchW n f = word) := hw
  have HEV : Hid ((⟨i + 1, rd, rs1, rs2, imm, true⟩ : Dec).val = .agg #[.int .i64 ((i : Int) + 1), .int .i64 rd, .int .i64 rs1, .int .i64 rs2, .int .i64 imm]) := Hid.in (by simp [Dec.val])
  have HS1 : Hid S.Ok := hS
  clear hd hw hS
  have HCL : Hid (clR ((i : Int) + 1) = 3) := hc0
  have hN : ((nameAt i).toList == [106, 97, 108, 114]) = true := (jalr_name i _hi).trans hj
  have HRR : Hid (S.jumpR word rd ((S.regs rs1 + imm) % 4294967296 / 2 * 2) = .agg #[.int .u32 x0, .int .u32 x1, .int .i64 x2, .int .u32 x3, .int .i64 x4, .int .u32 x5, .int .u32 x6]) := hRx
  clear hc0 hRx hj
  go_enter Tryz.func34, Tryz.ntmps34
  go_wp2_with (first | (go_at_call 57; refine (fetch_any HD b S cb co n cp f _ (HH.out.alloc _) hp hc (HC2.out.below ((Below.refl _ _).alloc (Nat.le_refl _) _)) hn).mono ?_; rintro e w1 ⟨rfl, hb1⟩; rw [HE.out, HW.out, HEV.out]; obtain ⟨k1, k2, k3, k4⟩ := keepB hb1; have R1 := Hid.in (HH.out.below k4); have p1 : w1.cell? ⟨b, 3, none⟩ = some (.int .u32 S.pc) := R1.out.cell 3 (by decide); have c1 : w1.cell? ⟨b, 0, none⟩ = some (.slice (some ⟨cb, co, none⟩) n cp) := HCO.out ▸ R1.out.cell 0 (by decide); have t1 := R1.out.here; have y1 := RH.atReg R1.out rs1 hrs; have y2 := RH.atReg R1.out rs2 hrs2))
  go_region
  go_wp2
  go_region
  go_wp2
  go_region
  go_wp2_with (first
    | (go_at_call 30; refine (clsR_any _ _).mono ?_; rintro e w2 ⟨rfl, hb2⟩; rw [HCL.out]; obtain ⟨a2, _, s2, o2⟩ := keepB (undrew (undrew (undrew hb2))); have r2 := keptC k1 k3 o2; have g2 := keptF k2 k3 o2; have z2 := Nat.lt_of_lt_of_le k3 o2.size; have R2 := Hid.in (R1.out.below o2); have q2 := below2 k4 o2; have t2 := R2.out.here; have p2 : w2.cell? ⟨b, 3, none⟩ = some (.int .u32 S.pc) := R2.out.cell 3 (by decide); clear hb2 o2)
    | (fail))
  go_region
  go_wp2_with (first
    | (go_at_call 61; refine (rows_made _).mono ?_; rintro e w3 ⟨rfl, hRw, hb3d, hz⟩; have hb3 := undrew hb3d; have u0 : w3.cell? ⟨w2.heap.size, i * 5, none⟩ = some (.string (nameAt i)) := hRw.r0 i _hi; have uh : w2.heap.size < w3.heap.size := hRw.here; clear hRw hz hb3d; have r3 := keptC r2 z2 hb3; have g3 := keptF g2 z2 hb3; have z3 := Nat.lt_of_lt_of_le z2 hb3.size; have a3 := keptC a2 s2 hb3; have s3 := Nat.lt_of_lt_of_le s2 hb3.size; have R3 := Hid.in (R2.out.below hb3); have q3 := below2 q2 hb3; have p3 : w3.cell? ⟨b, 3, none⟩ = some (.int .u32 S.pc) := R3.out.cell 3 (by decide); have t3 := R3.out.here)
    | (go_at_call 66; refine (jump_any b S _ rd _ _ R3.out _hrd (by omega)).mono ?_; rintro e w9 ⟨rfl, hR, hO⟩; rw [HRR.out]; have hO2 : Only b w3 w9 := hO; obtain ⟨z9, f9, s9⟩ := keepT hO2 r3 g3 z3 (by omega)))
  refine bodyPost_ret (v := .agg #[.int .u32 x0, .int .u32 x1, .int .i64 x2, .int .u32 x3, .int .i64 x4, .int .u32 x5, .int .u32 x6]) (by simp [results, Tryz.results34, go_sem, z9]) rfl ⟨rfl, ?_, ?_⟩
  · exact hR.far7 (by omega) _ _ _ _ _ _ _
  · exact ((Only.of_below q3).trans hO2).new7 (Nat.le_refl _) _ _ _ _ _ _ _
end Go.Proofs.YtnlagbiikpbjdaaGreatDoor
