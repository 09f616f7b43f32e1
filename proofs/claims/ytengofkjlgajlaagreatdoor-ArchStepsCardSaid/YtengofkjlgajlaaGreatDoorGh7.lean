import Derived.Test.YtengofkjlgajlaaGreatDoorGh6
/-
  THE ANSWER's HART: Do, branches, jumps, what is computed.
-/
namespace Go.Proofs.YtengofkjlgajlaaGreatDoor
open Go Go.RowKit
set_option maxRecDepth 100000 in
set_option maxHeartbeats 4000000 in
theorem do_stay {D : Int → Dec} (HD : DecOk D) (b : Nat) (S : HS) (cb co n cp : Nat) (f : Nat → Int) (w : World) (h : RH w b S) (hp : U32 S.pc) (hc : S.code = .slice (some ⟨cb, co, none⟩) n cp) (hC : CodeAt w cb co n f) (hn : n ≤ 4096) (v : Int) (held : Bool) (hh : S.halted = false) (hk : S.pc / 4 < n) (i rd rs1 rs2 : Nat) (imm : Int) (hd : S.fetchD D n f = ⟨i + 1, rd, rs1, rs2, imm, true⟩) (word : Int) (hw : S.fetchW n f = word) (_hi : i < 67) (_hrd : rd < 32) (hrs : rs1 < 32) (hrs2 : rs2 < 32) (hS : S.Ok) (_hv : U32 v) (hc0 : clR ((i : Int) + 1) = 2) (ht : tkI ((i : Int) + 1) (S.regs rs1) (S.regs rs2) = false) : Calls Tryz.prog 25 #[.pointer (some ⟨b, 0, none⟩), .int .u32 v, .bool held] w fun e w' => e = .returned (S.doneR word 0 0 (S.pc + 4)) ∧ RH w' b (S.done 0 (rvI 0 0) (S.pc + 4)) ∧ Only b w w' := by
  have chalt : w.cell? ⟨b, 36, none⟩ = some (.bool false) := hh ▸ h.cell 36 (by decide)
  have h3 := h.here
  have HH : Hid (RH w b S) := h
  have HC2 : Hid (CodeAt w cb co n f) := hC
  clear h hC
  have HCO : Hid (S.code = .slice (some ⟨cb, co, none⟩) n cp) := hc
  have HE : Hid (S.fetchD D n f = ⟨i + 1, rd, rs1, rs2, imm, true⟩) := hd
  have HW : Hid (S.fetchW n f = word) := hw
  have HEV : Hid ((⟨i + 1, rd, rs1, rs2, imm, true⟩ : Dec).val = .agg #[.int .i64 ((i : Int) + 1), .int .i64 rd, .int .i64 rs1, .int .i64 rs2, .int .i64 imm]) := Hid.in (by simp [Dec.val])
  have HS1 : Hid S.Ok := hS
  clear hd hw hS
  have HCL : Hid (clR ((i : Int) + 1) = 2) := hc0
  have HT : Hid (tkI ((i : Int) + 1) (S.regs rs1) (S.regs rs2) = false) := ht
  clear hc0 ht
  go_enter Tryz.func25, Tryz.ntmps25
  go_wp2_with (first | (go_at_call 42; refine (fetch_any HD b S cb co n cp f _ (HH.out.alloc _) hp hc (HC2.out.below ((Below.refl _ _).alloc (Nat.le_refl _) _)) hn).mono ?_; rintro e w1 ⟨rfl, hb1⟩; rw [HE.out, HW.out, HEV.out]; obtain ⟨k1, k2, k3, k4⟩ := keepB hb1; have R1 := Hid.in (HH.out.below k4); have p1 : w1.cell? ⟨b, 3, none⟩ = some (.int .u32 S.pc) := R1.out.cell 3 (by decide); have c1 : w1.cell? ⟨b, 0, none⟩ = some (.slice (some ⟨cb, co, none⟩) n cp) := HCO.out ▸ R1.out.cell 0 (by decide); have t1 := R1.out.here; have y1 := RH.atReg R1.out rs1 hrs; have y2 := RH.atReg R1.out rs2 hrs2))
  go_region
  go_wp2
  go_region
  go_wp2
  go_region
  go_wp2_with (first
    | (go_at_call 29; refine (clsR_any _ _).mono ?_; rintro e w2 ⟨rfl, hb2⟩; rw [HCL.out]; obtain ⟨a2, _, s2, o2⟩ := keepB (undrew (undrew (undrew hb2))); have r2 := keptC k1 k3 o2; have g2 := keptF k2 k3 o2; have z2 := Nat.lt_of_lt_of_le k3 o2.size; have R2 := Hid.in (R1.out.below o2); have q2 := below2 k4 o2; have t2 := R2.out.here; have p2 : w2.cell? ⟨b, 3, none⟩ = some (.int .u32 S.pc) := R2.out.cell 3 (by decide); clear hb2 o2)
    | (go_at_call 55; refine (taken_any _ _ _ _).mono ?_; rintro e w3 ⟨rfl, hb3⟩; rw [HT.out]; have r3 := keptC r2 z2 hb3; have g3 := keptF g2 z2 hb3; have z3 := Nat.lt_of_lt_of_le z2 hb3.size; have R3 := Hid.in (R2.out.below hb3); have q3 := below2 q2 hb3; have p3 : w3.cell? ⟨b, 3, none⟩ = some (.int .u32 S.pc) := R3.out.cell 3 (by decide); have t3 := R3.out.here)
    | (go_at_call 54; refine (done_any b S _ 0 _ _ _ R3.out (by decide)).mono ?_; rintro e w9 ⟨rfl, hR, hO⟩; obtain ⟨z9, f9, s9⟩ := keepT hO r3 g3 z3 (by omega); unfold HS.doneR))
  refine bodyPost_ret (v := S.doneR word 0 0 (S.pc + 4)) (by simp [results, Tryz.results25, go_sem, z9, HS.doneR]) rfl ⟨rfl, ?_, ?_⟩
  · exact hR.far7 (by omega) _ _ _ _ _ _ _
  · exact ((Only.of_below q3).trans hO).new7 (Nat.le_refl _) _ _ _ _ _ _ _
set_option maxRecDepth 100000 in
set_option maxHeartbeats 4000000 in
theorem do_alu0 {D : Int → Dec} (HD : DecOk D) (b : Nat) (S : HS) (cb co n cp : Nat) (f : Nat → Int) (w : World) (h : RH w b S) (hp : U32 S.pc) (hc : S.code = .slice (some ⟨cb, co, none⟩) n cp) (hC : CodeAt w cb co n f) (hn : n ≤ 4096) (v : Int) (held : Bool) (hh : S.halted = false) (hk : S.pc / 4 < n) (i rd rs1 rs2 : Nat) (imm : Int) (hd : S.fetchD D n f = ⟨i + 1, rd, rs1, rs2, imm, true⟩) (word : Int) (hw : S.fetchW n f = word) (_hi : i < 67) (_hrd : rd < 32) (hrs : rs1 < 32) (hrs2 : rs2 < 32) (hS : S.Ok) (_hv : U32 v) (hc0 : clR ((i : Int) + 1) = 0) : Calls Tryz.prog 25 #[.pointer (some ⟨b, 0, none⟩), .int .u32 v, .bool held] w fun e w' => e = .returned (S.doneR word rd (S.compI ((i : Int) + 1) imm (S.regs rs1) (S.regs rs2)) (S.pc + 4)) ∧ RH w' b (S.done rd (rvI rd (S.compI ((i : Int) + 1) imm (S.regs rs1) (S.regs rs2))) (S.pc + 4)) ∧ Only b w w' := by
  have chalt : w.cell? ⟨b, 36, none⟩ = some (.bool false) := hh ▸ h.cell 36 (by decide)
  have h3 := h.here
  have HH : Hid (RH w b S) := h
  have HC2 : Hid (CodeAt w cb co n f) := hC
  clear h hC
  have HCO : Hid (S.code = .slice (some ⟨cb, co, none⟩) n cp) := hc
  have HE : Hid (S.fetchD D n f = ⟨i + 1, rd, rs1, rs2, imm, true⟩) := hd
  have HW : Hid (S.fetchW n f = word) := hw
  have HEV : Hid ((⟨i + 1, rd, rs1, rs2, imm, true⟩ : Dec).val = .agg #[.int .i64 ((i : Int) + 1), .int .i64 rd, .int .i64 rs1, .int .i64 rs2, .int .i64 imm]) := Hid.in (by simp [Dec.val])
  have HS1 : Hid S.Ok := hS
  clear hd hw hS
  have HCL : Hid (clR ((i : Int) + 1) = 0) := hc0
  have E4 : Hid ((S.pc + 4) % 4294967296 = S.pc + 4) := Hid.in (by have := hp.1; omega)
  clear hc0
  go_enter Tryz.func25, Tryz.ntmps25
  go_wp2_with (first | (go_at_call 42; refine (fetch_any HD b S cb co n cp f _ (HH.out.alloc _) hp hc (HC2.out.below ((Below.refl _ _).alloc (Nat.le_refl _) _)) hn).mono ?_; rintro e w1 ⟨rfl, hb1⟩; rw [HE.out, HW.out, HEV.out]; obtain ⟨k1, k2, k3, k4⟩ := keepB hb1; have R1 := Hid.in (HH.out.below k4); have p1 : w1.cell? ⟨b, 3, none⟩ = some (.int .u32 S.pc) := R1.out.cell 3 (by decide); have c1 : w1.cell? ⟨b, 0, none⟩ = some (.slice (some ⟨cb, co, none⟩) n cp) := HCO.out ▸ R1.out.cell 0 (by decide); have t1 := R1.out.here; have y1 := RH.atReg R1.out rs1 hrs; have y2 := RH.atReg R1.out rs2 hrs2))
  go_region
  go_wp2
  go_region
  go_wp2
  go_region
  go_wp2_with (first
    | (go_at_call 29; refine (clsR_any _ _).mono ?_; rintro e w2 ⟨rfl, hb2⟩; rw [HCL.out]; obtain ⟨a2, _, s2, o2⟩ := keepB (undrew (undrew (undrew hb2))); have r2 := keptC k1 k3 o2; have g2 := keptF k2 k3 o2; have z2 := Nat.lt_of_lt_of_le k3 o2.size; have R2 := Hid.in (R1.out.below o2); have q2 := below2 k4 o2; have t2 := R2.out.here; have p2 : w2.cell? ⟨b, 3, none⟩ = some (.int .u32 S.pc) := R2.out.cell 3 (by decide); clear hb2 o2)
    | (go_at_call 53; refine (computed_any b S i _ _ _ _ _ _ _ R2.out _hi hp (HS1.out.regs _ hrs) (HS1.out.regs _ hrs2)).mono ?_; rintro e w3 ⟨rfl, hb3⟩; have r3 := keptC r2 z2 hb3; have g3 := keptF g2 z2 hb3; have z3 := Nat.lt_of_lt_of_le z2 hb3.size; have a3 := keptC a2 s2 hb3; have s3 := Nat.lt_of_lt_of_le s2 hb3.size; have R3 := Hid.in (R2.out.below hb3); have q3 := below2 q2 hb3; have p3 : w3.cell? ⟨b, 3, none⟩ = some (.int .u32 S.pc) := R3.out.cell 3 (by decide); have t3 := R3.out.here))
  go_region_with (go_at_call 54; try simp only [IntKind.wrap_u32, E4.out]; refine (done_any b S _ rd _ _ _ (by first | exact CellsAt.drew R3.out | exact R3.out) _hrd).mono ?_; rintro e w9 ⟨rfl, hR, hO⟩; have hO2 : Only b w3 w9 := Only.trans (by first | exact (Only.refl b w3).drew | exact Only.refl b w3) hO; obtain ⟨z9, f9, s9⟩ := keepT hO2 r3 g3 z3 (by omega); unfold HS.doneR)
  all_goals
    try go_wp2
    refine bodyPost_ret (v := S.doneR word rd (S.compI ((i : Int) + 1) imm (S.regs rs1) (S.regs rs2)) (S.pc + 4)) (by simp [results, Tryz.results25, go_sem, z9, HS.doneR]) rfl ⟨rfl, ?_, ?_⟩
    · exact hR.far7 (by omega) _ _ _ _ _ _ _
    · exact ((Only.of_below q3).trans hO2).new7 (Nat.le_refl _) _ _ _ _ _ _ _
set_option maxRecDepth 100000 in
set_option maxHeartbeats 4000000 in
theorem do_alu1 {D : Int → Dec} (HD : DecOk D) (b : Nat) (S : HS) (cb co n cp : Nat) (f : Nat → Int) (w : World) (h : RH w b S) (hp : U32 S.pc) (hc : S.code = .slice (some ⟨cb, co, none⟩) n cp) (hC : CodeAt w cb co n f) (hn : n ≤ 4096) (v : Int) (held : Bool) (hh : S.halted = false) (hk : S.pc / 4 < n) (i rd rs1 rs2 : Nat) (imm : Int) (hd : S.fetchD D n f = ⟨i + 1, rd, rs1, rs2, imm, true⟩) (word : Int) (hw : S.fetchW n f = word) (_hi : i < 67) (_hrd : rd < 32) (hrs : rs1 < 32) (hrs2 : rs2 < 32) (hS : S.Ok) (_hv : U32 v) (hc0 : clR ((i : Int) + 1) = 1) : Calls Tryz.prog 25 #[.pointer (some ⟨b, 0, none⟩), .int .u32 v, .bool held] w fun e w' => e = .returned (S.doneR word rd (S.compI ((i : Int) + 1) imm (S.regs rs1) (S.regs rs2)) (S.pc + 4)) ∧ RH w' b (S.done rd (rvI rd (S.compI ((i : Int) + 1) imm (S.regs rs1) (S.regs rs2))) (S.pc + 4)) ∧ Only b w w' := by
  have chalt : w.cell? ⟨b, 36, none⟩ = some (.bool false) := hh ▸ h.cell 36 (by decide)
  have h3 := h.here
  have HH : Hid (RH w b S) := h
  have HC2 : Hid (CodeAt w cb co n f) := hC
  clear h hC
  have HCO : Hid (S.code = .slice (some ⟨cb, co, none⟩) n cp) := hc
  have HE : Hid (S.fetchD D n f = ⟨i + 1, rd, rs1, rs2, imm, true⟩) := hd
  have HW : Hid (S.fetchW n f = word) := hw
  have HEV : Hid ((⟨i + 1, rd, rs1, rs2, imm, true⟩ : Dec).val = .agg #[.int .i64 ((i : Int) + 1), .int .i64 rd, .int .i64 rs1, .int .i64 rs2, .int .i64 imm]) := Hid.in (by simp [Dec.val])
  have HS1 : Hid S.Ok := hS
  clear hd hw hS
  have HCL : Hid (clR ((i : Int) + 1) = 1) := hc0
  have E4 : Hid ((S.pc + 4) % 4294967296 = S.pc + 4) := Hid.in (by have := hp.1; omega)
  clear hc0
  go_enter Tryz.func25, Tryz.ntmps25
  go_wp2_with (first | (go_at_call 42; refine (fetch_any HD b S cb co n cp f _ (HH.out.alloc _) hp hc (HC2.out.below ((Below.refl _ _).alloc (Nat.le_refl _) _)) hn).mono ?_; rintro e w1 ⟨rfl, hb1⟩; rw [HE.out, HW.out, HEV.out]; obtain ⟨k1, k2, k3, k4⟩ := keepB hb1; have R1 := Hid.in (HH.out.below k4); have p1 : w1.cell? ⟨b, 3, none⟩ = some (.int .u32 S.pc) := R1.out.cell 3 (by decide); have c1 : w1.cell? ⟨b, 0, none⟩ = some (.slice (some ⟨cb, co, none⟩) n cp) := HCO.out ▸ R1.out.cell 0 (by decide); have t1 := R1.out.here; have y1 := RH.atReg R1.out rs1 hrs; have y2 := RH.atReg R1.out rs2 hrs2))
  go_region
  go_wp2
  go_region
  go_wp2
  go_region
  go_wp2_with (first
    | (go_at_call 29; refine (clsR_any _ _).mono ?_; rintro e w2 ⟨rfl, hb2⟩; rw [HCL.out]; obtain ⟨a2, _, s2, o2⟩ := keepB (undrew (undrew (undrew hb2))); have r2 := keptC k1 k3 o2; have g2 := keptF k2 k3 o2; have z2 := Nat.lt_of_lt_of_le k3 o2.size; have R2 := Hid.in (R1.out.below o2); have q2 := below2 k4 o2; have t2 := R2.out.here; have p2 : w2.cell? ⟨b, 3, none⟩ = some (.int .u32 S.pc) := R2.out.cell 3 (by decide); clear hb2 o2)
    | (go_at_call 53; refine (computed_any b S i _ _ _ _ _ _ _ R2.out _hi hp (HS1.out.regs _ hrs) (HS1.out.regs _ hrs2)).mono ?_; rintro e w3 ⟨rfl, hb3⟩; have r3 := keptC r2 z2 hb3; have g3 := keptF g2 z2 hb3; have z3 := Nat.lt_of_lt_of_le z2 hb3.size; have a3 := keptC a2 s2 hb3; have s3 := Nat.lt_of_lt_of_le s2 hb3.size; have R3 := Hid.in (R2.out.below hb3); have q3 := below2 q2 hb3; have p3 : w3.cell? ⟨b, 3, none⟩ = some (.int .u32 S.pc) := R3.out.cell 3 (by decide); have t3 := R3.out.here))
  go_region_with (go_at_call 54; try simp only [IntKind.wrap_u32, E4.out]; refine (done_any b S _ rd _ _ _ (by first | exact CellsAt.drew R3.out | exact R3.out) _hrd).mono ?_; rintro e w9 ⟨rfl, hR, hO⟩; have hO2 : Only b w3 w9 := Only.trans (by first | exact (Only.refl b w3).drew | exact Only.refl b w3) hO; obtain ⟨z9, f9, s9⟩ := keepT hO2 r3 g3 z3 (by omega); unfold HS.doneR)
  all_goals
    try go_wp2
    refine bodyPost_ret (v := S.doneR word rd (S.compI ((i : Int) + 1) imm (S.regs rs1) (S.regs rs2)) (S.pc + 4)) (by simp [results, Tryz.results25, go_sem, z9, HS.doneR]) rfl ⟨rfl, ?_, ?_⟩
    · exact hR.far7 (by omega) _ _ _ _ _ _ _
    · exact ((Only.of_below q3).trans hO2).new7 (Nat.le_refl _) _ _ _ _ _ _ _
theorem jalr_all : ((List.range 67).all fun i => ((nameAt i).toList == [106, 97, 108, 114]) == (i == 3)) = true := by kernel_rfl
theorem jalr_name (i : Nat) (hi : i < 67) : ((nameAt i).toList == [106, 97, 108, 114]) = (i == 3) := by
  have := List.all_eq_true.1 jalr_all i (List.mem_range.2 hi)
  rwa [beq_iff_eq] at this
set_option maxRecDepth 100000 in
set_option maxHeartbeats 4000000 in
theorem do_take {D : Int → Dec} (HD : DecOk D) (b : Nat) (S : HS) (cb co n cp : Nat) (f : Nat → Int) (w : World) (h : RH w b S) (hp : U32 S.pc) (hc : S.code = .slice (some ⟨cb, co, none⟩) n cp) (hC : CodeAt w cb co n f) (hn : n ≤ 4096) (v : Int) (held : Bool) (hh : S.halted = false) (hk : S.pc / 4 < n) (i rd rs1 rs2 : Nat) (imm : Int) (hd : S.fetchD D n f = ⟨i + 1, rd, rs1, rs2, imm, true⟩) (word : Int) (hw : S.fetchW n f = word) (_hi : i < 67) (_hrd : rd < 32) (hrs : rs1 < 32) (hrs2 : rs2 < 32) (hS : S.Ok) (_hv : U32 v) (hc0 : clR ((i : Int) + 1) = 2) (ht : tkI ((i : Int) + 1) (S.regs rs1) (S.regs rs2) = true) (x0 x1 x2 x3 x4 x5 x6 : Int) (hRx : S.jumpR word 0 ((S.pc + imm % 4294967296) % 4294967296) = .agg #[.int .u32 x0, .int .u32 x1, .int .i64 x2, .int .u32 x3, .int .i64 x4, .int .u32 x5, .int .u32 x6]) : Calls Tryz.prog 25 #[.pointer (some ⟨b, 0, none⟩), .int .u32 v, .bool held] w fun e w' => e = .returned (.agg #[.int .u32 x0, .int .u32 x1, .int .i64 x2, .int .u32 x3, .int .i64 x4, .int .u32 x5, .int .u32 x6]) ∧ RH w' b (S.jumped 0 ((S.pc + imm % 4294967296) % 4294967296)) ∧ Only b w w' := by
  have chalt : w.cell? ⟨b, 36, none⟩ = some (.bool false) := hh ▸ h.cell 36 (by decide)
  have h3 := h.here
  have HH : Hid (RH w b S) := h
  have HC2 : Hid (CodeAt w cb co n f) := hC
  clear h hC
  have HCO : Hid (S.code = .slice (some ⟨cb, co, none⟩) n cp) := hc
  have HE : Hid (S.fetchD D n f = ⟨i + 1, rd, rs1, rs2, imm, true⟩) := hd
  have HW : Hid (S.fetchW n f = word) := hw
  have HEV : Hid ((⟨i + 1, rd, rs1, rs2, imm, true⟩ : Dec).val = .agg #[.int .i64 ((i : Int) + 1), .int .i64 rd, .int .i64 rs1, .int .i64 rs2, .int .i64 imm]) := Hid.in (by simp [Dec.val])
  have HS1 : Hid S.Ok := hS
  clear hd hw hS
  have HCL : Hid (clR ((i : Int) + 1) = 2) := hc0
  have HT : Hid (tkI ((i : Int) + 1) (S.regs rs1) (S.regs rs2) = true) := ht
  have HRR : Hid (S.jumpR word 0 ((S.pc + imm % 4294967296) % 4294967296) = .agg #[.int .u32 x0, .int .u32 x1, .int .i64 x2, .int .u32 x3, .int .i64 x4, .int .u32 x5, .int .u32 x6]) := hRx
  clear hc0 ht hRx
  go_enter Tryz.func25, Tryz.ntmps25
  go_wp2_with (first | (go_at_call 42; refine (fetch_any HD b S cb co n cp f _ (HH.out.alloc _) hp hc (HC2.out.below ((Below.refl _ _).alloc (Nat.le_refl _) _)) hn).mono ?_; rintro e w1 ⟨rfl, hb1⟩; rw [HE.out, HW.out, HEV.out]; obtain ⟨k1, k2, k3, k4⟩ := keepB hb1; have R1 := Hid.in (HH.out.below k4); have p1 : w1.cell? ⟨b, 3, none⟩ = some (.int .u32 S.pc) := R1.out.cell 3 (by decide); have c1 : w1.cell? ⟨b, 0, none⟩ = some (.slice (some ⟨cb, co, none⟩) n cp) := HCO.out ▸ R1.out.cell 0 (by decide); have t1 := R1.out.here; have y1 := RH.atReg R1.out rs1 hrs; have y2 := RH.atReg R1.out rs2 hrs2))
  go_region
  go_wp2
  go_region
  go_wp2
  go_region
  go_wp2_with (first
    | (go_at_call 29; refine (clsR_any _ _).mono ?_; rintro e w2 ⟨rfl, hb2⟩; rw [HCL.out]; obtain ⟨a2, _, s2, o2⟩ := keepB (undrew (undrew (undrew hb2))); have r2 := keptC k1 k3 o2; have g2 := keptF k2 k3 o2; have z2 := Nat.lt_of_lt_of_le k3 o2.size; have R2 := Hid.in (R1.out.below o2); have q2 := below2 k4 o2; have t2 := R2.out.here; have p2 : w2.cell? ⟨b, 3, none⟩ = some (.int .u32 S.pc) := R2.out.cell 3 (by decide); clear hb2 o2)
    | (go_at_call 55; refine (taken_any _ _ _ _).mono ?_; rintro e w3 ⟨rfl, hb3⟩; rw [HT.out]; have r3 := keptC r2 z2 hb3; have g3 := keptF g2 z2 hb3; have z3 := Nat.lt_of_lt_of_le z2 hb3.size; have a3 := keptC a2 s2 hb3; have s3 := Nat.lt_of_lt_of_le s2 hb3.size; have R3 := Hid.in (R2.out.below hb3); have q3 := below2 q2 hb3; have p3 : w3.cell? ⟨b, 3, none⟩ = some (.int .u32 S.pc) := R3.out.cell 3 (by decide); have t3 := R3.out.here))
  go_region_with (go_at_call 56; try simp only [IntKind.wrap_u32]; refine (jump_any b S _ 0 _ _ (by first | exact CellsAt.drew R3.out | exact R3.out) (by decide) (by omega)).mono ?_; rintro e w9 ⟨rfl, hR, hO⟩; rw [HRR.out]; have hO2 : Only b w3 w9 := Only.trans (by first | exact (Only.refl b w3).drew | exact Only.refl b w3) hO; obtain ⟨z9, f9, s9⟩ := keepT hO2 r3 g3 z3 (by omega))
  all_goals
    try go_wp2
    refine bodyPost_ret (v := .agg #[.int .u32 x0, .int .u32 x1, .int .i64 x2, .int .u32 x3, .int .i64 x4, .int .u32 x5, .int .u32 x6]) (by simp [results, Tryz.results25, go_sem, z9]) rfl ⟨rfl, ?_, ?_⟩
    · exact hR.far7 (by omega) _ _ _ _ _ _ _
    · exact ((Only.of_below q3).trans hO2).new7 (Nat.le_refl _) _ _ _ _ _ _ _
set_option maxRecDepth 100000 in
set_option maxHeartbeats 4000000 in
theorem do_jal {D : Int → Dec} (HD : DecOk D) (b : Nat) (S : HS) (cb co n cp : Nat) (f : Nat → Int) (w : World) (h : RH w b S) (hp : U32 S.pc) (hc : S.code = .slice (some ⟨cb, co, none⟩) n cp) (hC : CodeAt w cb co n f) (hn : n ≤ 4096) (v : Int) (held : Bool) (hh : S.halted = false) (hk : S.pc / 4 < n) (i rd rs1 rs2 : Nat) (imm : Int) (hd : S.fetchD D n f = ⟨i + 1, rd, rs1, rs2, imm, true⟩) (word : Int) (hw : S.fetchW n f = word) (_hi : i < 67) (_hrd : rd < 32) (hrs : rs1 < 32) (hrs2 : rs2 < 32) (hS : S.Ok) (_hv : U32 v) (hc0 : clR ((i : Int) + 1) = 3) (hj : (i == 3) = false) (x0 x1 x2 x3 x4 x5 x6 : Int) (hRx : S.jumpR word rd ((S.pc + imm) % 4294967296) = .agg #[.int .u32 x0, .int .u32 x1, .int .i64 x2, .int .u32 x3, .int .i64 x4, .int .u32 x5, .int .u32 x6]) : Calls Tryz.prog 25 #[.pointer (some ⟨b, 0, none⟩), .int .u32 v, .bool held] w fun e w' => e = .returned (.agg #[.int .u32 x0, .int .u32 x1, .int .i64 x2, .int .u32 x3, .int .i64 x4, .int .u32 x5, .int .u32 x6]) ∧ RH w' b (S.jumped rd ((S.pc + imm) % 4294967296)) ∧ Only b w w' := by
  have chalt : w.cell? ⟨b, 36, none⟩ = some (.bool false) := hh ▸ h.cell 36 (by decide)
  have h3 := h.here
  have HH : Hid (RH w b S) := h
  have HC2 : Hid (CodeAt w cb co n f) := hC
  clear h hC
  have HCO : Hid (S.code = .slice (some ⟨cb, co, none⟩) n cp) := hc
  have HE : Hid (S.fetchD D n f = ⟨i + 1, rd, rs1, rs2, imm, true⟩) := hd
  have HW : Hid (S.fetchW n f = word) := hw
  have HEV : Hid ((⟨i + 1, rd, rs1, rs2, imm, true⟩ : Dec).val = .agg #[.int .i64 ((i : Int) + 1), .int .i64 rd, .int .i64 rs1, .int .i64 rs2, .int .i64 imm]) := Hid.in (by simp [Dec.val])
  have HS1 : Hid S.Ok := hS
  clear hd hw hS
  have HCL : Hid (clR ((i : Int) + 1) = 3) := hc0
  have hN : ((nameAt i).toList == [106, 97, 108, 114]) = false := (jalr_name i _hi).trans hj
  have HRR : Hid (S.jumpR word rd ((S.pc + imm) % 4294967296) = .agg #[.int .u32 x0, .int .u32 x1, .int .i64 x2, .int .u32 x3, .int .i64 x4, .int .u32 x5, .int .u32 x6]) := hRx
  clear hc0 hRx hj
  go_enter Tryz.func25, Tryz.ntmps25
  go_wp2_with (first | (go_at_call 42; refine (fetch_any HD b S cb co n cp f _ (HH.out.alloc _) hp hc (HC2.out.below ((Below.refl _ _).alloc (Nat.le_refl _) _)) hn).mono ?_; rintro e w1 ⟨rfl, hb1⟩; rw [HE.out, HW.out, HEV.out]; obtain ⟨k1, k2, k3, k4⟩ := keepB hb1; have R1 := Hid.in (HH.out.below k4); have p1 : w1.cell? ⟨b, 3, none⟩ = some (.int .u32 S.pc) := R1.out.cell 3 (by decide); have c1 : w1.cell? ⟨b, 0, none⟩ = some (.slice (some ⟨cb, co, none⟩) n cp) := HCO.out ▸ R1.out.cell 0 (by decide); have t1 := R1.out.here; have y1 := RH.atReg R1.out rs1 hrs; have y2 := RH.atReg R1.out rs2 hrs2))
  go_region
  go_wp2
  go_region
  go_wp2
  go_region
  go_wp2_with (first
    | (go_at_call 29; refine (clsR_any _ _).mono ?_; rintro e w2 ⟨rfl, hb2⟩; rw [HCL.out]; obtain ⟨a2, _, s2, o2⟩ := keepB (undrew (undrew (undrew hb2))); have r2 := keptC k1 k3 o2; have g2 := keptF k2 k3 o2; have z2 := Nat.lt_of_lt_of_le k3 o2.size; have R2 := Hid.in (R1.out.below o2); have q2 := below2 k4 o2; have t2 := R2.out.here; have p2 : w2.cell? ⟨b, 3, none⟩ = some (.int .u32 S.pc) := R2.out.cell 3 (by decide); clear hb2 o2)
    | (fail))
  go_region
  go_wp2_with (first
    | (go_at_call 57; refine (rows_made _).mono ?_; rintro e w3 ⟨rfl, hRw, hb3d, hz⟩; have hb3 := undrew hb3d; have u0 : w3.cell? ⟨w2.heap.size, i * 5, none⟩ = some (.string (nameAt i)) := hRw.r0 i _hi; have uh : w2.heap.size < w3.heap.size := hRw.here; clear hRw hz hb3d; have r3 := keptC r2 z2 hb3; have g3 := keptF g2 z2 hb3; have z3 := Nat.lt_of_lt_of_le z2 hb3.size; have a3 := keptC a2 s2 hb3; have s3 := Nat.lt_of_lt_of_le s2 hb3.size; have R3 := Hid.in (R2.out.below hb3); have q3 := below2 q2 hb3; have p3 : w3.cell? ⟨b, 3, none⟩ = some (.int .u32 S.pc) := R3.out.cell 3 (by decide); have t3 := R3.out.here)
    | (go_at_call 56; refine (jump_any b S _ rd _ _ R3.out _hrd (by omega)).mono ?_; rintro e w9 ⟨rfl, hR, hO⟩; rw [HRR.out]; have hO2 : Only b w3 w9 := hO; obtain ⟨z9, f9, s9⟩ := keepT hO2 r3 g3 z3 (by omega)))
  refine bodyPost_ret (v := .agg #[.int .u32 x0, .int .u32 x1, .int .i64 x2, .int .u32 x3, .int .i64 x4, .int .u32 x5, .int .u32 x6]) (by simp [results, Tryz.results25, go_sem, z9]) rfl ⟨rfl, ?_, ?_⟩
  · exact hR.far7 (by omega) _ _ _ _ _ _ _
  · exact ((Only.of_below q3).trans hO2).new7 (Nat.le_refl _) _ _ _ _ _ _ _
set_option maxRecDepth 100000 in
set_option maxHeartbeats 4000000 in
theorem do_jalr {D : Int → Dec} (HD : DecOk D) (b : Nat) (S : HS) (cb co n cp : Nat) (f : Nat → Int) (w : World) (h : RH w b S) (hp : U32 S.pc) (hc : S.code = .slice (some ⟨cb, co, none⟩) n cp) (hC : CodeAt w cb co n f) (hn : n ≤ 4096) (v : Int) (held : Bool) (hh : S.halted = false) (hk : S.pc / 4 < n) (i rd rs1 rs2 : Nat) (imm : Int) (hd : S.fetchD D n f = ⟨i + 1, rd, rs1, rs2, imm, true⟩) (word : Int) (hw : S.fetchW n f = word) (_hi : i < 67) (_hrd : rd < 32) (hrs : rs1 < 32) (hrs2 : rs2 < 32) (hS : S.Ok) (_hv : U32 v) (hc0 : clR ((i : Int) + 1) = 3) (hj : (i == 3) = true) (x0 x1 x2 x3 x4 x5 x6 : Int) (hRx : S.jumpR word rd ((S.regs rs1 + imm) % 4294967296 / 2 * 2) = .agg #[.int .u32 x0, .int .u32 x1, .int .i64 x2, .int .u32 x3, .int .i64 x4, .int .u32 x5, .int .u32 x6]) : Calls Tryz.prog 25 #[.pointer (some ⟨b, 0, none⟩), .int .u32 v, .bool held] w fun e w' => e = .returned (.agg #[.int .u32 x0, .int .u32 x1, .int .i64 x2, .int .u32 x3, .int .i64 x4, .int .u32 x5, .int .u32 x6]) ∧ RH w' b (S.jumped rd ((S.regs rs1 + imm) % 4294967296 / 2 * 2)) ∧ Only b w w' := by
  have chalt : w.cell? ⟨b, 36, none⟩ = some (.bool false) := hh ▸ h.cell 36 (by decide)
  have h3 := h.here
  have HH : Hid (RH w b S) := h
  have HC2 : Hid (CodeAt w cb co n f) := hC
  clear h hC
  have HCO : Hid (S.code = .slice (some ⟨cb, co, none⟩) n cp) := hc
  have HE : Hid (S.fetchD D n f = ⟨i + 1, rd, rs1, rs2, imm, true⟩) := hd
  have HW : Hid (S.fetchW n f = word) := hw
  have HEV : Hid ((⟨i + 1, rd, rs1, rs2, imm, true⟩ : Dec).val = .agg #[.int .i64 ((i : Int) + 1), .int .i64 rd, .int .i64 rs1, .int .i64 rs2, .int .i64 imm]) := Hid.in (by simp [Dec.val])
  have HS1 : Hid S.Ok := hS
  clear hd hw hS
  have HCL : Hid (clR ((i : Int) + 1) = 3) := hc0
  have hN : ((nameAt i).toList == [106, 97, 108, 114]) = true := (jalr_name i _hi).trans hj
  have HRR : Hid (S.jumpR word rd ((S.regs rs1 + imm) % 4294967296 / 2 * 2) = .agg #[.int .u32 x0, .int .u32 x1, .int .i64 x2, .int .u32 x3, .int .i64 x4, .int .u32 x5, .int .u32 x6]) := hRx
  clear hc0 hRx hj
  go_enter Tryz.func25, Tryz.ntmps25
  go_wp2_with (first | (go_at_call 42; refine (fetch_any HD b S cb co n cp f _ (HH.out.alloc _) hp hc (HC2.out.below ((Below.refl _ _).alloc (Nat.le_refl _) _)) hn).mono ?_; rintro e w1 ⟨rfl, hb1⟩; rw [HE.out, HW.out, HEV.out]; obtain ⟨k1, k2, k3, k4⟩ := keepB hb1; have R1 := Hid.in (HH.out.below k4); have p1 : w1.cell? ⟨b, 3, none⟩ = some (.int .u32 S.pc) := R1.out.cell 3 (by decide); have c1 : w1.cell? ⟨b, 0, none⟩ = some (.slice (some ⟨cb, co, none⟩) n cp) := HCO.out ▸ R1.out.cell 0 (by decide); have t1 := R1.out.here; have y1 := RH.atReg R1.out rs1 hrs; have y2 := RH.atReg R1.out rs2 hrs2))
  go_region
  go_wp2
  go_region
  go_wp2
  go_region
  go_wp2_with (first
    | (go_at_call 29; refine (clsR_any _ _).mono ?_; rintro e w2 ⟨rfl, hb2⟩; rw [HCL.out]; obtain ⟨a2, _, s2, o2⟩ := keepB (undrew (undrew (undrew hb2))); have r2 := keptC k1 k3 o2; have g2 := keptF k2 k3 o2; have z2 := Nat.lt_of_lt_of_le k3 o2.size; have R2 := Hid.in (R1.out.below o2); have q2 := below2 k4 o2; have t2 := R2.out.here; have p2 : w2.cell? ⟨b, 3, none⟩ = some (.int .u32 S.pc) := R2.out.cell 3 (by decide); clear hb2 o2)
    | (fail))
  go_region
  go_wp2_with (first
    | (go_at_call 57; refine (rows_made _).mono ?_; rintro e w3 ⟨rfl, hRw, hb3d, hz⟩; have hb3 := undrew hb3d; have u0 : w3.cell? ⟨w2.heap.size, i * 5, none⟩ = some (.string (nameAt i)) := hRw.r0 i _hi; have uh : w2.heap.size < w3.heap.size := hRw.here; clear hRw hz hb3d; have r3 := keptC r2 z2 hb3; have g3 := keptF g2 z2 hb3; have z3 := Nat.lt_of_lt_of_le z2 hb3.size; have a3 := keptC a2 s2 hb3; have s3 := Nat.lt_of_lt_of_le s2 hb3.size; have R3 := Hid.in (R2.out.below hb3); have q3 := below2 q2 hb3; have p3 : w3.cell? ⟨b, 3, none⟩ = some (.int .u32 S.pc) := R3.out.cell 3 (by decide); have t3 := R3.out.here)
    | (go_at_call 56; refine (jump_any b S _ rd _ _ R3.out _hrd (by omega)).mono ?_; rintro e w9 ⟨rfl, hR, hO⟩; rw [HRR.out]; have hO2 : Only b w3 w9 := hO; obtain ⟨z9, f9, s9⟩ := keepT hO2 r3 g3 z3 (by omega)))
  refine bodyPost_ret (v := .agg #[.int .u32 x0, .int .u32 x1, .int .i64 x2, .int .u32 x3, .int .i64 x4, .int .u32 x5, .int .u32 x6]) (by simp [results, Tryz.results25, go_sem, z9]) rfl ⟨rfl, ?_, ?_⟩
  · exact hR.far7 (by omega) _ _ _ _ _ _ _
  · exact ((Only.of_below q3).trans hO2).new7 (Nat.le_refl _) _ _ _ _ _ _ _
end Go.Proofs.YtengofkjlgajlaaGreatDoor
/-
  THE ANSWER's HART: Do, whole.
-/
namespace Go.Proofs.YtengofkjlgajlaaGreatDoor
open Go Go.RowKit
/-- a row that tells what an instruction did -/
def IsRet (R : Value) : Prop := ∃ a b c d e f g : Int, R = .agg #[.int .u32 a, .int .u32 b, .int .i64 c, .int .u32 d, .int .i64 e, .int .u32 f, .int .u32 g]
theorem doneR_is (S : HS) (word : Int) (r : Nat) (v next : Int) : IsRet (S.doneR word r v next) := ⟨_, _, _, _, _, _, _, rfl⟩
theorem trapR_is (S : HS) (word cause tval : Int) : IsRet (S.trapR word cause tval) := ⟨_, _, _, _, _, _, _, rfl⟩
theorem jumpR_is (S : HS) (word : Int) (r : Nat) (to : Int) : IsRet (S.jumpR word r to) := by
  unfold HS.jumpR
  split
  · exact doneR_is _ _ _ _ _
  · exact trapR_is _ _ _ _
theorem csrR_is (S : HS) (word op : Int) (rd rs1 : Nat) (imm a : Int) : IsRet (S.csrR word op rd rs1 imm a) := by
  unfold HS.csrR
  split
  · exact trapR_is _ _ _ _
  · split
    · exact doneR_is _ _ _ _ _
    · exact doneR_is _ _ _ _ _
theorem sysR_is (S : HS) (word op : Int) (rd rs1 : Nat) (imm a : Int) : IsRet (S.sysR word op rd rs1 imm a) := by
  unfold HS.sysR
  repeat' split
  all_goals first | exact trapR_is _ _ _ _ | exact doneR_is _ _ _ _ _ | exact csrR_is _ _ _ _ _ _ _
theorem memR_is (S : HS) (word op : Int) (rd rs1 : Nat) (imm v : Int) (held : Bool) : IsRet (S.memR word op rd rs1 imm v held) := by
  unfold HS.memR
  repeat' split
  all_goals first | exact trapR_is _ _ _ _ | exact doneR_is _ _ _ _ _
/-- where a jump goes -/
def HS.jumpTo (S : HS) (d : Dec) : Int := if d.op = 4 then (S.regs d.rs1 + d.imm) % 4294967296 / 2 * 2 else (S.pc + d.imm) % 4294967296
/-- what an instruction tells, by its class -/
def HS.instrR (S : HS) (d : Dec) (word v : Int) (held : Bool) : Value :=
  if clR d.op = 0 ∨ clR d.op = 1 then S.doneR word d.rd (S.compI d.op d.imm (S.regs d.rs1) (S.regs d.rs2)) (S.pc + 4)
  else if clR d.op = 2 then (if tkI d.op (S.regs d.rs1) (S.regs d.rs2) then S.jumpR word 0 ((S.pc + d.imm % 4294967296) % 4294967296) else S.doneR word 0 0 (S.pc + 4))
  else if clR d.op = 3 then S.jumpR word d.rd (S.jumpTo d)
  else if clR d.op = 7 then S.sysR word d.op d.rd d.rs1 d.imm (S.regs d.rs1)
  else S.memR word d.op d.rd d.rs1 d.imm v held
/-- what it leaves -/
def HS.instrS (S : HS) (d : Dec) (word v : Int) (held : Bool) : HS :=
  if clR d.op = 0 ∨ clR d.op = 1 then S.done d.rd (rvI d.rd (S.compI d.op d.imm (S.regs d.rs1) (S.regs d.rs2))) (S.pc + 4)
  else if clR d.op = 2 then (if tkI d.op (S.regs d.rs1) (S.regs d.rs2) then S.jumped 0 ((S.pc + d.imm % 4294967296) % 4294967296) else S.done 0 (rvI 0 0) (S.pc + 4))
  else if clR d.op = 3 then S.jumped d.rd (S.jumpTo d)
  else if clR d.op = 7 then S.sysS word d.op d.rd d.rs1 d.imm (S.regs d.rs1)
  else S.memS d.op d.rd d.rs1 d.imm v held
/-- Do: what is told, what is left -/
def HS.doR (S : HS) (D : Int → Dec) (n : Nat) (f : Nat → Int) (v : Int) (held : Bool) : Value :=
  if S.halted then S.idleR else if S.pc / 4 < n then (if (S.fetchD D n f).ok then S.instrR (S.fetchD D n f) (S.fetchW n f) v held else S.trapR (S.fetchW n f) 2 (S.fetchW n f)) else S.trapR 0 1 S.pc
def HS.doS (S : HS) (D : Int → Dec) (n : Nat) (f : Nat → Int) (v : Int) (held : Bool) : HS :=
  if S.halted then S else if S.pc / 4 < n then (if (S.fetchD D n f).ok then S.instrS (S.fetchD D n f) (S.fetchW n f) v held else S.trapped 2 (S.fetchW n f)) else S.trapped 1 S.pc
theorem cls_all : ((List.range 67).all fun i => (classR (letAt i) (codeRAt i) (gRAt i) == 0 || classR (letAt i) (codeRAt i) (gRAt i) == 1 || classR (letAt i) (codeRAt i) (gRAt i) == 2 || (classR (letAt i) (codeRAt i) (gRAt i) == 3 && (i == 2 || i == 3)) || (classR (letAt i) (codeRAt i) (gRAt i) == 7 && decide (56 ≤ i)) || szN (i + 1) != 0)) = true := by kernel_rfl
theorem cls_cases (i : Nat) (hi : i < 67) : clR ((i : Int) + 1) = 0 ∨ clR ((i : Int) + 1) = 1 ∨ clR ((i : Int) + 1) = 2 ∨ (clR ((i : Int) + 1) = 3 ∧ (i = 2 ∨ i = 3)) ∨ (clR ((i : Int) + 1) = 7 ∧ 56 ≤ i) ∨ szI ((i : Int) + 1) ≠ 0 := by
  have h := List.all_eq_true.1 cls_all i (List.mem_range.2 hi)
  have e : clR ((i : Int) + 1) = classR (letAt i) (codeRAt i) (gRAt i) := by
    unfold clR
    rw [if_pos (by omega), show ((i : Int) + 1 - 1).toNat = i by omega]
  have e2 : szI ((i : Int) + 1) = szN (i + 1) := by
    unfold szI
    rw [if_pos (by omega)]
    rfl
  rw [e, e2]
  simp only [Bool.or_eq_true, Bool.and_eq_true, beq_iff_eq, bne_iff_ne, decide_eq_true_eq] at h
  omega
theorem mem_all : ((List.range 67).all fun i => (szN (i + 1) == 0 || classR (letAt i) (codeRAt i) (gRAt i) == 4 || classR (letAt i) (codeRAt i) (gRAt i) == 5 || classR (letAt i) (codeRAt i) (gRAt i) == 6)) = true := by kernel_rfl
theorem mem_cls (i : Nat) (hi : i < 67) (hz : szI ((i : Int) + 1) ≠ 0) : clR ((i : Int) + 1) = 4 ∨ clR ((i : Int) + 1) = 5 ∨ clR ((i : Int) + 1) = 6 := by
  have h := List.all_eq_true.1 mem_all i (List.mem_range.2 hi)
  have e : clR ((i : Int) + 1) = classR (letAt i) (codeRAt i) (gRAt i) := by
    unfold clR
    rw [if_pos (by omega), show ((i : Int) + 1 - 1).toNat = i by omega]
  have e2 : szI ((i : Int) + 1) = szN (i + 1) := by
    unfold szI
    rw [if_pos (by omega)]
    rfl
  rw [e2] at hz
  rw [e]
  simp only [Bool.or_eq_true, beq_iff_eq] at h
  omega
theorem do_any {D : Int → Dec} (HD : DecOk D) (b : Nat) (S : HS) (cb co n cp : Nat) (f : Nat → Int) (w : World) (h : RH w b S) (hc : S.code = .slice (some ⟨cb, co, none⟩) n cp) (hC : CodeAt w cb co n f) (hn : n ≤ 4096) (v : Int) (held : Bool) (hS : S.Ok) (hv : U32 v) : Calls Tryz.prog 25 #[.pointer (some ⟨b, 0, none⟩), .int .u32 v, .bool held] w fun e w' => e = .returned (S.doR D n f v held) ∧ RH w' b (S.doS D n f v held) ∧ Only b w w' := by
  unfold HS.doR HS.doS
  by_cases hh : S.halted = true
  · rw [if_pos hh, if_pos hh]
    exact do_halted b S v held w h hh
  have hh' : S.halted = false := by simpa using hh
  rw [if_neg hh, if_neg hh]
  by_cases hk' : ¬ S.pc / 4 < n
  · rw [if_neg hk', if_neg hk']
    exact do_nocode HD b S cb co n cp f w h hS.pc hc hC hn v held hh' hk'
  have hk : S.pc / 4 < n := Decidable.not_not.1 hk'
  clear hk'
  rw [if_pos hk, if_pos hk]
  have hg := fetch_good HD S n f hC.word hS.pc
  by_cases hno : ¬ (S.fetchD D n f).ok = true
  · rw [if_neg hno, if_neg hno]
    exact do_illegal HD b S cb co n cp f w h hS.pc hc hC hn v held hh' hk _ rfl (by simpa using hno) _ rfl
  have hok : (S.fetchD D n f).ok = true := Decidable.not_not.1 hno
  clear hno
  rw [if_pos hok, if_pos hok]
  obtain ⟨g1, g2, g3, g4, g5⟩ := hg hok
  generalize hd : S.fetchD D n f = d at *
  generalize hw : S.fetchW n f = word
  obtain ⟨op, rd, rs1, rs2, imm, ok⟩ := d
  simp only at hok g1 g2 g3 g4 g5
  subst hok
  obtain ⟨i, rfl⟩ : ∃ i, op = i + 1 := ⟨op - 1, by omega⟩
  have hi : i < 67 := by omega
  have e0 : ((i + 1 : Nat) : Int) = (i : Int) + 1 := by omega
  unfold HS.instrR HS.instrS
  simp only [e0]
  rcases cls_cases i hi with c | c | c | ⟨c, hj⟩ | ⟨c, h56⟩ | hz
  · have hp : clR ((i : Int) + 1) = 0 ∨ clR ((i : Int) + 1) = 1 := Or.inl c
    rw [if_pos hp, if_pos hp]
    exact do_alu0 HD b S cb co n cp f w h hS.pc hc hC hn v held hh' hk i rd rs1 rs2 imm hd word hw hi g3 g4 g5 hS hv c
  · have hp : clR ((i : Int) + 1) = 0 ∨ clR ((i : Int) + 1) = 1 := Or.inr c
    rw [if_pos hp, if_pos hp]
    exact do_alu1 HD b S cb co n cp f w h hS.pc hc hC hn v held hh' hk i rd rs1 rs2 imm hd word hw hi g3 g4 g5 hS hv c
  · have n0 : ¬ (clR ((i : Int) + 1) = 0 ∨ clR ((i : Int) + 1) = 1) := by rw [c]; decide
    rw [if_neg n0, if_neg n0, if_pos c, if_pos c]
    by_cases ht : tkI ((i : Int) + 1) (S.regs rs1) (S.regs rs2) = true
    · rw [if_pos ht, if_pos ht]
      obtain ⟨x0, x1, x2, x3, x4, x5, x6, hx⟩ := jumpR_is S word 0 ((S.pc + imm % 4294967296) % 4294967296)
      rw [hx]
      exact do_take HD b S cb co n cp f w h hS.pc hc hC hn v held hh' hk i rd rs1 rs2 imm hd word hw hi g3 g4 g5 hS hv c ht x0 x1 x2 x3 x4 x5 x6 hx
    · rw [if_neg ht, if_neg ht]
      exact do_stay HD b S cb co n cp f w h hS.pc hc hC hn v held hh' hk i rd rs1 rs2 imm hd word hw hi g3 g4 g5 hS hv c (by simpa using ht)
  · have n0 : ¬ (clR ((i : Int) + 1) = 0 ∨ clR ((i : Int) + 1) = 1) := by rw [c]; decide
    have n2 : ¬ clR ((i : Int) + 1) = 2 := by rw [c]; decide
    rw [if_neg n0, if_neg n0, if_neg n2, if_neg n2, if_pos c, if_pos c]
    obtain ⟨x0, x1, x2, x3, x4, x5, x6, hx⟩ := jumpR_is S word rd (S.jumpTo ⟨i + 1, rd, rs1, rs2, imm, true⟩)
    rw [hx]
    rcases hj with rfl | rfl
    · exact do_jal HD b S cb co n cp f w h hS.pc hc hC hn v held hh' hk 2 rd rs1 rs2 imm hd word hw hi g3 g4 g5 hS hv c rfl x0 x1 x2 x3 x4 x5 x6 hx
    · exact do_jalr HD b S cb co n cp f w h hS.pc hc hC hn v held hh' hk 3 rd rs1 rs2 imm hd word hw hi g3 g4 g5 hS hv c rfl x0 x1 x2 x3 x4 x5 x6 hx
  · have n0 : ¬ (clR ((i : Int) + 1) = 0 ∨ clR ((i : Int) + 1) = 1) := by rw [c]; decide
    have n2 : ¬ clR ((i : Int) + 1) = 2 := by rw [c]; decide
    have n3 : ¬ clR ((i : Int) + 1) = 3 := by rw [c]; decide
    rw [if_neg n0, if_neg n0, if_neg n2, if_neg n2, if_neg n3, if_neg n3, if_pos c, if_pos c]
    obtain ⟨x0, x1, x2, x3, x4, x5, x6, hx⟩ := sysR_is S word ((i + 1 : Nat) : Int) rd rs1 imm (S.regs rs1)
    rw [← e0, hx]
    exact do_sys HD b S cb co n cp f w h hS.pc hc hC hn v held hh' hk i rd rs1 rs2 imm hd word hw hi g3 g4 g5 hS hv c (by omega) _ hx x0 x1 x2 x3 x4 x5 x6 rfl
  · have n0 : ¬ (clR ((i : Int) + 1) = 0 ∨ clR ((i : Int) + 1) = 1) := by rcases mem_cls i hi hz with q | q | q <;> rw [q] <;> decide
    have n2 : ¬ clR ((i : Int) + 1) = 2 := by rcases mem_cls i hi hz with q | q | q <;> rw [q] <;> decide
    have n3 : ¬ clR ((i : Int) + 1) = 3 := by rcases mem_cls i hi hz with q | q | q <;> rw [q] <;> decide
    have n7 : ¬ clR ((i : Int) + 1) = 7 := by rcases mem_cls i hi hz with q | q | q <;> rw [q] <;> decide
    rw [if_neg n0, if_neg n0, if_neg n2, if_neg n2, if_neg n3, if_neg n3, if_neg n7, if_neg n7]
    obtain ⟨x0, x1, x2, x3, x4, x5, x6, hx⟩ := memR_is S word ((i : Int) + 1) rd rs1 imm v held
    rw [hx]
    exact do_mem HD b S cb co n cp f w h hS.pc hc hC hn v held hh' hk i rd rs1 rs2 imm hd word hw hi g3 g4 g5 hS hv _ rfl (by simp; omega) (by simp; omega) (by simpa using n2) (by simpa using n3) (by simpa using n7) hz x0 x1 x2 x3 x4 x5 x6 hx
end Go.Proofs.YtengofkjlgajlaaGreatDoor
/-
  A HART's NUMBERS FIT, AND GO ON TO.
-/
namespace Go.Proofs.YtengofkjlgajlaaGreatDoor
open Go Go.RowKit
theorem u32_mod (x : Int) : U32 (x % 4294967296) := ⟨Int.emod_nonneg _ (by decide), Int.emod_lt_of_pos _ (by decide)⟩
theorem u32_zero : U32 0 := by decide
theorem u32_div (a b : Int) (ha : U32 a) (hb : 0 ≤ b) : U32 (a / b) := by
  have h1 : (0 : Int) ≤ a / b := Int.ediv_nonneg ha.1 hb
  have h2 : a / b ≤ a := Int.ediv_le_self _ ha.1
  exact ⟨h1, Int.lt_of_le_of_lt h2 ha.2⟩
theorem u32_emod (a b : Int) (ha : U32 a) (hb : 0 < b) : U32 (a % b) := by
  have h1 := Int.emod_nonneg a (by omega : b ≠ 0)
  exact ⟨h1, by
    have h3 : a % b ≤ a := by
      have := Int.mul_ediv_add_emod a b
      have h4 : 0 ≤ b * (a / b) := Int.mul_nonneg (by omega) (Int.ediv_nonneg ha.1 (by omega))
      omega
    exact Int.lt_of_le_of_lt h3 ha.2⟩
theorem u32_bit (b : Bool) : U32 (bitI b) := by cases b <;> decide
theorem exN_u32 (k : Nat) (a b : Int) (ha : U32 a) (hb : U32 b) : U32 (exN k a b) := by
  unfold exN
  split
  all_goals first
    | exact u32_mod _
    | exact u32_bit _
    | exact u32_bits _ _ _
    | exact u32_zero
    | exact u32_div _ _ ha (Int.pow_nonneg (by decide))
    | (split
       · first | exact ha | decide
       · first | exact u32_mod _ | exact u32_div _ _ ha hb.1 | exact u32_emod _ _ ha (by have := hb.1; omega))
theorem exI_u32 (op a b : Int) (ha : U32 a) (hb : U32 b) : U32 (exI op a b) := by
  unfold exI
  split
  · exact exN_u32 _ _ _ ha hb
  · exact u32_zero
theorem wdI_u32 (op r : Int) (hr : U32 r) : U32 (wdI op r) := by
  unfold wdI
  split
  · unfold wdN
    split
    all_goals first
      | exact u32_mod _
      | exact hr
      | exact u32_zero
      | exact u32_emod _ _ hr (by decide)
  · exact u32_zero
/-- all of a hart's numbers fit -/
structure HS.Fit (S : HS) : Prop where
  ok : S.Ok
  zero : S.regs 0 = 0
  status : U32 S.status
  enable : U32 S.enable
  vector : U32 S.vector
  scratch : U32 S.scratch
  epc : U32 S.epc
  cause : U32 S.cause
  tval : U32 S.tval
theorem Fit.done {S : HS} (h : S.Fit) (r : Nat) (v next : Int) (hv : U32 v) (hn : U32 next) : (S.done r (rvI r v) next).Fit := by
  refine ⟨⟨hn, fun i hi => ?_, h.ok.size⟩, ?_, h.status, h.enable, h.vector, h.scratch, h.epc, h.cause, h.tval⟩
  · show U32 (if i = r then rvI r v else S.regs i)
    split
    · unfold rvI
      split
      · exact u32_zero
      · exact hv
    · exact h.ok.regs i hi
  · show (if 0 = r then rvI r v else S.regs 0) = 0
    split
    · rename_i e
      rw [← e]
      rfl
    · exact h.zero
theorem Fit.trapped {S : HS} (h : S.Fit) (cause tval : Int) (ht : U32 tval) : (S.trapped cause tval).Fit := by
  unfold HS.trapped
  split
  · exact ⟨⟨h.ok.pc, h.ok.regs, h.ok.size⟩, h.zero, h.status, h.enable, h.vector, h.scratch, h.epc, h.cause, h.tval⟩
  · exact ⟨⟨h.vector, h.ok.regs, h.ok.size⟩, h.zero, u32_mod _, h.enable, h.vector, h.scratch, h.ok.pc, u32_mod _, ht⟩
theorem Fit.jumped {S : HS} (h : S.Fit) (r : Nat) (to : Int) (ht : U32 to) : (S.jumped r to).Fit := by
  unfold HS.jumped
  split
  · exact Fit.done h r _ _ (u32_mod _) ht
  · exact Fit.trapped h 0 to ht
theorem Fit.csrV {S : HS} (h : S.Fit) (n : Int) : U32 (S.csrV n) := by
  unfold HS.csrV
  repeat' split
  all_goals first | exact h.status | exact h.enable | exact h.vector | exact h.scratch | exact h.epc | exact h.cause | exact h.tval | exact u32_mod _ | exact u32_zero
theorem u32_four (v : Int) (hv : U32 v) : U32 (v - v % 4) := by have := hv.1; have := hv.2; exact ⟨by omega, by omega⟩
theorem Fit.setCsr {S : HS} (h : S.Fit) (n v : Int) (hv : U32 v) : (S.setCsr n v).Fit := by
  unfold HS.setCsr
  repeat' split
  · exact ⟨⟨h.ok.pc, h.ok.regs, h.ok.size⟩, h.zero, u32_bits .and v 136, h.enable, h.vector, h.scratch, h.epc, h.cause, h.tval⟩
  · exact ⟨⟨h.ok.pc, h.ok.regs, h.ok.size⟩, h.zero, h.status, u32_bits .and v 2048, h.vector, h.scratch, h.epc, h.cause, h.tval⟩
  · exact ⟨⟨h.ok.pc, h.ok.regs, h.ok.size⟩, h.zero, h.status, h.enable, u32_four v hv, h.scratch, h.epc, h.cause, h.tval⟩
  · exact ⟨⟨h.ok.pc, h.ok.regs, h.ok.size⟩, h.zero, h.status, h.enable, h.vector, hv, h.epc, h.cause, h.tval⟩
  · exact ⟨⟨h.ok.pc, h.ok.regs, h.ok.size⟩, h.zero, h.status, h.enable, h.vector, h.scratch, u32_four v hv, h.cause, h.tval⟩
  · exact ⟨⟨h.ok.pc, h.ok.regs, h.ok.size⟩, h.zero, h.status, h.enable, h.vector, h.scratch, h.epc, hv, h.tval⟩
  · exact ⟨⟨h.ok.pc, h.ok.regs, h.ok.size⟩, h.zero, h.status, h.enable, h.vector, h.scratch, h.epc, h.cause, hv⟩
  · exact h
theorem Fit.mret {S : HS} (h : S.Fit) : S.mretS.Fit := ⟨⟨h.ok.pc, h.ok.regs, h.ok.size⟩, h.zero, u32_bits .or (bits .and .u32 (S.status / 16) 8) 128, h.enable, h.vector, h.scratch, h.epc, h.cause, h.tval⟩
theorem Fit.csr {S : HS} (h : S.Fit) (word op : Int) (rd rs1 : Nat) (imm a : Int) (hw : U32 word) (hr : rs1 < 32) (ha : U32 a) : (S.csrS word op rd rs1 imm a).Fit := by
  have hA : U32 (sysA op rs1 a) := by
    unfold sysA
    split
    · exact ⟨by omega, by omega⟩
    · exact ha
  have hN : U32 (csrNew (sysM op) (S.csrV imm) (sysA op rs1 a)) := by
    unfold csrNew
    repeat' split
    all_goals first | exact u32_bits _ _ _ | exact hA
  unfold HS.csrS
  repeat' split
  · exact Fit.trapped h _ _ hw
  · exact Fit.done (Fit.setCsr h _ _ hN) _ _ _ (Fit.csrV h _) (u32_mod _)
  · exact Fit.done h _ _ _ (Fit.csrV h _) (u32_mod _)
theorem Fit.sys {S : HS} (h : S.Fit) (word op : Int) (rd rs1 : Nat) (imm a : Int) (hw : U32 word) (hr : rs1 < 32) (ha : U32 a) : (S.sysS word op rd rs1 imm a).Fit := by
  unfold HS.sysS
  repeat' split
  · exact Fit.trapped h _ _ u32_zero
  · exact Fit.trapped h _ _ h.ok.pc
  · exact Fit.done (Fit.mret h) 0 0 _ u32_zero h.epc
  · exact Fit.done h 0 0 _ u32_zero (u32_mod _)
  · exact Fit.csr h word op rd rs1 imm a hw hr ha
theorem Fit.mem {S : HS} (h : S.Fit) (op : Int) (rd rs1 : Nat) (imm v : Int) (held : Bool) (hr : rs1 < 32) (hv : U32 v) : (S.memS op rd rs1 imm v held).Fit := by
  have hV : U32 (memV op v held) := by
    unfold memV
    split
    · cases held <;> decide
    · exact wdI_u32 op v hv
  unfold HS.memS
  repeat' split
  · exact Fit.done h 0 0 _ u32_zero (u32_mod _)
  · exact Fit.done h rd _ _ hV (u32_mod _)
  · exact Fit.trapped h _ _ (whereI_u32 h.ok _ _ _ hr)
theorem compI_u32 {S : HS} (h : S.Ok) (op imm a b : Int) (ha : U32 a) (hb : U32 b) : U32 (S.compI op imm a b) := by
  unfold HS.compI
  repeat' split
  · exact exI_u32 _ _ _ h.pc (u32_mod _)
  · exact exI_u32 _ _ _ ha (u32_mod _)
  · exact exI_u32 _ _ _ ha hb
theorem Fit.instr {S : HS} (h : S.Fit) (d : Dec) (word v : Int) (held : Bool) (n : Nat) (hk : S.pc / 4 < n) (hn : n ≤ 4096) (hw : U32 word) (hv : U32 v) (h1 : d.rs1 < 32) (h2 : d.rs2 < 32) : (S.instrS d word v held).Fit := by
  have hp : U32 (S.pc + 4) := by have := h.ok.pc.1; exact ⟨by omega, by omega⟩
  have hj : U32 (S.jumpTo d) := by
    unfold HS.jumpTo
    split
    · obtain ⟨z1, z2⟩ := u32_mod (S.regs d.rs1 + d.imm)
      exact ⟨by omega, by omega⟩
    · exact u32_mod _
  unfold HS.instrS
  repeat' split
  · exact Fit.done h _ _ _ (compI_u32 h.ok _ _ _ _ (h.ok.regs _ h1) (h.ok.regs _ h2)) hp
  · exact Fit.jumped h _ _ (u32_mod _)
  · exact Fit.done h 0 0 _ u32_zero hp
  · exact Fit.jumped h _ _ hj
  · exact Fit.sys h _ _ _ _ _ _ hw h1 (h.ok.regs _ h1)
  · exact Fit.mem h _ _ _ _ _ _ h1 hv
theorem Fit.doS {S : HS} (h : S.Fit) {D : Int → Dec} (HD : DecOk D) (n : Nat) (f : Nat → Int) (v : Int) (held : Bool) (hf : ∀ i, i < n → U32 (f i)) (hn : n ≤ 4096) (hv : U32 v) : (S.doS D n f v held).Fit := by
  have hw : U32 (S.fetchW n f) := by
    unfold HS.fetchW
    split
    · exact hf _ (by have := h.ok.pc.1; omega)
    · exact u32_zero
  have hg := fetch_good HD S n f hf h.ok.pc
  unfold HS.doS
  repeat' split
  · exact h
  · rename_i hk hok
    exact Fit.instr h _ _ _ _ n hk hn hw hv (hg hok).2.2.2.1 (hg hok).2.2.2.2
  · exact Fit.trapped h _ _ hw
  · exact Fit.trapped h _ _ h.ok.pc
/-- what no instruction turns -/
def HS.Kept (S T : HS) : Prop := T.code = S.code ∧ T.size = S.size ∧ T.num = S.num
theorem kept_trapped (S : HS) (c t : Int) : S.Kept (S.trapped c t) := by
  unfold HS.trapped
  split
  · exact ⟨rfl, rfl, rfl⟩
  · exact ⟨rfl, rfl, rfl⟩
theorem kept_done (S : HS) (r : Nat) (v next : Int) : S.Kept (S.done r v next) := ⟨rfl, rfl, rfl⟩
theorem kept_set (S : HS) (n v : Int) : S.Kept (S.setCsr n v) := by
  unfold HS.setCsr
  repeat' split
  all_goals exact ⟨rfl, rfl, rfl⟩
theorem Kept.trans {S T U : HS} (h : S.Kept T) (k : T.Kept U) : S.Kept U := ⟨k.1.trans h.1, k.2.1.trans h.2.1, k.2.2.trans h.2.2⟩
theorem kept_jumped (S : HS) (r : Nat) (to : Int) : S.Kept (S.jumped r to) := by
  unfold HS.jumped
  split
  · exact kept_done _ _ _ _
  · exact kept_trapped _ _ _
theorem kept_csr (S : HS) (word op : Int) (rd rs1 : Nat) (imm a : Int) : S.Kept (S.csrS word op rd rs1 imm a) := by
  unfold HS.csrS
  split
  · exact kept_trapped _ _ _
  · split
    · exact Kept.trans (kept_set _ _ _) (kept_done _ _ _ _)
    · exact kept_done _ _ _ _
theorem kept_sys (S : HS) (word op : Int) (rd rs1 : Nat) (imm a : Int) : S.Kept (S.sysS word op rd rs1 imm a) := by
  unfold HS.sysS
  split
  · exact kept_trapped _ _ _
  · split
    · exact kept_trapped _ _ _
    · split
      · exact ⟨rfl, rfl, rfl⟩
      · split
        · exact kept_done _ _ _ _
        · exact kept_csr _ _ _ _ _ _ _
theorem kept_mem (S : HS) (op : Int) (rd rs1 : Nat) (imm v : Int) (held : Bool) : S.Kept (S.memS op rd rs1 imm v held) := by
  unfold HS.memS
  split
  · split
    · exact kept_done _ _ _ _
    · exact kept_done _ _ _ _
  · exact kept_trapped _ _ _
theorem kept_instr (S : HS) (d : Dec) (word v : Int) (held : Bool) : S.Kept (S.instrS d word v held) := by
  unfold HS.instrS
  split
  · exact kept_done _ _ _ _
  · split
    · split
      · exact kept_jumped _ _ _
      · exact kept_done _ _ _ _
    · split
      · exact kept_jumped _ _ _
      · split
        · exact kept_sys _ _ _ _ _ _ _
        · exact kept_mem _ _ _ _ _ _ _
theorem kept_doS (S : HS) (D : Int → Dec) (n : Nat) (f : Nat → Int) (v : Int) (held : Bool) : S.Kept (S.doS D n f v held) := by
  unfold HS.doS
  split
  · exact ⟨rfl, rfl, rfl⟩
  · split
    · split
      · exact kept_instr _ _ _ _ _
      · exact kept_trapped _ _ _
    · exact kept_trapped _ _ _
end Go.Proofs.YtengofkjlgajlaaGreatDoor
/-
  THE ANSWER's HART: how it is made.
-/
namespace Go.Proofs.YtengofkjlgajlaaGreatDoor
open Go Go.RowKit
/-- are these code and data -/
def imageB (n : Nat) (d : Int) : Bool := decide (1 ≤ n) && decide (n ≤ 4096) && decide (0 ≤ d) && decide (d ≤ 4096) && (d % 16 == 0)
set_option maxHeartbeats 1000000 in
theorem image_any (p : Option Addr) (n cp : Nat) (d : Int) (w : World) : Calls Tryz.prog 37 #[.slice p n cp, .int .i64 d] w fun e w' => e = .returned (.bool (imageB n d)) ∧ w' = w := by
  by_cases a1 : 1 ≤ n ∧ n ≤ 4096 ∧ 0 ≤ d ∧ d ≤ 4096
  · have e : imageB n d = (d % 16 == 0) := by unfold imageB; simp [a1]
    obtain ⟨b1, b2, b3, b4⟩ := a1
    have b5 : d.tmod 16 = d % 16 := Int.tmod_eq_emod_of_nonneg b3
    rw [e]
    clear e
    go_enter Tryz.func37, Tryz.ntmps37
    go_wp2
    go_ret
    exact ⟨rfl, rfl⟩
  · have e : imageB n d = false := by unfold imageB; simp; omega
    rw [e]
    clear e
    go_enter Tryz.func37, Tryz.ntmps37
    go_wp2
    all_goals
      go_ret
      exact ⟨by first | rfl | (exfalso; omega), rfl⟩
/-- a new hart -/
def newH (code : Value) (d num : Int) : HS := ⟨code, d, num, 0, fun _ => 0, false, 0, 0, 0, 0, 0, 0, 0, 0⟩
def newE (n : Nat) (d num : Int) : Int := if imageB n d then (if 0 ≤ num ∧ num < 2 then 0 else 3) else 1
theorem new_fit (code : Value) (d num : Int) (h : 0 ≤ d ∧ d ≤ 4096) : (newH code d num).Fit :=
  ⟨⟨by show U32 0; decide, fun _ _ => by show U32 0; decide, h⟩, rfl, by show U32 0; decide, by show U32 0; decide, by show U32 0; decide, by show U32 0; decide, by show U32 0; decide, by show U32 0; decide, by show U32 0; decide⟩
set_option maxHeartbeats 1000000 in
theorem new_bad (p : Option Addr) (n cp : Nat) (d num : Int) (w : World) (h : newE n d num ≠ 0) : Calls Tryz.prog 19 #[.slice p n cp, .int .i64 d, .int .i64 num] w fun e w' => e = .returned (.tuple #[.pointer none, .int .i64 (newE n d num)]) ∧ w' = w := by
  unfold newE at h ⊢
  by_cases hi : imageB n d = true
  · rw [if_pos hi] at h ⊢
    by_cases hn : 0 ≤ num ∧ num < 2
    · rw [if_pos hn] at h
      exact absurd rfl h
    · rw [if_neg hn]
      have HI : Hid (imageB n d = true) := hi
      clear hi h
      go_enter Tryz.func19, Tryz.ntmps19
      go_wp2_with (first | (go_at_call 37; refine (image_any _ _ _ _ _).mono ?_; rintro e w1 ⟨rfl, rfl⟩; rw [HI.out]))
      all_goals first
        | (exfalso; omega)
        | exact bodyPost_ret (by simp [results, Tryz.results19, go_sem]) rfl ⟨rfl, rfl⟩
  · have hi' : imageB n d = false := by simpa using hi
    rw [if_neg hi]
    have HI : Hid (imageB n d = false) := hi'
    clear hi hi' h
    go_enter Tryz.func19, Tryz.ntmps19
    go_wp2_with (first | (go_at_call 37; refine (image_any _ _ _ _ _).mono ?_; rintro e w1 ⟨rfl, rfl⟩; rw [HI.out]))
    exact bodyPost_ret (by simp [results, Tryz.results19, go_sem]) rfl ⟨rfl, rfl⟩
theorem cells_new {n : Nat} {c : Array Value} {t : TypeId} {g : Nat → Value} (w : World) (h : ∀ i, i < n → c[i]? = some (g i)) : CellsAt n (w.alloc (.cells c t)) w.heap.size g :=
  ⟨by simp, fun i hi => (World.cell?_alloc_new w c t i).trans (h i hi), fun i => World.frozen?_alloc_at c t _ i rfl⟩
theorem new_cells (p : Option Addr) (n cp : Nat) (d num : Int) : ∀ i, i < 45 → (#[.slice p n cp, .int .i64 d, .int .i64 num, .int .u32 0, .int .u32 0, .int .u32 0, .int .u32 0, .int .u32 0, .int .u32 0, .int .u32 0, .int .u32 0, .int .u32 0, .int .u32 0, .int .u32 0, .int .u32 0, .int .u32 0, .int .u32 0, .int .u32 0, .int .u32 0, .int .u32 0, .int .u32 0, .int .u32 0, .int .u32 0, .int .u32 0, .int .u32 0, .int .u32 0, .int .u32 0, .int .u32 0, .int .u32 0, .int .u32 0, .int .u32 0, .int .u32 0, .int .u32 0, .int .u32 0, .int .u32 0, .int .u32 0, .bool false, .int .i64 0, .int .u32 0, .int .u32 0, .int .u32 0, .int .u32 0, .int .u32 0, .int .u32 0, .int .u32 0] : Array Value)[i]? = some ((newH (.slice p n cp) d num).enc i) := fun i hi =>
  range_of 45 (fun i => (#[.slice p n cp, .int .i64 d, .int .i64 num, .int .u32 0, .int .u32 0, .int .u32 0, .int .u32 0, .int .u32 0, .int .u32 0, .int .u32 0, .int .u32 0, .int .u32 0, .int .u32 0, .int .u32 0, .int .u32 0, .int .u32 0, .int .u32 0, .int .u32 0, .int .u32 0, .int .u32 0, .int .u32 0, .int .u32 0, .int .u32 0, .int .u32 0, .int .u32 0, .int .u32 0, .int .u32 0, .int .u32 0, .int .u32 0, .int .u32 0, .int .u32 0, .int .u32 0, .int .u32 0, .int .u32 0, .int .u32 0, .int .u32 0, .bool false, .int .i64 0, .int .u32 0, .int .u32 0, .int .u32 0, .int .u32 0, .int .u32 0, .int .u32 0, .int .u32 0] : Array Value)[i]?) (fun i => some ((newH (.slice p n cp) d num).enc i)) (by kernel_rfl) i hi
set_option maxRecDepth 100000 in
set_option maxHeartbeats 1000000 in
theorem new_good (p : Option Addr) (n cp : Nat) (d num : Int) (w : World) (h : newE n d num = 0) : Calls Tryz.prog 19 #[.slice p n cp, .int .i64 d, .int .i64 num] w fun e w' => e = .returned (.tuple #[.pointer (some ⟨w.heap.size, 0, none⟩), .int .i64 0]) ∧ RH w' w.heap.size (newH (.slice p n cp) d num) ∧ Below w.heap.size w w' := by
  unfold newE at h
  by_cases hi : imageB n d = true
  · rw [if_pos hi] at h
    by_cases hn : 0 ≤ num ∧ num < 2
    · have HI : Hid (imageB n d = true) := hi
      clear hi h
      go_enter Tryz.func19, Tryz.ntmps19
      go_wp2_with (first | (go_at_call 37; refine (image_any _ _ _ _ _).mono ?_; rintro e w1 ⟨rfl, rfl⟩; rw [HI.out]))
      refine bodyPost_ret (v := .tuple #[.pointer (some ⟨_, 0, none⟩), .int .i64 0]) (by simp [results, Tryz.results19, go_sem]) rfl ⟨rfl, ?_, ?_⟩
      · exact cells_new _ (new_cells p n cp d num)
      · exact (Below.refl _ _).alloc (Nat.le_refl _) _
    · rw [if_neg hn] at h
      exact absurd h (by decide)
  · rw [if_neg hi] at h
    exact absurd h (by decide)
end Go.Proofs.YtengofkjlgajlaaGreatDoor
