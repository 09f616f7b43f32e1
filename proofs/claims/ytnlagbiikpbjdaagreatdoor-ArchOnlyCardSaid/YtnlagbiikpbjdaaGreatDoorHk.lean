/-
  THE ANSWER's HART: control registers are written.
-/
import Derived.Test.YtnlagbiikpbjdaaGreatDoorHj
namespace Go.Proofs.YtnlagbiikpbjdaaGreatDoor
open Go Go.RowKit
set_option maxRecDepth 100000 in
set_option maxHeartbeats 4000000 in
theorem sys_65_put (b : Nat) (S : HS) (rd rs1 : Nat) (rs2 imm word a : Int) (w : World) (h : RH w b S) (hrd : rd < 32) (hrs : rs1 < 32) (v : Int) (hV : S.csrV imm = v) (ht : csrB imm = true) (h10 : (imm / 1024 == 3) = false) : Calls Tryz.prog 67 #[.pointer (some ⟨b, 0, none⟩), .agg #[.int .i64 65, .int .i64 rd, .int .i64 rs1, .int .i64 rs2, .int .i64 imm], .int .u32 word, .int .u32 a] w fun e w' => e = .returned ((S.setCsr imm ((rs1 : Int))).doneR word rd v ((S.pc + 4) % 4294967296)) ∧ RH w' b ((S.setCsr imm ((rs1 : Int))).done rd (rvI rd v) ((S.pc + 4) % 4294967296)) ∧ Only b w w' := by
  have HN : Hid (nameAt 64 = ⟨#[99, 115, 114, 114, 119, 105]⟩ ∧ letAt 64 = 68 ∧ fRAt 64 = 5) := ⟨by kernel_rfl, by kernel_rfl, by kernel_rfl⟩
  have h3 := h.here
  have HH : Hid (RH w b S) := h
  clear h
  have HV : Hid (S.csrV imm = v) := hV
  have HT : Hid (csrB imm = true) := ht
  have hA : Hid (U32 (rs1 : Int)) := ⟨by omega, by omega⟩
  clear hV ht
  go_enter Tryz.func67, Tryz.ntmps67
  go_wp2_with (first
    | (go_at_call 61; refine (rows_made _).mono ?_; rintro e w1 ⟨rfl, hR, hb1, hz⟩; have q0 := hR.r0 64 (by decide); have q1 := hR.r1 64 (by decide); have q2 := hR.r2 64 (by decide); have q3 := hR.r3 64 (by decide); have q4 := hR.r4 64 (by decide); rw [World.size_alloc, World.size_alloc, HN.out.1] at q0; rw [World.size_alloc, World.size_alloc, HN.out.2.1] at q1; rw [World.size_alloc, World.size_alloc] at q2 q4; rw [World.size_alloc, World.size_alloc, HN.out.2.2] at q3; have hh := hR.here; rw [World.size_alloc, World.size_alloc] at hh; clear hR hz; have HB1 := Hid.in (hb1); obtain ⟨i1, z1, f1, s1, o1⟩ := keep2f HB1.out; have R1 := Hid.in (HH.out.below o1); have p1 : w1.cell? ⟨b, 3, none⟩ = some (.int .u32 S.pc) := R1.out.cell 3 (by decide); have e1 : w1.cell? ⟨b, 42, none⟩ = some (.int .u32 S.epc) := R1.out.cell 42 (by decide); have a1 : w1.cell? ⟨b, 38, none⟩ = some (.int .u32 S.status) := R1.out.cell 38 (by decide); have t1 := R1.out.here; have v1 : w.heap.size < w1.heap.size := Nat.lt_of_succ_lt s1; have y1 := R1.out.free; clear hb1)
    | (go_at_call 36; refine (csr_any b S _ _ (R1.out.alloc _)).mono ?_; rintro e w2 ⟨rfl, rfl⟩; rw [HV.out, HT.out])
    | (go_at_call 96; refine (set_any b S _ _ _ (CellsAt.alloc R1.out _) (hA.out)).mono ?_; rintro e w3 ⟨rfl, hR3, hO3⟩; have hO4 : Only b w1 w3 := ((Only.refl b w1).alloc _).trans hO3; have i3 := keepC hO4 i1 v1 (by omega); obtain ⟨z3, f3, s3⟩ := keepT hO4 z1 f1 s1 (by omega); have R3 := Hid.in hR3; have H4 := Hid.in hO4; have p3 : w3.cell? ⟨b, 3, none⟩ = some (.int .u32 S.pc) := (hR3.cell 3 (by decide)).trans (by show some (Value.int .u32 (S.setCsr _ _).pc) = _; rw [setCsr_pc]); have t3 := hR3.here; have v3 := Nat.lt_of_succ_lt s3; clear hR3 hO3 hO4))
  go_region_with ((go_at_call 64; refine (done_any b (S.setCsr imm ((rs1 : Int))) _ rd _ _ _ (by first | exact CellsAt.drew R3.out | exact R3.out) hrd).mono ?_; rintro e w9 ⟨rfl, hR, hO⟩; have hO2 : Only b w3 w9 := Only.trans (by first | exact (Only.refl b w3).drew | exact Only.refl b w3) hO; obtain ⟨z9, f9, s9⟩ := keepT hO2 z3 f3 s3 (by omega); unfold HS.doneR))
  all_goals
    try go_wp2
    refine bodyPost_ret (v := (S.setCsr imm ((rs1 : Int))).doneR word rd v ((S.pc + 4) % 4294967296)) (by simp [results, Tryz.results67, go_sem, z9, HS.doneR, IntKind.wrap_u32]) rfl ⟨rfl, ?_, ?_⟩
    · exact CellsAt.far7 (by first | exact hR | (rw [IntKind.wrap_u32] at hR; exact hR)) (by omega) _ _ _ _ _ _ _
    · exact ((Only.of_below o1).trans (H4.out.trans hO2)).new7 (by omega) _ _ _ _ _ _ _
set_option maxRecDepth 100000 in
set_option maxHeartbeats 4000000 in
theorem sys_66_put (b : Nat) (S : HS) (rd rs1 : Nat) (rs2 imm word a : Int) (w : World) (h : RH w b S) (hrd : rd < 32) (hrs : rs1 < 32) (v : Int) (hV : S.csrV imm = v) (ht : csrB imm = true) (h0 : ((rs1 : Int) != 0) = true) (h10 : (imm / 1024 == 3) = false) : Calls Tryz.prog 67 #[.pointer (some ⟨b, 0, none⟩), .agg #[.int .i64 66, .int .i64 rd, .int .i64 rs1, .int .i64 rs2, .int .i64 imm], .int .u32 word, .int .u32 a] w fun e w' => e = .returned ((S.setCsr imm (bits .or .u32 v (rs1 : Int))).doneR word rd v ((S.pc + 4) % 4294967296)) ∧ RH w' b ((S.setCsr imm (bits .or .u32 v (rs1 : Int))).done rd (rvI rd v) ((S.pc + 4) % 4294967296)) ∧ Only b w w' := by
  have HN : Hid (nameAt 65 = ⟨#[99, 115, 114, 114, 115, 105]⟩ ∧ letAt 65 = 68 ∧ fRAt 65 = 6) := ⟨by kernel_rfl, by kernel_rfl, by kernel_rfl⟩
  have h3 := h.here
  have HH : Hid (RH w b S) := h
  clear h
  have HV : Hid (S.csrV imm = v) := hV
  have HT : Hid (csrB imm = true) := ht
  clear hV ht
  go_enter Tryz.func67, Tryz.ntmps67
  go_wp2_with (first
    | (go_at_call 61; refine (rows_made _).mono ?_; rintro e w1 ⟨rfl, hR, hb1, hz⟩; have q0 := hR.r0 65 (by decide); have q1 := hR.r1 65 (by decide); have q2 := hR.r2 65 (by decide); have q3 := hR.r3 65 (by decide); have q4 := hR.r4 65 (by decide); rw [World.size_alloc, World.size_alloc, HN.out.1] at q0; rw [World.size_alloc, World.size_alloc, HN.out.2.1] at q1; rw [World.size_alloc, World.size_alloc] at q2 q4; rw [World.size_alloc, World.size_alloc, HN.out.2.2] at q3; have hh := hR.here; rw [World.size_alloc, World.size_alloc] at hh; clear hR hz; have HB1 := Hid.in (hb1); obtain ⟨i1, z1, f1, s1, o1⟩ := keep2f HB1.out; have R1 := Hid.in (HH.out.below o1); have p1 : w1.cell? ⟨b, 3, none⟩ = some (.int .u32 S.pc) := R1.out.cell 3 (by decide); have e1 : w1.cell? ⟨b, 42, none⟩ = some (.int .u32 S.epc) := R1.out.cell 42 (by decide); have a1 : w1.cell? ⟨b, 38, none⟩ = some (.int .u32 S.status) := R1.out.cell 38 (by decide); have t1 := R1.out.here; have v1 : w.heap.size < w1.heap.size := Nat.lt_of_succ_lt s1; have y1 := R1.out.free; clear hb1)
    | (go_at_call 36; refine (csr_any b S _ _ (R1.out.alloc _)).mono ?_; rintro e w2 ⟨rfl, rfl⟩; rw [HV.out, HT.out])
    | (go_at_call 96; refine (set_any b S _ _ _ (CellsAt.alloc R1.out _) (u32_bits _ _ _)).mono ?_; rintro e w3 ⟨rfl, hR3, hO3⟩; have hO4 : Only b w1 w3 := ((Only.refl b w1).alloc _).trans hO3; have i3 := keepC hO4 i1 v1 (by omega); obtain ⟨z3, f3, s3⟩ := keepT hO4 z1 f1 s1 (by omega); have R3 := Hid.in hR3; have H4 := Hid.in hO4; have p3 : w3.cell? ⟨b, 3, none⟩ = some (.int .u32 S.pc) := (hR3.cell 3 (by decide)).trans (by show some (Value.int .u32 (S.setCsr _ _).pc) = _; rw [setCsr_pc]); have t3 := hR3.here; have v3 := Nat.lt_of_succ_lt s3; clear hR3 hO3 hO4))
  go_region_with ((go_at_call 64; refine (done_any b (S.setCsr imm (bits .or .u32 v (rs1 : Int))) _ rd _ _ _ (by first | exact CellsAt.drew R3.out | exact R3.out) hrd).mono ?_; rintro e w9 ⟨rfl, hR, hO⟩; have hO2 : Only b w3 w9 := Only.trans (by first | exact (Only.refl b w3).drew | exact Only.refl b w3) hO; obtain ⟨z9, f9, s9⟩ := keepT hO2 z3 f3 s3 (by omega); unfold HS.doneR))
  all_goals
    try go_wp2
    refine bodyPost_ret (v := (S.setCsr imm (bits .or .u32 v (rs1 : Int))).doneR word rd v ((S.pc + 4) % 4294967296)) (by simp [results, Tryz.results67, go_sem, z9, HS.doneR, IntKind.wrap_u32]) rfl ⟨rfl, ?_, ?_⟩
    · exact CellsAt.far7 (by first | exact hR | (rw [IntKind.wrap_u32] at hR; exact hR)) (by omega) _ _ _ _ _ _ _
    · exact ((Only.of_below o1).trans (H4.out.trans hO2)).new7 (by omega) _ _ _ _ _ _ _
set_option maxRecDepth 100000 in
set_option maxHeartbeats 4000000 in
theorem sys_67_put (b : Nat) (S : HS) (rd rs1 : Nat) (rs2 imm word a : Int) (w : World) (h : RH w b S) (hrd : rd < 32) (hrs : rs1 < 32) (v : Int) (hV : S.csrV imm = v) (ht : csrB imm = true) (h0 : ((rs1 : Int) != 0) = true) (h10 : (imm / 1024 == 3) = false) : Calls Tryz.prog 67 #[.pointer (some ⟨b, 0, none⟩), .agg #[.int .i64 67, .int .i64 rd, .int .i64 rs1, .int .i64 rs2, .int .i64 imm], .int .u32 word, .int .u32 a] w fun e w' => e = .returned ((S.setCsr imm (bits .andNot .u32 v (rs1 : Int))).doneR word rd v ((S.pc + 4) % 4294967296)) ∧ RH w' b ((S.setCsr imm (bits .andNot .u32 v (rs1 : Int))).done rd (rvI rd v) ((S.pc + 4) % 4294967296)) ∧ Only b w w' := by
  have HN : Hid (nameAt 66 = ⟨#[99, 115, 114, 114, 99, 105]⟩ ∧ letAt 66 = 68 ∧ fRAt 66 = 7) := ⟨by kernel_rfl, by kernel_rfl, by kernel_rfl⟩
  have h3 := h.here
  have HH : Hid (RH w b S) := h
  clear h
  have HV : Hid (S.csrV imm = v) := hV
  have HT : Hid (csrB imm = true) := ht
  clear hV ht
  go_enter Tryz.func67, Tryz.ntmps67
  go_wp2_with (first
    | (go_at_call 61; refine (rows_made _).mono ?_; rintro e w1 ⟨rfl, hR, hb1, hz⟩; have q0 := hR.r0 66 (by decide); have q1 := hR.r1 66 (by decide); have q2 := hR.r2 66 (by decide); have q3 := hR.r3 66 (by decide); have q4 := hR.r4 66 (by decide); rw [World.size_alloc, World.size_alloc, HN.out.1] at q0; rw [World.size_alloc, World.size_alloc, HN.out.2.1] at q1; rw [World.size_alloc, World.size_alloc] at q2 q4; rw [World.size_alloc, World.size_alloc, HN.out.2.2] at q3; have hh := hR.here; rw [World.size_alloc, World.size_alloc] at hh; clear hR hz; have HB1 := Hid.in (hb1); obtain ⟨i1, z1, f1, s1, o1⟩ := keep2f HB1.out; have R1 := Hid.in (HH.out.below o1); have p1 : w1.cell? ⟨b, 3, none⟩ = some (.int .u32 S.pc) := R1.out.cell 3 (by decide); have e1 : w1.cell? ⟨b, 42, none⟩ = some (.int .u32 S.epc) := R1.out.cell 42 (by decide); have a1 : w1.cell? ⟨b, 38, none⟩ = some (.int .u32 S.status) := R1.out.cell 38 (by decide); have t1 := R1.out.here; have v1 : w.heap.size < w1.heap.size := Nat.lt_of_succ_lt s1; have y1 := R1.out.free; clear hb1)
    | (go_at_call 36; refine (csr_any b S _ _ (R1.out.alloc _)).mono ?_; rintro e w2 ⟨rfl, rfl⟩; rw [HV.out, HT.out])
    | (go_at_call 96; refine (set_any b S _ _ _ (CellsAt.alloc R1.out _) (u32_bits _ _ _)).mono ?_; rintro e w3 ⟨rfl, hR3, hO3⟩; have hO4 : Only b w1 w3 := ((Only.refl b w1).alloc _).trans hO3; have i3 := keepC hO4 i1 v1 (by omega); obtain ⟨z3, f3, s3⟩ := keepT hO4 z1 f1 s1 (by omega); have R3 := Hid.in hR3; have H4 := Hid.in hO4; have p3 : w3.cell? ⟨b, 3, none⟩ = some (.int .u32 S.pc) := (hR3.cell 3 (by decide)).trans (by show some (Value.int .u32 (S.setCsr _ _).pc) = _; rw [setCsr_pc]); have t3 := hR3.here; have v3 := Nat.lt_of_succ_lt s3; clear hR3 hO3 hO4))
  go_region_with ((go_at_call 64; refine (done_any b (S.setCsr imm (bits .andNot .u32 v (rs1 : Int))) _ rd _ _ _ (by first | exact CellsAt.drew R3.out | exact R3.out) hrd).mono ?_; rintro e w9 ⟨rfl, hR, hO⟩; have hO2 : Only b w3 w9 := Only.trans (by first | exact (Only.refl b w3).drew | exact Only.refl b w3) hO; obtain ⟨z9, f9, s9⟩ := keepT hO2 z3 f3 s3 (by omega); unfold HS.doneR))
  all_goals
    try go_wp2
    refine bodyPost_ret (v := (S.setCsr imm (bits .andNot .u32 v (rs1 : Int))).doneR word rd v ((S.pc + 4) % 4294967296)) (by simp [results, Tryz.results67, go_sem, z9, HS.doneR, IntKind.wrap_u32]) rfl ⟨rfl, ?_, ?_⟩
    · exact CellsAt.far7 (by first | exact hR | (rw [IntKind.wrap_u32] at hR; exact hR)) (by omega) _ _ _ _ _ _ _
    · exact ((Only.of_below o1).trans (H4.out.trans hO2)).new7 (by omega) _ _ _ _ _ _ _
end Go.Proofs.YtnlagbiikpbjdaaGreatDoor
