/-
  THE ANSWER's HART: control registers are read and written.
-/
import Derived.Test.YtengofkjlgajlaaGreatDoorGh3
namespace Go.Proofs.YtengofkjlgajlaaGreatDoor
open Go Go.RowKit
theorem u32_bits (o : BinOp) (x y : Int) : U32 (bits o .u32 x y) := ⟨bits_lo_u32 o x y, by have := bits_hi_u32 o x y; omega⟩
set_option maxRecDepth 100000 in
set_option maxHeartbeats 4000000 in
theorem sys_63_keep (b : Nat) (S : HS) (rd rs1 : Nat) (rs2 imm word a : Int) (w : World) (h : RH w b S) (hrd : rd < 32) (v : Int) (hV : S.csrV imm = v) (ht : csrB imm = true) (h0 : ((rs1 : Int) != 0) = false) : Calls Tryz.prog 58 #[.pointer (some ⟨b, 0, none⟩), .agg #[.int .i64 63, .int .i64 rd, .int .i64 rs1, .int .i64 rs2, .int .i64 imm], .int .u32 word, .int .u32 a] w fun e w' => e = .returned (S.doneR word rd v ((S.pc + 4) % 4294967296)) ∧ RH w' b (S.done rd (rvI rd v) ((S.pc + 4) % 4294967296)) ∧ Only b w w' := by
  have HN : Hid (nameAt 62 = ⟨#[99, 115, 114, 114, 115]⟩ ∧ letAt 62 = 67 ∧ fRAt 62 = 2) := ⟨by kernel_rfl, by kernel_rfl, by kernel_rfl⟩
  have h3 := h.here
  have HH : Hid (RH w b S) := h
  clear h
  have HV : Hid (S.csrV imm = v) := hV
  have HT : Hid (csrB imm = true) := ht
  clear hV ht
  go_enter Tryz.func58, Tryz.ntmps58
  go_wp2_with (first
    | (go_at_call 57; refine (rows_made _).mono ?_; rintro e w1 ⟨rfl, hR, hb1, hz⟩; have q0 := hR.r0 62 (by decide); have q1 := hR.r1 62 (by decide); have q2 := hR.r2 62 (by decide); have q3 := hR.r3 62 (by decide); have q4 := hR.r4 62 (by decide); rw [World.size_alloc, World.size_alloc, HN.out.1] at q0; rw [World.size_alloc, World.size_alloc, HN.out.2.1] at q1; rw [World.size_alloc, World.size_alloc] at q2 q4; rw [World.size_alloc, World.size_alloc, HN.out.2.2] at q3; have hh := hR.here; rw [World.size_alloc, World.size_alloc] at hh; clear hR hz; have HB1 := Hid.in (hb1); obtain ⟨i1, z1, f1, s1, o1⟩ := keep2f HB1.out; have R1 := Hid.in (HH.out.below o1); have p1 : w1.cell? ⟨b, 3, none⟩ = some (.int .u32 S.pc) := R1.out.cell 3 (by decide); have e1 : w1.cell? ⟨b, 42, none⟩ = some (.int .u32 S.epc) := R1.out.cell 42 (by decide); have a1 : w1.cell? ⟨b, 38, none⟩ = some (.int .u32 S.status) := R1.out.cell 38 (by decide); have t1 := R1.out.here; have v1 : w.heap.size < w1.heap.size := Nat.lt_of_succ_lt s1; have y1 := R1.out.free; clear hb1)
    | (go_at_call 36; refine (csr_any b S _ _ (R1.out.alloc _)).mono ?_; rintro e w2 ⟨rfl, rfl⟩; rw [HV.out, HT.out])
    | (fail))
  go_region_with ((go_at_call 54; refine (done_any b S _ rd _ _ _ (by first | exact CellsAt.drew (CellsAt.alloc R1.out _) | exact CellsAt.alloc R1.out _) hrd).mono ?_; rintro e w9 ⟨rfl, hR, hO⟩; have hO2 : Only b w1 w9 := Only.trans (by first | exact ((Only.refl b w1).alloc _).drew | exact (Only.refl b w1).alloc _) hO; obtain ⟨z9, f9, s9⟩ := keepT hO2 z1 f1 s1 (by omega); unfold HS.doneR))
  all_goals
    try go_wp2
    refine bodyPost_ret (v := S.doneR word rd v ((S.pc + 4) % 4294967296)) (by simp [results, Tryz.results58, go_sem, z9, HS.doneR, IntKind.wrap_u32]) rfl ⟨rfl, ?_, ?_⟩
    · exact CellsAt.far7 (by first | exact hR | (rw [IntKind.wrap_u32] at hR; exact hR)) (by omega) _ _ _ _ _ _ _
    · exact ((Only.of_below o1).trans hO2).new7 (by omega) _ _ _ _ _ _ _
set_option maxRecDepth 100000 in
set_option maxHeartbeats 4000000 in
theorem sys_64_keep (b : Nat) (S : HS) (rd rs1 : Nat) (rs2 imm word a : Int) (w : World) (h : RH w b S) (hrd : rd < 32) (v : Int) (hV : S.csrV imm = v) (ht : csrB imm = true) (h0 : ((rs1 : Int) != 0) = false) : Calls Tryz.prog 58 #[.pointer (some ⟨b, 0, none⟩), .agg #[.int .i64 64, .int .i64 rd, .int .i64 rs1, .int .i64 rs2, .int .i64 imm], .int .u32 word, .int .u32 a] w fun e w' => e = .returned (S.doneR word rd v ((S.pc + 4) % 4294967296)) ∧ RH w' b (S.done rd (rvI rd v) ((S.pc + 4) % 4294967296)) ∧ Only b w w' := by
  have HN : Hid (nameAt 63 = ⟨#[99, 115, 114, 114, 99]⟩ ∧ letAt 63 = 67 ∧ fRAt 63 = 3) := ⟨by kernel_rfl, by kernel_rfl, by kernel_rfl⟩
  have h3 := h.here
  have HH : Hid (RH w b S) := h
  clear h
  have HV : Hid (S.csrV imm = v) := hV
  have HT : Hid (csrB imm = true) := ht
  clear hV ht
  go_enter Tryz.func58, Tryz.ntmps58
  go_wp2_with (first
    | (go_at_call 57; refine (rows_made _).mono ?_; rintro e w1 ⟨rfl, hR, hb1, hz⟩; have q0 := hR.r0 63 (by decide); have q1 := hR.r1 63 (by decide); have q2 := hR.r2 63 (by decide); have q3 := hR.r3 63 (by decide); have q4 := hR.r4 63 (by decide); rw [World.size_alloc, World.size_alloc, HN.out.1] at q0; rw [World.size_alloc, World.size_alloc, HN.out.2.1] at q1; rw [World.size_alloc, World.size_alloc] at q2 q4; rw [World.size_alloc, World.size_alloc, HN.out.2.2] at q3; have hh := hR.here; rw [World.size_alloc, World.size_alloc] at hh; clear hR hz; have HB1 := Hid.in (hb1); obtain ⟨i1, z1, f1, s1, o1⟩ := keep2f HB1.out; have R1 := Hid.in (HH.out.below o1); have p1 : w1.cell? ⟨b, 3, none⟩ = some (.int .u32 S.pc) := R1.out.cell 3 (by decide); have e1 : w1.cell? ⟨b, 42, none⟩ = some (.int .u32 S.epc) := R1.out.cell 42 (by decide); have a1 : w1.cell? ⟨b, 38, none⟩ = some (.int .u32 S.status) := R1.out.cell 38 (by decide); have t1 := R1.out.here; have v1 : w.heap.size < w1.heap.size := Nat.lt_of_succ_lt s1; have y1 := R1.out.free; clear hb1)
    | (go_at_call 36; refine (csr_any b S _ _ (R1.out.alloc _)).mono ?_; rintro e w2 ⟨rfl, rfl⟩; rw [HV.out, HT.out])
    | (fail))
  go_region_with ((go_at_call 54; refine (done_any b S _ rd _ _ _ (by first | exact CellsAt.drew (CellsAt.alloc R1.out _) | exact CellsAt.alloc R1.out _) hrd).mono ?_; rintro e w9 ⟨rfl, hR, hO⟩; have hO2 : Only b w1 w9 := Only.trans (by first | exact ((Only.refl b w1).alloc _).drew | exact (Only.refl b w1).alloc _) hO; obtain ⟨z9, f9, s9⟩ := keepT hO2 z1 f1 s1 (by omega); unfold HS.doneR))
  all_goals
    try go_wp2
    refine bodyPost_ret (v := S.doneR word rd v ((S.pc + 4) % 4294967296)) (by simp [results, Tryz.results58, go_sem, z9, HS.doneR, IntKind.wrap_u32]) rfl ⟨rfl, ?_, ?_⟩
    · exact CellsAt.far7 (by first | exact hR | (rw [IntKind.wrap_u32] at hR; exact hR)) (by omega) _ _ _ _ _ _ _
    · exact ((Only.of_below o1).trans hO2).new7 (by omega) _ _ _ _ _ _ _
set_option maxRecDepth 100000 in
set_option maxHeartbeats 4000000 in
theorem sys_66_keep (b : Nat) (S : HS) (rd rs1 : Nat) (rs2 imm word a : Int) (w : World) (h : RH w b S) (hrd : rd < 32) (v : Int) (hV : S.csrV imm = v) (ht : csrB imm = true) (h0 : ((rs1 : Int) != 0) = false) : Calls Tryz.prog 58 #[.pointer (some ⟨b, 0, none⟩), .agg #[.int .i64 66, .int .i64 rd, .int .i64 rs1, .int .i64 rs2, .int .i64 imm], .int .u32 word, .int .u32 a] w fun e w' => e = .returned (S.doneR word rd v ((S.pc + 4) % 4294967296)) ∧ RH w' b (S.done rd (rvI rd v) ((S.pc + 4) % 4294967296)) ∧ Only b w w' := by
  have HN : Hid (nameAt 65 = ⟨#[99, 115, 114, 114, 115, 105]⟩ ∧ letAt 65 = 68 ∧ fRAt 65 = 6) := ⟨by kernel_rfl, by kernel_rfl, by kernel_rfl⟩
  have h3 := h.here
  have HH : Hid (RH w b S) := h
  clear h
  have HV : Hid (S.csrV imm = v) := hV
  have HT : Hid (csrB imm = true) := ht
  clear hV ht
  go_enter Tryz.func58, Tryz.ntmps58
  go_wp2_with (first
    | (go_at_call 57; refine (rows_made _).mono ?_; rintro e w1 ⟨rfl, hR, hb1, hz⟩; have q0 := hR.r0 65 (by decide); have q1 := hR.r1 65 (by decide); have q2 := hR.r2 65 (by decide); have q3 := hR.r3 65 (by decide); have q4 := hR.r4 65 (by decide); rw [World.size_alloc, World.size_alloc, HN.out.1] at q0; rw [World.size_alloc, World.size_alloc, HN.out.2.1] at q1; rw [World.size_alloc, World.size_alloc] at q2 q4; rw [World.size_alloc, World.size_alloc, HN.out.2.2] at q3; have hh := hR.here; rw [World.size_alloc, World.size_alloc] at hh; clear hR hz; have HB1 := Hid.in (hb1); obtain ⟨i1, z1, f1, s1, o1⟩ := keep2f HB1.out; have R1 := Hid.in (HH.out.below o1); have p1 : w1.cell? ⟨b, 3, none⟩ = some (.int .u32 S.pc) := R1.out.cell 3 (by decide); have e1 : w1.cell? ⟨b, 42, none⟩ = some (.int .u32 S.epc) := R1.out.cell 42 (by decide); have a1 : w1.cell? ⟨b, 38, none⟩ = some (.int .u32 S.status) := R1.out.cell 38 (by decide); have t1 := R1.out.here; have v1 : w.heap.size < w1.heap.size := Nat.lt_of_succ_lt s1; have y1 := R1.out.free; clear hb1)
    | (go_at_call 36; refine (csr_any b S _ _ (R1.out.alloc _)).mono ?_; rintro e w2 ⟨rfl, rfl⟩; rw [HV.out, HT.out])
    | (fail))
  go_region_with ((go_at_call 54; refine (done_any b S _ rd _ _ _ (by first | exact CellsAt.drew (CellsAt.alloc R1.out _) | exact CellsAt.alloc R1.out _) hrd).mono ?_; rintro e w9 ⟨rfl, hR, hO⟩; have hO2 : Only b w1 w9 := Only.trans (by first | exact ((Only.refl b w1).alloc _).drew | exact (Only.refl b w1).alloc _) hO; obtain ⟨z9, f9, s9⟩ := keepT hO2 z1 f1 s1 (by omega); unfold HS.doneR))
  all_goals
    try go_wp2
    refine bodyPost_ret (v := S.doneR word rd v ((S.pc + 4) % 4294967296)) (by simp [results, Tryz.results58, go_sem, z9, HS.doneR, IntKind.wrap_u32]) rfl ⟨rfl, ?_, ?_⟩
    · exact CellsAt.far7 (by first | exact hR | (rw [IntKind.wrap_u32] at hR; exact hR)) (by omega) _ _ _ _ _ _ _
    · exact ((Only.of_below o1).trans hO2).new7 (by omega) _ _ _ _ _ _ _
set_option maxRecDepth 100000 in
set_option maxHeartbeats 4000000 in
theorem sys_67_keep (b : Nat) (S : HS) (rd rs1 : Nat) (rs2 imm word a : Int) (w : World) (h : RH w b S) (hrd : rd < 32) (v : Int) (hV : S.csrV imm = v) (ht : csrB imm = true) (h0 : ((rs1 : Int) != 0) = false) : Calls Tryz.prog 58 #[.pointer (some ⟨b, 0, none⟩), .agg #[.int .i64 67, .int .i64 rd, .int .i64 rs1, .int .i64 rs2, .int .i64 imm], .int .u32 word, .int .u32 a] w fun e w' => e = .returned (S.doneR word rd v ((S.pc + 4) % 4294967296)) ∧ RH w' b (S.done rd (rvI rd v) ((S.pc + 4) % 4294967296)) ∧ Only b w w' := by
  have HN : Hid (nameAt 66 = ⟨#[99, 115, 114, 114, 99, 105]⟩ ∧ letAt 66 = 68 ∧ fRAt 66 = 7) := ⟨by kernel_rfl, by kernel_rfl, by kernel_rfl⟩
  have h3 := h.here
  have HH : Hid (RH w b S) := h
  clear h
  have HV : Hid (S.csrV imm = v) := hV
  have HT : Hid (csrB imm = true) := ht
  clear hV ht
  go_enter Tryz.func58, Tryz.ntmps58
  go_wp2_with (first
    | (go_at_call 57; refine (rows_made _).mono ?_; rintro e w1 ⟨rfl, hR, hb1, hz⟩; have q0 := hR.r0 66 (by decide); have q1 := hR.r1 66 (by decide); have q2 := hR.r2 66 (by decide); have q3 := hR.r3 66 (by decide); have q4 := hR.r4 66 (by decide); rw [World.size_alloc, World.size_alloc, HN.out.1] at q0; rw [World.size_alloc, World.size_alloc, HN.out.2.1] at q1; rw [World.size_alloc, World.size_alloc] at q2 q4; rw [World.size_alloc, World.size_alloc, HN.out.2.2] at q3; have hh := hR.here; rw [World.size_alloc, World.size_alloc] at hh; clear hR hz; have HB1 := Hid.in (hb1); obtain ⟨i1, z1, f1, s1, o1⟩ := keep2f HB1.out; have R1 := Hid.in (HH.out.below o1); have p1 : w1.cell? ⟨b, 3, none⟩ = some (.int .u32 S.pc) := R1.out.cell 3 (by decide); have e1 : w1.cell? ⟨b, 42, none⟩ = some (.int .u32 S.epc) := R1.out.cell 42 (by decide); have a1 : w1.cell? ⟨b, 38, none⟩ = some (.int .u32 S.status) := R1.out.cell 38 (by decide); have t1 := R1.out.here; have v1 : w.heap.size < w1.heap.size := Nat.lt_of_succ_lt s1; have y1 := R1.out.free; clear hb1)
    | (go_at_call 36; refine (csr_any b S _ _ (R1.out.alloc _)).mono ?_; rintro e w2 ⟨rfl, rfl⟩; rw [HV.out, HT.out])
    | (fail))
  go_region_with ((go_at_call 54; refine (done_any b S _ rd _ _ _ (by first | exact CellsAt.drew (CellsAt.alloc R1.out _) | exact CellsAt.alloc R1.out _) hrd).mono ?_; rintro e w9 ⟨rfl, hR, hO⟩; have hO2 : Only b w1 w9 := Only.trans (by first | exact ((Only.refl b w1).alloc _).drew | exact (Only.refl b w1).alloc _) hO; obtain ⟨z9, f9, s9⟩ := keepT hO2 z1 f1 s1 (by omega); unfold HS.doneR))
  all_goals
    try go_wp2
    refine bodyPost_ret (v := S.doneR word rd v ((S.pc + 4) % 4294967296)) (by simp [results, Tryz.results58, go_sem, z9, HS.doneR, IntKind.wrap_u32]) rfl ⟨rfl, ?_, ?_⟩
    · exact CellsAt.far7 (by first | exact hR | (rw [IntKind.wrap_u32] at hR; exact hR)) (by omega) _ _ _ _ _ _ _
    · exact ((Only.of_below o1).trans hO2).new7 (by omega) _ _ _ _ _ _ _
end Go.Proofs.YtengofkjlgajlaaGreatDoor
