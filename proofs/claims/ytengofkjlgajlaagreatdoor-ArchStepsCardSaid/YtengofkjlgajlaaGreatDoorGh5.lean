import Derived.Test.YtengofkjlgajlaaGreatDoorHi
/-
  THE ANSWER's HART: control registers are written.
-/
namespace Go.Proofs.YtengofkjlgajlaaGreatDoor
open Go Go.RowKit
theorem keepC {b B : Nat} {x w9 : World} {Z : Array Value} (hO : Only b x w9) (z : ∀ i, x.cell? ⟨B, i, none⟩ = Z[i]?) (s : B < x.heap.size) (hb : B ≠ b) : ∀ i, w9.cell? ⟨B, i, none⟩ = Z[i]? :=
  fun i => (World.cell?_of_block (w := x) (hO.block B s hb)).trans (z i)
set_option maxRecDepth 100000 in
set_option maxHeartbeats 4000000 in
theorem sys_62_put (b : Nat) (S : HS) (rd rs1 : Nat) (rs2 imm word a : Int) (w : World) (h : RH w b S) (hrd : rd < 32) (ha : U32 a) (v : Int) (hV : S.csrV imm = v) (ht : csrB imm = true) (h10 : (imm / 1024 == 3) = false) : Calls Tryz.prog 58 #[.pointer (some ⟨b, 0, none⟩), .agg #[.int .i64 62, .int .i64 rd, .int .i64 rs1, .int .i64 rs2, .int .i64 imm], .int .u32 word, .int .u32 a] w fun e w' => e = .returned ((S.setCsr imm (a)).doneR word rd v ((S.pc + 4) % 4294967296)) ∧ RH w' b ((S.setCsr imm (a)).done rd (rvI rd v) ((S.pc + 4) % 4294967296)) ∧ Only b w w' := by
  have HN : Hid (nameAt 61 = ⟨#[99, 115, 114, 114, 119]⟩ ∧ letAt 61 = 67 ∧ fRAt 61 = 1) := ⟨by kernel_rfl, by kernel_rfl, by kernel_rfl⟩
  have h3 := h.here
  have HH : Hid (RH w b S) := h
  clear h
  have HV : Hid (S.csrV imm = v) := hV
  have HT : Hid (csrB imm = true) := ht
  have hA : Hid (U32 a) := ha
  clear hV ht
  go_enter Tryz.func58, Tryz.ntmps58
  go_wp2_with (first
    | (go_at_call 57; refine (rows_made _).mono ?_; rintro e w1 ⟨rfl, hR, hb1, hz⟩; have q0 := hR.r0 61 (by decide); have q1 := hR.r1 61 (by decide); have q2 := hR.r2 61 (by decide); have q3 := hR.r3 61 (by decide); have q4 := hR.r4 61 (by decide); rw [World.size_alloc, World.size_alloc, HN.out.1] at q0; rw [World.size_alloc, World.size_alloc, HN.out.2.1] at q1; rw [World.size_alloc, World.size_alloc] at q2 q4; rw [World.size_alloc, World.size_alloc, HN.out.2.2] at q3; have hh := hR.here; rw [World.size_alloc, World.size_alloc] at hh; clear hR hz; have HB1 := Hid.in (hb1); obtain ⟨i1, z1, f1, s1, o1⟩ := keep2f HB1.out; have R1 := Hid.in (HH.out.below o1); have p1 : w1.cell? ⟨b, 3, none⟩ = some (.int .u32 S.pc) := R1.out.cell 3 (by decide); have e1 : w1.cell? ⟨b, 42, none⟩ = some (.int .u32 S.epc) := R1.out.cell 42 (by decide); have a1 : w1.cell? ⟨b, 38, none⟩ = some (.int .u32 S.status) := R1.out.cell 38 (by decide); have t1 := R1.out.here; have v1 : w.heap.size < w1.heap.size := Nat.lt_of_succ_lt s1; have y1 := R1.out.free; clear hb1)
    | (go_at_call 36; refine (csr_any b S _ _ (R1.out.alloc _)).mono ?_; rintro e w2 ⟨rfl, rfl⟩; rw [HV.out, HT.out])
    | (go_at_call 89; refine (set_any b S _ _ _ (CellsAt.alloc R1.out _) (hA.out)).mono ?_; rintro e w3 ⟨rfl, hR3, hO3⟩; have hO4 : Only b w1 w3 := ((Only.refl b w1).alloc _).trans hO3; have i3 := keepC hO4 i1 v1 (by omega); obtain ⟨z3, f3, s3⟩ := keepT hO4 z1 f1 s1 (by omega); have R3 := Hid.in hR3; have H4 := Hid.in hO4; have p3 : w3.cell? ⟨b, 3, none⟩ = some (.int .u32 S.pc) := (hR3.cell 3 (by decide)).trans (by show some (Value.int .u32 (S.setCsr _ _).pc) = _; rw [setCsr_pc]); have t3 := hR3.here; have v3 := Nat.lt_of_succ_lt s3; clear hR3 hO3 hO4))
  go_region_with ((go_at_call 54; refine (done_any b (S.setCsr imm (a)) _ rd _ _ _ (by first | exact CellsAt.drew R3.out | exact R3.out) hrd).mono ?_; rintro e w9 ⟨rfl, hR, hO⟩; have hO2 : Only b w3 w9 := Only.trans (by first | exact (Only.refl b w3).drew | exact Only.refl b w3) hO; obtain ⟨z9, f9, s9⟩ := keepT hO2 z3 f3 s3 (by omega); unfold HS.doneR))
  all_goals
    try go_wp2
    refine bodyPost_ret (v := (S.setCsr imm (a)).doneR word rd v ((S.pc + 4) % 4294967296)) (by simp [results, Tryz.results58, go_sem, z9, HS.doneR, IntKind.wrap_u32]) rfl ⟨rfl, ?_, ?_⟩
    · exact CellsAt.far7 (by first | exact hR | (rw [IntKind.wrap_u32] at hR; exact hR)) (by omega) _ _ _ _ _ _ _
    · exact ((Only.of_below o1).trans (H4.out.trans hO2)).new7 (by omega) _ _ _ _ _ _ _
set_option maxRecDepth 100000 in
set_option maxHeartbeats 4000000 in
theorem sys_63_put (b : Nat) (S : HS) (rd rs1 : Nat) (rs2 imm word a : Int) (w : World) (h : RH w b S) (hrd : rd < 32) (v : Int) (hV : S.csrV imm = v) (ht : csrB imm = true) (h0 : ((rs1 : Int) != 0) = true) (h10 : (imm / 1024 == 3) = false) : Calls Tryz.prog 58 #[.pointer (some ⟨b, 0, none⟩), .agg #[.int .i64 63, .int .i64 rd, .int .i64 rs1, .int .i64 rs2, .int .i64 imm], .int .u32 word, .int .u32 a] w fun e w' => e = .returned ((S.setCsr imm (bits .or .u32 v a)).doneR word rd v ((S.pc + 4) % 4294967296)) ∧ RH w' b ((S.setCsr imm (bits .or .u32 v a)).done rd (rvI rd v) ((S.pc + 4) % 4294967296)) ∧ Only b w w' := by
  have HN : Hid (nameAt 62 = ⟨#[99, 115, 114, 114, 115]⟩ ∧ letAt 62 = 67 ∧ fRAt 62 = 2) := ⟨by kernel_rfl, by kernel_rfl, by kernel_rfl⟩
  have h3 := h.here
  have HH : Hid (RH w b S) := h
  clear h
  have HV : Hid (S.csrV imm = v) := hV
  have HT : Hid (csrB imm = true) := ht
  clear hV ht
  go_enter Tryz.func58, Tryz.ntmps58
  go_wp2_with (first
    | (go_at_call 57; refine (rows_made _).mono ?_; rintro e w1 ⟨rfl, hR, hb1, hz⟩; have q0 := hR.r0 62 (by decide); have q1 := hR.r1 62 (by decide); have q2 := hR.r2 62 (by decide); have q3 := hR.r3 62 (by decide); have q4 := hR.r4 62 (by decide); rw [World.size_alloc, World.size_alloc, HN.out.1] at q0; rw [World.size_alloc, World.size_alloc, HN.out.2.1] at q1; rw [World.size_alloc, World.size_alloc] at q2 q4; rw [World.size_alloc, World.size_alloc, HN.out.2.2] at q3; have hh := hR.here; rw [World.size_alloc, World.size_alloc] at hh; clear hR hz; have HB1 := Hid.in (hb1); obtain ⟨i1, z1, f1, s1, o1⟩ := keep2f HB1.out; have R1 := Hid.in (HH.out.below o1); have p1 : w1.cell? ⟨b, 3, none⟩ = some (.int .u32 S.pc) := R1.out.cell 3 (by decide); have e1 : w1.cell? ⟨b, 42, none⟩ = some (.int .u32 S.epc) := R1.out.cell 42 (by decide); have a1 : w1.cell? ⟨b, 38, none⟩ = some (.int .u32 S.status) := R1.out.cell 38 (by decide); have t1 := R1.out.here; have v1 : w.heap.size < w1.heap.size := Nat.lt_of_succ_lt s1; have y1 := R1.out.free; clear hb1)
    | (go_at_call 36; refine (csr_any b S _ _ (R1.out.alloc _)).mono ?_; rintro e w2 ⟨rfl, rfl⟩; rw [HV.out, HT.out])
    | (go_at_call 89; refine (set_any b S _ _ _ (CellsAt.alloc R1.out _) (u32_bits _ _ _)).mono ?_; rintro e w3 ⟨rfl, hR3, hO3⟩; have hO4 : Only b w1 w3 := ((Only.refl b w1).alloc _).trans hO3; have i3 := keepC hO4 i1 v1 (by omega); obtain ⟨z3, f3, s3⟩ := keepT hO4 z1 f1 s1 (by omega); have R3 := Hid.in hR3; have H4 := Hid.in hO4; have p3 : w3.cell? ⟨b, 3, none⟩ = some (.int .u32 S.pc) := (hR3.cell 3 (by decide)).trans (by show some (Value.int .u32 (S.setCsr _ _).pc) = _; rw [setCsr_pc]); have t3 := hR3.here; have v3 := Nat.lt_of_succ_lt s3; clear hR3 hO3 hO4))
  go_region_with ((go_at_call 54; refine (done_any b (S.setCsr imm (bits .or .u32 v a)) _ rd _ _ _ (by first | exact CellsAt.drew R3.out | exact R3.out) hrd).mono ?_; rintro e w9 ⟨rfl, hR, hO⟩; have hO2 : Only b w3 w9 := Only.trans (by first | exact (Only.refl b w3).drew | exact Only.refl b w3) hO; obtain ⟨z9, f9, s9⟩ := keepT hO2 z3 f3 s3 (by omega); unfold HS.doneR))
  all_goals
    try go_wp2
    refine bodyPost_ret (v := (S.setCsr imm (bits .or .u32 v a)).doneR word rd v ((S.pc + 4) % 4294967296)) (by simp [results, Tryz.results58, go_sem, z9, HS.doneR, IntKind.wrap_u32]) rfl ⟨rfl, ?_, ?_⟩
    · exact CellsAt.far7 (by first | exact hR | (rw [IntKind.wrap_u32] at hR; exact hR)) (by omega) _ _ _ _ _ _ _
    · exact ((Only.of_below o1).trans (H4.out.trans hO2)).new7 (by omega) _ _ _ _ _ _ _
set_option maxRecDepth 100000 in
set_option maxHeartbeats 4000000 in
theorem sys_64_put (b : Nat) (S : HS) (rd rs1 : Nat) (rs2 imm word a : Int) (w : World) (h : RH w b S) (hrd : rd < 32) (v : Int) (hV : S.csrV imm = v) (ht : csrB imm = true) (h0 : ((rs1 : Int) != 0) = true) (h10 : (imm / 1024 == 3) = false) : Calls Tryz.prog 58 #[.pointer (some ⟨b, 0, none⟩), .agg #[.int .i64 64, .int .i64 rd, .int .i64 rs1, .int .i64 rs2, .int .i64 imm], .int .u32 word, .int .u32 a] w fun e w' => e = .returned ((S.setCsr imm (bits .andNot .u32 v a)).doneR word rd v ((S.pc + 4) % 4294967296)) ∧ RH w' b ((S.setCsr imm (bits .andNot .u32 v a)).done rd (rvI rd v) ((S.pc + 4) % 4294967296)) ∧ Only b w w' := by
  have HN : Hid (nameAt 63 = ⟨#[99, 115, 114, 114, 99]⟩ ∧ letAt 63 = 67 ∧ fRAt 63 = 3) := ⟨by kernel_rfl, by kernel_rfl, by kernel_rfl⟩
  have h3 := h.here
  have HH : Hid (RH w b S) := h
  clear h
  have HV : Hid (S.csrV imm = v) := hV
  have HT : Hid (csrB imm = true) := ht
  clear hV ht
  go_enter Tryz.func58, Tryz.ntmps58
  go_wp2_with (first
    | (go_at_call 57; refine (rows_made _).mono ?_; rintro e w1 ⟨rfl, hR, hb1, hz⟩; have q0 := hR.r0 63 (by decide); have q1 := hR.r1 63 (by decide); have q2 := hR.r2 63 (by decide); have q3 := hR.r3 63 (by decide); have q4 := hR.r4 63 (by decide); rw [World.size_alloc, World.size_alloc, HN.out.1] at q0; rw [World.size_alloc, World.size_alloc, HN.out.2.1] at q1; rw [World.size_alloc, World.size_alloc] at q2 q4; rw [World.size_alloc, World.size_alloc, HN.out.2.2] at q3; have hh := hR.here; rw [World.size_alloc, World.size_alloc] at hh; clear hR hz; have HB1 := Hid.in (hb1); obtain ⟨i1, z1, f1, s1, o1⟩ := keep2f HB1.out; have R1 := Hid.in (HH.out.below o1); have p1 : w1.cell? ⟨b, 3, none⟩ = some (.int .u32 S.pc) := R1.out.cell 3 (by decide); have e1 : w1.cell? ⟨b, 42, none⟩ = some (.int .u32 S.epc) := R1.out.cell 42 (by decide); have a1 : w1.cell? ⟨b, 38, none⟩ = some (.int .u32 S.status) := R1.out.cell 38 (by decide); have t1 := R1.out.here; have v1 : w.heap.size < w1.heap.size := Nat.lt_of_succ_lt s1; have y1 := R1.out.free; clear hb1)
    | (go_at_call 36; refine (csr_any b S _ _ (R1.out.alloc _)).mono ?_; rintro e w2 ⟨rfl, rfl⟩; rw [HV.out, HT.out])
    | (go_at_call 89; refine (set_any b S _ _ _ (CellsAt.alloc R1.out _) (u32_bits _ _ _)).mono ?_; rintro e w3 ⟨rfl, hR3, hO3⟩; have hO4 : Only b w1 w3 := ((Only.refl b w1).alloc _).trans hO3; have i3 := keepC hO4 i1 v1 (by omega); obtain ⟨z3, f3, s3⟩ := keepT hO4 z1 f1 s1 (by omega); have R3 := Hid.in hR3; have H4 := Hid.in hO4; have p3 : w3.cell? ⟨b, 3, none⟩ = some (.int .u32 S.pc) := (hR3.cell 3 (by decide)).trans (by show some (Value.int .u32 (S.setCsr _ _).pc) = _; rw [setCsr_pc]); have t3 := hR3.here; have v3 := Nat.lt_of_succ_lt s3; clear hR3 hO3 hO4))
  go_region_with ((go_at_call 54; refine (done_any b (S.setCsr imm (bits .andNot .u32 v a)) _ rd _ _ _ (by first | exact CellsAt.drew R3.out | exact R3.out) hrd).mono ?_; rintro e w9 ⟨rfl, hR, hO⟩; have hO2 : Only b w3 w9 := Only.trans (by first | exact (Only.refl b w3).drew | exact Only.refl b w3) hO; obtain ⟨z9, f9, s9⟩ := keepT hO2 z3 f3 s3 (by omega); unfold HS.doneR))
  all_goals
    try go_wp2
    refine bodyPost_ret (v := (S.setCsr imm (bits .andNot .u32 v a)).doneR word rd v ((S.pc + 4) % 4294967296)) (by simp [results, Tryz.results58, go_sem, z9, HS.doneR, IntKind.wrap_u32]) rfl ⟨rfl, ?_, ?_⟩
    · exact CellsAt.far7 (by first | exact hR | (rw [IntKind.wrap_u32] at hR; exact hR)) (by omega) _ _ _ _ _ _ _
    · exact ((Only.of_below o1).trans (H4.out.trans hO2)).new7 (by omega) _ _ _ _ _ _ _
end Go.Proofs.YtengofkjlgajlaaGreatDoor
/-
  THE ANSWER's HART: control registers are written.
-/
namespace Go.Proofs.YtengofkjlgajlaaGreatDoor
open Go Go.RowKit
set_option maxRecDepth 100000 in
set_option maxHeartbeats 4000000 in
theorem sys_65_put (b : Nat) (S : HS) (rd rs1 : Nat) (rs2 imm word a : Int) (w : World) (h : RH w b S) (hrd : rd < 32) (hrs : rs1 < 32) (v : Int) (hV : S.csrV imm = v) (ht : csrB imm = true) (h10 : (imm / 1024 == 3) = false) : Calls Tryz.prog 58 #[.pointer (some ⟨b, 0, none⟩), .agg #[.int .i64 65, .int .i64 rd, .int .i64 rs1, .int .i64 rs2, .int .i64 imm], .int .u32 word, .int .u32 a] w fun e w' => e = .returned ((S.setCsr imm ((rs1 : Int))).doneR word rd v ((S.pc + 4) % 4294967296)) ∧ RH w' b ((S.setCsr imm ((rs1 : Int))).done rd (rvI rd v) ((S.pc + 4) % 4294967296)) ∧ Only b w w' := by
  have HN : Hid (nameAt 64 = ⟨#[99, 115, 114, 114, 119, 105]⟩ ∧ letAt 64 = 68 ∧ fRAt 64 = 5) := ⟨by kernel_rfl, by kernel_rfl, by kernel_rfl⟩
  have h3 := h.here
  have HH : Hid (RH w b S) := h
  clear h
  have HV : Hid (S.csrV imm = v) := hV
  have HT : Hid (csrB imm = true) := ht
  have hA : Hid (U32 (rs1 : Int)) := ⟨by omega, by omega⟩
  clear hV ht
  go_enter Tryz.func58, Tryz.ntmps58
  go_wp2_with (first
    | (go_at_call 57; refine (rows_made _).mono ?_; rintro e w1 ⟨rfl, hR, hb1, hz⟩; have q0 := hR.r0 64 (by decide); have q1 := hR.r1 64 (by decide); have q2 := hR.r2 64 (by decide); have q3 := hR.r3 64 (by decide); have q4 := hR.r4 64 (by decide); rw [World.size_alloc, World.size_alloc, HN.out.1] at q0; rw [World.size_alloc, World.size_alloc, HN.out.2.1] at q1; rw [World.size_alloc, World.size_alloc] at q2 q4; rw [World.size_alloc, World.size_alloc, HN.out.2.2] at q3; have hh := hR.here; rw [World.size_alloc, World.size_alloc] at hh; clear hR hz; have HB1 := Hid.in (hb1); obtain ⟨i1, z1, f1, s1, o1⟩ := keep2f HB1.out; have R1 := Hid.in (HH.out.below o1); have p1 : w1.cell? ⟨b, 3, none⟩ = some (.int .u32 S.pc) := R1.out.cell 3 (by decide); have e1 : w1.cell? ⟨b, 42, none⟩ = some (.int .u32 S.epc) := R1.out.cell 42 (by decide); have a1 : w1.cell? ⟨b, 38, none⟩ = some (.int .u32 S.status) := R1.out.cell 38 (by decide); have t1 := R1.out.here; have v1 : w.heap.size < w1.heap.size := Nat.lt_of_succ_lt s1; have y1 := R1.out.free; clear hb1)
    | (go_at_call 36; refine (csr_any b S _ _ (R1.out.alloc _)).mono ?_; rintro e w2 ⟨rfl, rfl⟩; rw [HV.out, HT.out])
    | (go_at_call 89; refine (set_any b S _ _ _ (CellsAt.alloc R1.out _) (hA.out)).mono ?_; rintro e w3 ⟨rfl, hR3, hO3⟩; have hO4 : Only b w1 w3 := ((Only.refl b w1).alloc _).trans hO3; have i3 := keepC hO4 i1 v1 (by omega); obtain ⟨z3, f3, s3⟩ := keepT hO4 z1 f1 s1 (by omega); have R3 := Hid.in hR3; have H4 := Hid.in hO4; have p3 : w3.cell? ⟨b, 3, none⟩ = some (.int .u32 S.pc) := (hR3.cell 3 (by decide)).trans (by show some (Value.int .u32 (S.setCsr _ _).pc) = _; rw [setCsr_pc]); have t3 := hR3.here; have v3 := Nat.lt_of_succ_lt s3; clear hR3 hO3 hO4))
  go_region_with ((go_at_call 54; refine (done_any b (S.setCsr imm ((rs1 : Int))) _ rd _ _ _ (by first | exact CellsAt.drew R3.out | exact R3.out) hrd).mono ?_; rintro e w9 ⟨rfl, hR, hO⟩; have hO2 : Only b w3 w9 := Only.trans (by first | exact (Only.refl b w3).drew | exact Only.refl b w3) hO; obtain ⟨z9, f9, s9⟩ := keepT hO2 z3 f3 s3 (by omega); unfold HS.doneR))
  all_goals
    try go_wp2
    refine bodyPost_ret (v := (S.setCsr imm ((rs1 : Int))).doneR word rd v ((S.pc + 4) % 4294967296)) (by simp [results, Tryz.results58, go_sem, z9, HS.doneR, IntKind.wrap_u32]) rfl ⟨rfl, ?_, ?_⟩
    · exact CellsAt.far7 (by first | exact hR | (rw [IntKind.wrap_u32] at hR; exact hR)) (by omega) _ _ _ _ _ _ _
    · exact ((Only.of_below o1).trans (H4.out.trans hO2)).new7 (by omega) _ _ _ _ _ _ _
set_option maxRecDepth 100000 in
set_option maxHeartbeats 4000000 in
theorem sys_66_put (b : Nat) (S : HS) (rd rs1 : Nat) (rs2 imm word a : Int) (w : World) (h : RH w b S) (hrd : rd < 32) (hrs : rs1 < 32) (v : Int) (hV : S.csrV imm = v) (ht : csrB imm = true) (h0 : ((rs1 : Int) != 0) = true) (h10 : (imm / 1024 == 3) = false) : Calls Tryz.prog 58 #[.pointer (some ⟨b, 0, none⟩), .agg #[.int .i64 66, .int .i64 rd, .int .i64 rs1, .int .i64 rs2, .int .i64 imm], .int .u32 word, .int .u32 a] w fun e w' => e = .returned ((S.setCsr imm (bits .or .u32 v (rs1 : Int))).doneR word rd v ((S.pc + 4) % 4294967296)) ∧ RH w' b ((S.setCsr imm (bits .or .u32 v (rs1 : Int))).done rd (rvI rd v) ((S.pc + 4) % 4294967296)) ∧ Only b w w' := by
  have HN : Hid (nameAt 65 = ⟨#[99, 115, 114, 114, 115, 105]⟩ ∧ letAt 65 = 68 ∧ fRAt 65 = 6) := ⟨by kernel_rfl, by kernel_rfl, by kernel_rfl⟩
  have h3 := h.here
  have HH : Hid (RH w b S) := h
  clear h
  have HV : Hid (S.csrV imm = v) := hV
  have HT : Hid (csrB imm = true) := ht
  clear hV ht
  go_enter Tryz.func58, Tryz.ntmps58
  go_wp2_with (first
    | (go_at_call 57; refine (rows_made _).mono ?_; rintro e w1 ⟨rfl, hR, hb1, hz⟩; have q0 := hR.r0 65 (by decide); have q1 := hR.r1 65 (by decide); have q2 := hR.r2 65 (by decide); have q3 := hR.r3 65 (by decide); have q4 := hR.r4 65 (by decide); rw [World.size_alloc, World.size_alloc, HN.out.1] at q0; rw [World.size_alloc, World.size_alloc, HN.out.2.1] at q1; rw [World.size_alloc, World.size_alloc] at q2 q4; rw [World.size_alloc, World.size_alloc, HN.out.2.2] at q3; have hh := hR.here; rw [World.size_alloc, World.size_alloc] at hh; clear hR hz; have HB1 := Hid.in (hb1); obtain ⟨i1, z1, f1, s1, o1⟩ := keep2f HB1.out; have R1 := Hid.in (HH.out.below o1); have p1 : w1.cell? ⟨b, 3, none⟩ = some (.int .u32 S.pc) := R1.out.cell 3 (by decide); have e1 : w1.cell? ⟨b, 42, none⟩ = some (.int .u32 S.epc) := R1.out.cell 42 (by decide); have a1 : w1.cell? ⟨b, 38, none⟩ = some (.int .u32 S.status) := R1.out.cell 38 (by decide); have t1 := R1.out.here; have v1 : w.heap.size < w1.heap.size := Nat.lt_of_succ_lt s1; have y1 := R1.out.free; clear hb1)
    | (go_at_call 36; refine (csr_any b S _ _ (R1.out.alloc _)).mono ?_; rintro e w2 ⟨rfl, rfl⟩; rw [HV.out, HT.out])
    | (go_at_call 89; refine (set_any b S _ _ _ (CellsAt.alloc R1.out _) (u32_bits _ _ _)).mono ?_; rintro e w3 ⟨rfl, hR3, hO3⟩; have hO4 : Only b w1 w3 := ((Only.refl b w1).alloc _).trans hO3; have i3 := keepC hO4 i1 v1 (by omega); obtain ⟨z3, f3, s3⟩ := keepT hO4 z1 f1 s1 (by omega); have R3 := Hid.in hR3; have H4 := Hid.in hO4; have p3 : w3.cell? ⟨b, 3, none⟩ = some (.int .u32 S.pc) := (hR3.cell 3 (by decide)).trans (by show some (Value.int .u32 (S.setCsr _ _).pc) = _; rw [setCsr_pc]); have t3 := hR3.here; have v3 := Nat.lt_of_succ_lt s3; clear hR3 hO3 hO4))
  go_region_with ((go_at_call 54; refine (done_any b (S.setCsr imm (bits .or .u32 v (rs1 : Int))) _ rd _ _ _ (by first | exact CellsAt.drew R3.out | exact R3.out) hrd).mono ?_; rintro e w9 ⟨rfl, hR, hO⟩; have hO2 : Only b w3 w9 := Only.trans (by first | exact (Only.refl b w3).drew | exact Only.refl b w3) hO; obtain ⟨z9, f9, s9⟩ := keepT hO2 z3 f3 s3 (by omega); unfold HS.doneR))
  all_goals
    try go_wp2
    refine bodyPost_ret (v := (S.setCsr imm (bits .or .u32 v (rs1 : Int))).doneR word rd v ((S.pc + 4) % 4294967296)) (by simp [results, Tryz.results58, go_sem, z9, HS.doneR, IntKind.wrap_u32]) rfl ⟨rfl, ?_, ?_⟩
    · exact CellsAt.far7 (by first | exact hR | (rw [IntKind.wrap_u32] at hR; exact hR)) (by omega) _ _ _ _ _ _ _
    · exact ((Only.of_below o1).trans (H4.out.trans hO2)).new7 (by omega) _ _ _ _ _ _ _
set_option maxRecDepth 100000 in
set_option maxHeartbeats 4000000 in
theorem sys_67_put (b : Nat) (S : HS) (rd rs1 : Nat) (rs2 imm word a : Int) (w : World) (h : RH w b S) (hrd : rd < 32) (hrs : rs1 < 32) (v : Int) (hV : S.csrV imm = v) (ht : csrB imm = true) (h0 : ((rs1 : Int) != 0) = true) (h10 : (imm / 1024 == 3) = false) : Calls Tryz.prog 58 #[.pointer (some ⟨b, 0, none⟩), .agg #[.int .i64 67, .int .i64 rd, .int .i64 rs1, .int .i64 rs2, .int .i64 imm], .int .u32 word, .int .u32 a] w fun e w' => e = .returned ((S.setCsr imm (bits .andNot .u32 v (rs1 : Int))).doneR word rd v ((S.pc + 4) % 4294967296)) ∧ RH w' b ((S.setCsr imm (bits .andNot .u32 v (rs1 : Int))).done rd (rvI rd v) ((S.pc + 4) % 4294967296)) ∧ Only b w w' := by
  have HN : Hid (nameAt 66 = ⟨#[99, 115, 114, 114, 99, 105]⟩ ∧ letAt 66 = 68 ∧ fRAt 66 = 7) := ⟨by kernel_rfl, by kernel_rfl, by kernel_rfl⟩
  have h3 := h.here
  have HH : Hid (RH w b S) := h
  clear h
  have HV : Hid (S.csrV imm = v) := hV
  have HT : Hid (csrB imm = true) := ht
  clear hV ht
  go_enter Tryz.func58, Tryz.ntmps58
  go_wp2_with (first
    | (go_at_call 57; refine (rows_made _).mono ?_; rintro e w1 ⟨rfl, hR, hb1, hz⟩; have q0 := hR.r0 66 (by decide); have q1 := hR.r1 66 (by decide); have q2 := hR.r2 66 (by decide); have q3 := hR.r3 66 (by decide); have q4 := hR.r4 66 (by decide); rw [World.size_alloc, World.size_alloc, HN.out.1] at q0; rw [World.size_alloc, World.size_alloc, HN.out.2.1] at q1; rw [World.size_alloc, World.size_alloc] at q2 q4; rw [World.size_alloc, World.size_alloc, HN.out.2.2] at q3; have hh := hR.here; rw [World.size_alloc, World.size_alloc] at hh; clear hR hz; have HB1 := Hid.in (hb1); obtain ⟨i1, z1, f1, s1, o1⟩ := keep2f HB1.out; have R1 := Hid.in (HH.out.below o1); have p1 : w1.cell? ⟨b, 3, none⟩ = some (.int .u32 S.pc) := R1.out.cell 3 (by decide); have e1 : w1.cell? ⟨b, 42, none⟩ = some (.int .u32 S.epc) := R1.out.cell 42 (by decide); have a1 : w1.cell? ⟨b, 38, none⟩ = some (.int .u32 S.status) := R1.out.cell 38 (by decide); have t1 := R1.out.here; have v1 : w.heap.size < w1.heap.size := Nat.lt_of_succ_lt s1; have y1 := R1.out.free; clear hb1)
    | (go_at_call 36; refine (csr_any b S _ _ (R1.out.alloc _)).mono ?_; rintro e w2 ⟨rfl, rfl⟩; rw [HV.out, HT.out])
    | (go_at_call 89; refine (set_any b S _ _ _ (CellsAt.alloc R1.out _) (u32_bits _ _ _)).mono ?_; rintro e w3 ⟨rfl, hR3, hO3⟩; have hO4 : Only b w1 w3 := ((Only.refl b w1).alloc _).trans hO3; have i3 := keepC hO4 i1 v1 (by omega); obtain ⟨z3, f3, s3⟩ := keepT hO4 z1 f1 s1 (by omega); have R3 := Hid.in hR3; have H4 := Hid.in hO4; have p3 : w3.cell? ⟨b, 3, none⟩ = some (.int .u32 S.pc) := (hR3.cell 3 (by decide)).trans (by show some (Value.int .u32 (S.setCsr _ _).pc) = _; rw [setCsr_pc]); have t3 := hR3.here; have v3 := Nat.lt_of_succ_lt s3; clear hR3 hO3 hO4))
  go_region_with ((go_at_call 54; refine (done_any b (S.setCsr imm (bits .andNot .u32 v (rs1 : Int))) _ rd _ _ _ (by first | exact CellsAt.drew R3.out | exact R3.out) hrd).mono ?_; rintro e w9 ⟨rfl, hR, hO⟩; have hO2 : Only b w3 w9 := Only.trans (by first | exact (Only.refl b w3).drew | exact Only.refl b w3) hO; obtain ⟨z9, f9, s9⟩ := keepT hO2 z3 f3 s3 (by omega); unfold HS.doneR))
  all_goals
    try go_wp2
    refine bodyPost_ret (v := (S.setCsr imm (bits .andNot .u32 v (rs1 : Int))).doneR word rd v ((S.pc + 4) % 4294967296)) (by simp [results, Tryz.results58, go_sem, z9, HS.doneR, IntKind.wrap_u32]) rfl ⟨rfl, ?_, ?_⟩
    · exact CellsAt.far7 (by first | exact hR | (rw [IntKind.wrap_u32] at hR; exact hR)) (by omega) _ _ _ _ _ _ _
    · exact ((Only.of_below o1).trans (H4.out.trans hO2)).new7 (by omega) _ _ _ _ _ _ _
end Go.Proofs.YtengofkjlgajlaaGreatDoor
/-
  THE ANSWER's HART: the next instruction.
-/
namespace Go.Proofs.YtengofkjlgajlaaGreatDoor
open Go Go.RowKit
/-- what a word is decoded to -/
structure Dec where
  op : Nat
  rd : Nat
  rs1 : Nat
  rs2 : Nat
  imm : Int
  ok : Bool
def Dec.val (d : Dec) : Value := .agg #[.int .i64 d.op, .int .i64 d.rd, .int .i64 d.rs1, .int .i64 d.rs2, .int .i64 d.imm]
def noDec : Dec := ⟨0, 0, 0, 0, 0, false⟩
structure DecOk (D : Int → Dec) : Prop where
  calls : ∀ (x : Int) (w : World), U32 x → Calls Tryz.prog 73 #[.int .u32 x] w fun e w' => e = .returned (.tuple #[(D x).val, .bool (D x).ok]) ∧ Below w.heap.size w w'
  good : ∀ x : Int, U32 x → (D x).ok = true → 1 ≤ (D x).op ∧ (D x).op ≤ 67 ∧ (D x).rd < 32 ∧ (D x).rs1 < 32 ∧ (D x).rs2 < 32
/-- a hart's code in memory -/
structure CodeAt (w : World) (cb co n : Nat) (f : Nat → Int) : Prop where
  here : cb < w.heap.size
  cell : ∀ i, i < n → w.cell? ⟨cb, co + i, none⟩ = some (.int .u32 (f i))
  word : ∀ i, i < n → U32 (f i)
theorem CodeAt.below {w w' : World} {cb co n : Nat} {f : Nat → Int} (h : CodeAt w cb co n f) (hb : Below w.heap.size w w') : CodeAt w' cb co n f :=
  ⟨Nat.lt_of_lt_of_le h.here hb.size, fun i hi => (hb.cell (p := ⟨cb, co + i, none⟩) h.here).trans (h.cell i hi), h.word⟩
/-- the next instruction and its word -/
def HS.fetchD (S : HS) (D : Int → Dec) (n : Nat) (f : Nat → Int) : Dec := if S.pc / 4 < n then D (f (S.pc / 4).toNat) else noDec
def HS.fetchW (S : HS) (n : Nat) (f : Nat → Int) : Int := if S.pc / 4 < n then f (S.pc / 4).toNat else 0
set_option maxHeartbeats 2000000 in
theorem fetch_none (b : Nat) (S : HS) (cb co n cp : Nat) (w : World) (h : RH w b S) (hp : U32 S.pc) (hc : S.code = .slice (some ⟨cb, co, none⟩) n cp) (hn : n ≤ 4096) (hk : ¬ S.pc / 4 < n) : Calls Tryz.prog 42 #[.pointer (some ⟨b, 0, none⟩)] w fun e w' => e = .returned (.tuple #[noDec.val, .int .u32 0, .bool false]) ∧ Below w.heap.size w w' := by
  have cpc : w.cell? ⟨b, 3, none⟩ = some (.int .u32 S.pc) := h.cell 3 (by decide)
  have ccode : w.cell? ⟨b, 0, none⟩ = some (.slice (some ⟨cb, co, none⟩) n cp) := hc ▸ h.cell 0 (by decide)
  have h3 := h.here
  clear h
  go_enter Tryz.func42, Tryz.ntmps42
  go_wp2
  exact bodyPost_ret (v := .tuple #[noDec.val, .int .u32 0, .bool false]) (by simp [results, Tryz.results42, go_sem, noDec, Dec.val]) rfl ⟨rfl, (Below.refl _ _).alloc (Nat.le_refl _) _⟩
set_option maxHeartbeats 2000000 in
theorem fetch_some {D : Int → Dec} (HD : DecOk D) (b : Nat) (S : HS) (cb co n cp : Nat) (f : Nat → Int) (w : World) (h : RH w b S) (hp : U32 S.pc) (hc : S.code = .slice (some ⟨cb, co, none⟩) n cp) (hC : CodeAt w cb co n f) (hn : n ≤ 4096) (k : Nat) (hk : S.pc / 4 = k) (hkn : k < n) : Calls Tryz.prog 42 #[.pointer (some ⟨b, 0, none⟩)] w fun e w' => e = .returned (.tuple #[(D (f k)).val, .int .u32 (f k), .bool (D (f k)).ok]) ∧ Below w.heap.size w w' := by
  have cpc : w.cell? ⟨b, 3, none⟩ = some (.int .u32 S.pc) := h.cell 3 (by decide)
  have ccode : w.cell? ⟨b, 0, none⟩ = some (.slice (some ⟨cb, co, none⟩) n cp) := hc ▸ h.cell 0 (by decide)
  have h3 := h.here
  have cw := hC.cell k hkn
  have hch := hC.here
  have hu := hC.word k hkn
  clear h
  go_enter Tryz.func42, Tryz.ntmps42
  go_wp2_with (first | (go_at_call 73; refine (HD.calls _ _ hu).mono ?_; rintro e w1 ⟨rfl, hb1⟩; obtain ⟨k1, k2, k3, k4⟩ := keepB hb1; have cpc1 : w1.cell? ⟨b, 3, none⟩ = some (.int .u32 S.pc) := (k4.cell (p := ⟨b, 3, none⟩) h3).trans cpc; have ccode1 : w1.cell? ⟨b, 0, none⟩ = some (.slice (some ⟨cb, co, none⟩) n cp) := (k4.cell (p := ⟨b, 0, none⟩) h3).trans ccode; have cw1 := (k4.cell (p := ⟨cb, co + k, none⟩) hch).trans cw; have h31 := Nat.lt_of_lt_of_le h3 k4.size; have hch1 := Nat.lt_of_lt_of_le hch k4.size; unfold Dec.val))
  go_region
  go_wp2
  refine bodyPost_ret (v := .tuple #[(D (f k)).val, .int .u32 (f k), .bool (D (f k)).ok]) (by simp [results, Tryz.results42, go_sem, k1, k3, Dec.val]) rfl ⟨rfl, ?_⟩
  have q : Below w.heap.size w w1 := k4
  first
    | exact (((((((q.setCell (Nat.le_refl _) _).setCell (Nat.le_refl _) _).setCell (Nat.le_refl _) _).setCell (Nat.le_refl _) _).setCell (Nat.le_refl _) _).alloc (by simp [World.setCell]; omega) _)).drew
    | exact (((((((q.alloc (by omega) _).setCell (Nat.le_refl _) _).setCell (Nat.le_refl _) _).setCell (Nat.le_refl _) _).setCell (Nat.le_refl _) _).setCell (Nat.le_refl _) _)).drew
theorem fetch_any {D : Int → Dec} (HD : DecOk D) (b : Nat) (S : HS) (cb co n cp : Nat) (f : Nat → Int) (w : World) (h : RH w b S) (hp : U32 S.pc) (hc : S.code = .slice (some ⟨cb, co, none⟩) n cp) (hC : CodeAt w cb co n f) (hn : n ≤ 4096) : Calls Tryz.prog 42 #[.pointer (some ⟨b, 0, none⟩)] w fun e w' => e = .returned (.tuple #[(S.fetchD D n f).val, .int .u32 (S.fetchW n f), .bool (S.fetchD D n f).ok]) ∧ Below w.heap.size w w' := by
  unfold HS.fetchD HS.fetchW
  by_cases hk : S.pc / 4 < n
  · rw [if_pos hk, if_pos hk]
    exact fetch_some HD b S cb co n cp f w h hp hc hC hn (S.pc / 4).toNat (by have := hp.1; omega) (by have := hp.1; omega)
  · rw [if_neg hk, if_neg hk]
    exact fetch_none b S cb co n cp w h hp hc hn hk
end Go.Proofs.YtengofkjlgajlaaGreatDoor
