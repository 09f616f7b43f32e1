import Derived.Test.YtengofkjlgajlaaGreatDoorHf
/-
  THE ANSWER's HART: the class System.
-/
namespace Go.Proofs.YtengofkjlgajlaaGreatDoor
open Go Go.RowKit
/-- what mret leaves of mstatus -/
def HS.mretS (S : HS) : HS := { S with status := bits .or .u32 (bits .and .u32 (S.status / 16) 8) 128 }
theorem keepS {b B : Nat} {x w9 : World} {R : Obj} {Z : Array Value} (hO : Only b (x.alloc R) w9) (z : ∀ i, x.cell? ⟨B, i, none⟩ = Z[i]?) (f : ∀ i, x.frozen? ⟨B, i, none⟩ = false) (s : B < x.heap.size) (hb : B ≠ b) :
    (∀ i, w9.cell? ⟨B, i, none⟩ = Z[i]?) ∧ (∀ i, w9.frozen? ⟨B, i, none⟩ = false) ∧ B < w9.heap.size ∧ Only b x w9 := by
  have hA : Below x.heap.size x (x.alloc R) := (Below.refl _ _).alloc (Nat.le_refl _) R
  have u := hO.block B (Nat.lt_of_lt_of_le s hA.size) hb
  refine ⟨fun i => ?_, fun i => ?_, Nat.lt_of_lt_of_le s (Nat.le_trans hA.size hO.size), (Only.of_below hA).trans hO⟩
  · rw [World.cell?_of_block (w := x.alloc R) u, hA.cell (p := ⟨B, i, none⟩) s]; exact z i
  · rw [World.frozen?_of_block (w := x.alloc R) u, hA.frozen (p := ⟨B, i, none⟩) s]; exact f i
set_option maxRecDepth 100000 in
set_option maxHeartbeats 4000000 in
theorem sys_58 (b : Nat) (S : HS) (rd rs1 : Nat) (rs2 imm word a : Int) (w : World) (h : RH w b S) : Calls Tryz.prog 58 #[.pointer (some ⟨b, 0, none⟩), .agg #[.int .i64 58, .int .i64 rd, .int .i64 rs1, .int .i64 rs2, .int .i64 imm], .int .u32 word, .int .u32 a] w fun e w' => e = .returned (S.trapR word 11 0) ∧ RH w' b (S.trapped 11 0) ∧ Only b w w' := by
  have HN : Hid (nameAt 57 = ⟨#[101, 99, 97, 108, 108]⟩ ∧ letAt 57 = 78 ∧ fRAt 57 = 0) := ⟨by kernel_rfl, by kernel_rfl, by kernel_rfl⟩
  have h3 := h.here
  have HH : Hid (RH w b S) := h
  clear h
  go_enter Tryz.func58, Tryz.ntmps58
  go_wp2_with (first
    | (go_at_call 57; refine (rows_made _).mono ?_; rintro e w1 ⟨rfl, hR, hb1, hz⟩; have q0 := hR.r0 57 (by decide); have q1 := hR.r1 57 (by decide); have q2 := hR.r2 57 (by decide); have q3 := hR.r3 57 (by decide); have q4 := hR.r4 57 (by decide); rw [World.size_alloc, World.size_alloc, HN.out.1] at q0; rw [World.size_alloc, World.size_alloc, HN.out.2.1] at q1; rw [World.size_alloc, World.size_alloc] at q2 q4; rw [World.size_alloc, World.size_alloc, HN.out.2.2] at q3; have hh := hR.here; rw [World.size_alloc, World.size_alloc] at hh; clear hR hz; have HB1 := Hid.in (hb1); obtain ⟨i1, z1, f1, s1, o1⟩ := keep2f HB1.out; have R1 := Hid.in (HH.out.below o1); have p1 : w1.cell? ⟨b, 3, none⟩ = some (.int .u32 S.pc) := R1.out.cell 3 (by decide); have e1 : w1.cell? ⟨b, 42, none⟩ = some (.int .u32 S.epc) := R1.out.cell 42 (by decide); have a1 : w1.cell? ⟨b, 38, none⟩ = some (.int .u32 S.status) := R1.out.cell 38 (by decide); have t1 := R1.out.here; have y1 := R1.out.free; clear hb1)
    | (go_at_call 48; refine (trap_any b S _ _ _ _ (R1.out.alloc _)).mono ?_; rintro e w9 ⟨rfl, hR, hO⟩; obtain ⟨z9, f9, s9, o9⟩ := keepS hO z1 f1 s1 (by omega); unfold HS.trapR))
  refine bodyPost_ret (v := S.trapR word 11 0) (by simp [results, Tryz.results58, go_sem, z9, HS.trapR]) rfl ⟨rfl, ?_, ?_⟩
  · exact hR.far7 (by omega) _ _ _ _ _ _ _
  · exact ((Only.of_below o1).trans o9).new7 (by omega) _ _ _ _ _ _ _
set_option maxRecDepth 100000 in
set_option maxHeartbeats 4000000 in
theorem sys_59 (b : Nat) (S : HS) (rd rs1 : Nat) (rs2 imm word a : Int) (w : World) (h : RH w b S) : Calls Tryz.prog 58 #[.pointer (some ⟨b, 0, none⟩), .agg #[.int .i64 59, .int .i64 rd, .int .i64 rs1, .int .i64 rs2, .int .i64 imm], .int .u32 word, .int .u32 a] w fun e w' => e = .returned (S.trapR word 3 S.pc) ∧ RH w' b (S.trapped 3 S.pc) ∧ Only b w w' := by
  have HN : Hid (nameAt 58 = ⟨#[101, 98, 114, 101, 97, 107]⟩ ∧ letAt 58 = 78 ∧ fRAt 58 = 0) := ⟨by kernel_rfl, by kernel_rfl, by kernel_rfl⟩
  have h3 := h.here
  have HH : Hid (RH w b S) := h
  clear h
  go_enter Tryz.func58, Tryz.ntmps58
  go_wp2_with (first
    | (go_at_call 57; refine (rows_made _).mono ?_; rintro e w1 ⟨rfl, hR, hb1, hz⟩; have q0 := hR.r0 58 (by decide); have q1 := hR.r1 58 (by decide); have q2 := hR.r2 58 (by decide); have q3 := hR.r3 58 (by decide); have q4 := hR.r4 58 (by decide); rw [World.size_alloc, World.size_alloc, HN.out.1] at q0; rw [World.size_alloc, World.size_alloc, HN.out.2.1] at q1; rw [World.size_alloc, World.size_alloc] at q2 q4; rw [World.size_alloc, World.size_alloc, HN.out.2.2] at q3; have hh := hR.here; rw [World.size_alloc, World.size_alloc] at hh; clear hR hz; have HB1 := Hid.in (hb1); obtain ⟨i1, z1, f1, s1, o1⟩ := keep2f HB1.out; have R1 := Hid.in (HH.out.below o1); have p1 : w1.cell? ⟨b, 3, none⟩ = some (.int .u32 S.pc) := R1.out.cell 3 (by decide); have e1 : w1.cell? ⟨b, 42, none⟩ = some (.int .u32 S.epc) := R1.out.cell 42 (by decide); have a1 : w1.cell? ⟨b, 38, none⟩ = some (.int .u32 S.status) := R1.out.cell 38 (by decide); have t1 := R1.out.here; have y1 := R1.out.free; clear hb1)
    | (go_at_call 48; refine (trap_any b S _ _ _ _ (R1.out.alloc _)).mono ?_; rintro e w9 ⟨rfl, hR, hO⟩; obtain ⟨z9, f9, s9, o9⟩ := keepS hO z1 f1 s1 (by omega); unfold HS.trapR))
  refine bodyPost_ret (v := S.trapR word 3 S.pc) (by simp [results, Tryz.results58, go_sem, z9, HS.trapR]) rfl ⟨rfl, ?_, ?_⟩
  · exact hR.far7 (by omega) _ _ _ _ _ _ _
  · exact ((Only.of_below o1).trans o9).new7 (by omega) _ _ _ _ _ _ _
set_option maxRecDepth 100000 in
set_option maxHeartbeats 4000000 in
theorem sys_57 (b : Nat) (S : HS) (rd rs1 : Nat) (rs2 imm word a : Int) (w : World) (h : RH w b S) : Calls Tryz.prog 58 #[.pointer (some ⟨b, 0, none⟩), .agg #[.int .i64 57, .int .i64 rd, .int .i64 rs1, .int .i64 rs2, .int .i64 imm], .int .u32 word, .int .u32 a] w fun e w' => e = .returned (S.doneR word 0 0 ((S.pc + 4) % 4294967296)) ∧ RH w' b (S.done 0 (rvI 0 0) ((S.pc + 4) % 4294967296)) ∧ Only b w w' := by
  have HN : Hid (nameAt 56 = ⟨#[102, 101, 110, 99, 101]⟩ ∧ letAt 56 = 70 ∧ fRAt 56 = 0) := ⟨by kernel_rfl, by kernel_rfl, by kernel_rfl⟩
  have h3 := h.here
  have HH : Hid (RH w b S) := h
  clear h
  go_enter Tryz.func58, Tryz.ntmps58
  go_wp2_with (first
    | (go_at_call 57; refine (rows_made _).mono ?_; rintro e w1 ⟨rfl, hR, hb1, hz⟩; have q0 := hR.r0 56 (by decide); have q1 := hR.r1 56 (by decide); have q2 := hR.r2 56 (by decide); have q3 := hR.r3 56 (by decide); have q4 := hR.r4 56 (by decide); rw [World.size_alloc, World.size_alloc, HN.out.1] at q0; rw [World.size_alloc, World.size_alloc, HN.out.2.1] at q1; rw [World.size_alloc, World.size_alloc] at q2 q4; rw [World.size_alloc, World.size_alloc, HN.out.2.2] at q3; have hh := hR.here; rw [World.size_alloc, World.size_alloc] at hh; clear hR hz; have HB1 := Hid.in (hb1); obtain ⟨i1, z1, f1, s1, o1⟩ := keep2f HB1.out; have R1 := Hid.in (HH.out.below o1); have p1 : w1.cell? ⟨b, 3, none⟩ = some (.int .u32 S.pc) := R1.out.cell 3 (by decide); have e1 : w1.cell? ⟨b, 42, none⟩ = some (.int .u32 S.epc) := R1.out.cell 42 (by decide); have a1 : w1.cell? ⟨b, 38, none⟩ = some (.int .u32 S.status) := R1.out.cell 38 (by decide); have t1 := R1.out.here; have y1 := R1.out.free; clear hb1)
    | (go_at_call 54; refine (done_any b S _ 0 _ _ _ (R1.out.alloc _) (by decide)).mono ?_; rintro e w9 ⟨rfl, hR, hO⟩; obtain ⟨z9, f9, s9, o9⟩ := keepS hO z1 f1 s1 (by omega); unfold HS.doneR))
  refine bodyPost_ret (v := S.doneR word 0 0 ((S.pc + 4) % 4294967296)) (by simp [results, Tryz.results58, go_sem, z9, HS.doneR]) rfl ⟨rfl, ?_, ?_⟩
  · exact hR.far7 (by omega) _ _ _ _ _ _ _
  · exact ((Only.of_below o1).trans o9).new7 (by omega) _ _ _ _ _ _ _
set_option maxRecDepth 100000 in
set_option maxHeartbeats 4000000 in
theorem sys_61 (b : Nat) (S : HS) (rd rs1 : Nat) (rs2 imm word a : Int) (w : World) (h : RH w b S) : Calls Tryz.prog 58 #[.pointer (some ⟨b, 0, none⟩), .agg #[.int .i64 61, .int .i64 rd, .int .i64 rs1, .int .i64 rs2, .int .i64 imm], .int .u32 word, .int .u32 a] w fun e w' => e = .returned (S.doneR word 0 0 ((S.pc + 4) % 4294967296)) ∧ RH w' b (S.done 0 (rvI 0 0) ((S.pc + 4) % 4294967296)) ∧ Only b w w' := by
  have HN : Hid (nameAt 60 = ⟨#[119, 102, 105]⟩ ∧ letAt 60 = 78 ∧ fRAt 60 = 0) := ⟨by kernel_rfl, by kernel_rfl, by kernel_rfl⟩
  have h3 := h.here
  have HH : Hid (RH w b S) := h
  clear h
  go_enter Tryz.func58, Tryz.ntmps58
  go_wp2_with (first
    | (go_at_call 57; refine (rows_made _).mono ?_; rintro e w1 ⟨rfl, hR, hb1, hz⟩; have q0 := hR.r0 60 (by decide); have q1 := hR.r1 60 (by decide); have q2 := hR.r2 60 (by decide); have q3 := hR.r3 60 (by decide); have q4 := hR.r4 60 (by decide); rw [World.size_alloc, World.size_alloc, HN.out.1] at q0; rw [World.size_alloc, World.size_alloc, HN.out.2.1] at q1; rw [World.size_alloc, World.size_alloc] at q2 q4; rw [World.size_alloc, World.size_alloc, HN.out.2.2] at q3; have hh := hR.here; rw [World.size_alloc, World.size_alloc] at hh; clear hR hz; have HB1 := Hid.in (hb1); obtain ⟨i1, z1, f1, s1, o1⟩ := keep2f HB1.out; have R1 := Hid.in (HH.out.below o1); have p1 : w1.cell? ⟨b, 3, none⟩ = some (.int .u32 S.pc) := R1.out.cell 3 (by decide); have e1 : w1.cell? ⟨b, 42, none⟩ = some (.int .u32 S.epc) := R1.out.cell 42 (by decide); have a1 : w1.cell? ⟨b, 38, none⟩ = some (.int .u32 S.status) := R1.out.cell 38 (by decide); have t1 := R1.out.here; have y1 := R1.out.free; clear hb1)
    | (go_at_call 54; refine (done_any b S _ 0 _ _ _ (R1.out.alloc _) (by decide)).mono ?_; rintro e w9 ⟨rfl, hR, hO⟩; obtain ⟨z9, f9, s9, o9⟩ := keepS hO z1 f1 s1 (by omega); unfold HS.doneR))
  refine bodyPost_ret (v := S.doneR word 0 0 ((S.pc + 4) % 4294967296)) (by simp [results, Tryz.results58, go_sem, z9, HS.doneR]) rfl ⟨rfl, ?_, ?_⟩
  · exact hR.far7 (by omega) _ _ _ _ _ _ _
  · exact ((Only.of_below o1).trans o9).new7 (by omega) _ _ _ _ _ _ _
end Go.Proofs.YtengofkjlgajlaaGreatDoor
/-
  THE ANSWER's HART: mret, and control registers.
-/
namespace Go.Proofs.YtengofkjlgajlaaGreatDoor
open Go Go.RowKit
theorem keepT {b B : Nat} {x w9 : World} {Z : Array Value} (hO : Only b x w9) (z : ∀ i, x.cell? ⟨B, i, none⟩ = Z[i]?) (f : ∀ i, x.frozen? ⟨B, i, none⟩ = false) (s : B < x.heap.size) (hb : B ≠ b) :
    (∀ i, w9.cell? ⟨B, i, none⟩ = Z[i]?) ∧ (∀ i, w9.frozen? ⟨B, i, none⟩ = false) ∧ B < w9.heap.size := by
  have u := hO.block B s hb
  exact ⟨fun i => (World.cell?_of_block (w := x) u).trans (z i), fun i => (World.frozen?_of_block (w := x) u).trans (f i), Nat.lt_of_lt_of_le s hO.size⟩
theorem setCsr_pc (S : HS) (n v : Int) : (S.setCsr n v).pc = S.pc := by
  unfold HS.setCsr
  repeat' split
  all_goals rfl
/-- what a control register becomes -/
def csrNew (m old a : Int) : Int := if m = 2 then bits .or .u32 old a else if m = 3 then bits .andNot .u32 old a else a
set_option maxRecDepth 100000 in
set_option maxHeartbeats 4000000 in
theorem sys_60 (b : Nat) (S : HS) (rd rs1 : Nat) (rs2 imm word a : Int) (w : World) (h : RH w b S) : Calls Tryz.prog 58 #[.pointer (some ⟨b, 0, none⟩), .agg #[.int .i64 60, .int .i64 rd, .int .i64 rs1, .int .i64 rs2, .int .i64 imm], .int .u32 word, .int .u32 a] w fun e w' => e = .returned (S.mretS.doneR word 0 0 S.epc) ∧ RH w' b (S.mretS.done 0 (rvI 0 0) S.epc) ∧ Only b w w' := by
  have HN : Hid (nameAt 59 = ⟨#[109, 114, 101, 116]⟩ ∧ letAt 59 = 78 ∧ fRAt 59 = 0) := ⟨by kernel_rfl, by kernel_rfl, by kernel_rfl⟩
  have h3 := h.here
  have HH : Hid (RH w b S) := h
  clear h
  go_enter Tryz.func58, Tryz.ntmps58
  go_wp2_with (first
    | (go_at_call 57; refine (rows_made _).mono ?_; rintro e w1 ⟨rfl, hR, hb1, hz⟩; have q0 := hR.r0 59 (by decide); have q1 := hR.r1 59 (by decide); have q2 := hR.r2 59 (by decide); have q3 := hR.r3 59 (by decide); have q4 := hR.r4 59 (by decide); rw [World.size_alloc, World.size_alloc, HN.out.1] at q0; rw [World.size_alloc, World.size_alloc, HN.out.2.1] at q1; rw [World.size_alloc, World.size_alloc] at q2 q4; rw [World.size_alloc, World.size_alloc, HN.out.2.2] at q3; have hh := hR.here; rw [World.size_alloc, World.size_alloc] at hh; clear hR hz; have HB1 := Hid.in (hb1); obtain ⟨i1, z1, f1, s1, o1⟩ := keep2f HB1.out; have R1 := Hid.in (HH.out.below o1); have p1 : w1.cell? ⟨b, 3, none⟩ = some (.int .u32 S.pc) := R1.out.cell 3 (by decide); have e1 : w1.cell? ⟨b, 42, none⟩ = some (.int .u32 S.epc) := R1.out.cell 42 (by decide); have a1 : w1.cell? ⟨b, 38, none⟩ = some (.int .u32 S.status) := R1.out.cell 38 (by decide); have t1 := R1.out.here; have v1 : w.heap.size < w1.heap.size := Nat.lt_of_succ_lt s1; have y1 := R1.out.free; clear hb1)
    | (go_at_call 54; refine (done_any b S.mretS _ 0 _ _ _ (by first | exact RH.status (CellsAt.alloc R1.out _) _ | exact CellsAt.alloc (RH.status R1.out _) _) (by decide)).mono ?_; rintro e w9 ⟨rfl, hR, hO⟩; have hO2 : Only b w1 w9 := Only.trans (by first | exact ((Only.refl b w1).alloc _).set _ _ | exact ((Only.refl b w1).set _ _).alloc _) hO; obtain ⟨z9, f9, s9⟩ := keepT hO2 z1 f1 s1 (by omega); unfold HS.doneR))
  refine bodyPost_ret (v := S.mretS.doneR word 0 0 S.epc) (by simp [results, Tryz.results58, go_sem, z9, HS.doneR]) rfl ⟨rfl, ?_, ?_⟩
  · exact hR.far7 (by omega) _ _ _ _ _ _ _
  · exact ((Only.of_below o1).trans hO2).new7 (by omega) _ _ _ _ _ _ _
set_option maxRecDepth 100000 in
set_option maxHeartbeats 4000000 in
theorem sys_62_none (b : Nat) (S : HS) (rd rs1 : Nat) (rs2 imm word a : Int) (w : World) (h : RH w b S) (ht : csrB imm = false) : Calls Tryz.prog 58 #[.pointer (some ⟨b, 0, none⟩), .agg #[.int .i64 62, .int .i64 rd, .int .i64 rs1, .int .i64 rs2, .int .i64 imm], .int .u32 word, .int .u32 a] w fun e w' => e = .returned (S.trapR word 2 word) ∧ RH w' b (S.trapped 2 word) ∧ Only b w w' := by
  have HN : Hid (nameAt 61 = ⟨#[99, 115, 114, 114, 119]⟩ ∧ letAt 61 = 67 ∧ fRAt 61 = 1) := ⟨by kernel_rfl, by kernel_rfl, by kernel_rfl⟩
  have h3 := h.here
  have HH : Hid (RH w b S) := h
  clear h
  obtain ⟨v, hV⟩ : ∃ v, S.csrV imm = v := ⟨_, rfl⟩
  have HV : Hid (S.csrV imm = v) := hV
  have HT : Hid (csrB imm = false) := ht
  clear hV ht
  go_enter Tryz.func58, Tryz.ntmps58
  go_wp2_with (first
    | (go_at_call 57; refine (rows_made _).mono ?_; rintro e w1 ⟨rfl, hR, hb1, hz⟩; have q0 := hR.r0 61 (by decide); have q1 := hR.r1 61 (by decide); have q2 := hR.r2 61 (by decide); have q3 := hR.r3 61 (by decide); have q4 := hR.r4 61 (by decide); rw [World.size_alloc, World.size_alloc, HN.out.1] at q0; rw [World.size_alloc, World.size_alloc, HN.out.2.1] at q1; rw [World.size_alloc, World.size_alloc] at q2 q4; rw [World.size_alloc, World.size_alloc, HN.out.2.2] at q3; have hh := hR.here; rw [World.size_alloc, World.size_alloc] at hh; clear hR hz; have HB1 := Hid.in (hb1); obtain ⟨i1, z1, f1, s1, o1⟩ := keep2f HB1.out; have R1 := Hid.in (HH.out.below o1); have p1 : w1.cell? ⟨b, 3, none⟩ = some (.int .u32 S.pc) := R1.out.cell 3 (by decide); have e1 : w1.cell? ⟨b, 42, none⟩ = some (.int .u32 S.epc) := R1.out.cell 42 (by decide); have a1 : w1.cell? ⟨b, 38, none⟩ = some (.int .u32 S.status) := R1.out.cell 38 (by decide); have t1 := R1.out.here; have v1 : w.heap.size < w1.heap.size := Nat.lt_of_succ_lt s1; have y1 := R1.out.free; clear hb1)
    | (go_at_call 36; refine (csr_any b S _ _ (R1.out.alloc _)).mono ?_; rintro e w2 ⟨rfl, rfl⟩; rw [HV.out, HT.out])
    | (go_at_call 48; refine (trap_any b S _ _ _ _ (R1.out.alloc _)).mono ?_; rintro e w9 ⟨rfl, hR, hO⟩; obtain ⟨z9, f9, s9, o9⟩ := keepS hO z1 f1 s1 (by omega); unfold HS.trapR))
  refine bodyPost_ret (v := S.trapR word 2 word) (by simp [results, Tryz.results58, go_sem, z9, HS.trapR]) rfl ⟨rfl, ?_, ?_⟩
  · exact hR.far7 (by omega) _ _ _ _ _ _ _
  · exact ((Only.of_below o1).trans o9).new7 (by omega) _ _ _ _ _ _ _
set_option maxRecDepth 100000 in
set_option maxHeartbeats 4000000 in
theorem sys_62_ro (b : Nat) (S : HS) (rd rs1 : Nat) (rs2 imm word a : Int) (w : World) (h : RH w b S) (ht : csrB imm = true) (h10 : (imm / 1024 == 3) = true) : Calls Tryz.prog 58 #[.pointer (some ⟨b, 0, none⟩), .agg #[.int .i64 62, .int .i64 rd, .int .i64 rs1, .int .i64 rs2, .int .i64 imm], .int .u32 word, .int .u32 a] w fun e w' => e = .returned (S.trapR word 2 word) ∧ RH w' b (S.trapped 2 word) ∧ Only b w w' := by
  have HN : Hid (nameAt 61 = ⟨#[99, 115, 114, 114, 119]⟩ ∧ letAt 61 = 67 ∧ fRAt 61 = 1) := ⟨by kernel_rfl, by kernel_rfl, by kernel_rfl⟩
  have h3 := h.here
  have HH : Hid (RH w b S) := h
  clear h
  obtain ⟨v, hV⟩ : ∃ v, S.csrV imm = v := ⟨_, rfl⟩
  have HV : Hid (S.csrV imm = v) := hV
  have HT : Hid (csrB imm = true) := ht
  clear hV ht
  go_enter Tryz.func58, Tryz.ntmps58
  go_wp2_with (first
    | (go_at_call 57; refine (rows_made _).mono ?_; rintro e w1 ⟨rfl, hR, hb1, hz⟩; have q0 := hR.r0 61 (by decide); have q1 := hR.r1 61 (by decide); have q2 := hR.r2 61 (by decide); have q3 := hR.r3 61 (by decide); have q4 := hR.r4 61 (by decide); rw [World.size_alloc, World.size_alloc, HN.out.1] at q0; rw [World.size_alloc, World.size_alloc, HN.out.2.1] at q1; rw [World.size_alloc, World.size_alloc] at q2 q4; rw [World.size_alloc, World.size_alloc, HN.out.2.2] at q3; have hh := hR.here; rw [World.size_alloc, World.size_alloc] at hh; clear hR hz; have HB1 := Hid.in (hb1); obtain ⟨i1, z1, f1, s1, o1⟩ := keep2f HB1.out; have R1 := Hid.in (HH.out.below o1); have p1 : w1.cell? ⟨b, 3, none⟩ = some (.int .u32 S.pc) := R1.out.cell 3 (by decide); have e1 : w1.cell? ⟨b, 42, none⟩ = some (.int .u32 S.epc) := R1.out.cell 42 (by decide); have a1 : w1.cell? ⟨b, 38, none⟩ = some (.int .u32 S.status) := R1.out.cell 38 (by decide); have t1 := R1.out.here; have v1 : w.heap.size < w1.heap.size := Nat.lt_of_succ_lt s1; have y1 := R1.out.free; clear hb1)
    | (go_at_call 36; refine (csr_any b S _ _ (R1.out.alloc _)).mono ?_; rintro e w2 ⟨rfl, rfl⟩; rw [HV.out, HT.out])
    | (go_at_call 48; refine (trap_any b S _ _ _ _ (R1.out.alloc _)).mono ?_; rintro e w9 ⟨rfl, hR, hO⟩; obtain ⟨z9, f9, s9, o9⟩ := keepS hO z1 f1 s1 (by omega); unfold HS.trapR))
  refine bodyPost_ret (v := S.trapR word 2 word) (by simp [results, Tryz.results58, go_sem, z9, HS.trapR]) rfl ⟨rfl, ?_, ?_⟩
  · exact hR.far7 (by omega) _ _ _ _ _ _ _
  · exact ((Only.of_below o1).trans o9).new7 (by omega) _ _ _ _ _ _ _
set_option maxRecDepth 100000 in
set_option maxHeartbeats 4000000 in
theorem sys_63_none (b : Nat) (S : HS) (rd rs1 : Nat) (rs2 imm word a : Int) (w : World) (h : RH w b S) (ht : csrB imm = false) : Calls Tryz.prog 58 #[.pointer (some ⟨b, 0, none⟩), .agg #[.int .i64 63, .int .i64 rd, .int .i64 rs1, .int .i64 rs2, .int .i64 imm], .int .u32 word, .int .u32 a] w fun e w' => e = .returned (S.trapR word 2 word) ∧ RH w' b (S.trapped 2 word) ∧ Only b w w' := by
  have HN : Hid (nameAt 62 = ⟨#[99, 115, 114, 114, 115]⟩ ∧ letAt 62 = 67 ∧ fRAt 62 = 2) := ⟨by kernel_rfl, by kernel_rfl, by kernel_rfl⟩
  have h3 := h.here
  have HH : Hid (RH w b S) := h
  clear h
  obtain ⟨v, hV⟩ : ∃ v, S.csrV imm = v := ⟨_, rfl⟩
  have HV : Hid (S.csrV imm = v) := hV
  have HT : Hid (csrB imm = false) := ht
  clear hV ht
  go_enter Tryz.func58, Tryz.ntmps58
  go_wp2_with (first
    | (go_at_call 57; refine (rows_made _).mono ?_; rintro e w1 ⟨rfl, hR, hb1, hz⟩; have q0 := hR.r0 62 (by decide); have q1 := hR.r1 62 (by decide); have q2 := hR.r2 62 (by decide); have q3 := hR.r3 62 (by decide); have q4 := hR.r4 62 (by decide); rw [World.size_alloc, World.size_alloc, HN.out.1] at q0; rw [World.size_alloc, World.size_alloc, HN.out.2.1] at q1; rw [World.size_alloc, World.size_alloc] at q2 q4; rw [World.size_alloc, World.size_alloc, HN.out.2.2] at q3; have hh := hR.here; rw [World.size_alloc, World.size_alloc] at hh; clear hR hz; have HB1 := Hid.in (hb1); obtain ⟨i1, z1, f1, s1, o1⟩ := keep2f HB1.out; have R1 := Hid.in (HH.out.below o1); have p1 : w1.cell? ⟨b, 3, none⟩ = some (.int .u32 S.pc) := R1.out.cell 3 (by decide); have e1 : w1.cell? ⟨b, 42, none⟩ = some (.int .u32 S.epc) := R1.out.cell 42 (by decide); have a1 : w1.cell? ⟨b, 38, none⟩ = some (.int .u32 S.status) := R1.out.cell 38 (by decide); have t1 := R1.out.here; have v1 : w.heap.size < w1.heap.size := Nat.lt_of_succ_lt s1; have y1 := R1.out.free; clear hb1)
    | (go_at_call 36; refine (csr_any b S _ _ (R1.out.alloc _)).mono ?_; rintro e w2 ⟨rfl, rfl⟩; rw [HV.out, HT.out])
    | (go_at_call 48; refine (trap_any b S _ _ _ _ (R1.out.alloc _)).mono ?_; rintro e w9 ⟨rfl, hR, hO⟩; obtain ⟨z9, f9, s9, o9⟩ := keepS hO z1 f1 s1 (by omega); unfold HS.trapR))
  refine bodyPost_ret (v := S.trapR word 2 word) (by simp [results, Tryz.results58, go_sem, z9, HS.trapR]) rfl ⟨rfl, ?_, ?_⟩
  · exact hR.far7 (by omega) _ _ _ _ _ _ _
  · exact ((Only.of_below o1).trans o9).new7 (by omega) _ _ _ _ _ _ _
set_option maxRecDepth 100000 in
set_option maxHeartbeats 4000000 in
theorem sys_63_ro (b : Nat) (S : HS) (rd rs1 : Nat) (rs2 imm word a : Int) (w : World) (h : RH w b S) (ht : csrB imm = true) (h0 : ((rs1 : Int) != 0) = true) (h10 : (imm / 1024 == 3) = true) : Calls Tryz.prog 58 #[.pointer (some ⟨b, 0, none⟩), .agg #[.int .i64 63, .int .i64 rd, .int .i64 rs1, .int .i64 rs2, .int .i64 imm], .int .u32 word, .int .u32 a] w fun e w' => e = .returned (S.trapR word 2 word) ∧ RH w' b (S.trapped 2 word) ∧ Only b w w' := by
  have HN : Hid (nameAt 62 = ⟨#[99, 115, 114, 114, 115]⟩ ∧ letAt 62 = 67 ∧ fRAt 62 = 2) := ⟨by kernel_rfl, by kernel_rfl, by kernel_rfl⟩
  have h3 := h.here
  have HH : Hid (RH w b S) := h
  clear h
  obtain ⟨v, hV⟩ : ∃ v, S.csrV imm = v := ⟨_, rfl⟩
  have HV : Hid (S.csrV imm = v) := hV
  have HT : Hid (csrB imm = true) := ht
  clear hV ht
  go_enter Tryz.func58, Tryz.ntmps58
  go_wp2_with (first
    | (go_at_call 57; refine (rows_made _).mono ?_; rintro e w1 ⟨rfl, hR, hb1, hz⟩; have q0 := hR.r0 62 (by decide); have q1 := hR.r1 62 (by decide); have q2 := hR.r2 62 (by decide); have q3 := hR.r3 62 (by decide); have q4 := hR.r4 62 (by decide); rw [World.size_alloc, World.size_alloc, HN.out.1] at q0; rw [World.size_alloc, World.size_alloc, HN.out.2.1] at q1; rw [World.size_alloc, World.size_alloc] at q2 q4; rw [World.size_alloc, World.size_alloc, HN.out.2.2] at q3; have hh := hR.here; rw [World.size_alloc, World.size_alloc] at hh; clear hR hz; have HB1 := Hid.in (hb1); obtain ⟨i1, z1, f1, s1, o1⟩ := keep2f HB1.out; have R1 := Hid.in (HH.out.below o1); have p1 : w1.cell? ⟨b, 3, none⟩ = some (.int .u32 S.pc) := R1.out.cell 3 (by decide); have e1 : w1.cell? ⟨b, 42, none⟩ = some (.int .u32 S.epc) := R1.out.cell 42 (by decide); have a1 : w1.cell? ⟨b, 38, none⟩ = some (.int .u32 S.status) := R1.out.cell 38 (by decide); have t1 := R1.out.here; have v1 : w.heap.size < w1.heap.size := Nat.lt_of_succ_lt s1; have y1 := R1.out.free; clear hb1)
    | (go_at_call 36; refine (csr_any b S _ _ (R1.out.alloc _)).mono ?_; rintro e w2 ⟨rfl, rfl⟩; rw [HV.out, HT.out])
    | (go_at_call 48; refine (trap_any b S _ _ _ _ (R1.out.alloc _)).mono ?_; rintro e w9 ⟨rfl, hR, hO⟩; obtain ⟨z9, f9, s9, o9⟩ := keepS hO z1 f1 s1 (by omega); unfold HS.trapR))
  refine bodyPost_ret (v := S.trapR word 2 word) (by simp [results, Tryz.results58, go_sem, z9, HS.trapR]) rfl ⟨rfl, ?_, ?_⟩
  · exact hR.far7 (by omega) _ _ _ _ _ _ _
  · exact ((Only.of_below o1).trans o9).new7 (by omega) _ _ _ _ _ _ _
set_option maxRecDepth 100000 in
set_option maxHeartbeats 4000000 in
theorem sys_64_none (b : Nat) (S : HS) (rd rs1 : Nat) (rs2 imm word a : Int) (w : World) (h : RH w b S) (ht : csrB imm = false) : Calls Tryz.prog 58 #[.pointer (some ⟨b, 0, none⟩), .agg #[.int .i64 64, .int .i64 rd, .int .i64 rs1, .int .i64 rs2, .int .i64 imm], .int .u32 word, .int .u32 a] w fun e w' => e = .returned (S.trapR word 2 word) ∧ RH w' b (S.trapped 2 word) ∧ Only b w w' := by
  have HN : Hid (nameAt 63 = ⟨#[99, 115, 114, 114, 99]⟩ ∧ letAt 63 = 67 ∧ fRAt 63 = 3) := ⟨by kernel_rfl, by kernel_rfl, by kernel_rfl⟩
  have h3 := h.here
  have HH : Hid (RH w b S) := h
  clear h
  obtain ⟨v, hV⟩ : ∃ v, S.csrV imm = v := ⟨_, rfl⟩
  have HV : Hid (S.csrV imm = v) := hV
  have HT : Hid (csrB imm = false) := ht
  clear hV ht
  go_enter Tryz.func58, Tryz.ntmps58
  go_wp2_with (first
    | (go_at_call 57; refine (rows_made _).mono ?_; rintro e w1 ⟨rfl, hR, hb1, hz⟩; have q0 := hR.r0 63 (by decide); have q1 := hR.r1 63 (by decide); have q2 := hR.r2 63 (by decide); have q3 := hR.r3 63 (by decide); have q4 := hR.r4 63 (by decide); rw [World.size_alloc, World.size_alloc, HN.out.1] at q0; rw [World.size_alloc, World.size_alloc, HN.out.2.1] at q1; rw [World.size_alloc, World.size_alloc] at q2 q4; rw [World.size_alloc, World.size_alloc, HN.out.2.2] at q3; have hh := hR.here; rw [World.size_alloc, World.size_alloc] at hh; clear hR hz; have HB1 := Hid.in (hb1); obtain ⟨i1, z1, f1, s1, o1⟩ := keep2f HB1.out; have R1 := Hid.in (HH.out.below o1); have p1 : w1.cell? ⟨b, 3, none⟩ = some (.int .u32 S.pc) := R1.out.cell 3 (by decide); have e1 : w1.cell? ⟨b, 42, none⟩ = some (.int .u32 S.epc) := R1.out.cell 42 (by decide); have a1 : w1.cell? ⟨b, 38, none⟩ = some (.int .u32 S.status) := R1.out.cell 38 (by decide); have t1 := R1.out.here; have v1 : w.heap.size < w1.heap.size := Nat.lt_of_succ_lt s1; have y1 := R1.out.free; clear hb1)
    | (go_at_call 36; refine (csr_any b S _ _ (R1.out.alloc _)).mono ?_; rintro e w2 ⟨rfl, rfl⟩; rw [HV.out, HT.out])
    | (go_at_call 48; refine (trap_any b S _ _ _ _ (R1.out.alloc _)).mono ?_; rintro e w9 ⟨rfl, hR, hO⟩; obtain ⟨z9, f9, s9, o9⟩ := keepS hO z1 f1 s1 (by omega); unfold HS.trapR))
  refine bodyPost_ret (v := S.trapR word 2 word) (by simp [results, Tryz.results58, go_sem, z9, HS.trapR]) rfl ⟨rfl, ?_, ?_⟩
  · exact hR.far7 (by omega) _ _ _ _ _ _ _
  · exact ((Only.of_below o1).trans o9).new7 (by omega) _ _ _ _ _ _ _
set_option maxRecDepth 100000 in
set_option maxHeartbeats 4000000 in
theorem sys_64_ro (b : Nat) (S : HS) (rd rs1 : Nat) (rs2 imm word a : Int) (w : World) (h : RH w b S) (ht : csrB imm = true) (h0 : ((rs1 : Int) != 0) = true) (h10 : (imm / 1024 == 3) = true) : Calls Tryz.prog 58 #[.pointer (some ⟨b, 0, none⟩), .agg #[.int .i64 64, .int .i64 rd, .int .i64 rs1, .int .i64 rs2, .int .i64 imm], .int .u32 word, .int .u32 a] w fun e w' => e = .returned (S.trapR word 2 word) ∧ RH w' b (S.trapped 2 word) ∧ Only b w w' := by
  have HN : Hid (nameAt 63 = ⟨#[99, 115, 114, 114, 99]⟩ ∧ letAt 63 = 67 ∧ fRAt 63 = 3) := ⟨by kernel_rfl, by kernel_rfl, by kernel_rfl⟩
  have h3 := h.here
  have HH : Hid (RH w b S) := h
  clear h
  obtain ⟨v, hV⟩ : ∃ v, S.csrV imm = v := ⟨_, rfl⟩
  have HV : Hid (S.csrV imm = v) := hV
  have HT : Hid (csrB imm = true) := ht
  clear hV ht
  go_enter Tryz.func58, Tryz.ntmps58
  go_wp2_with (first
    | (go_at_call 57; refine (rows_made _).mono ?_; rintro e w1 ⟨rfl, hR, hb1, hz⟩; have q0 := hR.r0 63 (by decide); have q1 := hR.r1 63 (by decide); have q2 := hR.r2 63 (by decide); have q3 := hR.r3 63 (by decide); have q4 := hR.r4 63 (by decide); rw [World.size_alloc, World.size_alloc, HN.out.1] at q0; rw [World.size_alloc, World.size_alloc, HN.out.2.1] at q1; rw [World.size_alloc, World.size_alloc] at q2 q4; rw [World.size_alloc, World.size_alloc, HN.out.2.2] at q3; have hh := hR.here; rw [World.size_alloc, World.size_alloc] at hh; clear hR hz; have HB1 := Hid.in (hb1); obtain ⟨i1, z1, f1, s1, o1⟩ := keep2f HB1.out; have R1 := Hid.in (HH.out.below o1); have p1 : w1.cell? ⟨b, 3, none⟩ = some (.int .u32 S.pc) := R1.out.cell 3 (by decide); have e1 : w1.cell? ⟨b, 42, none⟩ = some (.int .u32 S.epc) := R1.out.cell 42 (by decide); have a1 : w1.cell? ⟨b, 38, none⟩ = some (.int .u32 S.status) := R1.out.cell 38 (by decide); have t1 := R1.out.here; have v1 : w.heap.size < w1.heap.size := Nat.lt_of_succ_lt s1; have y1 := R1.out.free; clear hb1)
    | (go_at_call 36; refine (csr_any b S _ _ (R1.out.alloc _)).mono ?_; rintro e w2 ⟨rfl, rfl⟩; rw [HV.out, HT.out])
    | (go_at_call 48; refine (trap_any b S _ _ _ _ (R1.out.alloc _)).mono ?_; rintro e w9 ⟨rfl, hR, hO⟩; obtain ⟨z9, f9, s9, o9⟩ := keepS hO z1 f1 s1 (by omega); unfold HS.trapR))
  refine bodyPost_ret (v := S.trapR word 2 word) (by simp [results, Tryz.results58, go_sem, z9, HS.trapR]) rfl ⟨rfl, ?_, ?_⟩
  · exact hR.far7 (by omega) _ _ _ _ _ _ _
  · exact ((Only.of_below o1).trans o9).new7 (by omega) _ _ _ _ _ _ _
set_option maxRecDepth 100000 in
set_option maxHeartbeats 4000000 in
theorem sys_65_none (b : Nat) (S : HS) (rd rs1 : Nat) (rs2 imm word a : Int) (w : World) (h : RH w b S) (ht : csrB imm = false) : Calls Tryz.prog 58 #[.pointer (some ⟨b, 0, none⟩), .agg #[.int .i64 65, .int .i64 rd, .int .i64 rs1, .int .i64 rs2, .int .i64 imm], .int .u32 word, .int .u32 a] w fun e w' => e = .returned (S.trapR word 2 word) ∧ RH w' b (S.trapped 2 word) ∧ Only b w w' := by
  have HN : Hid (nameAt 64 = ⟨#[99, 115, 114, 114, 119, 105]⟩ ∧ letAt 64 = 68 ∧ fRAt 64 = 5) := ⟨by kernel_rfl, by kernel_rfl, by kernel_rfl⟩
  have h3 := h.here
  have HH : Hid (RH w b S) := h
  clear h
  obtain ⟨v, hV⟩ : ∃ v, S.csrV imm = v := ⟨_, rfl⟩
  have HV : Hid (S.csrV imm = v) := hV
  have HT : Hid (csrB imm = false) := ht
  clear hV ht
  go_enter Tryz.func58, Tryz.ntmps58
  go_wp2_with (first
    | (go_at_call 57; refine (rows_made _).mono ?_; rintro e w1 ⟨rfl, hR, hb1, hz⟩; have q0 := hR.r0 64 (by decide); have q1 := hR.r1 64 (by decide); have q2 := hR.r2 64 (by decide); have q3 := hR.r3 64 (by decide); have q4 := hR.r4 64 (by decide); rw [World.size_alloc, World.size_alloc, HN.out.1] at q0; rw [World.size_alloc, World.size_alloc, HN.out.2.1] at q1; rw [World.size_alloc, World.size_alloc] at q2 q4; rw [World.size_alloc, World.size_alloc, HN.out.2.2] at q3; have hh := hR.here; rw [World.size_alloc, World.size_alloc] at hh; clear hR hz; have HB1 := Hid.in (hb1); obtain ⟨i1, z1, f1, s1, o1⟩ := keep2f HB1.out; have R1 := Hid.in (HH.out.below o1); have p1 : w1.cell? ⟨b, 3, none⟩ = some (.int .u32 S.pc) := R1.out.cell 3 (by decide); have e1 : w1.cell? ⟨b, 42, none⟩ = some (.int .u32 S.epc) := R1.out.cell 42 (by decide); have a1 : w1.cell? ⟨b, 38, none⟩ = some (.int .u32 S.status) := R1.out.cell 38 (by decide); have t1 := R1.out.here; have v1 : w.heap.size < w1.heap.size := Nat.lt_of_succ_lt s1; have y1 := R1.out.free; clear hb1)
    | (go_at_call 36; refine (csr_any b S _ _ (R1.out.alloc _)).mono ?_; rintro e w2 ⟨rfl, rfl⟩; rw [HV.out, HT.out])
    | (go_at_call 48; refine (trap_any b S _ _ _ _ (R1.out.alloc _)).mono ?_; rintro e w9 ⟨rfl, hR, hO⟩; obtain ⟨z9, f9, s9, o9⟩ := keepS hO z1 f1 s1 (by omega); unfold HS.trapR))
  refine bodyPost_ret (v := S.trapR word 2 word) (by simp [results, Tryz.results58, go_sem, z9, HS.trapR]) rfl ⟨rfl, ?_, ?_⟩
  · exact hR.far7 (by omega) _ _ _ _ _ _ _
  · exact ((Only.of_below o1).trans o9).new7 (by omega) _ _ _ _ _ _ _
set_option maxRecDepth 100000 in
set_option maxHeartbeats 4000000 in
theorem sys_65_ro (b : Nat) (S : HS) (rd rs1 : Nat) (rs2 imm word a : Int) (w : World) (h : RH w b S) (ht : csrB imm = true) (h10 : (imm / 1024 == 3) = true) : Calls Tryz.prog 58 #[.pointer (some ⟨b, 0, none⟩), .agg #[.int .i64 65, .int .i64 rd, .int .i64 rs1, .int .i64 rs2, .int .i64 imm], .int .u32 word, .int .u32 a] w fun e w' => e = .returned (S.trapR word 2 word) ∧ RH w' b (S.trapped 2 word) ∧ Only b w w' := by
  have HN : Hid (nameAt 64 = ⟨#[99, 115, 114, 114, 119, 105]⟩ ∧ letAt 64 = 68 ∧ fRAt 64 = 5) := ⟨by kernel_rfl, by kernel_rfl, by kernel_rfl⟩
  have h3 := h.here
  have HH : Hid (RH w b S) := h
  clear h
  obtain ⟨v, hV⟩ : ∃ v, S.csrV imm = v := ⟨_, rfl⟩
  have HV : Hid (S.csrV imm = v) := hV
  have HT : Hid (csrB imm = true) := ht
  clear hV ht
  go_enter Tryz.func58, Tryz.ntmps58
  go_wp2_with (first
    | (go_at_call 57; refine (rows_made _).mono ?_; rintro e w1 ⟨rfl, hR, hb1, hz⟩; have q0 := hR.r0 64 (by decide); have q1 := hR.r1 64 (by decide); have q2 := hR.r2 64 (by decide); have q3 := hR.r3 64 (by decide); have q4 := hR.r4 64 (by decide); rw [World.size_alloc, World.size_alloc, HN.out.1] at q0; rw [World.size_alloc, World.size_alloc, HN.out.2.1] at q1; rw [World.size_alloc, World.size_alloc] at q2 q4; rw [World.size_alloc, World.size_alloc, HN.out.2.2] at q3; have hh := hR.here; rw [World.size_alloc, World.size_alloc] at hh; clear hR hz; have HB1 := Hid.in (hb1); obtain ⟨i1, z1, f1, s1, o1⟩ := keep2f HB1.out; have R1 := Hid.in (HH.out.below o1); have p1 : w1.cell? ⟨b, 3, none⟩ = some (.int .u32 S.pc) := R1.out.cell 3 (by decide); have e1 : w1.cell? ⟨b, 42, none⟩ = some (.int .u32 S.epc) := R1.out.cell 42 (by decide); have a1 : w1.cell? ⟨b, 38, none⟩ = some (.int .u32 S.status) := R1.out.cell 38 (by decide); have t1 := R1.out.here; have v1 : w.heap.size < w1.heap.size := Nat.lt_of_succ_lt s1; have y1 := R1.out.free; clear hb1)
    | (go_at_call 36; refine (csr_any b S _ _ (R1.out.alloc _)).mono ?_; rintro e w2 ⟨rfl, rfl⟩; rw [HV.out, HT.out])
    | (go_at_call 48; refine (trap_any b S _ _ _ _ (R1.out.alloc _)).mono ?_; rintro e w9 ⟨rfl, hR, hO⟩; obtain ⟨z9, f9, s9, o9⟩ := keepS hO z1 f1 s1 (by omega); unfold HS.trapR))
  refine bodyPost_ret (v := S.trapR word 2 word) (by simp [results, Tryz.results58, go_sem, z9, HS.trapR]) rfl ⟨rfl, ?_, ?_⟩
  · exact hR.far7 (by omega) _ _ _ _ _ _ _
  · exact ((Only.of_below o1).trans o9).new7 (by omega) _ _ _ _ _ _ _
set_option maxRecDepth 100000 in
set_option maxHeartbeats 4000000 in
theorem sys_66_none (b : Nat) (S : HS) (rd rs1 : Nat) (rs2 imm word a : Int) (w : World) (h : RH w b S) (ht : csrB imm = false) : Calls Tryz.prog 58 #[.pointer (some ⟨b, 0, none⟩), .agg #[.int .i64 66, .int .i64 rd, .int .i64 rs1, .int .i64 rs2, .int .i64 imm], .int .u32 word, .int .u32 a] w fun e w' => e = .returned (S.trapR word 2 word) ∧ RH w' b (S.trapped 2 word) ∧ Only b w w' := by
  have HN : Hid (nameAt 65 = ⟨#[99, 115, 114, 114, 115, 105]⟩ ∧ letAt 65 = 68 ∧ fRAt 65 = 6) := ⟨by kernel_rfl, by kernel_rfl, by kernel_rfl⟩
  have h3 := h.here
  have HH : Hid (RH w b S) := h
  clear h
  obtain ⟨v, hV⟩ : ∃ v, S.csrV imm = v := ⟨_, rfl⟩
  have HV : Hid (S.csrV imm = v) := hV
  have HT : Hid (csrB imm = false) := ht
  clear hV ht
  go_enter Tryz.func58, Tryz.ntmps58
  go_wp2_with (first
    | (go_at_call 57; refine (rows_made _).mono ?_; rintro e w1 ⟨rfl, hR, hb1, hz⟩; have q0 := hR.r0 65 (by decide); have q1 := hR.r1 65 (by decide); have q2 := hR.r2 65 (by decide); have q3 := hR.r3 65 (by decide); have q4 := hR.r4 65 (by decide); rw [World.size_alloc, World.size_alloc, HN.out.1] at q0; rw [World.size_alloc, World.size_alloc, HN.out.2.1] at q1; rw [World.size_alloc, World.size_alloc] at q2 q4; rw [World.size_alloc, World.size_alloc, HN.out.2.2] at q3; have hh := hR.here; rw [World.size_alloc, World.size_alloc] at hh; clear hR hz; have HB1 := Hid.in (hb1); obtain ⟨i1, z1, f1, s1, o1⟩ := keep2f HB1.out; have R1 := Hid.in (HH.out.below o1); have p1 : w1.cell? ⟨b, 3, none⟩ = some (.int .u32 S.pc) := R1.out.cell 3 (by decide); have e1 : w1.cell? ⟨b, 42, none⟩ = some (.int .u32 S.epc) := R1.out.cell 42 (by decide); have a1 : w1.cell? ⟨b, 38, none⟩ = some (.int .u32 S.status) := R1.out.cell 38 (by decide); have t1 := R1.out.here; have v1 : w.heap.size < w1.heap.size := Nat.lt_of_succ_lt s1; have y1 := R1.out.free; clear hb1)
    | (go_at_call 36; refine (csr_any b S _ _ (R1.out.alloc _)).mono ?_; rintro e w2 ⟨rfl, rfl⟩; rw [HV.out, HT.out])
    | (go_at_call 48; refine (trap_any b S _ _ _ _ (R1.out.alloc _)).mono ?_; rintro e w9 ⟨rfl, hR, hO⟩; obtain ⟨z9, f9, s9, o9⟩ := keepS hO z1 f1 s1 (by omega); unfold HS.trapR))
  refine bodyPost_ret (v := S.trapR word 2 word) (by simp [results, Tryz.results58, go_sem, z9, HS.trapR]) rfl ⟨rfl, ?_, ?_⟩
  · exact hR.far7 (by omega) _ _ _ _ _ _ _
  · exact ((Only.of_below o1).trans o9).new7 (by omega) _ _ _ _ _ _ _
set_option maxRecDepth 100000 in
set_option maxHeartbeats 4000000 in
theorem sys_66_ro (b : Nat) (S : HS) (rd rs1 : Nat) (rs2 imm word a : Int) (w : World) (h : RH w b S) (ht : csrB imm = true) (h0 : ((rs1 : Int) != 0) = true) (h10 : (imm / 1024 == 3) = true) : Calls Tryz.prog 58 #[.pointer (some ⟨b, 0, none⟩), .agg #[.int .i64 66, .int .i64 rd, .int .i64 rs1, .int .i64 rs2, .int .i64 imm], .int .u32 word, .int .u32 a] w fun e w' => e = .returned (S.trapR word 2 word) ∧ RH w' b (S.trapped 2 word) ∧ Only b w w' := by
  have HN : Hid (nameAt 65 = ⟨#[99, 115, 114, 114, 115, 105]⟩ ∧ letAt 65 = 68 ∧ fRAt 65 = 6) := ⟨by kernel_rfl, by kernel_rfl, by kernel_rfl⟩
  have h3 := h.here
  have HH : Hid (RH w b S) := h
  clear h
  obtain ⟨v, hV⟩ : ∃ v, S.csrV imm = v := ⟨_, rfl⟩
  have HV : Hid (S.csrV imm = v) := hV
  have HT : Hid (csrB imm = true) := ht
  clear hV ht
  go_enter Tryz.func58, Tryz.ntmps58
  go_wp2_with (first
    | (go_at_call 57; refine (rows_made _).mono ?_; rintro e w1 ⟨rfl, hR, hb1, hz⟩; have q0 := hR.r0 65 (by decide); have q1 := hR.r1 65 (by decide); have q2 := hR.r2 65 (by decide); have q3 := hR.r3 65 (by decide); have q4 := hR.r4 65 (by decide); rw [World.size_alloc, World.size_alloc, HN.out.1] at q0; rw [World.size_alloc, World.size_alloc, HN.out.2.1] at q1; rw [World.size_alloc, World.size_alloc] at q2 q4; rw [World.size_alloc, World.size_alloc, HN.out.2.2] at q3; have hh := hR.here; rw [World.size_alloc, World.size_alloc] at hh; clear hR hz; have HB1 := Hid.in (hb1); obtain ⟨i1, z1, f1, s1, o1⟩ := keep2f HB1.out; have R1 := Hid.in (HH.out.below o1); have p1 : w1.cell? ⟨b, 3, none⟩ = some (.int .u32 S.pc) := R1.out.cell 3 (by decide); have e1 : w1.cell? ⟨b, 42, none⟩ = some (.int .u32 S.epc) := R1.out.cell 42 (by decide); have a1 : w1.cell? ⟨b, 38, none⟩ = some (.int .u32 S.status) := R1.out.cell 38 (by decide); have t1 := R1.out.here; have v1 : w.heap.size < w1.heap.size := Nat.lt_of_succ_lt s1; have y1 := R1.out.free; clear hb1)
    | (go_at_call 36; refine (csr_any b S _ _ (R1.out.alloc _)).mono ?_; rintro e w2 ⟨rfl, rfl⟩; rw [HV.out, HT.out])
    | (go_at_call 48; refine (trap_any b S _ _ _ _ (R1.out.alloc _)).mono ?_; rintro e w9 ⟨rfl, hR, hO⟩; obtain ⟨z9, f9, s9, o9⟩ := keepS hO z1 f1 s1 (by omega); unfold HS.trapR))
  refine bodyPost_ret (v := S.trapR word 2 word) (by simp [results, Tryz.results58, go_sem, z9, HS.trapR]) rfl ⟨rfl, ?_, ?_⟩
  · exact hR.far7 (by omega) _ _ _ _ _ _ _
  · exact ((Only.of_below o1).trans o9).new7 (by omega) _ _ _ _ _ _ _
set_option maxRecDepth 100000 in
set_option maxHeartbeats 4000000 in
theorem sys_67_none (b : Nat) (S : HS) (rd rs1 : Nat) (rs2 imm word a : Int) (w : World) (h : RH w b S) (ht : csrB imm = false) : Calls Tryz.prog 58 #[.pointer (some ⟨b, 0, none⟩), .agg #[.int .i64 67, .int .i64 rd, .int .i64 rs1, .int .i64 rs2, .int .i64 imm], .int .u32 word, .int .u32 a] w fun e w' => e = .returned (S.trapR word 2 word) ∧ RH w' b (S.trapped 2 word) ∧ Only b w w' := by
  have HN : Hid (nameAt 66 = ⟨#[99, 115, 114, 114, 99, 105]⟩ ∧ letAt 66 = 68 ∧ fRAt 66 = 7) := ⟨by kernel_rfl, by kernel_rfl, by kernel_rfl⟩
  have h3 := h.here
  have HH : Hid (RH w b S) := h
  clear h
  obtain ⟨v, hV⟩ : ∃ v, S.csrV imm = v := ⟨_, rfl⟩
  have HV : Hid (S.csrV imm = v) := hV
  have HT : Hid (csrB imm = false) := ht
  clear hV ht
  go_enter Tryz.func58, Tryz.ntmps58
  go_wp2_with (first
    | (go_at_call 57; refine (rows_made _).mono ?_; rintro e w1 ⟨rfl, hR, hb1, hz⟩; have q0 := hR.r0 66 (by decide); have q1 := hR.r1 66 (by decide); have q2 := hR.r2 66 (by decide); have q3 := hR.r3 66 (by decide); have q4 := hR.r4 66 (by decide); rw [World.size_alloc, World.size_alloc, HN.out.1] at q0; rw [World.size_alloc, World.size_alloc, HN.out.2.1] at q1; rw [World.size_alloc, World.size_alloc] at q2 q4; rw [World.size_alloc, World.size_alloc, HN.out.2.2] at q3; have hh := hR.here; rw [World.size_alloc, World.size_alloc] at hh; clear hR hz; have HB1 := Hid.in (hb1); obtain ⟨i1, z1, f1, s1, o1⟩ := keep2f HB1.out; have R1 := Hid.in (HH.out.below o1); have p1 : w1.cell? ⟨b, 3, none⟩ = some (.int .u32 S.pc) := R1.out.cell 3 (by decide); have e1 : w1.cell? ⟨b, 42, none⟩ = some (.int .u32 S.epc) := R1.out.cell 42 (by decide); have a1 : w1.cell? ⟨b, 38, none⟩ = some (.int .u32 S.status) := R1.out.cell 38 (by decide); have t1 := R1.out.here; have v1 : w.heap.size < w1.heap.size := Nat.lt_of_succ_lt s1; have y1 := R1.out.free; clear hb1)
    | (go_at_call 36; refine (csr_any b S _ _ (R1.out.alloc _)).mono ?_; rintro e w2 ⟨rfl, rfl⟩; rw [HV.out, HT.out])
    | (go_at_call 48; refine (trap_any b S _ _ _ _ (R1.out.alloc _)).mono ?_; rintro e w9 ⟨rfl, hR, hO⟩; obtain ⟨z9, f9, s9, o9⟩ := keepS hO z1 f1 s1 (by omega); unfold HS.trapR))
  refine bodyPost_ret (v := S.trapR word 2 word) (by simp [results, Tryz.results58, go_sem, z9, HS.trapR]) rfl ⟨rfl, ?_, ?_⟩
  · exact hR.far7 (by omega) _ _ _ _ _ _ _
  · exact ((Only.of_below o1).trans o9).new7 (by omega) _ _ _ _ _ _ _
set_option maxRecDepth 100000 in
set_option maxHeartbeats 4000000 in
theorem sys_67_ro (b : Nat) (S : HS) (rd rs1 : Nat) (rs2 imm word a : Int) (w : World) (h : RH w b S) (ht : csrB imm = true) (h0 : ((rs1 : Int) != 0) = true) (h10 : (imm / 1024 == 3) = true) : Calls Tryz.prog 58 #[.pointer (some ⟨b, 0, none⟩), .agg #[.int .i64 67, .int .i64 rd, .int .i64 rs1, .int .i64 rs2, .int .i64 imm], .int .u32 word, .int .u32 a] w fun e w' => e = .returned (S.trapR word 2 word) ∧ RH w' b (S.trapped 2 word) ∧ Only b w w' := by
  have HN : Hid (nameAt 66 = ⟨#[99, 115, 114, 114, 99, 105]⟩ ∧ letAt 66 = 68 ∧ fRAt 66 = 7) := ⟨by kernel_rfl, by kernel_rfl, by kernel_rfl⟩
  have h3 := h.here
  have HH : Hid (RH w b S) := h
  clear h
  obtain ⟨v, hV⟩ : ∃ v, S.csrV imm = v := ⟨_, rfl⟩
  have HV : Hid (S.csrV imm = v) := hV
  have HT : Hid (csrB imm = true) := ht
  clear hV ht
  go_enter Tryz.func58, Tryz.ntmps58
  go_wp2_with (first
    | (go_at_call 57; refine (rows_made _).mono ?_; rintro e w1 ⟨rfl, hR, hb1, hz⟩; have q0 := hR.r0 66 (by decide); have q1 := hR.r1 66 (by decide); have q2 := hR.r2 66 (by decide); have q3 := hR.r3 66 (by decide); have q4 := hR.r4 66 (by decide); rw [World.size_alloc, World.size_alloc, HN.out.1] at q0; rw [World.size_alloc, World.size_alloc, HN.out.2.1] at q1; rw [World.size_alloc, World.size_alloc] at q2 q4; rw [World.size_alloc, World.size_alloc, HN.out.2.2] at q3; have hh := hR.here; rw [World.size_alloc, World.size_alloc] at hh; clear hR hz; have HB1 := Hid.in (hb1); obtain ⟨i1, z1, f1, s1, o1⟩ := keep2f HB1.out; have R1 := Hid.in (HH.out.below o1); have p1 : w1.cell? ⟨b, 3, none⟩ = some (.int .u32 S.pc) := R1.out.cell 3 (by decide); have e1 : w1.cell? ⟨b, 42, none⟩ = some (.int .u32 S.epc) := R1.out.cell 42 (by decide); have a1 : w1.cell? ⟨b, 38, none⟩ = some (.int .u32 S.status) := R1.out.cell 38 (by decide); have t1 := R1.out.here; have v1 : w.heap.size < w1.heap.size := Nat.lt_of_succ_lt s1; have y1 := R1.out.free; clear hb1)
    | (go_at_call 36; refine (csr_any b S _ _ (R1.out.alloc _)).mono ?_; rintro e w2 ⟨rfl, rfl⟩; rw [HV.out, HT.out])
    | (go_at_call 48; refine (trap_any b S _ _ _ _ (R1.out.alloc _)).mono ?_; rintro e w9 ⟨rfl, hR, hO⟩; obtain ⟨z9, f9, s9, o9⟩ := keepS hO z1 f1 s1 (by omega); unfold HS.trapR))
  refine bodyPost_ret (v := S.trapR word 2 word) (by simp [results, Tryz.results58, go_sem, z9, HS.trapR]) rfl ⟨rfl, ?_, ?_⟩
  · exact hR.far7 (by omega) _ _ _ _ _ _ _
  · exact ((Only.of_below o1).trans o9).new7 (by omega) _ _ _ _ _ _ _
end Go.Proofs.YtengofkjlgajlaaGreatDoor
