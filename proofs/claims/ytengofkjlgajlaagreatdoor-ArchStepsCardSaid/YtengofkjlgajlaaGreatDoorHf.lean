/-
  THE ANSWER's HART: loads, stores, atomic operations.
-/
import Derived.Test.YtengofkjlgajlaaGreatDoorGh1
import Derived.Deep.RegionWith
namespace Go.Proofs.YtengofkjlgajlaaGreatDoor
open Go Go.RowKit
theorem keep2f {w w2 : World} {I Z : Array Value} {t u : TypeId} (hb : Below ((w.alloc (.cells I t)).alloc (.cells Z u)).heap.size ((w.alloc (.cells I t)).alloc (.cells Z u)) w2) :
    (∀ i, w2.cell? ⟨w.heap.size, i, none⟩ = I[i]?) ∧ (∀ i, w2.cell? ⟨w.heap.size + 1, i, none⟩ = Z[i]?) ∧ (∀ i, w2.frozen? ⟨w.heap.size + 1, i, none⟩ = false) ∧ w.heap.size + 1 < w2.heap.size ∧ Below w.heap.size w w2 := by
  obtain ⟨k1, k2, k3, k4⟩ := keepB hb
  have e : (w.alloc (.cells I t)).heap.size = w.heap.size + 1 := by simp
  rw [e] at k1 k2 k3
  obtain ⟨m1, m2, m3, m4⟩ := keepB k4
  exact ⟨m1, k1, k2, k3, m4⟩
theorem sc_all : ((List.range 67).all fun i => ((nameAt i).toList == [115, 99, 46, 119]) == (i == 46)) = true := by kernel_rfl
theorem sc_name (i : Nat) (hi : i < 67) : ((nameAt i).toList == [115, 99, 46, 119]) = (i == 46) := by
  have := List.all_eq_true.1 sc_all i (List.mem_range.2 hi)
  rwa [beq_iff_eq] at this
/-- an access to memory: what is told, what is left -/
def memV (op v : Int) (held : Bool) : Int := if op = 47 then (if held then 0 else 1) else wdI op v
def HS.memR (S : HS) (word op : Int) (rd rs1 : Nat) (imm v : Int) (held : Bool) : Value :=
  if S.faultI op (S.whereI op rs1 imm) = -1 then (if clR op = 5 then S.doneR word 0 0 ((S.pc + 4) % 4294967296) else S.doneR word rd (memV op v held) ((S.pc + 4) % 4294967296)) else S.trapR word (S.faultI op (S.whereI op rs1 imm)) (S.whereI op rs1 imm)
def HS.memS (S : HS) (op : Int) (rd rs1 : Nat) (imm v : Int) (held : Bool) : HS :=
  if S.faultI op (S.whereI op rs1 imm) = -1 then (if clR op = 5 then S.done 0 (rvI 0 0) ((S.pc + 4) % 4294967296) else S.done rd (rvI rd (memV op v held)) ((S.pc + 4) % 4294967296)) else S.trapped (S.faultI op (S.whereI op rs1 imm)) (S.whereI op rs1 imm)
set_option maxHeartbeats 4000000 in
theorem mem_bad (b : Nat) (S : HS) (i rd rs1 : Nat) (rs2 imm : Int) (word v : Int) (held : Bool) (w : World) (h : RH w b S) (hi : i < 67) (hrs : rs1 < 32) (hx : U32 (S.whereI ((i : Int) + 1) rs1 imm)) (hs : 0 ≤ S.size ∧ S.size ≤ 4096) (hn : szI ((i : Int) + 1) ≠ 0) (hf : S.faultI ((i : Int) + 1) (S.whereI ((i : Int) + 1) rs1 imm) ≠ -1) : Calls Tryz.prog 59 #[.pointer (some ⟨b, 0, none⟩), .agg #[.int .i64 ((i : Int) + 1), .int .i64 rd, .int .i64 rs1, .int .i64 rs2, .int .i64 imm], .int .u32 word, .int .u32 v, .bool held] w fun e w' => e = .returned (S.trapR word (S.faultI ((i : Int) + 1) (S.whereI ((i : Int) + 1) rs1 imm)) (S.whereI ((i : Int) + 1) rs1 imm)) ∧ RH w' b (S.trapped (S.faultI ((i : Int) + 1) (S.whereI ((i : Int) + 1) rs1 imm)) (S.whereI ((i : Int) + 1) rs1 imm)) ∧ Only b w w' := by
  obtain ⟨x, hX⟩ : ∃ x, S.whereI ((i : Int) + 1) rs1 imm = x := ⟨_, rfl⟩
  obtain ⟨f, hF⟩ : ∃ f, S.faultI ((i : Int) + 1) x = f := ⟨_, rfl⟩
  obtain ⟨c, hC⟩ : ∃ c, clR ((i : Int) + 1) = c := ⟨_, rfl⟩
  have HX : Hid (S.whereI ((i : Int) + 1) rs1 imm = x) := hX
  have HF : Hid (S.faultI ((i : Int) + 1) x = f) := hF
  have HC : Hid (clR ((i : Int) + 1) = c) := hC
  have h3 := h.here
  have HH : Hid (RH w b S) := h
  rw [hX, hF] at hf ⊢
  have hf1 : (f != -1) = true := by simp; exact hf
  clear hX hF hC h hf
  go_enter Tryz.func59, Tryz.ntmps59
  go_wp2_with (first
    | (go_at_call 44; refine (where_any b S _ _ rs1 _ _ _ ((HH.out.alloc _).alloc _) hrs).mono ?_; rintro e w1 ⟨rfl, hb1⟩; rw [HX.out]; have HB1 := Hid.in (hb1); obtain ⟨i1, z1, f1, s1, o1⟩ := keep2f HB1.out; have R1 := Hid.in (HH.out.below o1); have p1 : w1.cell? ⟨b, 3, none⟩ = some (.int .u32 S.pc) := R1.out.cell 3 (by decide); have t1 := R1.out.here; clear hb1)
    | (go_at_call 45; refine (fault_any b S i _ _ R1.out hi (by rw [← HX.out]; exact hx) hs hn).mono ?_; rintro e w2 ⟨rfl, hb2⟩; rw [HF.out]; have HB2 := Hid.in (below2 HB1.out hb2); obtain ⟨i2, z2, f2, s2, o2⟩ := keep2f HB2.out; have R2 := Hid.in (HH.out.below o2); have p2 : w2.cell? ⟨b, 3, none⟩ = some (.int .u32 S.pc) := R2.out.cell 3 (by decide); have t2 := R2.out.here; clear hb2)
    | (go_at_call 48; refine (trap_any b S _ _ _ _ R2.out).mono ?_; rintro e w9 ⟨rfl, hR, hO⟩; have u := hO.block (w.heap.size + 1) s2 (by omega); have z9 : ∀ i, w9.cell? ⟨w.heap.size + 1, i, none⟩ = _ := fun i => (World.cell?_of_block (w := w2) u).trans (z2 i); have f9 : ∀ i, w9.frozen? ⟨w.heap.size + 1, i, none⟩ = false := fun i => (World.frozen?_of_block (w := w2) u).trans (f2 i); have s9 := Nat.lt_of_lt_of_le s2 hO.size; unfold HS.trapR))
  refine bodyPost_ret (v := S.trapR word f x) (by simp [results, Tryz.results59, go_sem, z9, HS.trapR]) rfl ⟨rfl, ?_, ?_⟩
  · exact hR.far7 (by omega) _ _ _ _ _ _ _
  · exact ((Only.of_below o2).trans hO).new7 (by omega) _ _ _ _ _ _ _
set_option maxHeartbeats 4000000 in
theorem mem_store (b : Nat) (S : HS) (i rd rs1 : Nat) (rs2 imm : Int) (word v : Int) (held : Bool) (w : World) (h : RH w b S) (hi : i < 67) (hrs : rs1 < 32) (hx : U32 (S.whereI ((i : Int) + 1) rs1 imm)) (hs : 0 ≤ S.size ∧ S.size ≤ 4096) (hn : szI ((i : Int) + 1) ≠ 0) (hv : U32 v) (hf : S.faultI ((i : Int) + 1) (S.whereI ((i : Int) + 1) rs1 imm) = -1) (hc5 : clR ((i : Int) + 1) = 5) : Calls Tryz.prog 59 #[.pointer (some ⟨b, 0, none⟩), .agg #[.int .i64 ((i : Int) + 1), .int .i64 rd, .int .i64 rs1, .int .i64 rs2, .int .i64 imm], .int .u32 word, .int .u32 v, .bool held] w fun e w' => e = .returned (S.doneR word 0 0 ((S.pc + 4) % 4294967296)) ∧ RH w' b (S.done 0 (rvI 0 0) ((S.pc + 4) % 4294967296)) ∧ Only b w w' := by
  obtain ⟨x, hX⟩ : ∃ x, S.whereI ((i : Int) + 1) rs1 imm = x := ⟨_, rfl⟩
  obtain ⟨f, hF⟩ : ∃ f, S.faultI ((i : Int) + 1) x = f := ⟨_, rfl⟩
  obtain ⟨c, hC⟩ : ∃ c, clR ((i : Int) + 1) = c := ⟨_, rfl⟩
  have HX : Hid (S.whereI ((i : Int) + 1) rs1 imm = x) := hX
  have HF : Hid (S.faultI ((i : Int) + 1) x = f) := hF
  have HC : Hid (clR ((i : Int) + 1) = c) := hC
  have h3 := h.here
  have HH : Hid (RH w b S) := h
  rw [hX, hF] at hf
  rw [hC] at hc5
  subst hf hc5
  have hN : ((nameAt i).toList == [115, 99, 46, 119]) = false := by
    rw [sc_name i hi]
    have h46 : i ≠ 46 := by
      intro e
      subst e
      have : clR ((46 : Nat) + 1) = 6 := by kernel_rfl
      rw [this] at hC
      cases hC
    simpa using h46
  clear hX hF hC h
  go_enter Tryz.func59, Tryz.ntmps59
  go_wp2_with (first
    | (go_at_call 44; refine (where_any b S _ _ rs1 _ _ _ ((HH.out.alloc _).alloc _) hrs).mono ?_; rintro e w1 ⟨rfl, hb1⟩; rw [HX.out]; have HB1 := Hid.in (hb1); obtain ⟨i1, z1, f1, s1, o1⟩ := keep2f HB1.out; have R1 := Hid.in (HH.out.below o1); have p1 : w1.cell? ⟨b, 3, none⟩ = some (.int .u32 S.pc) := R1.out.cell 3 (by decide); have t1 := R1.out.here; clear hb1)
    | (go_at_call 45; refine (fault_any b S i _ _ R1.out hi (by rw [← HX.out]; exact hx) hs hn).mono ?_; rintro e w2 ⟨rfl, hb2⟩; rw [HF.out]; have HB2 := Hid.in (below2 HB1.out hb2); obtain ⟨i2, z2, f2, s2, o2⟩ := keep2f HB2.out; have R2 := Hid.in (HH.out.below o2); have p2 : w2.cell? ⟨b, 3, none⟩ = some (.int .u32 S.pc) := R2.out.cell 3 (by decide); have t2 := R2.out.here; clear hb2)
    | (go_at_call 29; refine (clsR_any _ _).mono ?_; rintro e w3 ⟨rfl, hb3⟩; rw [HC.out]; have HB3 := Hid.in (below2 HB2.out hb3); obtain ⟨i3, z3, f3, s3, o3⟩ := keep2f HB3.out; have R3 := Hid.in (HH.out.below o3); have p3 : w3.cell? ⟨b, 3, none⟩ = some (.int .u32 S.pc) := R3.out.cell 3 (by decide); have t3 := R3.out.here; clear hb3)
    | (go_at_call 57; refine (rows_made _).mono ?_; rintro e w4 ⟨rfl, hR, hb4, hz⟩; have q4 := hR.r0 i hi; have hh4 := hR.here; clear hR hz; have HB4 := Hid.in (below2 HB3.out hb4); obtain ⟨i4, z4, f4, s4, o4⟩ := keep2f HB4.out; have R4 := Hid.in (HH.out.below o4); have p4 : w4.cell? ⟨b, 3, none⟩ = some (.int .u32 S.pc) := R4.out.cell 3 (by decide); have t4 := R4.out.here; clear hb4)
    | (go_at_call 90; refine (widen_any _ _ _ hv).mono ?_; rintro e w5 ⟨rfl, hb5⟩; have q5 : w5.cell? ⟨w3.heap.size, i * 5, none⟩ = some (.string (nameAt i)) := (hb5.cell (p := ⟨w3.heap.size, i * 5, none⟩) hh4).trans q4; have HB5 := Hid.in (below2 HB4.out hb5); obtain ⟨i5, z5, f5, s5, o5⟩ := keep2f HB5.out; have R5 := Hid.in (HH.out.below o5); have p5 : w5.cell? ⟨b, 3, none⟩ = some (.int .u32 S.pc) := R5.out.cell 3 (by decide); have t5 := R5.out.here; clear hb5)
    | (go_at_call 54; refine (done_any b S _ 0 _ _ _ R5.out (by decide)).mono ?_; rintro e w9 ⟨rfl, hR, hO⟩; have u := hO.block (w.heap.size + 1) s5 (by omega); have z9 : ∀ i, w9.cell? ⟨w.heap.size + 1, i, none⟩ = _ := fun i => (World.cell?_of_block (w := w5) u).trans (z5 i); have f9 : ∀ i, w9.frozen? ⟨w.heap.size + 1, i, none⟩ = false := fun i => (World.frozen?_of_block (w := w5) u).trans (f5 i); have s9 := Nat.lt_of_lt_of_le s5 hO.size; unfold HS.doneR))
  refine bodyPost_ret (v := S.doneR word 0 0 ((S.pc + 4) % 4294967296)) (by simp [results, Tryz.results59, go_sem, z9, HS.doneR]) rfl ⟨rfl, ?_, ?_⟩
  · exact hR.far7 (by omega) _ _ _ _ _ _ _
  · exact ((Only.of_below o5).trans hO).new7 (by omega) _ _ _ _ _ _ _
set_option maxRecDepth 100000 in
set_option maxHeartbeats 4000000 in
theorem mem_load (b : Nat) (S : HS) (i rd rs1 : Nat) (rs2 imm : Int) (word v : Int) (held : Bool) (w : World) (h : RH w b S) (hi : i < 67) (hrs : rs1 < 32) (hx : U32 (S.whereI ((i : Int) + 1) rs1 imm)) (hs : 0 ≤ S.size ∧ S.size ≤ 4096) (hn : szI ((i : Int) + 1) ≠ 0) (hrd : rd < 32) (hv : U32 v) (hf : S.faultI ((i : Int) + 1) (S.whereI ((i : Int) + 1) rs1 imm) = -1) (hc5 : clR ((i : Int) + 1) ≠ 5) (h46 : i ≠ 46) : Calls Tryz.prog 59 #[.pointer (some ⟨b, 0, none⟩), .agg #[.int .i64 ((i : Int) + 1), .int .i64 rd, .int .i64 rs1, .int .i64 rs2, .int .i64 imm], .int .u32 word, .int .u32 v, .bool held] w fun e w' => e = .returned (S.doneR word rd (wdI ((i : Int) + 1) v) ((S.pc + 4) % 4294967296)) ∧ RH w' b (S.done rd (rvI rd (wdI ((i : Int) + 1) v)) ((S.pc + 4) % 4294967296)) ∧ Only b w w' := by
  obtain ⟨x, hX⟩ : ∃ x, S.whereI ((i : Int) + 1) rs1 imm = x := ⟨_, rfl⟩
  obtain ⟨f, hF⟩ : ∃ f, S.faultI ((i : Int) + 1) x = f := ⟨_, rfl⟩
  obtain ⟨c, hC⟩ : ∃ c, clR ((i : Int) + 1) = c := ⟨_, rfl⟩
  have HX : Hid (S.whereI ((i : Int) + 1) rs1 imm = x) := hX
  have HF : Hid (S.faultI ((i : Int) + 1) x = f) := hF
  have HC : Hid (clR ((i : Int) + 1) = c) := hC
  have h3 := h.here
  have HH : Hid (RH w b S) := h
  rw [hX, hF] at hf
  rw [hC] at hc5
  have hc6 : (c == 5) = false := by simp; exact hc5
  subst hf
  have hN : ((nameAt i).toList == [115, 99, 46, 119]) = false := by
    rw [sc_name i hi]
    simpa using h46
  clear hX hF hC h hc5
  go_enter Tryz.func59, Tryz.ntmps59
  go_wp2_with (first
    | (go_at_call 44; refine (where_any b S _ _ rs1 _ _ _ ((HH.out.alloc _).alloc _) hrs).mono ?_; rintro e w1 ⟨rfl, hb1⟩; rw [HX.out]; have HB1 := Hid.in (hb1); obtain ⟨i1, z1, f1, s1, o1⟩ := keep2f HB1.out; have R1 := Hid.in (HH.out.below o1); have p1 : w1.cell? ⟨b, 3, none⟩ = some (.int .u32 S.pc) := R1.out.cell 3 (by decide); have t1 := R1.out.here; clear hb1)
    | (go_at_call 45; refine (fault_any b S i _ _ R1.out hi (by rw [← HX.out]; exact hx) hs hn).mono ?_; rintro e w2 ⟨rfl, hb2⟩; rw [HF.out]; have HB2 := Hid.in (below2 HB1.out hb2); obtain ⟨i2, z2, f2, s2, o2⟩ := keep2f HB2.out; have R2 := Hid.in (HH.out.below o2); have p2 : w2.cell? ⟨b, 3, none⟩ = some (.int .u32 S.pc) := R2.out.cell 3 (by decide); have t2 := R2.out.here; clear hb2)
    | (go_at_call 29; refine (clsR_any _ _).mono ?_; rintro e w3 ⟨rfl, hb3⟩; rw [HC.out]; have HB3 := Hid.in (below2 HB2.out hb3); obtain ⟨i3, z3, f3, s3, o3⟩ := keep2f HB3.out; have R3 := Hid.in (HH.out.below o3); have p3 : w3.cell? ⟨b, 3, none⟩ = some (.int .u32 S.pc) := R3.out.cell 3 (by decide); have t3 := R3.out.here; clear hb3)
    | (go_at_call 57; refine (rows_made _).mono ?_; rintro e w4 ⟨rfl, hR, hb4, hz⟩; have q4 := hR.r0 i hi; have hh4 := hR.here; clear hR hz; have HB4 := Hid.in (below2 HB3.out hb4); obtain ⟨i4, z4, f4, s4, o4⟩ := keep2f HB4.out; have R4 := Hid.in (HH.out.below o4); have p4 : w4.cell? ⟨b, 3, none⟩ = some (.int .u32 S.pc) := R4.out.cell 3 (by decide); have t4 := R4.out.here; clear hb4)
    | (go_at_call 90; refine (widen_any _ _ _ hv).mono ?_; rintro e w5 ⟨rfl, hb5⟩; have q5 : w5.cell? ⟨w3.heap.size, i * 5, none⟩ = some (.string (nameAt i)) := (hb5.cell (p := ⟨w3.heap.size, i * 5, none⟩) hh4).trans q4; have HB5 := Hid.in (below2 HB4.out hb5); obtain ⟨i5, z5, f5, s5, o5⟩ := keep2f HB5.out; have R5 := Hid.in (HH.out.below o5); have p5 : w5.cell? ⟨b, 3, none⟩ = some (.int .u32 S.pc) := R5.out.cell 3 (by decide); have t5 := R5.out.here; clear hb5))
  have y1 := i5 1
  simp only [List.getElem?_toArray, List.getElem?_cons_succ, List.getElem?_cons_zero] at y1
  go_region_with ((go_at_call 54; refine (done_any b S _ rd _ _ _ R5.out.drew hrd).mono ?_; rintro e w9 ⟨rfl, hR, hO⟩; have u := hO.block (w.heap.size + 1) s5 (by omega); have z9 : ∀ i, w9.cell? ⟨w.heap.size + 1, i, none⟩ = _ := fun i => (World.cell?_of_block (w := w5.drew) u).trans (z5 i); have f9 : ∀ i, w9.frozen? ⟨w.heap.size + 1, i, none⟩ = false := fun i => (World.frozen?_of_block (w := w5.drew) u).trans (f5 i); have s9 := Nat.lt_of_lt_of_le s5 hO.size; unfold HS.doneR))
  all_goals
    try go_wp2
    refine bodyPost_ret (v := S.doneR word rd (wdI ((i : Int) + 1) v) ((S.pc + 4) % 4294967296)) (by simp [results, Tryz.results59, go_sem, z9, HS.doneR, IntKind.wrap_u32]) rfl ⟨rfl, ?_, ?_⟩
    · exact CellsAt.far7 (by first | exact hR | (rw [IntKind.wrap_u32] at hR; exact hR)) (by omega) _ _ _ _ _ _ _
    · exact ((Only.of_below o5).drew.trans hO).new7 (by omega) _ _ _ _ _ _ _
set_option maxRecDepth 100000 in
set_option maxHeartbeats 4000000 in
theorem mem_sc_true (b : Nat) (S : HS) (i rd rs1 : Nat) (rs2 imm : Int) (word v : Int) (held : Bool) (w : World) (h : RH w b S) (hi : i < 67) (hrs : rs1 < 32) (hx : U32 (S.whereI ((i : Int) + 1) rs1 imm)) (hs : 0 ≤ S.size ∧ S.size ≤ 4096) (hn : szI ((i : Int) + 1) ≠ 0) (hrd : rd < 32) (hv : U32 v) (hf : S.faultI ((i : Int) + 1) (S.whereI ((i : Int) + 1) rs1 imm) = -1) (hc5 : clR ((i : Int) + 1) ≠ 5) (h46 : i = 46) (hh : held = true) : Calls Tryz.prog 59 #[.pointer (some ⟨b, 0, none⟩), .agg #[.int .i64 ((i : Int) + 1), .int .i64 rd, .int .i64 rs1, .int .i64 rs2, .int .i64 imm], .int .u32 word, .int .u32 v, .bool held] w fun e w' => e = .returned (S.doneR word rd (0) ((S.pc + 4) % 4294967296)) ∧ RH w' b (S.done rd (rvI rd (0)) ((S.pc + 4) % 4294967296)) ∧ Only b w w' := by
  obtain ⟨x, hX⟩ : ∃ x, S.whereI ((i : Int) + 1) rs1 imm = x := ⟨_, rfl⟩
  obtain ⟨f, hF⟩ : ∃ f, S.faultI ((i : Int) + 1) x = f := ⟨_, rfl⟩
  obtain ⟨c, hC⟩ : ∃ c, clR ((i : Int) + 1) = c := ⟨_, rfl⟩
  have HX : Hid (S.whereI ((i : Int) + 1) rs1 imm = x) := hX
  have HF : Hid (S.faultI ((i : Int) + 1) x = f) := hF
  have HC : Hid (clR ((i : Int) + 1) = c) := hC
  have h3 := h.here
  have HH : Hid (RH w b S) := h
  rw [hX, hF] at hf
  rw [hC] at hc5
  have hc6 : (c == 5) = false := by simp; exact hc5
  subst hf
  have hN : ((nameAt i).toList == [115, 99, 46, 119]) = true := by
    rw [sc_name i hi]
    simpa using h46
  clear h46
  subst hh
  clear hX hF hC h hc5
  go_enter Tryz.func59, Tryz.ntmps59
  go_wp2_with (first
    | (go_at_call 44; refine (where_any b S _ _ rs1 _ _ _ ((HH.out.alloc _).alloc _) hrs).mono ?_; rintro e w1 ⟨rfl, hb1⟩; rw [HX.out]; have HB1 := Hid.in (hb1); obtain ⟨i1, z1, f1, s1, o1⟩ := keep2f HB1.out; have R1 := Hid.in (HH.out.below o1); have p1 : w1.cell? ⟨b, 3, none⟩ = some (.int .u32 S.pc) := R1.out.cell 3 (by decide); have t1 := R1.out.here; clear hb1)
    | (go_at_call 45; refine (fault_any b S i _ _ R1.out hi (by rw [← HX.out]; exact hx) hs hn).mono ?_; rintro e w2 ⟨rfl, hb2⟩; rw [HF.out]; have HB2 := Hid.in (below2 HB1.out hb2); obtain ⟨i2, z2, f2, s2, o2⟩ := keep2f HB2.out; have R2 := Hid.in (HH.out.below o2); have p2 : w2.cell? ⟨b, 3, none⟩ = some (.int .u32 S.pc) := R2.out.cell 3 (by decide); have t2 := R2.out.here; clear hb2)
    | (go_at_call 29; refine (clsR_any _ _).mono ?_; rintro e w3 ⟨rfl, hb3⟩; rw [HC.out]; have HB3 := Hid.in (below2 HB2.out hb3); obtain ⟨i3, z3, f3, s3, o3⟩ := keep2f HB3.out; have R3 := Hid.in (HH.out.below o3); have p3 : w3.cell? ⟨b, 3, none⟩ = some (.int .u32 S.pc) := R3.out.cell 3 (by decide); have t3 := R3.out.here; clear hb3)
    | (go_at_call 57; refine (rows_made _).mono ?_; rintro e w4 ⟨rfl, hR, hb4, hz⟩; have q4 := hR.r0 i hi; have hh4 := hR.here; clear hR hz; have HB4 := Hid.in (below2 HB3.out hb4); obtain ⟨i4, z4, f4, s4, o4⟩ := keep2f HB4.out; have R4 := Hid.in (HH.out.below o4); have p4 : w4.cell? ⟨b, 3, none⟩ = some (.int .u32 S.pc) := R4.out.cell 3 (by decide); have t4 := R4.out.here; clear hb4)
    | (go_at_call 90; refine (widen_any _ _ _ hv).mono ?_; rintro e w5 ⟨rfl, hb5⟩; have q5 : w5.cell? ⟨w3.heap.size, i * 5, none⟩ = some (.string (nameAt i)) := (hb5.cell (p := ⟨w3.heap.size, i * 5, none⟩) hh4).trans q4; have HB5 := Hid.in (below2 HB4.out hb5); obtain ⟨i5, z5, f5, s5, o5⟩ := keep2f HB5.out; have R5 := Hid.in (HH.out.below o5); have p5 : w5.cell? ⟨b, 3, none⟩ = some (.int .u32 S.pc) := R5.out.cell 3 (by decide); have t5 := R5.out.here; clear hb5))
  have y1 := i5 1
  simp only [List.getElem?_toArray, List.getElem?_cons_succ, List.getElem?_cons_zero] at y1
  go_region_with ((go_at_call 54; refine (done_any b S _ rd _ _ _ R5.out.drew hrd).mono ?_; rintro e w9 ⟨rfl, hR, hO⟩; have u := hO.block (w.heap.size + 1) s5 (by omega); have z9 : ∀ i, w9.cell? ⟨w.heap.size + 1, i, none⟩ = _ := fun i => (World.cell?_of_block (w := w5.drew) u).trans (z5 i); have f9 : ∀ i, w9.frozen? ⟨w.heap.size + 1, i, none⟩ = false := fun i => (World.frozen?_of_block (w := w5.drew) u).trans (f5 i); have s9 := Nat.lt_of_lt_of_le s5 hO.size; unfold HS.doneR))
  all_goals
    try go_wp2
    refine bodyPost_ret (v := S.doneR word rd (0) ((S.pc + 4) % 4294967296)) (by simp [results, Tryz.results59, go_sem, z9, HS.doneR, IntKind.wrap_u32]) rfl ⟨rfl, ?_, ?_⟩
    · exact CellsAt.far7 (by first | exact hR | (rw [IntKind.wrap_u32] at hR; exact hR)) (by omega) _ _ _ _ _ _ _
    · exact ((Only.of_below o5).drew.trans hO).new7 (by omega) _ _ _ _ _ _ _
set_option maxRecDepth 100000 in
set_option maxHeartbeats 4000000 in
theorem mem_sc_false (b : Nat) (S : HS) (i rd rs1 : Nat) (rs2 imm : Int) (word v : Int) (held : Bool) (w : World) (h : RH w b S) (hi : i < 67) (hrs : rs1 < 32) (hx : U32 (S.whereI ((i : Int) + 1) rs1 imm)) (hs : 0 ≤ S.size ∧ S.size ≤ 4096) (hn : szI ((i : Int) + 1) ≠ 0) (hrd : rd < 32) (hv : U32 v) (hf : S.faultI ((i : Int) + 1) (S.whereI ((i : Int) + 1) rs1 imm) = -1) (hc5 : clR ((i : Int) + 1) ≠ 5) (h46 : i = 46) (hh : held = false) : Calls Tryz.prog 59 #[.pointer (some ⟨b, 0, none⟩), .agg #[.int .i64 ((i : Int) + 1), .int .i64 rd, .int .i64 rs1, .int .i64 rs2, .int .i64 imm], .int .u32 word, .int .u32 v, .bool held] w fun e w' => e = .returned (S.doneR word rd (1) ((S.pc + 4) % 4294967296)) ∧ RH w' b (S.done rd (rvI rd (1)) ((S.pc + 4) % 4294967296)) ∧ Only b w w' := by
  obtain ⟨x, hX⟩ : ∃ x, S.whereI ((i : Int) + 1) rs1 imm = x := ⟨_, rfl⟩
  obtain ⟨f, hF⟩ : ∃ f, S.faultI ((i : Int) + 1) x = f := ⟨_, rfl⟩
  obtain ⟨c, hC⟩ : ∃ c, clR ((i : Int) + 1) = c := ⟨_, rfl⟩
  have HX : Hid (S.whereI ((i : Int) + 1) rs1 imm = x) := hX
  have HF : Hid (S.faultI ((i : Int) + 1) x = f) := hF
  have HC : Hid (clR ((i : Int) + 1) = c) := hC
  have h3 := h.here
  have HH : Hid (RH w b S) := h
  rw [hX, hF] at hf
  rw [hC] at hc5
  have hc6 : (c == 5) = false := by simp; exact hc5
  subst hf
  have hN : ((nameAt i).toList == [115, 99, 46, 119]) = true := by
    rw [sc_name i hi]
    simpa using h46
  clear h46
  subst hh
  clear hX hF hC h hc5
  go_enter Tryz.func59, Tryz.ntmps59
  go_wp2_with (first
    | (go_at_call 44; refine (where_any b S _ _ rs1 _ _ _ ((HH.out.alloc _).alloc _) hrs).mono ?_; rintro e w1 ⟨rfl, hb1⟩; rw [HX.out]; have HB1 := Hid.in (hb1); obtain ⟨i1, z1, f1, s1, o1⟩ := keep2f HB1.out; have R1 := Hid.in (HH.out.below o1); have p1 : w1.cell? ⟨b, 3, none⟩ = some (.int .u32 S.pc) := R1.out.cell 3 (by decide); have t1 := R1.out.here; clear hb1)
    | (go_at_call 45; refine (fault_any b S i _ _ R1.out hi (by rw [← HX.out]; exact hx) hs hn).mono ?_; rintro e w2 ⟨rfl, hb2⟩; rw [HF.out]; have HB2 := Hid.in (below2 HB1.out hb2); obtain ⟨i2, z2, f2, s2, o2⟩ := keep2f HB2.out; have R2 := Hid.in (HH.out.below o2); have p2 : w2.cell? ⟨b, 3, none⟩ = some (.int .u32 S.pc) := R2.out.cell 3 (by decide); have t2 := R2.out.here; clear hb2)
    | (go_at_call 29; refine (clsR_any _ _).mono ?_; rintro e w3 ⟨rfl, hb3⟩; rw [HC.out]; have HB3 := Hid.in (below2 HB2.out hb3); obtain ⟨i3, z3, f3, s3, o3⟩ := keep2f HB3.out; have R3 := Hid.in (HH.out.below o3); have p3 : w3.cell? ⟨b, 3, none⟩ = some (.int .u32 S.pc) := R3.out.cell 3 (by decide); have t3 := R3.out.here; clear hb3)
    | (go_at_call 57; refine (rows_made _).mono ?_; rintro e w4 ⟨rfl, hR, hb4, hz⟩; have q4 := hR.r0 i hi; have hh4 := hR.here; clear hR hz; have HB4 := Hid.in (below2 HB3.out hb4); obtain ⟨i4, z4, f4, s4, o4⟩ := keep2f HB4.out; have R4 := Hid.in (HH.out.below o4); have p4 : w4.cell? ⟨b, 3, none⟩ = some (.int .u32 S.pc) := R4.out.cell 3 (by decide); have t4 := R4.out.here; clear hb4)
    | (go_at_call 90; refine (widen_any _ _ _ hv).mono ?_; rintro e w5 ⟨rfl, hb5⟩; have q5 : w5.cell? ⟨w3.heap.size, i * 5, none⟩ = some (.string (nameAt i)) := (hb5.cell (p := ⟨w3.heap.size, i * 5, none⟩) hh4).trans q4; have HB5 := Hid.in (below2 HB4.out hb5); obtain ⟨i5, z5, f5, s5, o5⟩ := keep2f HB5.out; have R5 := Hid.in (HH.out.below o5); have p5 : w5.cell? ⟨b, 3, none⟩ = some (.int .u32 S.pc) := R5.out.cell 3 (by decide); have t5 := R5.out.here; clear hb5))
  have y1 := i5 1
  simp only [List.getElem?_toArray, List.getElem?_cons_succ, List.getElem?_cons_zero] at y1
  go_region_with ((go_at_call 54; refine (done_any b S _ rd _ _ _ R5.out.drew hrd).mono ?_; rintro e w9 ⟨rfl, hR, hO⟩; have u := hO.block (w.heap.size + 1) s5 (by omega); have z9 : ∀ i, w9.cell? ⟨w.heap.size + 1, i, none⟩ = _ := fun i => (World.cell?_of_block (w := w5.drew) u).trans (z5 i); have f9 : ∀ i, w9.frozen? ⟨w.heap.size + 1, i, none⟩ = false := fun i => (World.frozen?_of_block (w := w5.drew) u).trans (f5 i); have s9 := Nat.lt_of_lt_of_le s5 hO.size; unfold HS.doneR))
  all_goals
    try go_wp2
    refine bodyPost_ret (v := S.doneR word rd (1) ((S.pc + 4) % 4294967296)) (by simp [results, Tryz.results59, go_sem, z9, HS.doneR, IntKind.wrap_u32]) rfl ⟨rfl, ?_, ?_⟩
    · exact CellsAt.far7 (by first | exact hR | (rw [IntKind.wrap_u32] at hR; exact hR)) (by omega) _ _ _ _ _ _ _
    · exact ((Only.of_below o5).drew.trans hO).new7 (by omega) _ _ _ _ _ _ _
theorem memory_any (b : Nat) (S : HS) (i rd rs1 : Nat) (rs2 imm : Int) (word v : Int) (held : Bool) (w : World) (h : RH w b S) (hi : i < 67) (hrs : rs1 < 32) (hx : U32 (S.whereI ((i : Int) + 1) rs1 imm)) (hs : 0 ≤ S.size ∧ S.size ≤ 4096) (hn : szI ((i : Int) + 1) ≠ 0) (hrd : rd < 32) (hv : U32 v) : Calls Tryz.prog 59 #[.pointer (some ⟨b, 0, none⟩), .agg #[.int .i64 ((i : Int) + 1), .int .i64 rd, .int .i64 rs1, .int .i64 rs2, .int .i64 imm], .int .u32 word, .int .u32 v, .bool held] w fun e w' => e = .returned (S.memR word ((i : Int) + 1) rd rs1 imm v held) ∧ RH w' b (S.memS ((i : Int) + 1) rd rs1 imm v held) ∧ Only b w w' := by
  by_cases hf : S.faultI ((i : Int) + 1) (S.whereI ((i : Int) + 1) rs1 imm) = -1
  · unfold HS.memR HS.memS
    rw [if_pos hf, if_pos hf]
    by_cases hc : clR ((i : Int) + 1) = 5
    · rw [if_pos hc, if_pos hc]
      exact mem_store b S i rd rs1 rs2 imm word v held w h hi hrs hx hs hn hv hf hc
    · rw [if_neg hc, if_neg hc]
      unfold memV
      by_cases h46 : i = 46
      · rw [if_pos (by omega)]
        cases held
        · exact mem_sc_false b S i rd rs1 rs2 imm word v false w h hi hrs hx hs hn hrd hv hf hc h46 rfl
        · exact mem_sc_true b S i rd rs1 rs2 imm word v true w h hi hrs hx hs hn hrd hv hf hc h46 rfl
      · rw [if_neg (by omega)]
        exact mem_load b S i rd rs1 rs2 imm word v held w h hi hrs hx hs hn hrd hv hf hc h46
  · unfold HS.memR HS.memS
    rw [if_neg hf, if_neg hf]
    exact mem_bad b S i rd rs1 rs2 imm word v held w h hi hrs hx hs hn hf
end Go.Proofs.YtengofkjlgajlaaGreatDoor
