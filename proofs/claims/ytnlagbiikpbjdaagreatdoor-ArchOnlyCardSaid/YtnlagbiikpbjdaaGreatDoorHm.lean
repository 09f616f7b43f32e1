/-
  THE ANSWER's HART: what it asks of memory.
-/
import Derived.Test.YtnlagbiikpbjdaaGreatDoorHl
namespace Go.Proofs.YtnlagbiikpbjdaaGreatDoor
open Go Go.RowKit
def zeroQ : Value := .agg #[.int .i64 0, .int .u32 0, .int .i64 0, .int .u32 0]
/-- what is handed over with a request -/
def HS.askV (S : HS) (d : Dec) : Int := if clR d.op = 4 then 0 else if szI d.op = 1 then S.regs d.rs2 % 256 else if szI d.op = 2 then S.regs d.rs2 % 65536 else S.regs d.rs2
/-- does it ask; what -/
def HS.asks (S : HS) (d : Dec) : Bool := d.ok && !S.halted && szI d.op != 0 && S.faultI d.op (S.whereI d.op d.rs1 d.imm) == -1
def HS.askQ (S : HS) (d : Dec) : Value := if S.asks d then .agg #[.int .i64 d.op, .int .u32 (S.whereI d.op d.rs1 d.imm), .int .i64 (szI d.op), .int .u32 (S.askV d)] else zeroQ
theorem keptC {W w3 : World} {b : Nat} {c : Array Value} (g : ∀ i, W.cell? ⟨b, i, none⟩ = c[i]?) (hz : b < W.heap.size) (hb : Below W.heap.size W w3) : ∀ i, w3.cell? ⟨b, i, none⟩ = c[i]? := fun i => (hb.cell (p := ⟨b, i, none⟩) hz).trans (g i)
theorem keptF {W w3 : World} {b : Nat} (g : ∀ i, W.frozen? ⟨b, i, none⟩ = false) (hz : b < W.heap.size) (hb : Below W.heap.size W w3) : ∀ i, w3.frozen? ⟨b, i, none⟩ = false := fun i => (hb.frozen (p := ⟨b, i, none⟩) hz).trans (g i)
set_option maxHeartbeats 2000000 in
theorem ask_none {D : Int → Dec} (HD : DecOk D) (b : Nat) (S : HS) (cb co n cp : Nat) (f : Nat → Int) (w : World) (h : RH w b S) (hp : U32 S.pc) (hc : S.code = .slice (some ⟨cb, co, none⟩) n cp) (hC : CodeAt w cb co n f) (hn : n ≤ 4096) (d : Dec) (hd : S.fetchD D n f = d) (hno : d.ok = false ∨ (d.ok = true ∧ S.halted = true)) : Calls Tryz.prog 29 #[.pointer (some ⟨b, 0, none⟩)] w fun e w' => e = .returned zeroQ ∧ Below w.heap.size w w' := by
  have h3 := h.here
  have HH : Hid (RH w b S) := h
  have HC2 : Hid (CodeAt w cb co n f) := hC
  clear h hC
  have HE : Hid (S.fetchD D n f = d) := hd
  clear hd
  rcases hno with h1 | ⟨h1, h2⟩
  all_goals
    go_enter Tryz.func29, Tryz.ntmps29
    go_wp2_with (first | (go_at_call 57; refine (fetch_any HD b S cb co n cp f _ (HH.out.alloc _) hp hc (HC2.out.below ((Below.refl _ _).alloc (Nat.le_refl _) _)) hn).mono ?_; rintro e w1 ⟨rfl, hb1⟩; rw [HE.out]; unfold Dec.val; obtain ⟨k1, k2, k3, k4⟩ := keepB hb1; have R1 := Hid.in (HH.out.below k4); have ch1 : w1.cell? ⟨b, 36, none⟩ = some (.bool S.halted) := R1.out.cell 36 (by decide); have t1 := R1.out.here))
    refine bodyPost_ret (v := zeroQ) (by simp [results, Tryz.results29, go_sem, k1, k3, zeroQ]) rfl ⟨rfl, ?_⟩
    exact ((((k4.setCell (Nat.le_refl _) _).setCell (Nat.le_refl _) _).setCell (Nat.le_refl _) _).setCell (Nat.le_refl _) _).alloc (by simp [World.setCell]; omega) _
set_option maxHeartbeats 2000000 in
theorem ask_small {D : Int → Dec} (HD : DecOk D) (b : Nat) (S : HS) (cb co n cp : Nat) (f : Nat → Int) (w : World) (h : RH w b S) (hp : U32 S.pc) (hc : S.code = .slice (some ⟨cb, co, none⟩) n cp) (hC : CodeAt w cb co n f) (hn : n ≤ 4096) (i rd rs1 rs2 : Nat) (imm : Int) (hd : S.fetchD D n f = ⟨i + 1, rd, rs1, rs2, imm, true⟩) (hi : i < 67) (hh : S.halted = false) (hn0 : szI ((i : Int) + 1) = 0) : Calls Tryz.prog 29 #[.pointer (some ⟨b, 0, none⟩)] w fun e w' => e = .returned zeroQ ∧ Below w.heap.size w w' := by
  have h3 := h.here
  have HH : Hid (RH w b S) := h
  have HC2 : Hid (CodeAt w cb co n f) := hC
  clear h hC
  have HE : Hid (S.fetchD D n f = ⟨i + 1, rd, rs1, rs2, imm, true⟩) := hd
  have HHA : Hid (S.halted = false) := hh
  have HEV : Hid ((⟨i + 1, rd, rs1, rs2, imm, true⟩ : Dec).val = .agg #[.int .i64 ((i : Int) + 1), .int .i64 rd, .int .i64 rs1, .int .i64 rs2, .int .i64 imm]) := Hid.in (by simp [Dec.val])
  clear hd hh
  have HN : Hid (szI ((i : Int) + 1) = 0) := hn0
  have hi2 : i < 67 := hi
  clear hn0 hi hi2
  go_enter Tryz.func29, Tryz.ntmps29
  go_wp2_with (first
    | (go_at_call 57; refine (fetch_any HD b S cb co n cp f _ (HH.out.alloc _) hp hc (HC2.out.below ((Below.refl _ _).alloc (Nat.le_refl _) _)) hn).mono ?_; rintro e w1 ⟨rfl, hb1⟩; rw [HE.out, HEV.out]; obtain ⟨k1, k2, k3, k4⟩ := keepB hb1; have R1 := Hid.in (HH.out.below k4); have ch1 : w1.cell? ⟨b, 36, none⟩ = some (.bool S.halted) := R1.out.cell 36 (by decide); have t1 := R1.out.here; rw [HHA.out] at ch1)
    | (go_at_call 58; refine (size_any _ _).mono ?_; rintro e w2 ⟨rfl, hb2⟩; rw [HN.out]; obtain ⟨a2, _, s2, o2⟩ := keepB hb2; have r2 := keptC k1 k3 o2; have g2 := keptF k2 k3 o2; have z2 := Nat.lt_of_lt_of_le k3 o2.size; have R2 := Hid.in (R1.out.below o2); have q2 := below2 k4 o2; have t2 := R2.out.here; clear hb2 o2))
  refine bodyPost_ret (v := zeroQ) (by simp [results, Tryz.results29, go_sem, r2, zeroQ]) rfl ⟨rfl, ?_⟩
  exact (((q2.setCell (Nat.le_refl _) _).setCell (Nat.le_refl _) _).setCell (Nat.le_refl _) _).setCell (Nat.le_refl _) _
set_option maxHeartbeats 2000000 in
theorem ask_bad {D : Int → Dec} (HD : DecOk D) (b : Nat) (S : HS) (cb co n cp : Nat) (f : Nat → Int) (w : World) (h : RH w b S) (hp : U32 S.pc) (hc : S.code = .slice (some ⟨cb, co, none⟩) n cp) (hC : CodeAt w cb co n f) (hn : n ≤ 4096) (i rd rs1 rs2 : Nat) (imm : Int) (hd : S.fetchD D n f = ⟨i + 1, rd, rs1, rs2, imm, true⟩) (hi : i < 67) (hh : S.halted = false) (hrs : rs1 < 32) (hs : 0 ≤ S.size ∧ S.size ≤ 4096) (m : Int) (hN : szI ((i : Int) + 1) = m) (x : Int) (hX : S.whereI ((i : Int) + 1) rs1 imm = x) (hx : U32 x) (hn0 : szI ((i : Int) + 1) ≠ 0) (u : Int) (hF : S.faultI ((i : Int) + 1) x = u) (hu : u ≠ -1) : Calls Tryz.prog 29 #[.pointer (some ⟨b, 0, none⟩)] w fun e w' => e = .returned zeroQ ∧ Below w.heap.size w w' := by
  have h3 := h.here
  have HH : Hid (RH w b S) := h
  have HC2 : Hid (CodeAt w cb co n f) := hC
  clear h hC
  have HE : Hid (S.fetchD D n f = ⟨i + 1, rd, rs1, rs2, imm, true⟩) := hd
  have HHA : Hid (S.halted = false) := hh
  have HEV : Hid ((⟨i + 1, rd, rs1, rs2, imm, true⟩ : Dec).val = .agg #[.int .i64 ((i : Int) + 1), .int .i64 rd, .int .i64 rs1, .int .i64 rs2, .int .i64 imm]) := Hid.in (by simp [Dec.val])
  clear hd hh
  have HX : Hid (S.whereI ((i : Int) + 1) rs1 imm = x) := hX
  have HN : Hid (szI ((i : Int) + 1) = m) := hN
  have HF : Hid (S.faultI ((i : Int) + 1) x = u) := hF
  have hm : (m == 0) = false := by rw [hN] at hn0; simp; exact hn0
  have hu1 : (u != -1) = true := by simp; exact hu
  clear hX hN hF hu
  go_enter Tryz.func29, Tryz.ntmps29
  go_wp2_with (first
    | (go_at_call 57; refine (fetch_any HD b S cb co n cp f _ (HH.out.alloc _) hp hc (HC2.out.below ((Below.refl _ _).alloc (Nat.le_refl _) _)) hn).mono ?_; rintro e w1 ⟨rfl, hb1⟩; rw [HE.out, HEV.out]; obtain ⟨k1, k2, k3, k4⟩ := keepB hb1; have R1 := Hid.in (HH.out.below k4); have ch1 : w1.cell? ⟨b, 36, none⟩ = some (.bool S.halted) := R1.out.cell 36 (by decide); have t1 := R1.out.here; rw [HHA.out] at ch1)
    | (go_at_call 58; refine (size_any _ _).mono ?_; rintro e w2 ⟨rfl, hb2⟩; rw [HN.out]; obtain ⟨a2, _, s2, o2⟩ := keepB hb2; have r2 := keptC k1 k3 o2; have g2 := keptF k2 k3 o2; have z2 := Nat.lt_of_lt_of_le k3 o2.size; have R2 := Hid.in (R1.out.below o2); have q2 := below2 k4 o2; have t2 := R2.out.here; clear hb2 o2)
    | (go_at_call 59; refine (where_any b S _ _ rs1 _ _ _ R2.out hrs).mono ?_; rintro e w3 ⟨rfl, hb3⟩; rw [HX.out]; have a3 := keptC a2 s2 hb3; have s3 := Nat.lt_of_lt_of_le s2 hb3.size; have r3 := keptC r2 z2 hb3; have g3 := keptF g2 z2 hb3; have z3 := Nat.lt_of_lt_of_le z2 hb3.size; have R3 := Hid.in (R2.out.below hb3); have q3 := below2 q2 hb3; have t3 := R3.out.here; clear hb3)
    | (go_at_call 60; refine (fault_any b S i _ _ R3.out hi hx hs hn0).mono ?_; rintro e w4 ⟨rfl, hb4⟩; rw [HF.out]; have a4 := keptC a3 s3 hb4; have s4 := Nat.lt_of_lt_of_le s3 hb4.size; have r4 := keptC r3 z3 hb4; have g4 := keptF g3 z3 hb4; have z4 := Nat.lt_of_lt_of_le z3 hb4.size; have R4 := Hid.in (R3.out.below hb4); have q4 := below2 q3 hb4; have t4 := R4.out.here; clear hb4))
  refine bodyPost_ret (v := zeroQ) (by simp [results, Tryz.results29, go_sem, r4, zeroQ]) rfl ⟨rfl, ?_⟩
  exact (((q4.setCell (Nat.le_refl _) _).setCell (Nat.le_refl _) _).setCell (Nat.le_refl _) _).setCell (Nat.le_refl _) _
set_option maxHeartbeats 4000000 in
theorem ask_1 {D : Int → Dec} (HD : DecOk D) (b : Nat) (S : HS) (cb co n cp : Nat) (f : Nat → Int) (w : World) (h : RH w b S) (hp : U32 S.pc) (hc : S.code = .slice (some ⟨cb, co, none⟩) n cp) (hC : CodeAt w cb co n f) (hn : n ≤ 4096) (i rd rs1 rs2 : Nat) (imm : Int) (hd : S.fetchD D n f = ⟨i + 1, rd, rs1, rs2, imm, true⟩) (hi : i < 67) (hh : S.halted = false) (hrs : rs1 < 32) (hs : 0 ≤ S.size ∧ S.size ≤ 4096) (m : Int) (hN : szI ((i : Int) + 1) = m) (x : Int) (hX : S.whereI ((i : Int) + 1) rs1 imm = x) (hx : U32 x) (hrs2 : rs2 < 32) (hm : m = 1) (hF : S.faultI ((i : Int) + 1) x = -1) (c : Int) (hCL : clR ((i : Int) + 1) = c) (h4 : (c == 4) = false) (y : Int) (hy : S.regs rs2 = y) (_hyu : U32 y) : Calls Tryz.prog 29 #[.pointer (some ⟨b, 0, none⟩)] w fun e w' => e = .returned (.agg #[.int .i64 ((i : Int) + 1), .int .u32 x, .int .i64 m, .int .u32 (y % 256)]) ∧ Below w.heap.size w w' := by
  have h3 := h.here
  have HH : Hid (RH w b S) := h
  have HC2 : Hid (CodeAt w cb co n f) := hC
  clear h hC
  have HE : Hid (S.fetchD D n f = ⟨i + 1, rd, rs1, rs2, imm, true⟩) := hd
  have HHA : Hid (S.halted = false) := hh
  have HEV : Hid ((⟨i + 1, rd, rs1, rs2, imm, true⟩ : Dec).val = .agg #[.int .i64 ((i : Int) + 1), .int .i64 rd, .int .i64 rs1, .int .i64 rs2, .int .i64 imm]) := Hid.in (by simp [Dec.val])
  clear hd hh
  have HX : Hid (S.whereI ((i : Int) + 1) rs1 imm = x) := hX
  have HN : Hid (szI ((i : Int) + 1) = m) := hN
  have HF : Hid (S.faultI ((i : Int) + 1) x = -1) := hF
  have HCL : Hid (clR ((i : Int) + 1) = c) := hCL
  subst hm
  have hn0 : szI ((i : Int) + 1) ≠ 0 := by rw [hN]; decide
  clear hX hN hF hCL
  go_enter Tryz.func29, Tryz.ntmps29
  go_wp2_with (first
    | (go_at_call 57; refine (fetch_any HD b S cb co n cp f _ (HH.out.alloc _) hp hc (HC2.out.below ((Below.refl _ _).alloc (Nat.le_refl _) _)) hn).mono ?_; rintro e w1 ⟨rfl, hb1⟩; rw [HE.out, HEV.out]; obtain ⟨k1, k2, k3, k4⟩ := keepB hb1; have R1 := Hid.in (HH.out.below k4); have ch1 : w1.cell? ⟨b, 36, none⟩ = some (.bool S.halted) := R1.out.cell 36 (by decide); have t1 := R1.out.here; rw [HHA.out] at ch1)
    | (go_at_call 58; refine (size_any _ _).mono ?_; rintro e w2 ⟨rfl, hb2⟩; rw [HN.out]; obtain ⟨a2, _, s2, o2⟩ := keepB hb2; have r2 := keptC k1 k3 o2; have g2 := keptF k2 k3 o2; have z2 := Nat.lt_of_lt_of_le k3 o2.size; have R2 := Hid.in (R1.out.below o2); have q2 := below2 k4 o2; have t2 := R2.out.here; clear hb2 o2)
    | (go_at_call 59; refine (where_any b S _ _ rs1 _ _ _ R2.out hrs).mono ?_; rintro e w3 ⟨rfl, hb3⟩; rw [HX.out]; have a3 := keptC a2 s2 hb3; have s3 := Nat.lt_of_lt_of_le s2 hb3.size; have r3 := keptC r2 z2 hb3; have g3 := keptF g2 z2 hb3; have z3 := Nat.lt_of_lt_of_le z2 hb3.size; have R3 := Hid.in (R2.out.below hb3); have q3 := below2 q2 hb3; have t3 := R3.out.here; clear hb3)
    | (go_at_call 60; refine (fault_any b S i _ _ R3.out hi hx hs hn0).mono ?_; rintro e w4 ⟨rfl, hb4⟩; rw [HF.out]; have a4 := keptC a3 s3 hb4; have s4 := Nat.lt_of_lt_of_le s3 hb4.size; have r4 := keptC r3 z3 hb4; have g4 := keptF g3 z3 hb4; have z4 := Nat.lt_of_lt_of_le z3 hb4.size; have R4 := Hid.in (R3.out.below hb4); have q4 := below2 q3 hb4; have t4 := R4.out.here; clear hb4))
  have y4 := RH.atReg R4.out rs2 hrs2
  rw [hy] at y4
  go_region
  go_wp2_with (first | (go_at_call 30; refine (clsR_any _ _).mono ?_; rintro e w5 ⟨rfl, hb5⟩; rw [HCL.out]; have a5 := keptC (W := w4.drew) a4 s4 hb5; have s5 := Nat.lt_of_lt_of_le s4 hb5.size; have r5 := keptC (W := w4.drew) r4 z4 hb5; have g5 := keptF (W := w4.drew) g4 z4 hb5; have z5 := Nat.lt_of_lt_of_le z4 hb5.size; have R5 := Hid.in (R4.out.drew.below hb5); have q5 := below2 q4.drew hb5; have t5 := R5.out.here; clear hb5))
  refine bodyPost_ret (v := .agg #[.int .i64 ((i : Int) + 1), .int .u32 x, .int .i64 1, .int .u32 (y % 256)]) (by simp [results, Tryz.results29, go_sem, r5]) rfl ⟨rfl, ?_⟩
  exact (((q5.setCell (Nat.le_refl _) _).setCell (Nat.le_refl _) _).setCell (Nat.le_refl _) _).setCell (Nat.le_refl _) _
set_option maxHeartbeats 4000000 in
theorem ask_ld1 {D : Int → Dec} (HD : DecOk D) (b : Nat) (S : HS) (cb co n cp : Nat) (f : Nat → Int) (w : World) (h : RH w b S) (hp : U32 S.pc) (hc : S.code = .slice (some ⟨cb, co, none⟩) n cp) (hC : CodeAt w cb co n f) (hn : n ≤ 4096) (i rd rs1 rs2 : Nat) (imm : Int) (hd : S.fetchD D n f = ⟨i + 1, rd, rs1, rs2, imm, true⟩) (hi : i < 67) (hh : S.halted = false) (hrs : rs1 < 32) (hs : 0 ≤ S.size ∧ S.size ≤ 4096) (m : Int) (hN : szI ((i : Int) + 1) = m) (x : Int) (hX : S.whereI ((i : Int) + 1) rs1 imm = x) (hx : U32 x) (hrs2 : rs2 < 32) (hm : m = 1) (hF : S.faultI ((i : Int) + 1) x = -1) (c : Int) (hCL : clR ((i : Int) + 1) = c) (h4 : c = 4) (y : Int) (hy : S.regs rs2 = y) (_hyu : U32 y) : Calls Tryz.prog 29 #[.pointer (some ⟨b, 0, none⟩)] w fun e w' => e = .returned (.agg #[.int .i64 ((i : Int) + 1), .int .u32 x, .int .i64 m, .int .u32 (0)]) ∧ Below w.heap.size w w' := by
  have h3 := h.here
  have HH : Hid (RH w b S) := h
  have HC2 : Hid (CodeAt w cb co n f) := hC
  clear h hC
  have HE : Hid (S.fetchD D n f = ⟨i + 1, rd, rs1, rs2, imm, true⟩) := hd
  have HHA : Hid (S.halted = false) := hh
  have HEV : Hid ((⟨i + 1, rd, rs1, rs2, imm, true⟩ : Dec).val = .agg #[.int .i64 ((i : Int) + 1), .int .i64 rd, .int .i64 rs1, .int .i64 rs2, .int .i64 imm]) := Hid.in (by simp [Dec.val])
  clear hd hh
  have HX : Hid (S.whereI ((i : Int) + 1) rs1 imm = x) := hX
  have HN : Hid (szI ((i : Int) + 1) = m) := hN
  have HF : Hid (S.faultI ((i : Int) + 1) x = -1) := hF
  have HCL : Hid (clR ((i : Int) + 1) = c) := hCL
  subst hm
  have hn0 : szI ((i : Int) + 1) ≠ 0 := by rw [hN]; decide
  subst h4
  clear hX hN hF hCL
  go_enter Tryz.func29, Tryz.ntmps29
  go_wp2_with (first
    | (go_at_call 57; refine (fetch_any HD b S cb co n cp f _ (HH.out.alloc _) hp hc (HC2.out.below ((Below.refl _ _).alloc (Nat.le_refl _) _)) hn).mono ?_; rintro e w1 ⟨rfl, hb1⟩; rw [HE.out, HEV.out]; obtain ⟨k1, k2, k3, k4⟩ := keepB hb1; have R1 := Hid.in (HH.out.below k4); have ch1 : w1.cell? ⟨b, 36, none⟩ = some (.bool S.halted) := R1.out.cell 36 (by decide); have t1 := R1.out.here; rw [HHA.out] at ch1)
    | (go_at_call 58; refine (size_any _ _).mono ?_; rintro e w2 ⟨rfl, hb2⟩; rw [HN.out]; obtain ⟨a2, _, s2, o2⟩ := keepB hb2; have r2 := keptC k1 k3 o2; have g2 := keptF k2 k3 o2; have z2 := Nat.lt_of_lt_of_le k3 o2.size; have R2 := Hid.in (R1.out.below o2); have q2 := below2 k4 o2; have t2 := R2.out.here; clear hb2 o2)
    | (go_at_call 59; refine (where_any b S _ _ rs1 _ _ _ R2.out hrs).mono ?_; rintro e w3 ⟨rfl, hb3⟩; rw [HX.out]; have a3 := keptC a2 s2 hb3; have s3 := Nat.lt_of_lt_of_le s2 hb3.size; have r3 := keptC r2 z2 hb3; have g3 := keptF g2 z2 hb3; have z3 := Nat.lt_of_lt_of_le z2 hb3.size; have R3 := Hid.in (R2.out.below hb3); have q3 := below2 q2 hb3; have t3 := R3.out.here; clear hb3)
    | (go_at_call 60; refine (fault_any b S i _ _ R3.out hi hx hs hn0).mono ?_; rintro e w4 ⟨rfl, hb4⟩; rw [HF.out]; have a4 := keptC a3 s3 hb4; have s4 := Nat.lt_of_lt_of_le s3 hb4.size; have r4 := keptC r3 z3 hb4; have g4 := keptF g3 z3 hb4; have z4 := Nat.lt_of_lt_of_le z3 hb4.size; have R4 := Hid.in (R3.out.below hb4); have q4 := below2 q3 hb4; have t4 := R4.out.here; clear hb4))
  have y4 := RH.atReg R4.out rs2 hrs2
  rw [hy] at y4
  go_region
  go_wp2_with (first | (go_at_call 30; refine (clsR_any _ _).mono ?_; rintro e w5 ⟨rfl, hb5⟩; rw [HCL.out]; have a5 := keptC (W := w4.drew) a4 s4 hb5; have s5 := Nat.lt_of_lt_of_le s4 hb5.size; have r5 := keptC (W := w4.drew) r4 z4 hb5; have g5 := keptF (W := w4.drew) g4 z4 hb5; have z5 := Nat.lt_of_lt_of_le z4 hb5.size; have R5 := Hid.in (R4.out.drew.below hb5); have q5 := below2 q4.drew hb5; have t5 := R5.out.here; clear hb5))
  refine bodyPost_ret (v := .agg #[.int .i64 ((i : Int) + 1), .int .u32 x, .int .i64 1, .int .u32 (0)]) (by simp [results, Tryz.results29, go_sem, r5]) rfl ⟨rfl, ?_⟩
  exact (((q5.setCell (Nat.le_refl _) _).setCell (Nat.le_refl _) _).setCell (Nat.le_refl _) _).setCell (Nat.le_refl _) _
set_option maxHeartbeats 4000000 in
theorem ask_2 {D : Int → Dec} (HD : DecOk D) (b : Nat) (S : HS) (cb co n cp : Nat) (f : Nat → Int) (w : World) (h : RH w b S) (hp : U32 S.pc) (hc : S.code = .slice (some ⟨cb, co, none⟩) n cp) (hC : CodeAt w cb co n f) (hn : n ≤ 4096) (i rd rs1 rs2 : Nat) (imm : Int) (hd : S.fetchD D n f = ⟨i + 1, rd, rs1, rs2, imm, true⟩) (hi : i < 67) (hh : S.halted = false) (hrs : rs1 < 32) (hs : 0 ≤ S.size ∧ S.size ≤ 4096) (m : Int) (hN : szI ((i : Int) + 1) = m) (x : Int) (hX : S.whereI ((i : Int) + 1) rs1 imm = x) (hx : U32 x) (hrs2 : rs2 < 32) (hm : m = 2) (hF : S.faultI ((i : Int) + 1) x = -1) (c : Int) (hCL : clR ((i : Int) + 1) = c) (h4 : (c == 4) = false) (y : Int) (hy : S.regs rs2 = y) (_hyu : U32 y) : Calls Tryz.prog 29 #[.pointer (some ⟨b, 0, none⟩)] w fun e w' => e = .returned (.agg #[.int .i64 ((i : Int) + 1), .int .u32 x, .int .i64 m, .int .u32 (y % 65536)]) ∧ Below w.heap.size w w' := by
  have h3 := h.here
  have HH : Hid (RH w b S) := h
  have HC2 : Hid (CodeAt w cb co n f) := hC
  clear h hC
  have HE : Hid (S.fetchD D n f = ⟨i + 1, rd, rs1, rs2, imm, true⟩) := hd
  have HHA : Hid (S.halted = false) := hh
  have HEV : Hid ((⟨i + 1, rd, rs1, rs2, imm, true⟩ : Dec).val = .agg #[.int .i64 ((i : Int) + 1), .int .i64 rd, .int .i64 rs1, .int .i64 rs2, .int .i64 imm]) := Hid.in (by simp [Dec.val])
  clear hd hh
  have HX : Hid (S.whereI ((i : Int) + 1) rs1 imm = x) := hX
  have HN : Hid (szI ((i : Int) + 1) = m) := hN
  have HF : Hid (S.faultI ((i : Int) + 1) x = -1) := hF
  have HCL : Hid (clR ((i : Int) + 1) = c) := hCL
  subst hm
  have hn0 : szI ((i : Int) + 1) ≠ 0 := by rw [hN]; decide
  clear hX hN hF hCL
  go_enter Tryz.func29, Tryz.ntmps29
  go_wp2_with (first
    | (go_at_call 57; refine (fetch_any HD b S cb co n cp f _ (HH.out.alloc _) hp hc (HC2.out.below ((Below.refl _ _).alloc (Nat.le_refl _) _)) hn).mono ?_; rintro e w1 ⟨rfl, hb1⟩; rw [HE.out, HEV.out]; obtain ⟨k1, k2, k3, k4⟩ := keepB hb1; have R1 := Hid.in (HH.out.below k4); have ch1 : w1.cell? ⟨b, 36, none⟩ = some (.bool S.halted) := R1.out.cell 36 (by decide); have t1 := R1.out.here; rw [HHA.out] at ch1)
    | (go_at_call 58; refine (size_any _ _).mono ?_; rintro e w2 ⟨rfl, hb2⟩; rw [HN.out]; obtain ⟨a2, _, s2, o2⟩ := keepB hb2; have r2 := keptC k1 k3 o2; have g2 := keptF k2 k3 o2; have z2 := Nat.lt_of_lt_of_le k3 o2.size; have R2 := Hid.in (R1.out.below o2); have q2 := below2 k4 o2; have t2 := R2.out.here; clear hb2 o2)
    | (go_at_call 59; refine (where_any b S _ _ rs1 _ _ _ R2.out hrs).mono ?_; rintro e w3 ⟨rfl, hb3⟩; rw [HX.out]; have a3 := keptC a2 s2 hb3; have s3 := Nat.lt_of_lt_of_le s2 hb3.size; have r3 := keptC r2 z2 hb3; have g3 := keptF g2 z2 hb3; have z3 := Nat.lt_of_lt_of_le z2 hb3.size; have R3 := Hid.in (R2.out.below hb3); have q3 := below2 q2 hb3; have t3 := R3.out.here; clear hb3)
    | (go_at_call 60; refine (fault_any b S i _ _ R3.out hi hx hs hn0).mono ?_; rintro e w4 ⟨rfl, hb4⟩; rw [HF.out]; have a4 := keptC a3 s3 hb4; have s4 := Nat.lt_of_lt_of_le s3 hb4.size; have r4 := keptC r3 z3 hb4; have g4 := keptF g3 z3 hb4; have z4 := Nat.lt_of_lt_of_le z3 hb4.size; have R4 := Hid.in (R3.out.below hb4); have q4 := below2 q3 hb4; have t4 := R4.out.here; clear hb4))
  have y4 := RH.atReg R4.out rs2 hrs2
  rw [hy] at y4
  go_region
  go_wp2_with (first | (go_at_call 30; refine (clsR_any _ _).mono ?_; rintro e w5 ⟨rfl, hb5⟩; rw [HCL.out]; have a5 := keptC (W := w4.drew) a4 s4 hb5; have s5 := Nat.lt_of_lt_of_le s4 hb5.size; have r5 := keptC (W := w4.drew) r4 z4 hb5; have g5 := keptF (W := w4.drew) g4 z4 hb5; have z5 := Nat.lt_of_lt_of_le z4 hb5.size; have R5 := Hid.in (R4.out.drew.below hb5); have q5 := below2 q4.drew hb5; have t5 := R5.out.here; clear hb5))
  refine bodyPost_ret (v := .agg #[.int .i64 ((i : Int) + 1), .int .u32 x, .int .i64 2, .int .u32 (y % 65536)]) (by simp [results, Tryz.results29, go_sem, r5]) rfl ⟨rfl, ?_⟩
  exact (((q5.setCell (Nat.le_refl _) _).setCell (Nat.le_refl _) _).setCell (Nat.le_refl _) _).setCell (Nat.le_refl _) _
set_option maxHeartbeats 4000000 in
theorem ask_ld2 {D : Int → Dec} (HD : DecOk D) (b : Nat) (S : HS) (cb co n cp : Nat) (f : Nat → Int) (w : World) (h : RH w b S) (hp : U32 S.pc) (hc : S.code = .slice (some ⟨cb, co, none⟩) n cp) (hC : CodeAt w cb co n f) (hn : n ≤ 4096) (i rd rs1 rs2 : Nat) (imm : Int) (hd : S.fetchD D n f = ⟨i + 1, rd, rs1, rs2, imm, true⟩) (hi : i < 67) (hh : S.halted = false) (hrs : rs1 < 32) (hs : 0 ≤ S.size ∧ S.size ≤ 4096) (m : Int) (hN : szI ((i : Int) + 1) = m) (x : Int) (hX : S.whereI ((i : Int) + 1) rs1 imm = x) (hx : U32 x) (hrs2 : rs2 < 32) (hm : m = 2) (hF : S.faultI ((i : Int) + 1) x = -1) (c : Int) (hCL : clR ((i : Int) + 1) = c) (h4 : c = 4) (y : Int) (hy : S.regs rs2 = y) (_hyu : U32 y) : Calls Tryz.prog 29 #[.pointer (some ⟨b, 0, none⟩)] w fun e w' => e = .returned (.agg #[.int .i64 ((i : Int) + 1), .int .u32 x, .int .i64 m, .int .u32 (0)]) ∧ Below w.heap.size w w' := by
  have h3 := h.here
  have HH : Hid (RH w b S) := h
  have HC2 : Hid (CodeAt w cb co n f) := hC
  clear h hC
  have HE : Hid (S.fetchD D n f = ⟨i + 1, rd, rs1, rs2, imm, true⟩) := hd
  have HHA : Hid (S.halted = false) := hh
  have HEV : Hid ((⟨i + 1, rd, rs1, rs2, imm, true⟩ : Dec).val = .agg #[.int .i64 ((i : Int) + 1), .int .i64 rd, .int .i64 rs1, .int .i64 rs2, .int .i64 imm]) := Hid.in (by simp [Dec.val])
  clear hd hh
  have HX : Hid (S.whereI ((i : Int) + 1) rs1 imm = x) := hX
  have HN : Hid (szI ((i : Int) + 1) = m) := hN
  have HF : Hid (S.faultI ((i : Int) + 1) x = -1) := hF
  have HCL : Hid (clR ((i : Int) + 1) = c) := hCL
  subst hm
  have hn0 : szI ((i : Int) + 1) ≠ 0 := by rw [hN]; decide
  subst h4
  clear hX hN hF hCL
  go_enter Tryz.func29, Tryz.ntmps29
  go_wp2_with (first
    | (go_at_call 57; refine (fetch_any HD b S cb co n cp f _ (HH.out.alloc _) hp hc (HC2.out.below ((Below.refl _ _).alloc (Nat.le_refl _) _)) hn).mono ?_; rintro e w1 ⟨rfl, hb1⟩; rw [HE.out, HEV.out]; obtain ⟨k1, k2, k3, k4⟩ := keepB hb1; have R1 := Hid.in (HH.out.below k4); have ch1 : w1.cell? ⟨b, 36, none⟩ = some (.bool S.halted) := R1.out.cell 36 (by decide); have t1 := R1.out.here; rw [HHA.out] at ch1)
    | (go_at_call 58; refine (size_any _ _).mono ?_; rintro e w2 ⟨rfl, hb2⟩; rw [HN.out]; obtain ⟨a2, _, s2, o2⟩ := keepB hb2; have r2 := keptC k1 k3 o2; have g2 := keptF k2 k3 o2; have z2 := Nat.lt_of_lt_of_le k3 o2.size; have R2 := Hid.in (R1.out.below o2); have q2 := below2 k4 o2; have t2 := R2.out.here; clear hb2 o2)
    | (go_at_call 59; refine (where_any b S _ _ rs1 _ _ _ R2.out hrs).mono ?_; rintro e w3 ⟨rfl, hb3⟩; rw [HX.out]; have a3 := keptC a2 s2 hb3; have s3 := Nat.lt_of_lt_of_le s2 hb3.size; have r3 := keptC r2 z2 hb3; have g3 := keptF g2 z2 hb3; have z3 := Nat.lt_of_lt_of_le z2 hb3.size; have R3 := Hid.in (R2.out.below hb3); have q3 := below2 q2 hb3; have t3 := R3.out.here; clear hb3)
    | (go_at_call 60; refine (fault_any b S i _ _ R3.out hi hx hs hn0).mono ?_; rintro e w4 ⟨rfl, hb4⟩; rw [HF.out]; have a4 := keptC a3 s3 hb4; have s4 := Nat.lt_of_lt_of_le s3 hb4.size; have r4 := keptC r3 z3 hb4; have g4 := keptF g3 z3 hb4; have z4 := Nat.lt_of_lt_of_le z3 hb4.size; have R4 := Hid.in (R3.out.below hb4); have q4 := below2 q3 hb4; have t4 := R4.out.here; clear hb4))
  have y4 := RH.atReg R4.out rs2 hrs2
  rw [hy] at y4
  go_region
  go_wp2_with (first | (go_at_call 30; refine (clsR_any _ _).mono ?_; rintro e w5 ⟨rfl, hb5⟩; rw [HCL.out]; have a5 := keptC (W := w4.drew) a4 s4 hb5; have s5 := Nat.lt_of_lt_of_le s4 hb5.size; have r5 := keptC (W := w4.drew) r4 z4 hb5; have g5 := keptF (W := w4.drew) g4 z4 hb5; have z5 := Nat.lt_of_lt_of_le z4 hb5.size; have R5 := Hid.in (R4.out.drew.below hb5); have q5 := below2 q4.drew hb5; have t5 := R5.out.here; clear hb5))
  refine bodyPost_ret (v := .agg #[.int .i64 ((i : Int) + 1), .int .u32 x, .int .i64 2, .int .u32 (0)]) (by simp [results, Tryz.results29, go_sem, r5]) rfl ⟨rfl, ?_⟩
  exact (((q5.setCell (Nat.le_refl _) _).setCell (Nat.le_refl _) _).setCell (Nat.le_refl _) _).setCell (Nat.le_refl _) _
set_option maxHeartbeats 4000000 in
theorem ask_4 {D : Int → Dec} (HD : DecOk D) (b : Nat) (S : HS) (cb co n cp : Nat) (f : Nat → Int) (w : World) (h : RH w b S) (hp : U32 S.pc) (hc : S.code = .slice (some ⟨cb, co, none⟩) n cp) (hC : CodeAt w cb co n f) (hn : n ≤ 4096) (i rd rs1 rs2 : Nat) (imm : Int) (hd : S.fetchD D n f = ⟨i + 1, rd, rs1, rs2, imm, true⟩) (hi : i < 67) (hh : S.halted = false) (hrs : rs1 < 32) (hs : 0 ≤ S.size ∧ S.size ≤ 4096) (m : Int) (hN : szI ((i : Int) + 1) = m) (x : Int) (hX : S.whereI ((i : Int) + 1) rs1 imm = x) (hx : U32 x) (hrs2 : rs2 < 32) (hm : m = 4) (hF : S.faultI ((i : Int) + 1) x = -1) (c : Int) (hCL : clR ((i : Int) + 1) = c) (h4 : (c == 4) = false) (y : Int) (hy : S.regs rs2 = y) (_hyu : U32 y) : Calls Tryz.prog 29 #[.pointer (some ⟨b, 0, none⟩)] w fun e w' => e = .returned (.agg #[.int .i64 ((i : Int) + 1), .int .u32 x, .int .i64 m, .int .u32 (y)]) ∧ Below w.heap.size w w' := by
  have h3 := h.here
  have HH : Hid (RH w b S) := h
  have HC2 : Hid (CodeAt w cb co n f) := hC
  clear h hC
  have HE : Hid (S.fetchD D n f = ⟨i + 1, rd, rs1, rs2, imm, true⟩) := hd
  have HHA : Hid (S.halted = false) := hh
  have HEV : Hid ((⟨i + 1, rd, rs1, rs2, imm, true⟩ : Dec).val = .agg #[.int .i64 ((i : Int) + 1), .int .i64 rd, .int .i64 rs1, .int .i64 rs2, .int .i64 imm]) := Hid.in (by simp [Dec.val])
  clear hd hh
  have HX : Hid (S.whereI ((i : Int) + 1) rs1 imm = x) := hX
  have HN : Hid (szI ((i : Int) + 1) = m) := hN
  have HF : Hid (S.faultI ((i : Int) + 1) x = -1) := hF
  have HCL : Hid (clR ((i : Int) + 1) = c) := hCL
  subst hm
  have hn0 : szI ((i : Int) + 1) ≠ 0 := by rw [hN]; decide
  clear hX hN hF hCL
  go_enter Tryz.func29, Tryz.ntmps29
  go_wp2_with (first
    | (go_at_call 57; refine (fetch_any HD b S cb co n cp f _ (HH.out.alloc _) hp hc (HC2.out.below ((Below.refl _ _).alloc (Nat.le_refl _) _)) hn).mono ?_; rintro e w1 ⟨rfl, hb1⟩; rw [HE.out, HEV.out]; obtain ⟨k1, k2, k3, k4⟩ := keepB hb1; have R1 := Hid.in (HH.out.below k4); have ch1 : w1.cell? ⟨b, 36, none⟩ = some (.bool S.halted) := R1.out.cell 36 (by decide); have t1 := R1.out.here; rw [HHA.out] at ch1)
    | (go_at_call 58; refine (size_any _ _).mono ?_; rintro e w2 ⟨rfl, hb2⟩; rw [HN.out]; obtain ⟨a2, _, s2, o2⟩ := keepB hb2; have r2 := keptC k1 k3 o2; have g2 := keptF k2 k3 o2; have z2 := Nat.lt_of_lt_of_le k3 o2.size; have R2 := Hid.in (R1.out.below o2); have q2 := below2 k4 o2; have t2 := R2.out.here; clear hb2 o2)
    | (go_at_call 59; refine (where_any b S _ _ rs1 _ _ _ R2.out hrs).mono ?_; rintro e w3 ⟨rfl, hb3⟩; rw [HX.out]; have a3 := keptC a2 s2 hb3; have s3 := Nat.lt_of_lt_of_le s2 hb3.size; have r3 := keptC r2 z2 hb3; have g3 := keptF g2 z2 hb3; have z3 := Nat.lt_of_lt_of_le z2 hb3.size; have R3 := Hid.in (R2.out.below hb3); have q3 := below2 q2 hb3; have t3 := R3.out.here; clear hb3)
    | (go_at_call 60; refine (fault_any b S i _ _ R3.out hi hx hs hn0).mono ?_; rintro e w4 ⟨rfl, hb4⟩; rw [HF.out]; have a4 := keptC a3 s3 hb4; have s4 := Nat.lt_of_lt_of_le s3 hb4.size; have r4 := keptC r3 z3 hb4; have g4 := keptF g3 z3 hb4; have z4 := Nat.lt_of_lt_of_le z3 hb4.size; have R4 := Hid.in (R3.out.below hb4); have q4 := below2 q3 hb4; have t4 := R4.out.here; clear hb4))
  have y4 := RH.atReg R4.out rs2 hrs2
  rw [hy] at y4
  go_region
  go_wp2_with (first | (go_at_call 30; refine (clsR_any _ _).mono ?_; rintro e w5 ⟨rfl, hb5⟩; rw [HCL.out]; have a5 := keptC (W := w4.drew) a4 s4 hb5; have s5 := Nat.lt_of_lt_of_le s4 hb5.size; have r5 := keptC (W := w4.drew) r4 z4 hb5; have g5 := keptF (W := w4.drew) g4 z4 hb5; have z5 := Nat.lt_of_lt_of_le z4 hb5.size; have R5 := Hid.in (R4.out.drew.below hb5); have q5 := below2 q4.drew hb5; have t5 := R5.out.here; clear hb5))
  refine bodyPost_ret (v := .agg #[.int .i64 ((i : Int) + 1), .int .u32 x, .int .i64 4, .int .u32 (y)]) (by simp [results, Tryz.results29, go_sem, r5]) rfl ⟨rfl, ?_⟩
  exact (((q5.setCell (Nat.le_refl _) _).setCell (Nat.le_refl _) _).setCell (Nat.le_refl _) _).setCell (Nat.le_refl _) _
set_option maxHeartbeats 4000000 in
theorem ask_ld4 {D : Int → Dec} (HD : DecOk D) (b : Nat) (S : HS) (cb co n cp : Nat) (f : Nat → Int) (w : World) (h : RH w b S) (hp : U32 S.pc) (hc : S.code = .slice (some ⟨cb, co, none⟩) n cp) (hC : CodeAt w cb co n f) (hn : n ≤ 4096) (i rd rs1 rs2 : Nat) (imm : Int) (hd : S.fetchD D n f = ⟨i + 1, rd, rs1, rs2, imm, true⟩) (hi : i < 67) (hh : S.halted = false) (hrs : rs1 < 32) (hs : 0 ≤ S.size ∧ S.size ≤ 4096) (m : Int) (hN : szI ((i : Int) + 1) = m) (x : Int) (hX : S.whereI ((i : Int) + 1) rs1 imm = x) (hx : U32 x) (hrs2 : rs2 < 32) (hm : m = 4) (hF : S.faultI ((i : Int) + 1) x = -1) (c : Int) (hCL : clR ((i : Int) + 1) = c) (h4 : c = 4) (y : Int) (hy : S.regs rs2 = y) (_hyu : U32 y) : Calls Tryz.prog 29 #[.pointer (some ⟨b, 0, none⟩)] w fun e w' => e = .returned (.agg #[.int .i64 ((i : Int) + 1), .int .u32 x, .int .i64 m, .int .u32 (0)]) ∧ Below w.heap.size w w' := by
  have h3 := h.here
  have HH : Hid (RH w b S) := h
  have HC2 : Hid (CodeAt w cb co n f) := hC
  clear h hC
  have HE : Hid (S.fetchD D n f = ⟨i + 1, rd, rs1, rs2, imm, true⟩) := hd
  have HHA : Hid (S.halted = false) := hh
  have HEV : Hid ((⟨i + 1, rd, rs1, rs2, imm, true⟩ : Dec).val = .agg #[.int .i64 ((i : Int) + 1), .int .i64 rd, .int .i64 rs1, .int .i64 rs2, .int .i64 imm]) := Hid.in (by simp [Dec.val])
  clear hd hh
  have HX : Hid (S.whereI ((i : Int) + 1) rs1 imm = x) := hX
  have HN : Hid (szI ((i : Int) + 1) = m) := hN
  have HF : Hid (S.faultI ((i : Int) + 1) x = -1) := hF
  have HCL : Hid (clR ((i : Int) + 1) = c) := hCL
  subst hm
  have hn0 : szI ((i : Int) + 1) ≠ 0 := by rw [hN]; decide
  subst h4
  clear hX hN hF hCL
  go_enter Tryz.func29, Tryz.ntmps29
  go_wp2_with (first
    | (go_at_call 57; refine (fetch_any HD b S cb co n cp f _ (HH.out.alloc _) hp hc (HC2.out.below ((Below.refl _ _).alloc (Nat.le_refl _) _)) hn).mono ?_; rintro e w1 ⟨rfl, hb1⟩; rw [HE.out, HEV.out]; obtain ⟨k1, k2, k3, k4⟩ := keepB hb1; have R1 := Hid.in (HH.out.below k4); have ch1 : w1.cell? ⟨b, 36, none⟩ = some (.bool S.halted) := R1.out.cell 36 (by decide); have t1 := R1.out.here; rw [HHA.out] at ch1)
    | (go_at_call 58; refine (size_any _ _).mono ?_; rintro e w2 ⟨rfl, hb2⟩; rw [HN.out]; obtain ⟨a2, _, s2, o2⟩ := keepB hb2; have r2 := keptC k1 k3 o2; have g2 := keptF k2 k3 o2; have z2 := Nat.lt_of_lt_of_le k3 o2.size; have R2 := Hid.in (R1.out.below o2); have q2 := below2 k4 o2; have t2 := R2.out.here; clear hb2 o2)
    | (go_at_call 59; refine (where_any b S _ _ rs1 _ _ _ R2.out hrs).mono ?_; rintro e w3 ⟨rfl, hb3⟩; rw [HX.out]; have a3 := keptC a2 s2 hb3; have s3 := Nat.lt_of_lt_of_le s2 hb3.size; have r3 := keptC r2 z2 hb3; have g3 := keptF g2 z2 hb3; have z3 := Nat.lt_of_lt_of_le z2 hb3.size; have R3 := Hid.in (R2.out.below hb3); have q3 := below2 q2 hb3; have t3 := R3.out.here; clear hb3)
    | (go_at_call 60; refine (fault_any b S i _ _ R3.out hi hx hs hn0).mono ?_; rintro e w4 ⟨rfl, hb4⟩; rw [HF.out]; have a4 := keptC a3 s3 hb4; have s4 := Nat.lt_of_lt_of_le s3 hb4.size; have r4 := keptC r3 z3 hb4; have g4 := keptF g3 z3 hb4; have z4 := Nat.lt_of_lt_of_le z3 hb4.size; have R4 := Hid.in (R3.out.below hb4); have q4 := below2 q3 hb4; have t4 := R4.out.here; clear hb4))
  have y4 := RH.atReg R4.out rs2 hrs2
  rw [hy] at y4
  go_region
  go_wp2_with (first | (go_at_call 30; refine (clsR_any _ _).mono ?_; rintro e w5 ⟨rfl, hb5⟩; rw [HCL.out]; have a5 := keptC (W := w4.drew) a4 s4 hb5; have s5 := Nat.lt_of_lt_of_le s4 hb5.size; have r5 := keptC (W := w4.drew) r4 z4 hb5; have g5 := keptF (W := w4.drew) g4 z4 hb5; have z5 := Nat.lt_of_lt_of_le z4 hb5.size; have R5 := Hid.in (R4.out.drew.below hb5); have q5 := below2 q4.drew hb5; have t5 := R5.out.here; clear hb5))
  refine bodyPost_ret (v := .agg #[.int .i64 ((i : Int) + 1), .int .u32 x, .int .i64 4, .int .u32 (0)]) (by simp [results, Tryz.results29, go_sem, r5]) rfl ⟨rfl, ?_⟩
  exact (((q5.setCell (Nat.le_refl _) _).setCell (Nat.le_refl _) _).setCell (Nat.le_refl _) _).setCell (Nat.le_refl _) _
/-- a hart's numbers fit -/
structure HS.Ok (S : HS) : Prop where
  pc : U32 S.pc
  regs : ∀ i, i < 32 → U32 (S.regs i)
  size : 0 ≤ S.size ∧ S.size ≤ 4096
theorem whereI_u32 {S : HS} (h : S.Ok) (op imm : Int) (r : Nat) (hr : r < 32) : U32 (S.whereI op r imm) := by
  unfold HS.whereI
  split
  · exact h.regs r hr
  · exact ⟨by omega, by omega⟩
theorem fetch_good {D : Int → Dec} (HD : DecOk D) (S : HS) (n : Nat) (f : Nat → Int) (hf : ∀ i, i < n → U32 (f i)) (hp : U32 S.pc) (h : (S.fetchD D n f).ok = true) : 1 ≤ (S.fetchD D n f).op ∧ (S.fetchD D n f).op ≤ 67 ∧ (S.fetchD D n f).rd < 32 ∧ (S.fetchD D n f).rs1 < 32 ∧ (S.fetchD D n f).rs2 < 32 := by
  unfold HS.fetchD at h ⊢
  by_cases hk : S.pc / 4 < n
  · rw [if_pos hk] at h ⊢
    exact HD.good _ (hf _ (by have := hp.1; omega)) h
  · rw [if_neg hk] at h
    cases h
theorem ask_any {D : Int → Dec} (HD : DecOk D) (b : Nat) (S : HS) (cb co n cp : Nat) (f : Nat → Int) (w : World) (h : RH w b S) (hp : U32 S.pc) (hc : S.code = .slice (some ⟨cb, co, none⟩) n cp) (hC : CodeAt w cb co n f) (hn : n ≤ 4096) (hS : S.Ok) : Calls Tryz.prog 29 #[.pointer (some ⟨b, 0, none⟩)] w fun e w' => e = .returned (S.askQ (S.fetchD D n f)) ∧ Below w.heap.size w w' := by
  obtain ⟨d, hd⟩ : ∃ d, S.fetchD D n f = d := ⟨_, rfl⟩
  have hg := fetch_good HD S n f hC.word hp
  rw [hd] at hg ⊢
  unfold HS.askQ
  cases hok : d.ok
  · have e : S.asks d = false := by unfold HS.asks; rw [hok]; rfl
    rw [e, if_neg (by decide)]
    exact ask_none HD b S cb co n cp f w h hp hc hC hn d hd (Or.inl hok)
  cases hh : S.halted
  · obtain ⟨g1, g2, g3, g4, g5⟩ := hg hok
    obtain ⟨op, rd, rs1, rs2, imm, ok⟩ := d
    obtain ⟨i, rfl⟩ : ∃ i, op = i + 1 := ⟨op - 1, by simp only at g1; omega⟩
    simp only at hok g1 g2 g3 g4 g5
    subst hok
    have hi : i < 67 := by omega
    have e0 : ((i + 1 : Nat) : Int) = (i : Int) + 1 := by omega
    by_cases hz : szI ((i : Int) + 1) = 0
    · have e : S.asks ⟨i + 1, rd, rs1, rs2, imm, true⟩ = false := by unfold HS.asks; simp only [e0, hz]; simp
      rw [e, if_neg (by decide)]
      exact ask_small HD b S cb co n cp f w h hp hc hC hn i rd rs1 rs2 imm hd hi hh hz
    · by_cases hf : S.faultI ((i : Int) + 1) (S.whereI ((i : Int) + 1) rs1 imm) = -1
      · have e : S.asks ⟨i + 1, rd, rs1, rs2, imm, true⟩ = true := by unfold HS.asks; simp only [e0, hf, hh]; simpa using hz
        rw [e, if_pos rfl]
        unfold HS.askV
        simp only [e0]
        by_cases h4 : clR ((i : Int) + 1) = 4
        · rw [if_pos h4]
          rcases sz_124 i hi hz with q | q | q
          all_goals rw [q]
          · exact ask_ld1 HD b S cb co n cp f w h hp hc hC hn i rd rs1 rs2 imm hd hi hh g4 hS.size _ q _ rfl (whereI_u32 hS _ _ _ g4) g5 rfl hf _ h4 rfl _ rfl (hS.regs _ g5)
          · exact ask_ld2 HD b S cb co n cp f w h hp hc hC hn i rd rs1 rs2 imm hd hi hh g4 hS.size _ q _ rfl (whereI_u32 hS _ _ _ g4) g5 rfl hf _ h4 rfl _ rfl (hS.regs _ g5)
          · exact ask_ld4 HD b S cb co n cp f w h hp hc hC hn i rd rs1 rs2 imm hd hi hh g4 hS.size _ q _ rfl (whereI_u32 hS _ _ _ g4) g5 rfl hf _ h4 rfl _ rfl (hS.regs _ g5)
        · rw [if_neg h4]
          have h5 : (clR ((i : Int) + 1) == 4) = false := by simpa using h4
          rcases sz_124 i hi hz with q | q | q
          all_goals rw [q]
          · exact ask_1 HD b S cb co n cp f w h hp hc hC hn i rd rs1 rs2 imm hd hi hh g4 hS.size _ q _ rfl (whereI_u32 hS _ _ _ g4) g5 rfl hf _ rfl h5 _ rfl (hS.regs _ g5)
          · exact ask_2 HD b S cb co n cp f w h hp hc hC hn i rd rs1 rs2 imm hd hi hh g4 hS.size _ q _ rfl (whereI_u32 hS _ _ _ g4) g5 rfl hf _ rfl h5 _ rfl (hS.regs _ g5)
          · exact ask_4 HD b S cb co n cp f w h hp hc hC hn i rd rs1 rs2 imm hd hi hh g4 hS.size _ q _ rfl (whereI_u32 hS _ _ _ g4) g5 rfl hf _ rfl h5 _ rfl (hS.regs _ g5)
      · have e : S.asks ⟨i + 1, rd, rs1, rs2, imm, true⟩ = false := by unfold HS.asks; simp only [e0, hh]; simp; exact fun _ => hf
        rw [e, if_neg (by decide)]
        exact ask_bad HD b S cb co n cp f w h hp hc hC hn i rd rs1 rs2 imm hd hi hh g4 hS.size _ rfl _ rfl (whereI_u32 hS _ _ _ g4) hz _ rfl hf
  · have e : S.asks d = false := by unfold HS.asks; rw [hok, hh]; rfl
    rw [e, if_neg (by decide)]
    exact ask_none HD b S cb co n cp f w h hp hc hC hn d hd (Or.inr ⟨hok, hh⟩)
end Go.Proofs.YtnlagbiikpbjdaaGreatDoor
