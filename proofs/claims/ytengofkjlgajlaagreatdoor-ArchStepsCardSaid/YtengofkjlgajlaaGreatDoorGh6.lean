import Derived.Test.YtengofkjlgajlaaGreatDoorGh5
/-
  THE ANSWER's HART: what it asks of memory.
-/
namespace Go.Proofs.YtengofkjlgajlaaGreatDoor
open Go Go.RowKit
def zeroQ : Value := .agg #[.int .i64 0, .int .u32 0, .int .i64 0, .int .u32 0]
/-- what is handed over with a request -/
def HS.askV (S : HS) (d : Dec) : Int := if clR d.op = 4 then 0 else if szI d.op = 1 then S.regs d.rs2 % 256 else if szI d.op = 2 then S.regs d.rs2 % 65536 else S.regs d.rs2
/-- does it ask; what -/
def HS.asks (S : HS) (d : Dec) : Bool := d.ok && !S.halted && szI d.op != 0 && S.faultI d.op (S.whereI d.op d.rs1 d.imm) == -1
def HS.askQ (S : HS) (d : Dec) : Value := if S.asks d then .agg #[.int .i64 d.op, .int .u32 (S.whereI d.op d.rs1 d.imm), .int .i64 (szI d.op), .int .u32 (S.askV d)] else zeroQ
theorem keptC {W w3 : World} {b : Nat} {c : Array Value} (g : ∀ i, W.cell? ⟨b, i, none⟩ = c[i]?) (hz : b < W.heap.size) (hb : Below W.heap.size W w3) : ∀ i, w3.cell? ⟨b, i, none⟩ = c[i]? := fun i => (hb.cell (p := ⟨b, i, none⟩) hz).trans (g i)
theorem keptF {W w3 : World} {b : Nat} (g : ∀ i, W.frozen? ⟨b, i, none⟩ = false) (hz : b < W.heap.size) (hb : Below W.heap.size W w3) : ∀ i, w3.frozen? ⟨b, i, none⟩ = false := fun i => (hb.frozen (p := ⟨b, i, none⟩) hz).trans (g i)
set_option maxHeartbeats 2000000 in
theorem ask_none {D : Int → Dec} (HD : DecOk D) (b : Nat) (S : HS) (cb co n cp : Nat) (f : Nat → Int) (w : World) (h : RH w b S) (hp : U32 S.pc) (hc : S.code = .slice (some ⟨cb, co, none⟩) n cp) (hC : CodeAt w cb co n f) (hn : n ≤ 4096) (d : Dec) (hd : S.fetchD D n f = d) (hno : d.ok = false ∨ (d.ok = true ∧ S.halted = true)) : Calls Tryz.prog 21 #[.pointer (some ⟨b, 0, none⟩)] w fun e w' => e = .returned zeroQ ∧ Below w.heap.size w w' := by
  have h3 := h.here
  have HH : Hid (RH w b S) := h
  have HC2 : Hid (CodeAt w cb co n f) := hC
  clear h hC
  have HE : Hid (S.fetchD D n f = d) := hd
  clear hd
  rcases hno with h1 | ⟨h1, h2⟩
  all_goals
    go_enter Tryz.func21, Tryz.ntmps21
    go_wp2_with (first | (go_at_call 42; refine (fetch_any HD b S cb co n cp f _ (HH.out.alloc _) hp hc (HC2.out.below ((Below.refl _ _).alloc (Nat.le_refl _) _)) hn).mono ?_; rintro e w1 ⟨rfl, hb1⟩; rw [HE.out]; unfold Dec.val; obtain ⟨k1, k2, k3, k4⟩ := keepB hb1; have R1 := Hid.in (HH.out.below k4); have ch1 : w1.cell? ⟨b, 36, none⟩ = some (.bool S.halted) := R1.out.cell 36 (by decide); have t1 := R1.out.here))
    refine bodyPost_ret (v := zeroQ) (by simp [results, Tryz.results21, go_sem, k1, k3, zeroQ]) rfl ⟨rfl, ?_⟩
    exact ((((k4.setCell (Nat.le_refl _) _).setCell (Nat.le_refl _) _).setCell (Nat.le_refl _) _).setCell (Nat.le_refl _) _).alloc (by simp [World.setCell]; omega) _
set_option maxHeartbeats 2000000 in
theorem ask_small {D : Int → Dec} (HD : DecOk D) (b : Nat) (S : HS) (cb co n cp : Nat) (f : Nat → Int) (w : World) (h : RH w b S) (hp : U32 S.pc) (hc : S.code = .slice (some ⟨cb, co, none⟩) n cp) (hC : CodeAt w cb co n f) (hn : n ≤ 4096) (i rd rs1 rs2 : Nat) (imm : Int) (hd : S.fetchD D n f = ⟨i + 1, rd, rs1, rs2, imm, true⟩) (hi : i < 67) (hh : S.halted = false) (hn0 : szI ((i : Int) + 1) = 0) : Calls Tryz.prog 21 #[.pointer (some ⟨b, 0, none⟩)] w fun e w' => e = .returned zeroQ ∧ Below w.heap.size w w' := by
  have h3 := h.here
  have HH : Hid (RH w b S) := h
  have HC2 : Hid (CodeAt w cb co n f) := hC
  clear h hC
  have HE : Hid (S.fetchD D n f = ⟨i + 1, rd, rs1, rs2, imm, true⟩) := hd
  have HHA : Hid (S.halted = false) := hh
  have HEV : Hid ((⟨i + 1, rd, rs1, rs2, imm, true⟩ : Dec).val = .agg #[.int .i64 ((i : Int) + 1), .int .i64 rd, .int .i64 rs1, .int .i64 rs2, .int .i64 imm]) := Hid.in (by simp [Dec.val])
  clear hd hh
  have HN : Hid (szI ((i : Int) + 1) = 0) := hn0
  have hi2 : i < 67 := hi
  clear hn0 hi hi2
  go_enter Tryz.func21, Tryz.ntmps21
  go_wp2_with (first
    | (go_at_call 42; refine (fetch_any HD b S cb co n cp f _ (HH.out.alloc _) hp hc (HC2.out.below ((Below.refl _ _).alloc (Nat.le_refl _) _)) hn).mono ?_; rintro e w1 ⟨rfl, hb1⟩; rw [HE.out, HEV.out]; obtain ⟨k1, k2, k3, k4⟩ := keepB hb1; have R1 := Hid.in (HH.out.below k4); have ch1 : w1.cell? ⟨b, 36, none⟩ = some (.bool S.halted) := R1.out.cell 36 (by decide); have t1 := R1.out.here; rw [HHA.out] at ch1)
    | (go_at_call 43; refine (size_any _ _).mono ?_; rintro e w2 ⟨rfl, hb2⟩; rw [HN.out]; obtain ⟨a2, _, s2, o2⟩ := keepB hb2; have r2 := keptC k1 k3 o2; have g2 := keptF k2 k3 o2; have z2 := Nat.lt_of_lt_of_le k3 o2.size; have R2 := Hid.in (R1.out.below o2); have q2 := below2 k4 o2; have t2 := R2.out.here; clear hb2 o2))
  refine bodyPost_ret (v := zeroQ) (by simp [results, Tryz.results21, go_sem, r2, zeroQ]) rfl ⟨rfl, ?_⟩
  exact (((q2.setCell (Nat.le_refl _) _).setCell (Nat.le_refl _) _).setCell (Nat.le_refl _) _).setCell (Nat.le_refl _) _
set_option maxHeartbeats 2000000 in
theorem ask_bad {D : Int → Dec} (HD : DecOk D) (b : Nat) (S : HS) (cb co n cp : Nat) (f : Nat → Int) (w : World) (h : RH w b S) (hp : U32 S.pc) (hc : S.code = .slice (some ⟨cb, co, none⟩) n cp) (hC : CodeAt w cb co n f) (hn : n ≤ 4096) (i rd rs1 rs2 : Nat) (imm : Int) (hd : S.fetchD D n f = ⟨i + 1, rd, rs1, rs2, imm, true⟩) (hi : i < 67) (hh : S.halted = false) (hrs : rs1 < 32) (hs : 0 ≤ S.size ∧ S.size ≤ 4096) (m : Int) (hN : szI ((i : Int) + 1) = m) (x : Int) (hX : S.whereI ((i : Int) + 1) rs1 imm = x) (hx : U32 x) (hn0 : szI ((i : Int) + 1) ≠ 0) (u : Int) (hF : S.faultI ((i : Int) + 1) x = u) (hu : u ≠ -1) : Calls Tryz.prog 21 #[.pointer (some ⟨b, 0, none⟩)] w fun e w' => e = .returned zeroQ ∧ Below w.heap.size w w' := by
  have h3 := h.here
  have HH : Hid (RH w b S) := h
  have HC2 : Hid (CodeAt w cb co n f) := hC
  clear h hC
  have HE : Hid (S.fetchD D n f = ⟨i + 1, rd, rs1, rs2, imm, true⟩) := hd
  have HHA : Hid (S.halted = false) := hh
  have HEV : Hid ((⟨i + 1, rd, rs1, rs2, imm, true⟩ : Dec).val = .agg #[.int .i64 ((i : Int) + 1), .int .i64 rd, .int .i64 rs1, .int .i64 rs2, .int .i64 imm]) := Hid.in (by simp [Dec.val])
  clear hd hh
  have HX : Hid (S.whereI ((i : Int) + 1) rs1 imm = x) := hX
  have HN : Hid (szI ((i : Int) + 1) = m) := hN
  have HF : Hid (S.faultI ((i : Int) + 1) x = u) := hF
  have hm : (m == 0) = false := by rw [hN] at hn0; simp; exact hn0
  have hu1 : (u != -1) = true := by simp; exact hu
  clear hX hN hF hu
  go_enter Tryz.func21, Tryz.ntmps21
  go_wp2_with (first
    | (go_at_call 42; refine (fetch_any HD b S cb co n cp f _ (HH.out.alloc _) hp hc (HC2.out.below ((Below.refl _ _).alloc (Nat.le_refl _) _)) hn).mono ?_; rintro e w1 ⟨rfl, hb1⟩; rw [HE.out, HEV.out]; obtain ⟨k1, k2, k3, k4⟩ := keepB hb1; have R1 := Hid.in (HH.out.below k4); have ch1 : w1.cell? ⟨b, 36, none⟩ = some (.bool S.halted) := R1.out.cell 36 (by decide); have t1 := R1.out.here; rw [HHA.out] at ch1)
    | (go_at_call 43; refine (size_any _ _).mono ?_; rintro e w2 ⟨rfl, hb2⟩; rw [HN.out]; obtain ⟨a2, _, s2, o2⟩ := keepB hb2; have r2 := keptC k1 k3 o2; have g2 := keptF k2 k3 o2; have z2 := Nat.lt_of_lt_of_le k3 o2.size; have R2 := Hid.in (R1.out.below o2); have q2 := below2 k4 o2; have t2 := R2.out.here; clear hb2 o2)
    | (go_at_call 44; refine (where_any b S _ _ rs1 _ _ _ R2.out hrs).mono ?_; rintro e w3 ⟨rfl, hb3⟩; rw [HX.out]; have a3 := keptC a2 s2 hb3; have s3 := Nat.lt_of_lt_of_le s2 hb3.size; have r3 := keptC r2 z2 hb3; have g3 := keptF g2 z2 hb3; have z3 := Nat.lt_of_lt_of_le z2 hb3.size; have R3 := Hid.in (R2.out.below hb3); have q3 := below2 q2 hb3; have t3 := R3.out.here; clear hb3)
    | (go_at_call 45; refine (fault_any b S i _ _ R3.out hi hx hs hn0).mono ?_; rintro e w4 ⟨rfl, hb4⟩; rw [HF.out]; have a4 := keptC a3 s3 hb4; have s4 := Nat.lt_of_lt_of_le s3 hb4.size; have r4 := keptC r3 z3 hb4; have g4 := keptF g3 z3 hb4; have z4 := Nat.lt_of_lt_of_le z3 hb4.size; have R4 := Hid.in (R3.out.below hb4); have q4 := below2 q3 hb4; have t4 := R4.out.here; clear hb4))
  refine bodyPost_ret (v := zeroQ) (by simp [results, Tryz.results21, go_sem, r4, zeroQ]) rfl ⟨rfl, ?_⟩
  exact (((q4.setCell (Nat.le_refl _) _).setCell (Nat.le_refl _) _).setCell (Nat.le_refl _) _).setCell (Nat.le_refl _) _
set_option maxHeartbeats 4000000 in
theorem ask_1 {D : Int → Dec} (HD : DecOk D) (b : Nat) (S : HS) (cb co n cp : Nat) (f : Nat → Int) (w : World) (h : RH w b S) (hp : U32 S.pc) (hc : S.code = .slice (some ⟨cb, co, none⟩) n cp) (hC : CodeAt w cb co n f) (hn : n ≤ 4096) (i rd rs1 rs2 : Nat) (imm : Int) (hd : S.fetchD D n f = ⟨i + 1, rd, rs1, rs2, imm, true⟩) (hi : i < 67) (hh : S.halted = false) (hrs : rs1 < 32) (hs : 0 ≤ S.size ∧ S.size ≤ 4096) (m : Int) (hN : szI ((i : Int) + 1) = m) (x : Int) (hX : S.whereI ((i : Int) + 1) rs1 imm = x) (hx : U32 x) (hrs2 : rs2 < 32) (hm : m = 1) (hF : S.faultI ((i : Int) + 1) x = -1) (c : Int) (hCL : clR ((i : Int) + 1) = c) (h4 : (c == 4) = false) (y : Int) (hy : S.regs rs2 = y) (_hyu : U32 y) : Calls Tryz.prog 21 #[.pointer (some ⟨b, 0, none⟩)] w fun e w' => e = .returned (.agg #[.int .i64 ((i : Int) + 1), .int .u32 x, .int .i64 m, .int .u32 (y % 256)]) ∧ Below w.heap.size w w' := by
  have h3 := h.here
  have HH : Hid (RH w b S) := h
  have HC2 : Hid (CodeAt w cb co n f) := hC
  clear h hC
  have HE : Hid (S.fetchD D n f = ⟨i + 1, rd, rs1, rs2, imm, true⟩) := hd
  have HHA : Hid (S.halted = false) := hh
  have HEV : Hid ((⟨i + 1, rd, rs1, rs2, imm, true⟩ : Dec).val = .agg #[.int .i64 ((i : Int) + 1), .int .i64 rd, .int .i64 rs1, .int .i64 rs2, .int .i64 imm]) := Hid.in (by simp [Dec.val])
  clear hd hh
  have HX : Hid (S.whereI ((i : Int) + 1) rs1 imm = x) := hX
  have HN : Hid (szI ((i : Int) + 1) = m) := hN
  have HF : Hid (S.faultI ((i : Int) + 1) x = -1) := hF
  have HCL : Hid (clR ((i : Int) + 1) = c) := hCL
  subst hm
  have hn0 : szI ((i : Int) + 1) ≠ 0 := by rw [hN]; decide
  clear hX hN hF hCL
  go_enter Tryz.func21, Tryz.ntmps21
  go_wp2_with (first
    | (go_at_call 42; refine (fetch_any HD b S cb co n cp f _ (HH.out.alloc _) hp hc (HC2.out.below ((Below.refl _ _).alloc (Nat.le_refl _) _)) hn).mono ?_; rintro e w1 ⟨rfl, hb1⟩; rw [HE.out, HEV.out]; obtain ⟨k1, k2, k3, k4⟩ := keepB hb1; have R1 := Hid.in (HH.out.below k4); have ch1 : w1.cell? ⟨b, 36, none⟩ = some (.bool S.halted) := R1.out.cell 36 (by decide); have t1 := R1.out.here; rw [HHA.out] at ch1)
    | (go_at_call 43; refine (size_any _ _).mono ?_; rintro e w2 ⟨rfl, hb2⟩; rw [HN.out]; obtain ⟨a2, _, s2, o2⟩ := keepB hb2; have r2 := keptC k1 k3 o2; have g2 := keptF k2 k3 o2; have z2 := Nat.lt_of_lt_of_le k3 o2.size; have R2 := Hid.in (R1.out.below o2); have q2 := below2 k4 o2; have t2 := R2.out.here; clear hb2 o2)
    | (go_at_call 44; refine (where_any b S _ _ rs1 _ _ _ R2.out hrs).mono ?_; rintro e w3 ⟨rfl, hb3⟩; rw [HX.out]; have a3 := keptC a2 s2 hb3; have s3 := Nat.lt_of_lt_of_le s2 hb3.size; have r3 := keptC r2 z2 hb3; have g3 := keptF g2 z2 hb3; have z3 := Nat.lt_of_lt_of_le z2 hb3.size; have R3 := Hid.in (R2.out.below hb3); have q3 := below2 q2 hb3; have t3 := R3.out.here; clear hb3)
    | (go_at_call 45; refine (fault_any b S i _ _ R3.out hi hx hs hn0).mono ?_; rintro e w4 ⟨rfl, hb4⟩; rw [HF.out]; have a4 := keptC a3 s3 hb4; have s4 := Nat.lt_of_lt_of_le s3 hb4.size; have r4 := keptC r3 z3 hb4; have g4 := keptF g3 z3 hb4; have z4 := Nat.lt_of_lt_of_le z3 hb4.size; have R4 := Hid.in (R3.out.below hb4); have q4 := below2 q3 hb4; have t4 := R4.out.here; clear hb4))
  have y4 := RH.atReg R4.out rs2 hrs2
  rw [hy] at y4
  go_region
  go_wp2_with (first | (go_at_call 29; refine (clsR_any _ _).mono ?_; rintro e w5 ⟨rfl, hb5⟩; rw [HCL.out]; have a5 := keptC (W := w4.drew) a4 s4 hb5; have s5 := Nat.lt_of_lt_of_le s4 hb5.size; have r5 := keptC (W := w4.drew) r4 z4 hb5; have g5 := keptF (W := w4.drew) g4 z4 hb5; have z5 := Nat.lt_of_lt_of_le z4 hb5.size; have R5 := Hid.in (R4.out.drew.below hb5); have q5 := below2 q4.drew hb5; have t5 := R5.out.here; clear hb5))
  refine bodyPost_ret (v := .agg #[.int .i64 ((i : Int) + 1), .int .u32 x, .int .i64 1, .int .u32 (y % 256)]) (by simp [results, Tryz.results21, go_sem, r5]) rfl ⟨rfl, ?_⟩
  exact (((q5.setCell (Nat.le_refl _) _).setCell (Nat.le_refl _) _).setCell (Nat.le_refl _) _).setCell (Nat.le_refl _) _
set_option maxHeartbeats 4000000 in
theorem ask_ld1 {D : Int → Dec} (HD : DecOk D) (b : Nat) (S : HS) (cb co n cp : Nat) (f : Nat → Int) (w : World) (h : RH w b S) (hp : U32 S.pc) (hc : S.code = .slice (some ⟨cb, co, none⟩) n cp) (hC : CodeAt w cb co n f) (hn : n ≤ 4096) (i rd rs1 rs2 : Nat) (imm : Int) (hd : S.fetchD D n f = ⟨i + 1, rd, rs1, rs2, imm, true⟩) (hi : i < 67) (hh : S.halted = false) (hrs : rs1 < 32) (hs : 0 ≤ S.size ∧ S.size ≤ 4096) (m : Int) (hN : szI ((i : Int) + 1) = m) (x : Int) (hX : S.whereI ((i : Int) + 1) rs1 imm = x) (hx : U32 x) (hrs2 : rs2 < 32) (hm : m = 1) (hF : S.faultI ((i : Int) + 1) x = -1) (c : Int) (hCL : clR ((i : Int) + 1) = c) (h4 : c = 4) (y : Int) (hy : S.regs rs2 = y) (_hyu : U32 y) : Calls Tryz.prog 21 #[.pointer (some ⟨b, 0, none⟩)] w fun e w' => e = .returned (.agg #[.int .i64 ((i : Int) + 1), .int .u32 x, .int .i64 m, .int .u32 (0)]) ∧ Below w.heap.size w w' := by
  have h3 := h.here
  have HH : Hid (RH w b S) := h
  have HC2 : Hid (CodeAt w cb co n f) := hC
  clear h hC
  have HE : Hid (S.fetchD D n f = ⟨i + 1, rd, rs1, rs2, imm, true⟩) := hd
  have HHA : Hid (S.halted = false) := hh
  have HEV : Hid ((⟨i + 1, rd, rs1, rs2, imm, true⟩ : Dec).val = .agg #[.int .i64 ((i : Int) + 1), .int .i64 rd, .int .i64 rs1, .int .i64 rs2, .int .i64 imm]) := Hid.in (by simp [Dec.val])
  clear hd hh
  have HX : Hid (S.whereI ((i : Int) + 1) rs1 imm = x) := hX
  have HN : Hid (szI ((i : Int) + 1) = m) := hN
  have HF : Hid (S.faultI ((i : Int) + 1) x = -1) := hF
  have HCL : Hid (clR ((i : Int) + 1) = c) := hCL
  subst hm
  have hn0 : szI ((i : Int) + 1) ≠ 0 := by rw [hN]; decide
  subst h4
  clear hX hN hF hCL
  go_enter Tryz.func21, Tryz.ntmps21
  go_wp2_with (first
    | (go_at_call 42; refine (fetch_any HD b S cb co n cp f _ (HH.out.alloc _) hp hc (HC2.out.below ((Below.refl _ _).alloc (Nat.le_refl _) _)) hn).mono ?_; rintro e w1 ⟨rfl, hb1⟩; rw [HE.out, HEV.out]; obtain ⟨k1, k2, k3, k4⟩ := keepB hb1; have R1 := Hid.in (HH.out.below k4); have ch1 : w1.cell? ⟨b, 36, none⟩ = some (.bool S.halted) := R1.out.cell 36 (by decide); have t1 := R1.out.here; rw [HHA.out] at ch1)
    | (go_at_call 43; refine (size_any _ _).mono ?_; rintro e w2 ⟨rfl, hb2⟩; rw [HN.out]; obtain ⟨a2, _, s2, o2⟩ := keepB hb2; have r2 := keptC k1 k3 o2; have g2 := keptF k2 k3 o2; have z2 := Nat.lt_of_lt_of_le k3 o2.size; have R2 := Hid.in (R1.out.below o2); have q2 := below2 k4 o2; have t2 := R2.out.here; clear hb2 o2)
    | (go_at_call 44; refine (where_any b S _ _ rs1 _ _ _ R2.out hrs).mono ?_; rintro e w3 ⟨rfl, hb3⟩; rw [HX.out]; have a3 := keptC a2 s2 hb3; have s3 := Nat.lt_of_lt_of_le s2 hb3.size; have r3 := keptC r2 z2 hb3; have g3 := keptF g2 z2 hb3; have z3 := Nat.lt_of_lt_of_le z2 hb3.size; have R3 := Hid.in (R2.out.below hb3); have q3 := below2 q2 hb3; have t3 := R3.out.here; clear hb3)
    | (go_at_call 45; refine (fault_any b S i _ _ R3.out hi hx hs hn0).mono ?_; rintro e w4 ⟨rfl, hb4⟩; rw [HF.out]; have a4 := keptC a3 s3 hb4; have s4 := Nat.lt_of_lt_of_le s3 hb4.size; have r4 := keptC r3 z3 hb4; have g4 := keptF g3 z3 hb4; have z4 := Nat.lt_of_lt_of_le z3 hb4.size; have R4 := Hid.in (R3.out.below hb4); have q4 := below2 q3 hb4; have t4 := R4.out.here; clear hb4))
  have y4 := RH.atReg R4.out rs2 hrs2
  rw [hy] at y4
  go_region
  go_wp2_with (first | (go_at_call 29; refine (clsR_any _ _).mono ?_; rintro e w5 ⟨rfl, hb5⟩; rw [HCL.out]; have a5 := keptC (W := w4.drew) a4 s4 hb5; have s5 := Nat.lt_of_lt_of_le s4 hb5.size; have r5 := keptC (W := w4.drew) r4 z4 hb5; have g5 := keptF (W := w4.drew) g4 z4 hb5; have z5 := Nat.lt_of_lt_of_le z4 hb5.size; have R5 := Hid.in (R4.out.drew.below hb5); have q5 := below2 q4.drew hb5; have t5 := R5.out.here; clear hb5))
  refine bodyPost_ret (v := .agg #[.int .i64 ((i : Int) + 1), .int .u32 x, .int .i64 1, .int .u32 (0)]) (by simp [results, Tryz.results21, go_sem, r5]) rfl ⟨rfl, ?_⟩
  exact (((q5.setCell (Nat.le_refl _) _).setCell (Nat.le_refl _) _).setCell (Nat.le_refl _) _).setCell (Nat.le_refl _) _
set_option maxHeartbeats 4000000 in
theorem ask_2 {D : Int → Dec} (HD : DecOk D) (b : Nat) (S : HS) (cb co n cp : Nat) (f : Nat → Int) (w : World) (h : RH w b S) (hp : U32 S.pc) (hc : S.code = .slice (some ⟨cb, co, none⟩) n cp) (hC : CodeAt w cb co n f) (hn : n ≤ 4096) (i rd rs1 rs2 : Nat) (imm : Int) (hd : S.fetchD D n f = ⟨i + 1, rd, rs1, rs2, imm, true⟩) (hi : i < 67) (hh : S.halted = false) (hrs : rs1 < 32) (hs : 0 ≤ S.size ∧ S.size ≤ 4096) (m : Int) (hN : szI ((i : Int) + 1) = m) (x : Int) (hX : S.whereI ((i : Int) + 1) rs1 imm = x) (hx : U32 x) (hrs2 : rs2 < 32) (hm : m = 2) (hF : S.faultI ((i : Int) + 1) x = -1) (c : Int) (hCL : clR ((i : Int) + 1) = c) (h4 : (c == 4) = false) (y : Int) (hy : S.regs rs2 = y) (_hyu : U32 y) : Calls Tryz.prog 21 #[.pointer (some ⟨b, 0, none⟩)] w fun e w' => e = .returned (.agg #[.int .i64 ((i : Int) + 1), .int .u32 x, .int .i64 m, .int .u32 (y % 65536)]) ∧ Below w.heap.size w w' := by
  have h3 := h.here
  have HH : Hid (RH w b S) := h
  have HC2 : Hid (CodeAt w cb co n f) := hC
  clear h hC
  have HE : Hid (S.fetchD D n f = ⟨i + 1, rd, rs1, rs2, imm, true⟩) := hd
  have HHA : Hid (S.halted = false) := hh
  have HEV : Hid ((⟨i + 1, rd, rs1, rs2, imm, true⟩ : Dec).val = .agg #[.int .i64 ((i : Int) + 1), .int .i64 rd, .int .i64 rs1, .int .i64 rs2, .int .i64 imm]) := Hid.in (by simp [Dec.val])
  clear hd hh
  have HX : Hid (S.whereI ((i : Int) + 1) rs1 imm = x) := hX
  have HN : Hid (szI ((i : Int) + 1) = m) := hN
  have HF : Hid (S.faultI ((i : Int) + 1) x = -1) := hF
  have HCL : Hid (clR ((i : Int) + 1) = c) := hCL
  subst hm
  have hn0 : szI ((i : Int) + 1) ≠ 0 := by rw [hN]; decide
  clear hX hN hF hCL
  go_enter Tryz.func21, Tryz.ntmps21
  go_wp2_with (first
    | (go_at_call 42; refine (fetch_any HD b S cb co n cp f _ (HH.out.alloc _) hp hc (HC2.out.below ((Below.refl _ _).alloc (Nat.le_refl _) _)) hn).mono ?_; rintro e w1 ⟨rfl, hb1⟩; rw [HE.out, HEV.out]; obtain ⟨k1, k2, k3, k4⟩ := keepB hb1; have R1 := Hid.in (HH.out.below k4); have ch1 : w1.cell? ⟨b, 36, none⟩ = some (.bool S.halted) := R1.out.cell 36 (by decide); have t1 := R1.out.here; rw [HHA.out] at ch1)
    | (go_at_call 43; refine (size_any _ _).mono ?_; rintro e w2 ⟨rfl, hb2⟩; rw [HN.out]; obtain ⟨a2, _, s2, o2⟩ := keepB hb2; have r2 := keptC k1 k3 o2; have g2 := keptF k2 k3 o2; have z2 := Nat.lt_of_lt_of_le k3 o2.size; have R2 := Hid.in (R1.out.below o2); have q2 := below2 k4 o2; have t2 := R2.out.here; clear hb2 o2)
    | (go_at_call 44; refine (where_any b S _ _ rs1 _ _ _ R2.out hrs).mono ?_; rintro e w3 ⟨rfl, hb3⟩; rw [HX.out]; have a3 := keptC a2 s2 hb3; have s3 := Nat.lt_of_lt_of_le s2 hb3.size; have r3 := keptC r2 z2 hb3; have g3 := keptF g2 z2 hb3; have z3 := Nat.lt_of_lt_of_le z2 hb3.size; have R3 := Hid.in (R2.out.below hb3); have q3 := below2 q2 hb3; have t3 := R3.out.here; clear hb3)
    | (go_at_call 45; refine (fault_any b S i _ _ R3.out hi hx hs hn0).mono ?_; rintro e w4 ⟨rfl, hb4⟩; rw [HF.out]; have a4 := keptC a3 s3 hb4; have s4 := Nat.lt_of_lt_of_le s3 hb4.size; have r4 := keptC r3 z3 hb4; have g4 := keptF g3 z3 hb4; have z4 := Nat.lt_of_lt_of_le z3 hb4.size; have R4 := Hid.in (R3.out.below hb4); have q4 := below2 q3 hb4; have t4 := R4.out.here; clear hb4))
  have y4 := RH.atReg R4.out rs2 hrs2
  rw [hy] at y4
  go_region
  go_wp2_with (first | (go_at_call 29; refine (clsR_any _ _).mono ?_; rintro e w5 ⟨rfl, hb5⟩; rw [HCL.out]; have a5 := keptC (W := w4.drew) a4 s4 hb5; have s5 := Nat.lt_of_lt_of_le s4 hb5.size; have r5 := keptC (W := w4.drew) r4 z4 hb5; have g5 := keptF (W := w4.drew) g4 z4 hb5; have z5 := Nat.lt_of_lt_of_le z4 hb5.size; have R5 := Hid.in (R4.out.drew.below hb5); have q5 := below2 q4.drew hb5; have t5 := R5.out.here; clear hb5))
  refine bodyPost_ret (v := .agg #[.int .i64 ((i : Int) + 1), .int .u32 x, .int .i64 2, .int .u32 (y % 65536)]) (by simp [results, Tryz.results21, go_sem, r5]) rfl ⟨rfl, ?_⟩
  exact (((q5.setCell (Nat.le_refl _) _).setCell (Nat.le_refl _) _).setCell (Nat.le_refl _) _).setCell (Nat.le_refl _) _
set_option maxHeartbeats 4000000 in
theorem ask_ld2 {D : Int → Dec} (HD : DecOk D) (b : Nat) (S : HS) (cb co n cp : Nat) (f : Nat → Int) (w : World) (h : RH w b S) (hp : U32 S.pc) (hc : S.code = .slice (some ⟨cb, co, none⟩) n cp) (hC : CodeAt w cb co n f) (hn : n ≤ 4096) (i rd rs1 rs2 : Nat) (imm : Int) (hd : S.fetchD D n f = ⟨i + 1, rd, rs1, rs2, imm, true⟩) (hi : i < 67) (hh : S.halted = false) (hrs : rs1 < 32) (hs : 0 ≤ S.size ∧ S.size ≤ 4096) (m : Int) (hN : szI ((i : Int) + 1) = m) (x : Int) (hX : S.whereI ((i : Int) + 1) rs1 imm = x) (hx : U32 x) (hrs2 : rs2 < 32) (hm : m = 2) (hF : S.faultI ((i : Int) + 1) x = -1) (c : Int) (hCL : clR ((i : Int) + 1) = c) (h4 : c = 4) (y : Int) (hy : S.regs rs2 = y) (_hyu : U32 y) : Calls Tryz.prog 21 #[.pointer (some ⟨b, 0, none⟩)] w fun e w' => e = .returned (.agg #[.int .i64 ((i : Int) + 1), .int .u32 x, .int .i64 m, .int .u32 (0)]) ∧ Below w.heap.size w w' := by
  have h3 := h.here
  have HH : Hid (RH w b S) := h
  have HC2 : Hid (CodeAt w cb co n f) := hC
  clear h hC
  have HE : Hid (S.fetchD D n f = ⟨i + 1, rd, rs1, rs2, imm, true⟩) := hd
  have HHA : Hid (S.halted = false) := hh
  have HEV : Hid ((⟨i + 1, rd, rs1, rs2, imm, true⟩ : Dec).val = .agg #[.int .i64 ((i : Int) + 1), .int .i64 rd, .int .i64 rs1, .int .i64 rs2, .int .i64 imm]) := Hid.in (by simp [Dec.val])
  clear hd hh
  have HX : Hid (S.whereI ((i : Int) + 1) rs1 imm = x) := hX
  have HN : Hid (szI ((i : Int) + 1) = m) := hN
  have HF : Hid (S.faultI ((i : Int) + 1) x = -1) := hF
  have HCL : Hid (clR ((i : Int) + 1) = c) := hCL
  subst hm
  have hn0 : szI ((i : Int) + 1) ≠ 0 := by rw [hN]; decide
  subst h4
  clear hX hN hF hCL
  go_enter Tryz.func21, Tryz.ntmps21
  go_wp2_with (first
    | (go_at_call 42; refine (fetch_any HD b S cb co n cp f _ (HH.out.alloc _) hp hc (HC2.out.below ((Below.refl _ _).alloc (Nat.le_refl _) _)) hn).mono ?_; rintro e w1 ⟨rfl, hb1⟩; rw [HE.out, HEV.out]; obtain ⟨k1, k2, k3, k4⟩ := keepB hb1; have R1 := Hid.in (HH.out.below k4); have ch1 : w1.cell? ⟨b, 36, none⟩ = some (.bool S.halted) := R1.out.cell 36 (by decide); have t1 := R1.out.here; rw [HHA.out] at ch1)
    | (go_at_call 43; refine (size_any _ _).mono ?_; rintro e w2 ⟨rfl, hb2⟩; rw [HN.out]; obtain ⟨a2, _, s2, o2⟩ := keepB hb2; have r2 := keptC k1 k3 o2; have g2 := keptF k2 k3 o2; have z2 := Nat.lt_of_lt_of_le k3 o2.size; have R2 := Hid.in (R1.out.below o2); have q2 := below2 k4 o2; have t2 := R2.out.here; clear hb2 o2)
    | (go_at_call 44; refine (where_any b S _ _ rs1 _ _ _ R2.out hrs).mono ?_; rintro e w3 ⟨rfl, hb3⟩; rw [HX.out]; have a3 := keptC a2 s2 hb3; have s3 := Nat.lt_of_lt_of_le s2 hb3.size; have r3 := keptC r2 z2 hb3; have g3 := keptF g2 z2 hb3; have z3 := Nat.lt_of_lt_of_le z2 hb3.size; have R3 := Hid.in (R2.out.below hb3); have q3 := below2 q2 hb3; have t3 := R3.out.here; clear hb3)
    | (go_at_call 45; refine (fault_any b S i _ _ R3.out hi hx hs hn0).mono ?_; rintro e w4 ⟨rfl, hb4⟩; rw [HF.out]; have a4 := keptC a3 s3 hb4; have s4 := Nat.lt_of_lt_of_le s3 hb4.size; have r4 := keptC r3 z3 hb4; have g4 := keptF g3 z3 hb4; have z4 := Nat.lt_of_lt_of_le z3 hb4.size; have R4 := Hid.in (R3.out.below hb4); have q4 := below2 q3 hb4; have t4 := R4.out.here; clear hb4))
  have y4 := RH.atReg R4.out rs2 hrs2
  rw [hy] at y4
  go_region
  go_wp2_with (first | (go_at_call 29; refine (clsR_any _ _).mono ?_; rintro e w5 ⟨rfl, hb5⟩; rw [HCL.out]; have a5 := keptC (W := w4.drew) a4 s4 hb5; have s5 := Nat.lt_of_lt_of_le s4 hb5.size; have r5 := keptC (W := w4.drew) r4 z4 hb5; have g5 := keptF (W := w4.drew) g4 z4 hb5; have z5 := Nat.lt_of_lt_of_le z4 hb5.size; have R5 := Hid.in (R4.out.drew.below hb5); have q5 := below2 q4.drew hb5; have t5 := R5.out.here; clear hb5))
  refine bodyPost_ret (v := .agg #[.int .i64 ((i : Int) + 1), .int .u32 x, .int .i64 2, .int .u32 (0)]) (by simp [results, Tryz.results21, go_sem, r5]) rfl ⟨rfl, ?_⟩
  exact (((q5.setCell (Nat.le_refl _) _).setCell (Nat.le_refl _) _).setCell (Nat.le_refl _) _).setCell (Nat.le_refl _) _
set_option maxHeartbeats 4000000 in
theorem ask_4 {D : Int → Dec} (HD : DecOk D) (b : Nat) (S : HS) (cb co n cp : Nat) (f : Nat → Int) (w : World) (h : RH w b S) (hp : U32 S.pc) (hc : S.code = .slice (some ⟨cb, co, none⟩) n cp) (hC : CodeAt w cb co n f) (hn : n ≤ 4096) (i rd rs1 rs2 : Nat) (imm : Int) (hd : S.fetchD D n f = ⟨i + 1, rd, rs1, rs2, imm, true⟩) (hi : i < 67) (hh : S.halted = false) (hrs : rs1 < 32) (hs : 0 ≤ S.size ∧ S.size ≤ 4096) (m : Int) (hN : szI ((i : Int) + 1) = m) (x : Int) (hX : S.whereI ((i : Int) + 1) rs1 imm = x) (hx : U32 x) (hrs2 : rs2 < 32) (hm : m = 4) (hF : S.faultI ((i : Int) + 1) x = -1) (c : Int) (hCL : clR ((i : Int) + 1) = c) (h4 : (c == 4) = false) (y : Int) (hy : S.regs rs2 = y) (_hyu : U32 y) : Calls Tryz.prog 21 #[.pointer (some ⟨b, 0, none⟩)] w fun e w' => e = .returned (.agg #[.int .i64 ((i : Int) + 1), .int .u32 x, .int .i64 m, .int .u32 (y)]) ∧ Below w.heap.size w w' := by
  have h3 := h.here
  have HH : Hid (RH w b S) := h
  have HC2 : Hid (CodeAt w cb co n f) := hC
  clear h hC
  have HE : Hid (S.fetchD D n f = ⟨i + 1, rd, rs1, rs2, imm, true⟩) := hd
  have HHA : Hid (S.halted = false) := hh
  have HEV : Hid ((⟨i + 1, rd, rs1, rs2, imm, true⟩ : Dec).val = .agg #[.int .i64 ((i : Int) + 1), .int .i64 rd, .int .i64 rs1, .int .i64 rs2, .int .i64 imm]) := Hid.in (by simp [Dec.val])
  clear hd hh
  have HX : Hid (S.whereI ((i : Int) + 1) rs1 imm = x) := hX
  have HN : Hid (szI ((i : Int) + 1) = m) := hN
  have HF : Hid (S.faultI ((i : Int) + 1) x = -1) := hF
  have HCL : Hid (clR ((i : Int) + 1) = c) := hCL
  subst hm
  have hn0 : szI ((i : Int) + 1) ≠ 0 := by rw [hN]; decide
  clear hX hN hF hCL
  go_enter Tryz.func21, Tryz.ntmps21
  go_wp2_with (first
    | (go_at_call 42; refine (fetch_any HD b S cb co n cp f _ (HH.out.alloc _) hp hc (HC2.out.below ((Below.refl _ _).alloc (Nat.le_refl _) _)) hn).mono ?_; rintro e w1 ⟨rfl, hb1⟩; rw [HE.out, HEV.out]; obtain ⟨k1, k2, k3, k4⟩ := keepB hb1; have R1 := Hid.in (HH.out.below k4); have ch1 : w1.cell? ⟨b, 36, none⟩ = some (.bool S.halted) := R1.out.cell 36 (by decide); have t1 := R1.out.here; rw [HHA.out] at ch1)
    | (go_at_call 43; refine (size_any _ _).mono ?_; rintro e w2 ⟨rfl, hb2⟩; rw [HN.out]; obtain ⟨a2, _, s2, o2⟩ := keepB hb2; have r2 := keptC k1 k3 o2; have g2 := keptF k2 k3 o2; have z2 := Nat.lt_of_lt_of_le k3 o2.size; have R2 := Hid.in (R1.out.below o2); have q2 := below2 k4 o2; have t2 := R2.out.here; clear hb2 o2)
    | (go_at_call 44; refine (where_any b S _ _ rs1 _ _ _ R2.out hrs).mono ?_; rintro e w3 ⟨rfl, hb3⟩; rw [HX.out]; have a3 := keptC a2 s2 hb3; have s3 := Nat.lt_of_lt_of_le s2 hb3.size; have r3 := keptC r2 z2 hb3; have g3 := keptF g2 z2 hb3; have z3 := Nat.lt_of_lt_of_le z2 hb3.size; have R3 := Hid.in (R2.out.below hb3); have q3 := below2 q2 hb3; have t3 := R3.out.here; clear hb3)
    | (go_at_call 45; refine (fault_any b S i _ _ R3.out hi hx hs hn0).mono ?_; rintro e w4 ⟨rfl, hb4⟩; rw [HF.out]; have a4 := keptC a3 s3 hb4; have s4 := Nat.lt_of_lt_of_le s3 hb4.size; have r4 := keptC r3 z3 hb4; have g4 := keptF g3 z3 hb4; have z4 := Nat.lt_of_lt_of_le z3 hb4.size; have R4 := Hid.in (R3.out.below hb4); have q4 := below2 q3 hb4; have t4 := R4.out.here; clear hb4))
  have y4 := RH.atReg R4.out rs2 hrs2
  rw [hy] at y4
  go_region
  go_wp2_with (first | (go_at_call 29; refine (clsR_any _ _).mono ?_; rintro e w5 ⟨rfl, hb5⟩; rw [HCL.out]; have a5 := keptC (W := w4.drew) a4 s4 hb5; have s5 := Nat.lt_of_lt_of_le s4 hb5.size; have r5 := keptC (W := w4.drew) r4 z4 hb5; have g5 := keptF (W := w4.drew) g4 z4 hb5; have z5 := Nat.lt_of_lt_of_le z4 hb5.size; have R5 := Hid.in (R4.out.drew.below hb5); have q5 := below2 q4.drew hb5; have t5 := R5.out.here; clear hb5))
  refine bodyPost_ret (v := .agg #[.int .i64 ((i : Int) + 1), .int .u32 x, .int .i64 4, .int .u32 (y)]) (by simp [results, Tryz.results21, go_sem, r5]) rfl ⟨rfl, ?_⟩
  exact (((q5.setCell (Nat.le_refl _) _).setCell (Nat.le_refl _) _).setCell (Nat.le_refl _) _).setCell (Nat.le_refl _) _
set_option maxHeartbeats 4000000 in
theorem ask_ld4 {D : Int → Dec} (HD : DecOk D) (b : Nat) (S : HS) (cb co n cp : Nat) (f : Nat → Int) (w : World) (h : RH w b S) (hp : U32 S.pc) (hc : S.code = .slice (some ⟨cb, co, none⟩) n cp) (hC : CodeAt w cb co n f) (hn : n ≤ 4096) (i rd rs1 rs2 : Nat) (imm : Int) (hd : S.fetchD D n f = ⟨i + 1, rd, rs1, rs2, imm, true⟩) (hi : i < 67) (hh : S.halted = false) (hrs : rs1 < 32) (hs : 0 ≤ S.size ∧ S.size ≤ 4096) (m : Int) (hN : szI ((i : Int) + 1) = m) (x : Int) (hX : S.whereI ((i : Int) + 1) rs1 imm = x) (hx : U32 x) (hrs2 : rs2 < 32) (hm : m = 4) (hF : S.faultI ((i : Int) + 1) x = -1) (c : Int) (hCL : clR ((i : Int) + 1) = c) (h4 : c = 4) (y : Int) (hy : S.regs rs2 = y) (_hyu : U32 y) : Calls Tryz.prog 21 #[.pointer (some ⟨b, 0, none⟩)] w fun e w' => e = .returned (.agg #[.int .i64 ((i : Int) + 1), .int .u32 x, .int .i64 m, .int .u32 (0)]) ∧ Below w.heap.size w w' := by
  have h3 := h.here
  have HH : Hid (RH w b S) := h
  have HC2 : Hid (CodeAt w cb co n f) := hC
  clear h hC
  have HE : Hid (S.fetchD D n f = ⟨i + 1, rd, rs1, rs2, imm, true⟩) := hd
  have HHA : Hid (S.halted = false) := hh
  have HEV : Hid ((⟨i + 1, rd, rs1, rs2, imm, true⟩ : Dec).val = .agg #[.int .i64 ((i : Int) + 1), .int .i64 rd, .int .i64 rs1, .int .i64 rs2, .int .i64 imm]) := Hid.in (by simp [Dec.val])
  clear hd hh
  have HX : Hid (S.whereI ((i : Int) + 1) rs1 imm = x) := hX
  have HN : Hid (szI ((i : Int) + 1) = m) := hN
  have HF : Hid (S.faultI ((i : Int) + 1) x = -1) := hF
  have HCL : Hid (clR ((i : Int) + 1) = c) := hCL
  subst hm
  have hn0 : szI ((i : Int) + 1) ≠ 0 := by rw [hN]; decide
  subst h4
  clear hX hN hF hCL
  go_enter Tryz.func21, Tryz.ntmps21
  go_wp2_with (first
    | (go_at_call 42; refine (fetch_any HD b S cb co n cp f _ (HH.out.alloc _) hp hc (HC2.out.below ((Below.refl _ _).alloc (Nat.le_refl _) _)) hn).mono ?_; rintro e w1 ⟨rfl, hb1⟩; rw [HE.out, HEV.out]; obtain ⟨k1, k2, k3, k4⟩ := keepB hb1; have R1 := Hid.in (HH.out.below k4); have ch1 : w1.cell? ⟨b, 36, none⟩ = some (.bool S.halted) := R1.out.cell 36 (by decide); have t1 := R1.out.here; rw [HHA.out] at ch1)
    | (go_at_call 43; refine (size_any _ _).mono ?_; rintro e w2 ⟨rfl, hb2⟩; rw [HN.out]; obtain ⟨a2, _, s2, o2⟩ := keepB hb2; have r2 := keptC k1 k3 o2; have g2 := keptF k2 k3 o2; have z2 := Nat.lt_of_lt_of_le k3 o2.size; have R2 := Hid.in (R1.out.below o2); have q2 := below2 k4 o2; have t2 := R2.out.here; clear hb2 o2)
    | (go_at_call 44; refine (where_any b S _ _ rs1 _ _ _ R2.out hrs).mono ?_; rintro e w3 ⟨rfl, hb3⟩; rw [HX.out]; have a3 := keptC a2 s2 hb3; have s3 := Nat.lt_of_lt_of_le s2 hb3.size; have r3 := keptC r2 z2 hb3; have g3 := keptF g2 z2 hb3; have z3 := Nat.lt_of_lt_of_le z2 hb3.size; have R3 := Hid.in (R2.out.below hb3); have q3 := below2 q2 hb3; have t3 := R3.out.here; clear hb3)
    | (go_at_call 45; refine (fault_any b S i _ _ R3.out hi hx hs hn0).mono ?_; rintro e w4 ⟨rfl, hb4⟩; rw [HF.out]; have a4 := keptC a3 s3 hb4; have s4 := Nat.lt_of_lt_of_le s3 hb4.size; have r4 := keptC r3 z3 hb4; have g4 := keptF g3 z3 hb4; have z4 := Nat.lt_of_lt_of_le z3 hb4.size; have R4 := Hid.in (R3.out.below hb4); have q4 := below2 q3 hb4; have t4 := R4.out.here; clear hb4))
  have y4 := RH.atReg R4.out rs2 hrs2
  rw [hy] at y4
  go_region
  go_wp2_with (first | (go_at_call 29; refine (clsR_any _ _).mono ?_; rintro e w5 ⟨rfl, hb5⟩; rw [HCL.out]; have a5 := keptC (W := w4.drew) a4 s4 hb5; have s5 := Nat.lt_of_lt_of_le s4 hb5.size; have r5 := keptC (W := w4.drew) r4 z4 hb5; have g5 := keptF (W := w4.drew) g4 z4 hb5; have z5 := Nat.lt_of_lt_of_le z4 hb5.size; have R5 := Hid.in (R4.out.drew.below hb5); have q5 := below2 q4.drew hb5; have t5 := R5.out.here; clear hb5))
  refine bodyPost_ret (v := .agg #[.int .i64 ((i : Int) + 1), .int .u32 x, .int .i64 4, .int .u32 (0)]) (by simp [results, Tryz.results21, go_sem, r5]) rfl ⟨rfl, ?_⟩
  exact (((q5.setCell (Nat.le_refl _) _).setCell (Nat.le_refl _) _).setCell (Nat.le_refl _) _).setCell (Nat.le_refl _) _
/-- a hart's numbers fit -/
structure HS.Ok (S : HS) : Prop where
  pc : U32 S.pc
  regs : ∀ i, i < 32 → U32 (S.regs i)
  size : 0 ≤ S.size ∧ S.size ≤ 4096
theorem whereI_u32 {S : HS} (h : S.Ok) (op imm : Int) (r : Nat) (hr : r < 32) : U32 (S.whereI op r imm) := by
  unfold HS.whereI
  split
  · exact h.regs r hr
  · exact ⟨by omega, by omega⟩
theorem fetch_good {D : Int → Dec} (HD : DecOk D) (S : HS) (n : Nat) (f : Nat → Int) (hf : ∀ i, i < n → U32 (f i)) (hp : U32 S.pc) (h : (S.fetchD D n f).ok = true) : 1 ≤ (S.fetchD D n f).op ∧ (S.fetchD D n f).op ≤ 67 ∧ (S.fetchD D n f).rd < 32 ∧ (S.fetchD D n f).rs1 < 32 ∧ (S.fetchD D n f).rs2 < 32 := by
  unfold HS.fetchD at h ⊢
  by_cases hk : S.pc / 4 < n
  · rw [if_pos hk] at h ⊢
    exact HD.good _ (hf _ (by have := hp.1; omega)) h
  · rw [if_neg hk] at h
    cases h
theorem ask_any {D : Int → Dec} (HD : DecOk D) (b : Nat) (S : HS) (cb co n cp : Nat) (f : Nat → Int) (w : World) (h : RH w b S) (hp : U32 S.pc) (hc : S.code = .slice (some ⟨cb, co, none⟩) n cp) (hC : CodeAt w cb co n f) (hn : n ≤ 4096) (hS : S.Ok) : Calls Tryz.prog 21 #[.pointer (some ⟨b, 0, none⟩)] w fun e w' => e = .returned (S.askQ (S.fetchD D n f)) ∧ Below w.heap.size w w' := by
  obtain ⟨d, hd⟩ : ∃ d, S.fetchD D n f = d := ⟨_, rfl⟩
  have hg := fetch_good HD S n f hC.word hp
  rw [hd] at hg ⊢
  unfold HS.askQ
  cases hok : d.ok
  · have e : S.asks d = false := by unfold HS.asks; rw [hok]; rfl
    rw [e, if_neg (by decide)]
    exact ask_none HD b S cb co n cp f w h hp hc hC hn d hd (Or.inl hok)
  cases hh : S.halted
  · obtain ⟨g1, g2, g3, g4, g5⟩ := hg hok
    obtain ⟨op, rd, rs1, rs2, imm, ok⟩ := d
    obtain ⟨i, rfl⟩ : ∃ i, op = i + 1 := ⟨op - 1, by simp only at g1; omega⟩
    simp only at hok g1 g2 g3 g4 g5
    subst hok
    have hi : i < 67 := by omega
    have e0 : ((i + 1 : Nat) : Int) = (i : Int) + 1 := by omega
    by_cases hz : szI ((i : Int) + 1) = 0
    · have e : S.asks ⟨i + 1, rd, rs1, rs2, imm, true⟩ = false := by unfold HS.asks; simp only [e0, hz]; simp
      rw [e, if_neg (by decide)]
      exact ask_small HD b S cb co n cp f w h hp hc hC hn i rd rs1 rs2 imm hd hi hh hz
    · by_cases hf : S.faultI ((i : Int) + 1) (S.whereI ((i : Int) + 1) rs1 imm) = -1
      · have e : S.asks ⟨i + 1, rd, rs1, rs2, imm, true⟩ = true := by unfold HS.asks; simp only [e0, hf, hh]; simpa using hz
        rw [e, if_pos rfl]
        unfold HS.askV
        simp only [e0]
        by_cases h4 : clR ((i : Int) + 1) = 4
        · rw [if_pos h4]
          rcases sz_124 i hi hz with q | q | q
          all_goals rw [q]
          · exact ask_ld1 HD b S cb co n cp f w h hp hc hC hn i rd rs1 rs2 imm hd hi hh g4 hS.size _ q _ rfl (whereI_u32 hS _ _ _ g4) g5 rfl hf _ h4 rfl _ rfl (hS.regs _ g5)
          · exact ask_ld2 HD b S cb co n cp f w h hp hc hC hn i rd rs1 rs2 imm hd hi hh g4 hS.size _ q _ rfl (whereI_u32 hS _ _ _ g4) g5 rfl hf _ h4 rfl _ rfl (hS.regs _ g5)
          · exact ask_ld4 HD b S cb co n cp f w h hp hc hC hn i rd rs1 rs2 imm hd hi hh g4 hS.size _ q _ rfl (whereI_u32 hS _ _ _ g4) g5 rfl hf _ h4 rfl _ rfl (hS.regs _ g5)
        · rw [if_neg h4]
          have h5 : (clR ((i : Int) + 1) == 4) = false := by simpa using h4
          rcases sz_124 i hi hz with q | q | q
          all_goals rw [q]
          · exact ask_1 HD b S cb co n cp f w h hp hc hC hn i rd rs1 rs2 imm hd hi hh g4 hS.size _ q _ rfl (whereI_u32 hS _ _ _ g4) g5 rfl hf _ rfl h5 _ rfl (hS.regs _ g5)
          · exact ask_2 HD b S cb co n cp f w h hp hc hC hn i rd rs1 rs2 imm hd hi hh g4 hS.size _ q _ rfl (whereI_u32 hS _ _ _ g4) g5 rfl hf _ rfl h5 _ rfl (hS.regs _ g5)
          · exact ask_4 HD b S cb co n cp f w h hp hc hC hn i rd rs1 rs2 imm hd hi hh g4 hS.size _ q _ rfl (whereI_u32 hS _ _ _ g4) g5 rfl hf _ rfl h5 _ rfl (hS.regs _ g5)
      · have e : S.asks ⟨i + 1, rd, rs1, rs2, imm, true⟩ = false := by unfold HS.asks; simp only [e0, hh]; simp; exact fun _ => hf
        rw [e, if_neg (by decide)]
        exact ask_bad HD b S cb co n cp f w h hp hc hC hn i rd rs1 rs2 imm hd hi hh g4 hS.size _ rfl _ rfl (whereI_u32 hS _ _ _ g4) hz _ rfl hf
  · have e : S.asks d = false := by unfold HS.asks; rw [hok, hh]; rfl
    rw [e, if_neg (by decide)]
    exact ask_none HD b S cb co n cp f w h hp hc hC hn d hd (Or.inr ⟨hok, hh⟩)
end Go.Proofs.YtengofkjlgajlaaGreatDoor
/-
  THE ANSWER's HART: the class System, whole.
-/
namespace Go.Proofs.YtengofkjlgajlaaGreatDoor
open Go Go.RowKit
/-- how a control register is written (1: put, 2: set, 3: clear); with which number; is it -/
def sysM (op : Int) : Int := if op = 62 ∨ op = 65 then 1 else if op = 63 ∨ op = 66 then 2 else 3
def sysA (op : Int) (rs1 : Nat) (a : Int) : Int := if 65 ≤ op then (rs1 : Int) else a
def sysW (op : Int) (rs1 : Nat) : Bool := sysM op == 1 || rs1 != 0
/-- control registers: what is told, what is left -/
def HS.csrR (S : HS) (word op : Int) (rd rs1 : Nat) (imm a : Int) : Value :=
  if csrB imm = false ∨ (sysW op rs1 = true ∧ imm / 1024 = 3) then S.trapR word 2 word
  else if sysW op rs1 then (S.setCsr imm (csrNew (sysM op) (S.csrV imm) (sysA op rs1 a))).doneR word rd (S.csrV imm) ((S.pc + 4) % 4294967296)
  else S.doneR word rd (S.csrV imm) ((S.pc + 4) % 4294967296)
def HS.csrS (S : HS) (word op : Int) (rd rs1 : Nat) (imm a : Int) : HS :=
  if csrB imm = false ∨ (sysW op rs1 = true ∧ imm / 1024 = 3) then S.trapped 2 word
  else if sysW op rs1 then (S.setCsr imm (csrNew (sysM op) (S.csrV imm) (sysA op rs1 a))).done rd (rvI rd (S.csrV imm)) ((S.pc + 4) % 4294967296)
  else S.done rd (rvI rd (S.csrV imm)) ((S.pc + 4) % 4294967296)
/-- the class System: what is told, what is left -/
def HS.sysR (S : HS) (word op : Int) (rd rs1 : Nat) (imm a : Int) : Value :=
  if op = 58 then S.trapR word 11 0 else if op = 59 then S.trapR word 3 S.pc else if op = 60 then S.mretS.doneR word 0 0 S.epc
  else if op = 57 ∨ op = 61 then S.doneR word 0 0 ((S.pc + 4) % 4294967296) else S.csrR word op rd rs1 imm a
def HS.sysS (S : HS) (word op : Int) (rd rs1 : Nat) (imm a : Int) : HS :=
  if op = 58 then S.trapped 11 0 else if op = 59 then S.trapped 3 S.pc else if op = 60 then S.mretS.done 0 (rvI 0 0) S.epc
  else if op = 57 ∨ op = 61 then S.done 0 (rvI 0 0) ((S.pc + 4) % 4294967296) else S.csrS word op rd rs1 imm a
theorem csr_62 (b : Nat) (S : HS) (rd rs1 : Nat) (rs2 imm word a : Int) (w : World) (h : RH w b S) (hrd : rd < 32) (_hrs : rs1 < 32) (ha : U32 a) : Calls Tryz.prog 58 #[.pointer (some ⟨b, 0, none⟩), .agg #[.int .i64 62, .int .i64 rd, .int .i64 rs1, .int .i64 rs2, .int .i64 imm], .int .u32 word, .int .u32 a] w fun e w' => e = .returned (S.csrR word 62 rd rs1 imm a) ∧ RH w' b (S.csrS word 62 rd rs1 imm a) ∧ Only b w w' := by
  unfold HS.csrR HS.csrS
  by_cases ht0 : csrB imm = false
  · have hp : csrB imm = false ∨ (sysW 62 rs1 = true ∧ imm / 1024 = 3) := Or.inl ht0
    rw [if_pos hp, if_pos hp]
    exact sys_62_none b S rd rs1 rs2 imm word a w h ht0
  have ht : csrB imm = true := by simpa using ht0
  have hW : sysW 62 rs1 = true := by unfold sysW; rw [show sysM 62 = 1 from rfl]; rfl
  by_cases h10 : imm / 1024 = 3
  · have hp : csrB imm = false ∨ (sysW 62 rs1 = true ∧ imm / 1024 = 3) := Or.inr ⟨hW, h10⟩
    rw [if_pos hp, if_pos hp]
    exact sys_62_ro b S rd rs1 rs2 imm word a w h ht (by simpa using h10)
  · have hp : ¬ (csrB imm = false ∨ (sysW 62 rs1 = true ∧ imm / 1024 = 3)) := fun q => q.elim ht0 (fun r => h10 r.2)
    rw [if_neg hp, if_neg hp, if_pos hW, if_pos hW]
    exact sys_62_put b S rd rs1 rs2 imm word a w h hrd ha _ rfl ht (by simpa using h10)
theorem csr_63 (b : Nat) (S : HS) (rd rs1 : Nat) (rs2 imm word a : Int) (w : World) (h : RH w b S) (hrd : rd < 32) (_hrs : rs1 < 32) (_ha : U32 a) : Calls Tryz.prog 58 #[.pointer (some ⟨b, 0, none⟩), .agg #[.int .i64 63, .int .i64 rd, .int .i64 rs1, .int .i64 rs2, .int .i64 imm], .int .u32 word, .int .u32 a] w fun e w' => e = .returned (S.csrR word 63 rd rs1 imm a) ∧ RH w' b (S.csrS word 63 rd rs1 imm a) ∧ Only b w w' := by
  unfold HS.csrR HS.csrS
  by_cases ht0 : csrB imm = false
  · have hp : csrB imm = false ∨ (sysW 63 rs1 = true ∧ imm / 1024 = 3) := Or.inl ht0
    rw [if_pos hp, if_pos hp]
    exact sys_63_none b S rd rs1 rs2 imm word a w h ht0
  have ht : csrB imm = true := by simpa using ht0
  by_cases h0 : rs1 = 0
  · have hW : ¬ sysW 63 rs1 = true := by unfold sysW; rw [show sysM 63 = 2 from rfl, h0]; decide
    have hp : ¬ (csrB imm = false ∨ (sysW 63 rs1 = true ∧ imm / 1024 = 3)) := fun q => q.elim ht0 (fun r => hW r.1)
    rw [if_neg hp, if_neg hp, if_neg hW, if_neg hW]
    exact sys_63_keep b S rd rs1 rs2 imm word a w h hrd _ rfl ht (by simp [h0])
  have hW : sysW 63 rs1 = true := by unfold sysW; rw [show sysM 63 = 2 from rfl]; simp [h0]
  have hne : ((rs1 : Int) != 0) = true := by simp [h0]
  by_cases h10 : imm / 1024 = 3
  · have hp : csrB imm = false ∨ (sysW 63 rs1 = true ∧ imm / 1024 = 3) := Or.inr ⟨hW, h10⟩
    rw [if_pos hp, if_pos hp]
    exact sys_63_ro b S rd rs1 rs2 imm word a w h ht hne (by simpa using h10)
  · have hp : ¬ (csrB imm = false ∨ (sysW 63 rs1 = true ∧ imm / 1024 = 3)) := fun q => q.elim ht0 (fun r => h10 r.2)
    rw [if_neg hp, if_neg hp, if_pos hW, if_pos hW]
    exact sys_63_put b S rd rs1 rs2 imm word a w h hrd _ rfl ht hne (by simpa using h10)
theorem csr_64 (b : Nat) (S : HS) (rd rs1 : Nat) (rs2 imm word a : Int) (w : World) (h : RH w b S) (hrd : rd < 32) (_hrs : rs1 < 32) (_ha : U32 a) : Calls Tryz.prog 58 #[.pointer (some ⟨b, 0, none⟩), .agg #[.int .i64 64, .int .i64 rd, .int .i64 rs1, .int .i64 rs2, .int .i64 imm], .int .u32 word, .int .u32 a] w fun e w' => e = .returned (S.csrR word 64 rd rs1 imm a) ∧ RH w' b (S.csrS word 64 rd rs1 imm a) ∧ Only b w w' := by
  unfold HS.csrR HS.csrS
  by_cases ht0 : csrB imm = false
  · have hp : csrB imm = false ∨ (sysW 64 rs1 = true ∧ imm / 1024 = 3) := Or.inl ht0
    rw [if_pos hp, if_pos hp]
    exact sys_64_none b S rd rs1 rs2 imm word a w h ht0
  have ht : csrB imm = true := by simpa using ht0
  by_cases h0 : rs1 = 0
  · have hW : ¬ sysW 64 rs1 = true := by unfold sysW; rw [show sysM 64 = 3 from rfl, h0]; decide
    have hp : ¬ (csrB imm = false ∨ (sysW 64 rs1 = true ∧ imm / 1024 = 3)) := fun q => q.elim ht0 (fun r => hW r.1)
    rw [if_neg hp, if_neg hp, if_neg hW, if_neg hW]
    exact sys_64_keep b S rd rs1 rs2 imm word a w h hrd _ rfl ht (by simp [h0])
  have hW : sysW 64 rs1 = true := by unfold sysW; rw [show sysM 64 = 3 from rfl]; simp [h0]
  have hne : ((rs1 : Int) != 0) = true := by simp [h0]
  by_cases h10 : imm / 1024 = 3
  · have hp : csrB imm = false ∨ (sysW 64 rs1 = true ∧ imm / 1024 = 3) := Or.inr ⟨hW, h10⟩
    rw [if_pos hp, if_pos hp]
    exact sys_64_ro b S rd rs1 rs2 imm word a w h ht hne (by simpa using h10)
  · have hp : ¬ (csrB imm = false ∨ (sysW 64 rs1 = true ∧ imm / 1024 = 3)) := fun q => q.elim ht0 (fun r => h10 r.2)
    rw [if_neg hp, if_neg hp, if_pos hW, if_pos hW]
    exact sys_64_put b S rd rs1 rs2 imm word a w h hrd _ rfl ht hne (by simpa using h10)
theorem csr_65 (b : Nat) (S : HS) (rd rs1 : Nat) (rs2 imm word a : Int) (w : World) (h : RH w b S) (hrd : rd < 32) (hrs : rs1 < 32) (_ha : U32 a) : Calls Tryz.prog 58 #[.pointer (some ⟨b, 0, none⟩), .agg #[.int .i64 65, .int .i64 rd, .int .i64 rs1, .int .i64 rs2, .int .i64 imm], .int .u32 word, .int .u32 a] w fun e w' => e = .returned (S.csrR word 65 rd rs1 imm a) ∧ RH w' b (S.csrS word 65 rd rs1 imm a) ∧ Only b w w' := by
  unfold HS.csrR HS.csrS
  by_cases ht0 : csrB imm = false
  · have hp : csrB imm = false ∨ (sysW 65 rs1 = true ∧ imm / 1024 = 3) := Or.inl ht0
    rw [if_pos hp, if_pos hp]
    exact sys_65_none b S rd rs1 rs2 imm word a w h ht0
  have ht : csrB imm = true := by simpa using ht0
  have hW : sysW 65 rs1 = true := by unfold sysW; rw [show sysM 65 = 1 from rfl]; rfl
  by_cases h10 : imm / 1024 = 3
  · have hp : csrB imm = false ∨ (sysW 65 rs1 = true ∧ imm / 1024 = 3) := Or.inr ⟨hW, h10⟩
    rw [if_pos hp, if_pos hp]
    exact sys_65_ro b S rd rs1 rs2 imm word a w h ht (by simpa using h10)
  · have hp : ¬ (csrB imm = false ∨ (sysW 65 rs1 = true ∧ imm / 1024 = 3)) := fun q => q.elim ht0 (fun r => h10 r.2)
    rw [if_neg hp, if_neg hp, if_pos hW, if_pos hW]
    exact sys_65_put b S rd rs1 rs2 imm word a w h hrd hrs _ rfl ht (by simpa using h10)
theorem csr_66 (b : Nat) (S : HS) (rd rs1 : Nat) (rs2 imm word a : Int) (w : World) (h : RH w b S) (hrd : rd < 32) (hrs : rs1 < 32) (_ha : U32 a) : Calls Tryz.prog 58 #[.pointer (some ⟨b, 0, none⟩), .agg #[.int .i64 66, .int .i64 rd, .int .i64 rs1, .int .i64 rs2, .int .i64 imm], .int .u32 word, .int .u32 a] w fun e w' => e = .returned (S.csrR word 66 rd rs1 imm a) ∧ RH w' b (S.csrS word 66 rd rs1 imm a) ∧ Only b w w' := by
  unfold HS.csrR HS.csrS
  by_cases ht0 : csrB imm = false
  · have hp : csrB imm = false ∨ (sysW 66 rs1 = true ∧ imm / 1024 = 3) := Or.inl ht0
    rw [if_pos hp, if_pos hp]
    exact sys_66_none b S rd rs1 rs2 imm word a w h ht0
  have ht : csrB imm = true := by simpa using ht0
  by_cases h0 : rs1 = 0
  · have hW : ¬ sysW 66 rs1 = true := by unfold sysW; rw [show sysM 66 = 2 from rfl, h0]; decide
    have hp : ¬ (csrB imm = false ∨ (sysW 66 rs1 = true ∧ imm / 1024 = 3)) := fun q => q.elim ht0 (fun r => hW r.1)
    rw [if_neg hp, if_neg hp, if_neg hW, if_neg hW]
    exact sys_66_keep b S rd rs1 rs2 imm word a w h hrd _ rfl ht (by simp [h0])
  have hW : sysW 66 rs1 = true := by unfold sysW; rw [show sysM 66 = 2 from rfl]; simp [h0]
  have hne : ((rs1 : Int) != 0) = true := by simp [h0]
  by_cases h10 : imm / 1024 = 3
  · have hp : csrB imm = false ∨ (sysW 66 rs1 = true ∧ imm / 1024 = 3) := Or.inr ⟨hW, h10⟩
    rw [if_pos hp, if_pos hp]
    exact sys_66_ro b S rd rs1 rs2 imm word a w h ht hne (by simpa using h10)
  · have hp : ¬ (csrB imm = false ∨ (sysW 66 rs1 = true ∧ imm / 1024 = 3)) := fun q => q.elim ht0 (fun r => h10 r.2)
    rw [if_neg hp, if_neg hp, if_pos hW, if_pos hW]
    exact sys_66_put b S rd rs1 rs2 imm word a w h hrd hrs _ rfl ht hne (by simpa using h10)
theorem csr_67 (b : Nat) (S : HS) (rd rs1 : Nat) (rs2 imm word a : Int) (w : World) (h : RH w b S) (hrd : rd < 32) (hrs : rs1 < 32) (_ha : U32 a) : Calls Tryz.prog 58 #[.pointer (some ⟨b, 0, none⟩), .agg #[.int .i64 67, .int .i64 rd, .int .i64 rs1, .int .i64 rs2, .int .i64 imm], .int .u32 word, .int .u32 a] w fun e w' => e = .returned (S.csrR word 67 rd rs1 imm a) ∧ RH w' b (S.csrS word 67 rd rs1 imm a) ∧ Only b w w' := by
  unfold HS.csrR HS.csrS
  by_cases ht0 : csrB imm = false
  · have hp : csrB imm = false ∨ (sysW 67 rs1 = true ∧ imm / 1024 = 3) := Or.inl ht0
    rw [if_pos hp, if_pos hp]
    exact sys_67_none b S rd rs1 rs2 imm word a w h ht0
  have ht : csrB imm = true := by simpa using ht0
  by_cases h0 : rs1 = 0
  · have hW : ¬ sysW 67 rs1 = true := by unfold sysW; rw [show sysM 67 = 3 from rfl, h0]; decide
    have hp : ¬ (csrB imm = false ∨ (sysW 67 rs1 = true ∧ imm / 1024 = 3)) := fun q => q.elim ht0 (fun r => hW r.1)
    rw [if_neg hp, if_neg hp, if_neg hW, if_neg hW]
    exact sys_67_keep b S rd rs1 rs2 imm word a w h hrd _ rfl ht (by simp [h0])
  have hW : sysW 67 rs1 = true := by unfold sysW; rw [show sysM 67 = 3 from rfl]; simp [h0]
  have hne : ((rs1 : Int) != 0) = true := by simp [h0]
  by_cases h10 : imm / 1024 = 3
  · have hp : csrB imm = false ∨ (sysW 67 rs1 = true ∧ imm / 1024 = 3) := Or.inr ⟨hW, h10⟩
    rw [if_pos hp, if_pos hp]
    exact sys_67_ro b S rd rs1 rs2 imm word a w h ht hne (by simpa using h10)
  · have hp : ¬ (csrB imm = false ∨ (sysW 67 rs1 = true ∧ imm / 1024 = 3)) := fun q => q.elim ht0 (fun r => h10 r.2)
    rw [if_neg hp, if_neg hp, if_pos hW, if_pos hW]
    exact sys_67_put b S rd rs1 rs2 imm word a w h hrd hrs _ rfl ht hne (by simpa using h10)
theorem system_any (b : Nat) (S : HS) (op : Nat) (rd rs1 : Nat) (rs2 imm word a : Int) (w : World) (h : RH w b S) (h1 : 57 ≤ op) (h2 : op ≤ 67) (hrd : rd < 32) (hrs : rs1 < 32) (ha : U32 a) : Calls Tryz.prog 58 #[.pointer (some ⟨b, 0, none⟩), .agg #[.int .i64 op, .int .i64 rd, .int .i64 rs1, .int .i64 rs2, .int .i64 imm], .int .u32 word, .int .u32 a] w fun e w' => e = .returned (S.sysR word op rd rs1 imm a) ∧ RH w' b (S.sysS word op rd rs1 imm a) ∧ Only b w w' := by
  have hm : op = 57 ∨ op = 58 ∨ op = 59 ∨ op = 60 ∨ op = 61 ∨ op = 62 ∨ op = 63 ∨ op = 64 ∨ op = 65 ∨ op = 66 ∨ op = 67 := by omega
  rcases hm with rfl | rfl | rfl | rfl | rfl | rfl | rfl | rfl | rfl | rfl | rfl
  · exact sys_57 b S rd rs1 rs2 imm word a w h
  · exact sys_58 b S rd rs1 rs2 imm word a w h
  · exact sys_59 b S rd rs1 rs2 imm word a w h
  · exact sys_60 b S rd rs1 rs2 imm word a w h
  · exact sys_61 b S rd rs1 rs2 imm word a w h
  · exact csr_62 b S rd rs1 rs2 imm word a w h hrd hrs ha
  · exact csr_63 b S rd rs1 rs2 imm word a w h hrd hrs ha
  · exact csr_64 b S rd rs1 rs2 imm word a w h hrd hrs ha
  · exact csr_65 b S rd rs1 rs2 imm word a w h hrd hrs ha
  · exact csr_66 b S rd rs1 rs2 imm word a w h hrd hrs ha
  · exact csr_67 b S rd rs1 rs2 imm word a w h hrd hrs ha
end Go.Proofs.YtengofkjlgajlaaGreatDoor
/-
  THE ANSWER's HART: Do.
-/
namespace Go.Proofs.YtengofkjlgajlaaGreatDoor
open Go Go.RowKit
theorem undrew {x y : World} (h : Below x.drew.heap.size x.drew y) : Below x.heap.size x y := ⟨h.os, h.tape, h.output, h.size, h.block⟩
/-- Do of a halted hart -/
def HS.idleR (S : HS) : Value := .agg #[.int .u32 S.pc, .int .u32 0, .int .i64 0, .int .u32 0, .int .i64 (-1), .int .u32 0, .int .u32 S.pc]
set_option maxRecDepth 100000 in
set_option maxHeartbeats 4000000 in
theorem do_halted (b : Nat) (S : HS) (v : Int) (held : Bool) (w : World) (h : RH w b S) (hh : S.halted = true) : Calls Tryz.prog 25 #[.pointer (some ⟨b, 0, none⟩), .int .u32 v, .bool held] w fun e w' => e = .returned S.idleR ∧ RH w' b S ∧ Only b w w' := by
  have chalt : w.cell? ⟨b, 36, none⟩ = some (.bool true) := hh ▸ h.cell 36 (by decide)
  have cpc : w.cell? ⟨b, 3, none⟩ = some (.int .u32 S.pc) := h.cell 3 (by decide)
  have h3 := h.here
  have HH : Hid (RH w b S) := h
  clear h
  go_enter Tryz.func25, Tryz.ntmps25
  go_wp2
  go_region
  go_wp2
  exact bodyPost_ret (v := S.idleR) (by simp [results, Tryz.results25, go_sem, HS.idleR]) rfl ⟨rfl, (HH.out.alloc _).drew, ((Only.refl b w).alloc _).drew⟩
set_option maxRecDepth 100000 in
set_option maxHeartbeats 4000000 in
theorem do_nocode {D : Int → Dec} (HD : DecOk D) (b : Nat) (S : HS) (cb co n cp : Nat) (f : Nat → Int) (w : World) (h : RH w b S) (hp : U32 S.pc) (hc : S.code = .slice (some ⟨cb, co, none⟩) n cp) (hC : CodeAt w cb co n f) (hn : n ≤ 4096) (v : Int) (held : Bool) (hh : S.halted = false) (hk : ¬ S.pc / 4 < n) : Calls Tryz.prog 25 #[.pointer (some ⟨b, 0, none⟩), .int .u32 v, .bool held] w fun e w' => e = .returned (S.trapR 0 1 S.pc) ∧ RH w' b (S.trapped 1 S.pc) ∧ Only b w w' := by
  have chalt : w.cell? ⟨b, 36, none⟩ = some (.bool false) := hh ▸ h.cell 36 (by decide)
  have h3 := h.here
  have HH : Hid (RH w b S) := h
  have HC2 : Hid (CodeAt w cb co n f) := hC
  clear h hC
  have HCO : Hid (S.code = .slice (some ⟨cb, co, none⟩) n cp) := hc
  have HE : Hid (S.fetchD D n f = noDec) := if_neg hk
  have HW : Hid (S.fetchW n f = 0) := if_neg hk
  go_enter Tryz.func25, Tryz.ntmps25
  go_wp2_with (first | (go_at_call 42; refine (fetch_any HD b S cb co n cp f _ (HH.out.alloc _) hp hc (HC2.out.below ((Below.refl _ _).alloc (Nat.le_refl _) _)) hn).mono ?_; rintro e w1 ⟨rfl, hb1⟩; rw [HE.out, HW.out]; unfold Dec.val; obtain ⟨k1, k2, k3, k4⟩ := keepB hb1; have R1 := Hid.in (HH.out.below k4); have p1 : w1.cell? ⟨b, 3, none⟩ = some (.int .u32 S.pc) := R1.out.cell 3 (by decide); have c1 : w1.cell? ⟨b, 0, none⟩ = some (.slice (some ⟨cb, co, none⟩) n cp) := HCO.out ▸ R1.out.cell 0 (by decide); have t1 := R1.out.here))
  go_region
  go_wp2_with (first | (go_at_call 48; refine (trap_any b S _ _ _ _ (R1.out.alloc _).drew).mono ?_; rintro e w9 ⟨rfl, hR, hO⟩; have hO2 : Only b w1 w9 := Only.trans (((Only.refl b w1).alloc _).drew) hO; obtain ⟨z9, f9, s9⟩ := keepT hO2 k1 k2 k3 (by omega); unfold HS.trapR))
  refine bodyPost_ret (v := S.trapR 0 1 S.pc) (by simp [results, Tryz.results25, go_sem, z9, HS.trapR]) rfl ⟨rfl, ?_, ?_⟩
  · exact hR.far7 (by omega) _ _ _ _ _ _ _
  · exact ((Only.of_below k4).trans hO2).new7 (Nat.le_refl _) _ _ _ _ _ _ _
set_option maxRecDepth 100000 in
set_option maxHeartbeats 4000000 in
theorem do_illegal {D : Int → Dec} (HD : DecOk D) (b : Nat) (S : HS) (cb co n cp : Nat) (f : Nat → Int) (w : World) (h : RH w b S) (hp : U32 S.pc) (hc : S.code = .slice (some ⟨cb, co, none⟩) n cp) (hC : CodeAt w cb co n f) (hn : n ≤ 4096) (v : Int) (held : Bool) (hh : S.halted = false) (hk : S.pc / 4 < n) (d : Dec) (hd : S.fetchD D n f = d) (hok : d.ok = false) (word : Int) (hw : S.fetchW n f = word) : Calls Tryz.prog 25 #[.pointer (some ⟨b, 0, none⟩), .int .u32 v, .bool held] w fun e w' => e = .returned (S.trapR word 2 word) ∧ RH w' b (S.trapped 2 word) ∧ Only b w w' := by
  have chalt : w.cell? ⟨b, 36, none⟩ = some (.bool false) := hh ▸ h.cell 36 (by decide)
  have h3 := h.here
  have HH : Hid (RH w b S) := h
  have HC2 : Hid (CodeAt w cb co n f) := hC
  clear h hC
  have HCO : Hid (S.code = .slice (some ⟨cb, co, none⟩) n cp) := hc
  have HE : Hid (S.fetchD D n f = d) := hd
  have HW : Hid (S.fetchW n f = word) := hw
  clear hd hw
  go_enter Tryz.func25, Tryz.ntmps25
  go_wp2_with (first | (go_at_call 42; refine (fetch_any HD b S cb co n cp f _ (HH.out.alloc _) hp hc (HC2.out.below ((Below.refl _ _).alloc (Nat.le_refl _) _)) hn).mono ?_; rintro e w1 ⟨rfl, hb1⟩; rw [HE.out, HW.out]; unfold Dec.val; obtain ⟨k1, k2, k3, k4⟩ := keepB hb1; have R1 := Hid.in (HH.out.below k4); have p1 : w1.cell? ⟨b, 3, none⟩ = some (.int .u32 S.pc) := R1.out.cell 3 (by decide); have c1 : w1.cell? ⟨b, 0, none⟩ = some (.slice (some ⟨cb, co, none⟩) n cp) := HCO.out ▸ R1.out.cell 0 (by decide); have t1 := R1.out.here))
  go_region
  go_wp2_with (first | (go_at_call 48; refine (trap_any b S _ _ _ _ (R1.out.alloc _).drew).mono ?_; rintro e w9 ⟨rfl, hR, hO⟩; have hO2 : Only b w1 w9 := Only.trans (((Only.refl b w1).alloc _).drew) hO; obtain ⟨z9, f9, s9⟩ := keepT hO2 k1 k2 k3 (by omega); unfold HS.trapR))
  refine bodyPost_ret (v := S.trapR word 2 word) (by simp [results, Tryz.results25, go_sem, z9, HS.trapR]) rfl ⟨rfl, ?_, ?_⟩
  · exact hR.far7 (by omega) _ _ _ _ _ _ _
  · exact ((Only.of_below k4).trans hO2).new7 (Nat.le_refl _) _ _ _ _ _ _ _
set_option maxRecDepth 100000 in
set_option maxHeartbeats 4000000 in
theorem do_sys {D : Int → Dec} (HD : DecOk D) (b : Nat) (S : HS) (cb co n cp : Nat) (f : Nat → Int) (w : World) (h : RH w b S) (hp : U32 S.pc) (hc : S.code = .slice (some ⟨cb, co, none⟩) n cp) (hC : CodeAt w cb co n f) (hn : n ≤ 4096) (v : Int) (held : Bool) (hh : S.halted = false) (hk : S.pc / 4 < n) (i rd rs1 rs2 : Nat) (imm : Int) (hd : S.fetchD D n f = ⟨i + 1, rd, rs1, rs2, imm, true⟩) (word : Int) (hw : S.fetchW n f = word) (_hi : i < 67) (_hrd : rd < 32) (hrs : rs1 < 32) (hrs2 : rs2 < 32) (hS : S.Ok) (_hv : U32 v) (hc7 : clR ((i : Int) + 1) = 7) (h57 : 57 ≤ i + 1) (R : Value) (hR0 : S.sysR word (i + 1 : Nat) rd rs1 imm (S.regs rs1) = R) (x0 x1 x2 x3 x4 x5 x6 : Int) (hRx : R = .agg #[.int .u32 x0, .int .u32 x1, .int .i64 x2, .int .u32 x3, .int .i64 x4, .int .u32 x5, .int .u32 x6]) : Calls Tryz.prog 25 #[.pointer (some ⟨b, 0, none⟩), .int .u32 v, .bool held] w fun e w' => e = .returned (.agg #[.int .u32 x0, .int .u32 x1, .int .i64 x2, .int .u32 x3, .int .i64 x4, .int .u32 x5, .int .u32 x6]) ∧ RH w' b (S.sysS word (i + 1 : Nat) rd rs1 imm (S.regs rs1)) ∧ Only b w w' := by
  have chalt : w.cell? ⟨b, 36, none⟩ = some (.bool false) := hh ▸ h.cell 36 (by decide)
  have h3 := h.here
  have HH : Hid (RH w b S) := h
  have HC2 : Hid (CodeAt w cb co n f) := hC
  clear h hC
  have HCO : Hid (S.code = .slice (some ⟨cb, co, none⟩) n cp) := hc
  have HE : Hid (S.fetchD D n f = ⟨i + 1, rd, rs1, rs2, imm, true⟩) := hd
  have HW : Hid (S.fetchW n f = word) := hw
  have HEV : Hid ((⟨i + 1, rd, rs1, rs2, imm, true⟩ : Dec).val = .agg #[.int .i64 ((i : Int) + 1), .int .i64 rd, .int .i64 rs1, .int .i64 rs2, .int .i64 imm]) := Hid.in (by simp [Dec.val])
  have HS1 : Hid S.Ok := hS
  clear hd hw hS
  have HCL : Hid (clR ((i : Int) + 1) = 7) := hc7
  have HRR : Hid (S.sysR word (i + 1 : Nat) rd rs1 imm (S.regs rs1) = .agg #[.int .u32 x0, .int .u32 x1, .int .i64 x2, .int .u32 x3, .int .i64 x4, .int .u32 x5, .int .u32 x6]) := hR0.trans hRx
  have e0 : Hid (((i + 1 : Nat) : Int) = (i : Int) + 1) := Hid.in (by omega)
  subst hRx
  clear hc7 hR0
  go_enter Tryz.func25, Tryz.ntmps25
  go_wp2_with (first | (go_at_call 42; refine (fetch_any HD b S cb co n cp f _ (HH.out.alloc _) hp hc (HC2.out.below ((Below.refl _ _).alloc (Nat.le_refl _) _)) hn).mono ?_; rintro e w1 ⟨rfl, hb1⟩; rw [HE.out, HW.out, HEV.out]; obtain ⟨k1, k2, k3, k4⟩ := keepB hb1; have R1 := Hid.in (HH.out.below k4); have p1 : w1.cell? ⟨b, 3, none⟩ = some (.int .u32 S.pc) := R1.out.cell 3 (by decide); have c1 : w1.cell? ⟨b, 0, none⟩ = some (.slice (some ⟨cb, co, none⟩) n cp) := HCO.out ▸ R1.out.cell 0 (by decide); have t1 := R1.out.here; have y1 := RH.atReg R1.out rs1 hrs; have y2 := RH.atReg R1.out rs2 hrs2))
  go_region
  go_wp2
  go_region
  go_wp2
  go_region
  go_wp2_with (first
    | (go_at_call 29; refine (clsR_any _ _).mono ?_; rintro e w2 ⟨rfl, hb2⟩; rw [HCL.out]; obtain ⟨a2, _, s2, o2⟩ := keepB (undrew (undrew (undrew hb2))); have r2 := keptC k1 k3 o2; have g2 := keptF k2 k3 o2; have z2 := Nat.lt_of_lt_of_le k3 o2.size; have R2 := Hid.in (R1.out.below o2); have q2 := below2 k4 o2; have t2 := R2.out.here; have p2 : w2.cell? ⟨b, 3, none⟩ = some (.int .u32 S.pc) := R2.out.cell 3 (by decide); clear hb2 o2)
    | (go_at_call 58; rw [← e0.out]; refine (system_any b S (i + 1) rd rs1 _ _ _ _ _ R2.out h57 (by omega) _hrd hrs (HS1.out.regs _ hrs)).mono ?_; rintro e w9 ⟨rfl, hR, hO⟩; rw [HRR.out]; have hO2 : Only b w2 w9 := hO; obtain ⟨z9, f9, s9⟩ := keepT hO2 r2 g2 z2 (by omega)))
  refine bodyPost_ret (v := .agg #[.int .u32 x0, .int .u32 x1, .int .i64 x2, .int .u32 x3, .int .i64 x4, .int .u32 x5, .int .u32 x6]) (by simp [results, Tryz.results25, go_sem, z9]) rfl ⟨rfl, ?_, ?_⟩
  · exact hR.far7 (by omega) _ _ _ _ _ _ _
  · exact ((Only.of_below q2).trans hO2).new7 (Nat.le_refl _) _ _ _ _ _ _ _
set_option maxRecDepth 100000 in
set_option maxHeartbeats 4000000 in
theorem do_mem {D : Int → Dec} (HD : DecOk D) (b : Nat) (S : HS) (cb co n cp : Nat) (f : Nat → Int) (w : World) (h : RH w b S) (hp : U32 S.pc) (hc : S.code = .slice (some ⟨cb, co, none⟩) n cp) (hC : CodeAt w cb co n f) (hn : n ≤ 4096) (v : Int) (held : Bool) (hh : S.halted = false) (hk : S.pc / 4 < n) (i rd rs1 rs2 : Nat) (imm : Int) (hd : S.fetchD D n f = ⟨i + 1, rd, rs1, rs2, imm, true⟩) (word : Int) (hw : S.fetchW n f = word) (_hi : i < 67) (_hrd : rd < 32) (hrs : rs1 < 32) (hrs2 : rs2 < 32) (hS : S.Ok) (_hv : U32 v) (c : Int) (hc0 : clR ((i : Int) + 1) = c) (n0 : (c == 0) = false) (n1 : (c == 1) = false) (n2 : (c == 2) = false) (n3 : (c == 3) = false) (n7 : (c == 7) = false) (hz : szI ((i : Int) + 1) ≠ 0) (x0 x1 x2 x3 x4 x5 x6 : Int) (hRx : S.memR word ((i : Int) + 1) rd rs1 imm v held = .agg #[.int .u32 x0, .int .u32 x1, .int .i64 x2, .int .u32 x3, .int .i64 x4, .int .u32 x5, .int .u32 x6]) : Calls Tryz.prog 25 #[.pointer (some ⟨b, 0, none⟩), .int .u32 v, .bool held] w fun e w' => e = .returned (.agg #[.int .u32 x0, .int .u32 x1, .int .i64 x2, .int .u32 x3, .int .i64 x4, .int .u32 x5, .int .u32 x6]) ∧ RH w' b (S.memS ((i : Int) + 1) rd rs1 imm v held) ∧ Only b w w' := by
  have chalt : w.cell? ⟨b, 36, none⟩ = some (.bool false) := hh ▸ h.cell 36 (by decide)
  have h3 := h.here
  have HH : Hid (RH w b S) := h
  have HC2 : Hid (CodeAt w cb co n f) := hC
  clear h hC
  have HCO : Hid (S.code = .slice (some ⟨cb, co, none⟩) n cp) := hc
  have HE : Hid (S.fetchD D n f = ⟨i + 1, rd, rs1, rs2, imm, true⟩) := hd
  have HW : Hid (S.fetchW n f = word) := hw
  have HEV : Hid ((⟨i + 1, rd, rs1, rs2, imm, true⟩ : Dec).val = .agg #[.int .i64 ((i : Int) + 1), .int .i64 rd, .int .i64 rs1, .int .i64 rs2, .int .i64 imm]) := Hid.in (by simp [Dec.val])
  have HS1 : Hid S.Ok := hS
  clear hd hw hS
  have HCL : Hid (clR ((i : Int) + 1) = c) := hc0
  have HRR : Hid (S.memR word ((i : Int) + 1) rd rs1 imm v held = .agg #[.int .u32 x0, .int .u32 x1, .int .i64 x2, .int .u32 x3, .int .i64 x4, .int .u32 x5, .int .u32 x6]) := hRx
  clear hc0 hRx
  go_enter Tryz.func25, Tryz.ntmps25
  go_wp2_with (first | (go_at_call 42; refine (fetch_any HD b S cb co n cp f _ (HH.out.alloc _) hp hc (HC2.out.below ((Below.refl _ _).alloc (Nat.le_refl _) _)) hn).mono ?_; rintro e w1 ⟨rfl, hb1⟩; rw [HE.out, HW.out, HEV.out]; obtain ⟨k1, k2, k3, k4⟩ := keepB hb1; have R1 := Hid.in (HH.out.below k4); have p1 : w1.cell? ⟨b, 3, none⟩ = some (.int .u32 S.pc) := R1.out.cell 3 (by decide); have c1 : w1.cell? ⟨b, 0, none⟩ = some (.slice (some ⟨cb, co, none⟩) n cp) := HCO.out ▸ R1.out.cell 0 (by decide); have t1 := R1.out.here; have y1 := RH.atReg R1.out rs1 hrs; have y2 := RH.atReg R1.out rs2 hrs2))
  go_region
  go_wp2
  go_region
  go_wp2
  go_region
  go_wp2_with (first
    | (go_at_call 29; refine (clsR_any _ _).mono ?_; rintro e w2 ⟨rfl, hb2⟩; rw [HCL.out]; obtain ⟨a2, _, s2, o2⟩ := keepB (undrew (undrew (undrew hb2))); have r2 := keptC k1 k3 o2; have g2 := keptF k2 k3 o2; have z2 := Nat.lt_of_lt_of_le k3 o2.size; have R2 := Hid.in (R1.out.below o2); have q2 := below2 k4 o2; have t2 := R2.out.here; have p2 : w2.cell? ⟨b, 3, none⟩ = some (.int .u32 S.pc) := R2.out.cell 3 (by decide); clear hb2 o2)
    | (go_at_call 59; refine (memory_any b S i rd rs1 _ _ _ _ _ _ R2.out _hi hrs (whereI_u32 HS1.out _ _ _ hrs) HS1.out.size hz _hrd _hv).mono ?_; rintro e w9 ⟨rfl, hR, hO⟩; rw [HRR.out]; have hO2 : Only b w2 w9 := hO; obtain ⟨z9, f9, s9⟩ := keepT hO2 r2 g2 z2 (by omega)))
  refine bodyPost_ret (v := .agg #[.int .u32 x0, .int .u32 x1, .int .i64 x2, .int .u32 x3, .int .i64 x4, .int .u32 x5, .int .u32 x6]) (by simp [results, Tryz.results25, go_sem, z9]) rfl ⟨rfl, ?_, ?_⟩
  · exact hR.far7 (by omega) _ _ _ _ _ _ _
  · exact ((Only.of_below q2).trans hO2).new7 (Nat.le_refl _) _ _ _ _ _ _ _
end Go.Proofs.YtengofkjlgajlaaGreatDoor
