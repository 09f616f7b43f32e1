import Derived.Test.YtengofkjlgajlaaGreatDoorGx7
/-
  WHAT THE PROGRAM's HART DOES IS WHAT THE ANSWER's DOES: plain numbers.
-/
namespace Go.Proofs.YtengofkjlgajlaaGreatDoor
open Go Go.RowKit
theorem tab_alu : ((List.range 67).all fun i => !(classR (letAt i) (codeRAt i) (gRAt i) == 0 || classR (letAt i) (codeRAt i) (gRAt i) == 1) || (lyRd (fmtAt (i + 1)) && szN (i + 1) == 0 && (i + 1 != 3) && (i + 1 != 4) && (decide (i + 1 < 5) || decide (10 < i + 1)) && decide (i + 1 < 57) && (if letAt i = 85 then !rf (fmtAt (i + 1)) && !lyRs2 (fmtAt (i + 1)) else if letAt i = 73 ∨ letAt i = 72 then rf (fmtAt (i + 1)) && !lyRs2 (fmtAt (i + 1)) else rf (fmtAt (i + 1)) && lyRs2 (fmtAt (i + 1))))) = true := by kernel_rfl
theorem tab_branch : ((List.range 67).all fun i => !(classR (letAt i) (codeRAt i) (gRAt i) == 2) || (!lyRd (fmtAt (i + 1)) && szN (i + 1) == 0 && decide (5 ≤ i + 1) && decide (i + 1 ≤ 10))) = true := by kernel_rfl
theorem tab_mem : ((List.range 67).all fun i => (szN (i + 1) == 0) || ((lyRd (fmtAt (i + 1)) == !(classR (letAt i) (codeRAt i) (gRAt i) == 5)) && decide (11 ≤ i + 1) && decide (i + 1 < 57))) = true := by kernel_rfl
theorem tab_sys : ((List.range 67).all fun i => !(decide (56 ≤ i)) || (szN (i + 1) == 0 && (lyRd (fmtAt (i + 1)) == decide (61 ≤ i)) && (!decide (61 ≤ i) || (rf (fmtAt (i + 1)) == decide (i < 64))))) = true := by kernel_rfl
theorem opN_at (i : Nat) (hi : i < 67) : opN ((i : Int) + 1) = i + 1 := by
  unfold opN
  rw [if_neg (by omega)]
  omega
theorem clR_at (i : Nat) (hi : i < 67) : clR ((i : Int) + 1) = classR (letAt i) (codeRAt i) (gRAt i) := by
  unfold clR
  rw [if_pos (by omega), show ((i : Int) + 1 - 1).toNat = i by omega]
theorem szI_at (i : Nat) : szI ((i : Int) + 1) = szN (i + 1) := by
  unfold szI
  rw [if_pos (by omega)]
  rfl
theorem tk_not (op a b : Int) (h : op < 5 ∨ 10 < op) : tkI op a b = false := by
  unfold tkI
  split
  · unfold tkN
    split
    all_goals first | rfl | (exfalso; omega)
  · rfl
theorem alu_facts (i : Nat) (hi : i < 67) (hc : clR ((i : Int) + 1) = 0 ∨ clR ((i : Int) + 1) = 1) : wrB ((i : Int) + 1) = true ∧ szI ((i : Int) + 1) = 0 ∧ i + 1 < 57 ∧ (∀ S : HS, ∀ rs1 rs2 : Nat, S.goB ((i : Int) + 1) rs1 rs2 = false) ∧ (∀ S : HS, ∀ rs1 rs2 : Nat, ∀ imm : Int, exI ((i : Int) + 1) (S.oprA ((i : Int) + 1) rs1) (S.oprB ((i : Int) + 1) rs2 imm) = S.compI ((i : Int) + 1) imm (S.regs rs1) (S.regs rs2)) := by
  have h := List.all_eq_true.1 tab_alu i (List.mem_range.2 hi)
  rw [clR_at i hi] at hc
  have hq : (classR (letAt i) (codeRAt i) (gRAt i) == 0 || classR (letAt i) (codeRAt i) (gRAt i) == 1) = true := by rcases hc with q | q <;> rw [q] <;> rfl
  rw [hq] at h
  simp only [Bool.not_true, Bool.false_or, Bool.and_eq_true, beq_iff_eq, bne_iff_ne, decide_eq_true_eq, Bool.or_eq_true] at h
  obtain ⟨⟨⟨⟨⟨⟨h1, h2⟩, h3⟩, h4⟩, h5⟩, h6⟩, h7⟩ := h
  refine ⟨?_, ?_, h6, fun S rs1 rs2 => ?_, fun S rs1 rs2 imm => ?_⟩
  · unfold wrB
    rw [opN_at i hi]
    exact h1
  · rw [szI_at]
    exact h2
  · unfold HS.goB
    rw [tk_not _ _ _ (by omega)]
    have a : (((i : Int) + 1) == 4) = false := by simp; omega
    have b : (((i : Int) + 1) == 3) = false := by simp; omega
    rw [a, b]
    rfl
  · unfold HS.oprA HS.oprB HS.compI rd1 rd2
    rw [opN_at i hi, show ((i : Int) + 1 - 1).toNat = i by omega]
    by_cases l1 : letAt i = 85
    · rw [if_pos l1] at h7 ⊢
      simp only [Bool.and_eq_true, Bool.not_eq_true'] at h7
      rw [h7.1, h7.2]
      rfl
    · rw [if_neg l1] at h7 ⊢
      by_cases l2 : letAt i = 73 ∨ letAt i = 72
      · rw [if_pos l2] at h7 ⊢
        simp only [Bool.and_eq_true, Bool.not_eq_true'] at h7
        rw [h7.1, h7.2]
        rfl
      · rw [if_neg l2] at h7 ⊢
        simp only [Bool.and_eq_true] at h7
        rw [h7.1, h7.2]
        rfl
theorem hc_low (op : Int) (h : op < 62) : hcB op = false := by
  unfold hcB
  rw [decide_eq_false (by omega)]
  rfl
theorem wc_low (op : Int) (rs1 : Nat) (h : op < 62) : wcB op rs1 = false := by
  unfold wcB
  rw [hc_low op h]
  rfl
theorem fb_low (op : Int) (rs1 : Nat) (imm : Int) (h : op < 62) : fbB op rs1 imm = false ∧ fbB' op rs1 imm = false := by
  unfold fbB fbB'
  rw [hc_low op h, wc_low op rs1 h]
  exact ⟨rfl, rfl⟩
theorem ctl_low (S : HS) (op : Int) (rs1 : Nat) (imm : Int) (h : op < 60) : S.ctlS op rs1 imm = S := by
  unfold HS.ctlS
  rw [if_neg (by omega), wc_low op rs1 (by omega)]
  rfl
theorem pc4 (S : HS) (n : Nat) (hp : U32 S.pc) (hk : S.pc / 4 < n) (hn : n ≤ 4096) : (S.pc + 4) % 4294967296 = S.pc + 4 := by
  have := hp.1
  omega
theorem pfc_low (S : HS) (op : Int) (rs1 rs2 : Nat) (imm : Int) (h : op < 57) (hz : szI op = 0) (hg : S.goB op rs1 rs2 = false) : S.pfc op rs1 rs2 imm = -1 := by
  unfold HS.pfc
  rw [if_neg (by omega), if_neg (by omega), if_neg (by rw [hz]; simp), if_neg (by rw [hg]; simp)]
theorem next_low (S : HS) (op : Int) (rs1 rs2 : Nat) (imm : Int) (h : op < 60) (hg : S.goB op rs1 rs2 = false) : S.nextI op rs1 rs2 imm = (S.pc + 4) % 4294967296 := by
  unfold HS.nextI
  rw [if_neg (by omega), hg]
  rfl
end Go.Proofs.YtengofkjlgajlaaGreatDoor
/-
  THE PROGRAM's HART: Do, whole.
-/
namespace Go.Proofs.YtengofkjlgajlaaGreatDoor
open Go Go.RowKit
theorem look_ok {D : Int → Dec} (S : HS) (n : Nat) (f : Nat → Int) (d : Dec) (hd : S.fetchD D n f = d) (hok : d.ok = true) (hk : S.pc / 4 < n) (hf : fbB d.op d.rs1 d.imm = false) : S.lookC D n f = S.pfc d.op d.rs1 d.rs2 d.imm ∧ S.lookT D n f = S.pfv d.op d.rs1 d.rs2 d.imm := by
  unfold HS.lookC HS.lookT
  rw [if_pos hk, if_pos hk, hd, if_pos ⟨hok, hf⟩, if_pos ⟨hok, hf⟩]
  exact ⟨rfl, rfl⟩
theorem look_fb {D : Int → Dec} (S : HS) (n : Nat) (f : Nat → Int) (d : Dec) (hd : S.fetchD D n f = d) (hk : S.pc / 4 < n) (hf : ¬ (d.ok = true ∧ fbB d.op d.rs1 d.imm = false)) : S.lookC D n f = 2 ∧ S.lookT D n f = S.fetchW n f := by
  unfold HS.lookC HS.lookT
  rw [if_pos hk, if_pos hk, hd, if_neg hf, if_neg hf]
  exact ⟨rfl, rfl⟩
/-- an instruction that does not trap -/
theorem pdo_fine {D : Int → Dec} (HD : PDecOk D) (p : Nat) (S : HS) (cb co n cp : Nat) (v : Int) (held : Bool) (w : World) (h : PH w p (.slice (some ⟨cb, co, none⟩) n cp) S) (hh : S.halted = false) (hn : n ≤ 4096) (hL : Laid w) (f : Nat → Int) (hC : CodeAt w cb co n f) (hF : S.Fit) (d : Dec) (hd : S.fetchD D n f = d) (hok : d.ok = true) (hk : S.pc / 4 < n) (hf : fbB d.op d.rs1 d.imm = false) (hc : S.pfc d.op d.rs1 d.rs2 d.imm = -1) (hrd : d.rd < 32) (hr : d.rs1 < 32) (hs : d.rs2 < 32) (y : Int)
    (HRES : wrB d.op = true → ∀ W : World, PH W p (.slice (some ⟨cb, co, none⟩) n cp) S → Laid W → Calls Tryz.prog 51 #[.pointer (some ⟨p, 0, none⟩), .agg #[.int .i64 d.op, .int .i64 d.rd, .int .i64 d.rs1, .int .i64 d.rs2, .int .i64 d.imm], .int .u32 v, .bool held] W fun e w' => e = .returned (.int .u32 y) ∧ Below W.heap.size W w') :
    Calls Tryz.prog 24 #[.pointer (some ⟨p, 0, none⟩), .int .u32 v, .bool held] w fun e w' => e = .returned (S.doneR (S.fetchW n f) (if wrB d.op then d.rd else 0) y (S.nextI d.op d.rs1 d.rs2 d.imm)) ∧ PH w' p (.slice (some ⟨cb, co, none⟩) n cp) ((S.ctlS d.op d.rs1 d.imm).done (if wrB d.op then d.rd else 0) (rvI (if wrB d.op then d.rd else 0) y) (S.nextI d.op d.rs1 d.rs2 d.imm)) ∧ Only p w w' := by
  obtain ⟨e1, _⟩ := look_ok S n f d hd hok hk hf
  have hc' : S.lookC D n f = -1 := e1.trans hc
  have nc : ((-1 : Int) != -1) = false := by decide
  unfold HS.doneR
  cases hwr : wrB d.op
  · rw [if_neg (by simp)]
    exact pdo_n0 p S cb co n cp v held w h hh HD hn hF.ok.pc hL f hC hF.ok d _ _ _ hd rfl hc' rfl nc hr hs _ rfl hf _ rfl hwr
  · rw [if_pos rfl]
    by_cases h0 : d.rd = 0
    · rw [h0]
      exact pdo_n1 p S cb co n cp v held w h hh HD hn hF.ok.pc hL f hC hF.ok d _ _ _ hd rfl hc' rfl nc hr hs _ rfl hf _ rfl hwr (by rw [h0]; rfl)
    · have e : rvI d.rd y = y := if_neg h0
      rw [e]
      exact pdo_w p S cb co n cp v held w h hh HD hn hF.ok.pc hL f hC hF.ok d _ _ _ hd rfl hc' rfl nc hr hs _ rfl hf _ rfl hwr (by simp; exact h0) hrd y (HRES hwr)
/-- an instruction that traps -/
theorem pdo_traps {D : Int → Dec} (HD : PDecOk D) (p : Nat) (S : HS) (cb co n cp : Nat) (v : Int) (held : Bool) (w : World) (h : PH w p (.slice (some ⟨cb, co, none⟩) n cp) S) (hh : S.halted = false) (hn : n ≤ 4096) (hL : Laid w) (f : Nat → Int) (hC : CodeAt w cb co n f) (hF : S.Fit) (d : Dec) (hd : S.fetchD D n f = d) (hok : d.ok = true) (hk : S.pc / 4 < n) (hf : fbB d.op d.rs1 d.imm = false) (c t : Int) (hc : S.pfc d.op d.rs1 d.rs2 d.imm = c) (ht : S.pfv d.op d.rs1 d.rs2 d.imm = t) (hn1 : c ≠ -1) : Calls Tryz.prog 24 #[.pointer (some ⟨p, 0, none⟩), .int .u32 v, .bool held] w fun e w' => e = .returned (S.trapR (S.fetchW n f) c t) ∧ PH w' p (.slice (some ⟨cb, co, none⟩) n cp) (S.trapped c t) ∧ Only p w w' := by
  obtain ⟨e1, e2⟩ := look_ok S n f d hd hok hk hf
  exact pdo_trap p S cb co n cp v held w h hh HD hn hF.ok.pc hL f hC hF.ok d _ _ _ hd rfl (e1.trans hc) (e2.trans ht) (by simp; exact hn1)
theorem mod16 (x s : Int) (n : Int) (hn : n = 1 ∨ n = 2 ∨ n = 4) (hx : U32 x) (hs : 0 ≤ s ∧ s ≤ 4096) (h16 : s % 16 = 0) (hm : x % n = 0) : decide ((x - 65536) % 4294967296 < s) = (decide (65536 ≤ x) && decide (x + n ≤ 65536 + s)) := by
  have h1 := hx.1
  have h2 := hx.2
  rw [Bool.eq_iff_iff]
  simp only [decide_eq_true_eq, Bool.and_eq_true]
  rcases hn with rfl | rfl | rfl <;> omega
theorem mod4 (x : Int) (n : Int) (hn : n = 1 ∨ n = 2 ∨ n = 4) (hx : U32 x) (hm : x % n = 0) : decide ((x - 131072) % 4294967296 < 4) = (decide (131072 ≤ x) && decide (x + n ≤ 131076)) := by
  have h1 := hx.1
  have h2 := hx.2
  rw [Bool.eq_iff_iff]
  simp only [decide_eq_true_eq, Bool.and_eq_true]
  rcases hn with rfl | rfl | rfl <;> omega
theorem pfa_eq (S : HS) (op x : Int) (hz : szI op ≠ 0) (hx : U32 x) (hs : 0 ≤ S.size ∧ S.size ≤ 4096) (h16 : S.size % 16 = 0) : S.pfa op x = S.faultI op x := by
  have hn : szI op = 1 ∨ szI op = 2 ∨ szI op = 4 := by rcases sz_cases op with q | q | q | q <;> simp_all
  unfold HS.pfa HS.faultI faultN
  cases hb : (x % szI op != 0)
  · have hm : x % szI op = 0 := by simpa using hb
    have e1 := mod16 x S.size _ hn hx hs h16 hm
    have e2 := mod4 x _ hn hx hm
    have e3 : S.hasB op x = (S.inB x (szI op) || devB op x (szI op)) := by
      unfold HS.hasB HS.inB devB
      rw [e1, e2]
      cases (clR op == 5) <;> simp
    rw [e3]
  · rfl
end Go.Proofs.YtengofkjlgajlaaGreatDoor
/-
  THE PROGRAM's HART: Do, class by class.
-/
namespace Go.Proofs.YtengofkjlgajlaaGreatDoor
open Go Go.RowKit
theorem pdo_alu {D : Int → Dec} (HD : PDecOk D) (p : Nat) (S : HS) (cb co n cp : Nat) (v : Int) (held : Bool) (w : World) (h : PH w p (.slice (some ⟨cb, co, none⟩) n cp) S) (hh : S.halted = false) (hn : n ≤ 4096) (hL : Laid w) (f : Nat → Int) (hC : CodeAt w cb co n f) (hF : S.Fit) (i rd rs1 rs2 : Nat) (imm : Int) (hi : i < 67) (hd : S.fetchD D n f = ⟨i + 1, rd, rs1, rs2, imm, true⟩) (hk : S.pc / 4 < n) (hrd : rd < 32) (hr : rs1 < 32) (hs : rs2 < 32) (hc : clR ((i : Int) + 1) = 0 ∨ clR ((i : Int) + 1) = 1) : Calls Tryz.prog 24 #[.pointer (some ⟨p, 0, none⟩), .int .u32 v, .bool held] w fun e w' => e = .returned (S.instrR ⟨i + 1, rd, rs1, rs2, imm, true⟩ (S.fetchW n f) v held) ∧ PH w' p (.slice (some ⟨cb, co, none⟩) n cp) (S.instrS ⟨i + 1, rd, rs1, rs2, imm, true⟩ (S.fetchW n f) v held) ∧ Only p w w' := by
  have e0 : (((i + 1 : Nat) : Nat) : Int) = (i : Int) + 1 := by omega
  obtain ⟨w1, z1, l1, g1, x1⟩ := alu_facts i hi hc
  have hr1 : S.instrR ⟨i + 1, rd, rs1, rs2, imm, true⟩ (S.fetchW n f) v held = S.doneR (S.fetchW n f) rd (S.compI ((i : Int) + 1) imm (S.regs rs1) (S.regs rs2)) (S.pc + 4) := by
    unfold HS.instrR
    simp only [e0]
    rw [if_pos hc]
  have hr2 : S.instrS ⟨i + 1, rd, rs1, rs2, imm, true⟩ (S.fetchW n f) v held = S.done rd (rvI rd (S.compI ((i : Int) + 1) imm (S.regs rs1) (S.regs rs2))) (S.pc + 4) := by
    unfold HS.instrS
    simp only [e0]
    rw [if_pos hc]
  rw [hr1, hr2]
  have hA : U32 (S.oprA ((i : Int) + 1) rs1) := by
    unfold HS.oprA
    split
    · exact hF.ok.regs _ hr
    · exact hF.ok.pc
  have hB : U32 (S.oprB ((i : Int) + 1) rs2 imm) := by
    unfold HS.oprB
    split
    · exact hF.ok.regs _ hs
    · exact u32_mod _
  have q := pdo_fine HD p S cb co n cp v held w h hh hn hL f hC hF ⟨i + 1, rd, rs1, rs2, imm, true⟩ hd rfl hk (by simp only [e0]; exact (fb_low _ _ _ (by omega)).1) (by simp only [e0]; exact pfc_low S _ _ _ _ (by omega) z1 (g1 S _ _)) hrd hr hs (S.compI ((i : Int) + 1) imm (S.regs rs1) (S.regs rs2)) (by
    intro _ W hW hLW
    simp only [e0]
    rw [← x1 S rs1 rs2 imm]
    rcases hc with c | c
    · exact result_c0 p _ S _ _ rs1 rs2 imm v held W hW hLW c hr hs hA hB
    · exact result_c1 p _ S _ _ rs1 rs2 imm v held W hW hLW c hr hs hA hB)
  simp only [e0] at q
  rw [w1, if_pos rfl, ctl_low S _ _ _ (by omega), next_low S _ _ _ _ (by omega) (g1 S _ _), pc4 S n hF.ok.pc hk hn] at q
  exact q
theorem pf_go (S : HS) (op : Int) (rs1 rs2 : Nat) (imm : Int) (h57 : op < 57) (hz : szI op = 0) (hg : S.goB op rs1 rs2 = true) : S.pfc op rs1 rs2 imm = (if S.toI op rs1 rs2 imm % 4 = 0 then -1 else 0) ∧ S.pfv op rs1 rs2 imm = (if S.toI op rs1 rs2 imm % 4 = 0 then 0 else S.toI op rs1 rs2 imm) := by
  have a : ¬ op = 59 := by omega
  have b : ¬ op = 58 := by omega
  have c : ¬ szI op ≠ 0 := by rw [hz]; simp
  unfold HS.pfc HS.pfv
  rw [if_neg a, if_neg a, if_neg b, if_neg b, if_neg c, if_neg c, hg]
  by_cases h4 : S.toI op rs1 rs2 imm % 4 = 0
  · rw [if_pos h4, if_pos h4, if_neg (by simp; exact h4), if_neg (by simp; exact h4)]
    exact ⟨rfl, rfl⟩
  · rw [if_neg h4, if_neg h4, if_pos (by simp; exact h4), if_pos (by simp; exact h4)]
    exact ⟨rfl, rfl⟩
theorem branch_facts (i : Nat) (hi : i < 67) (hc : clR ((i : Int) + 1) = 2) : wrB ((i : Int) + 1) = false ∧ szI ((i : Int) + 1) = 0 ∧ 5 ≤ i + 1 ∧ i + 1 ≤ 10 := by
  have h := List.all_eq_true.1 tab_branch i (List.mem_range.2 hi)
  rw [clR_at i hi] at hc
  rw [hc] at h
  simp only [beq_self_eq_true, Bool.not_true, Bool.false_or, Bool.and_eq_true, Bool.not_eq_true', beq_iff_eq, decide_eq_true_eq] at h
  obtain ⟨⟨⟨h1, h2⟩, h3⟩, h4⟩ := h
  refine ⟨?_, ?_, h3, h4⟩
  · unfold wrB
    rw [opN_at i hi]
    exact h1
  · rw [szI_at]
    exact h2
theorem pdo_branch {D : Int → Dec} (HD : PDecOk D) (p : Nat) (S : HS) (cb co n cp : Nat) (v : Int) (held : Bool) (w : World) (h : PH w p (.slice (some ⟨cb, co, none⟩) n cp) S) (hh : S.halted = false) (hn : n ≤ 4096) (hL : Laid w) (f : Nat → Int) (hC : CodeAt w cb co n f) (hF : S.Fit) (i rd rs1 rs2 : Nat) (imm : Int) (hi : i < 67) (hd : S.fetchD D n f = ⟨i + 1, rd, rs1, rs2, imm, true⟩) (hk : S.pc / 4 < n) (hrd : rd < 32) (hr : rs1 < 32) (hs : rs2 < 32) (hc : clR ((i : Int) + 1) = 2) : Calls Tryz.prog 24 #[.pointer (some ⟨p, 0, none⟩), .int .u32 v, .bool held] w fun e w' => e = .returned (S.instrR ⟨i + 1, rd, rs1, rs2, imm, true⟩ (S.fetchW n f) v held) ∧ PH w' p (.slice (some ⟨cb, co, none⟩) n cp) (S.instrS ⟨i + 1, rd, rs1, rs2, imm, true⟩ (S.fetchW n f) v held) ∧ Only p w w' := by
  have e0 : (((i + 1 : Nat) : Nat) : Int) = (i : Int) + 1 := by omega
  obtain ⟨w1, z1, l1, l2⟩ := branch_facts i hi hc
  have n0 : ¬ (clR ((i : Int) + 1) = 0 ∨ clR ((i : Int) + 1) = 1) := by rw [hc]; decide
  have m4 : (((i : Int) + 1) == 4) = false := by simp; omega
  have m3 : (((i : Int) + 1) == 3) = false := by simp; omega
  have n4 : ¬ (i : Int) + 1 = 4 := by omega
  have hg : S.goB ((i : Int) + 1) rs1 rs2 = tkI ((i : Int) + 1) (S.regs rs1) (S.regs rs2) := by unfold HS.goB; rw [m4, m3]; rfl
  have hfb := fb_low ((i : Int) + 1) rs1 imm (by omega)
  have hct := ctl_low S ((i : Int) + 1) rs1 imm (by omega)
  cases ht : tkI ((i : Int) + 1) (S.regs rs1) (S.regs rs2)
  · rw [ht] at hg
    have hr1 : S.instrR ⟨i + 1, rd, rs1, rs2, imm, true⟩ (S.fetchW n f) v held = S.doneR (S.fetchW n f) 0 0 (S.pc + 4) := by
      unfold HS.instrR
      simp only [e0]
      rw [if_neg n0, if_pos hc, ht]
      rfl
    have hr2 : S.instrS ⟨i + 1, rd, rs1, rs2, imm, true⟩ (S.fetchW n f) v held = S.done 0 (rvI 0 0) (S.pc + 4) := by
      unfold HS.instrS
      simp only [e0]
      rw [if_neg n0, if_pos hc, ht]
      rfl
    rw [hr1, hr2]
    have q := pdo_fine HD p S cb co n cp v held w h hh hn hL f hC hF ⟨i + 1, rd, rs1, rs2, imm, true⟩ hd rfl hk (by simp only [e0]; exact hfb.1) (by simp only [e0]; exact pfc_low S _ _ _ _ (by omega) z1 hg) hrd hr hs 0 (by simp only [e0]; rw [w1]; intro q; exact absurd q (by decide))
    simp only [e0] at q
    rw [w1, if_neg (by decide), hct, next_low S _ _ _ _ (by omega) hg, pc4 S n hF.ok.pc hk hn] at q
    exact q
  · rw [ht] at hg
    have hto : S.toI ((i : Int) + 1) rs1 rs2 imm = (S.pc + imm % 4294967296) % 4294967296 := by
      unfold HS.toI
      rw [if_neg n4, hg]
      rfl
    have hr1 : S.instrR ⟨i + 1, rd, rs1, rs2, imm, true⟩ (S.fetchW n f) v held = S.jumpR (S.fetchW n f) 0 ((S.pc + imm % 4294967296) % 4294967296) := by
      unfold HS.instrR
      simp only [e0]
      rw [if_neg n0, if_pos hc, ht]
      rfl
    have hr2 : S.instrS ⟨i + 1, rd, rs1, rs2, imm, true⟩ (S.fetchW n f) v held = S.jumped 0 ((S.pc + imm % 4294967296) % 4294967296) := by
      unfold HS.instrS
      simp only [e0]
      rw [if_neg n0, if_pos hc, ht]
      rfl
    rw [hr1, hr2, ← hto]
    unfold HS.jumpR HS.jumped
    obtain ⟨pf1, pf2⟩ := pf_go S ((i : Int) + 1) rs1 rs2 imm (by omega) z1 hg
    by_cases h4 : S.toI ((i : Int) + 1) rs1 rs2 imm % 4 = 0
    · rw [if_pos h4, if_pos h4]
      have q := pdo_fine HD p S cb co n cp v held w h hh hn hL f hC hF ⟨i + 1, rd, rs1, rs2, imm, true⟩ hd rfl hk (by simp only [e0]; exact hfb.1) (by simp only [e0]; rw [pf1, if_pos h4]) hrd hr hs ((S.pc + 4) % 4294967296) (by simp only [e0]; rw [w1]; intro q; exact absurd q (by decide))
      simp only [e0] at q
      have hne : S.nextI ((i : Int) + 1) rs1 rs2 imm = S.toI ((i : Int) + 1) rs1 rs2 imm := by
        unfold HS.nextI
        rw [if_neg (by omega), hg]
        rfl
      rw [w1, if_neg (by decide), hct, hne] at q
      exact q
    · rw [if_neg h4, if_neg h4]
      exact pdo_traps HD p S cb co n cp v held w h hh hn hL f hC hF ⟨i + 1, rd, rs1, rs2, imm, true⟩ hd rfl hk (by simp only [e0]; exact hfb.1) 0 _ (by simp only [e0]; rw [pf1, if_neg h4]) (by simp only [e0]; rw [pf2, if_neg h4]) (by decide)
end Go.Proofs.YtengofkjlgajlaaGreatDoor
/-
  THE PROGRAM's HART: Do: jumps, memory.
-/
namespace Go.Proofs.YtengofkjlgajlaaGreatDoor
open Go Go.RowKit
theorem add_mod32 (a b : Int) : (a + b % 4294967296) % 4294967296 = (a + b) % 4294967296 := by omega
theorem cl_47 : clR 47 = 6 := by kernel_rfl
theorem class6_in (op : Int) (c : clR op = 6) : 46 ≤ op ∧ op ≤ 56 := by
  have := cl6 op
  rw [c] at this
  simpa using this.symm
theorem wr_3 : wrB 3 = true := by kernel_rfl
theorem wr_4 : wrB 4 = true := by kernel_rfl
theorem cl_3 : clR 3 = 3 := by kernel_rfl
theorem cl_4 : clR 4 = 3 := by kernel_rfl
theorem jump_to (S : HS) (op : Nat) (rd rs1 rs2 : Nat) (imm : Int) (ok : Bool) (h : op = 3 ∨ op = 4) : S.toI op rs1 rs2 imm = S.jumpTo ⟨op, rd, rs1, rs2, imm, ok⟩ := by
  rcases h with rfl | rfl
  · show (S.pc + imm % 4294967296) % 4294967296 = (S.pc + imm) % 4294967296
    exact add_mod32 S.pc imm
  · show bits .andNot .u32 ((S.regs rs1 + imm % 4294967296) % 4294967296) 1 = (S.regs rs1 + imm) % 4294967296 / 2 * 2
    rw [andNot_one _ (u32_mod _), add_mod32 (S.regs rs1) imm]
theorem pdo_jump {D : Int → Dec} (HD : PDecOk D) (p : Nat) (S : HS) (cb co n cp : Nat) (v : Int) (held : Bool) (w : World) (h : PH w p (.slice (some ⟨cb, co, none⟩) n cp) S) (hh : S.halted = false) (hn : n ≤ 4096) (hL : Laid w) (f : Nat → Int) (hC : CodeAt w cb co n f) (hF : S.Fit) (i rd rs1 rs2 : Nat) (imm : Int) (hi : i < 67) (hd : S.fetchD D n f = ⟨i + 1, rd, rs1, rs2, imm, true⟩) (hk : S.pc / 4 < n) (hrd : rd < 32) (hr : rs1 < 32) (hs : rs2 < 32) (hj : i = 2 ∨ i = 3) : Calls Tryz.prog 24 #[.pointer (some ⟨p, 0, none⟩), .int .u32 v, .bool held] w fun e w' => e = .returned (S.instrR ⟨i + 1, rd, rs1, rs2, imm, true⟩ (S.fetchW n f) v held) ∧ PH w' p (.slice (some ⟨cb, co, none⟩) n cp) (S.instrS ⟨i + 1, rd, rs1, rs2, imm, true⟩ (S.fetchW n f) v held) ∧ Only p w w' := by
  have e0 : (((i + 1 : Nat) : Nat) : Int) = (i : Int) + 1 := by omega
  have hc : clR ((i : Int) + 1) = 3 := by rcases hj with rfl | rfl; exact cl_3; exact cl_4
  have w1 : wrB ((i : Int) + 1) = true := by rcases hj with rfl | rfl; exact wr_3; exact wr_4
  have z1 : szI ((i : Int) + 1) = 0 := by rcases hj with rfl | rfl <;> rfl
  have hg : S.goB ((i : Int) + 1) rs1 rs2 = true := by rcases hj with rfl | rfl <;> rfl
  have n0 : ¬ (clR ((i : Int) + 1) = 0 ∨ clR ((i : Int) + 1) = 1) := by rw [hc]; decide
  have n2 : ¬ clR ((i : Int) + 1) = 2 := by rw [hc]; decide
  have hfb := fb_low ((i : Int) + 1) rs1 imm (by omega)
  have hct := ctl_low S ((i : Int) + 1) rs1 imm (by omega)
  have hto := jump_to S (i + 1) rd rs1 rs2 imm true (by omega)
  rw [e0] at hto
  have hr1 : S.instrR ⟨i + 1, rd, rs1, rs2, imm, true⟩ (S.fetchW n f) v held = S.jumpR (S.fetchW n f) rd (S.toI ((i : Int) + 1) rs1 rs2 imm) := by
    unfold HS.instrR
    simp only [e0]
    rw [if_neg n0, if_neg n2, if_pos hc, hto]
  have hr2 : S.instrS ⟨i + 1, rd, rs1, rs2, imm, true⟩ (S.fetchW n f) v held = S.jumped rd (S.toI ((i : Int) + 1) rs1 rs2 imm) := by
    unfold HS.instrS
    simp only [e0]
    rw [if_neg n0, if_neg n2, if_pos hc, hto]
  rw [hr1, hr2]
  unfold HS.jumpR HS.jumped
  obtain ⟨pf1, pf2⟩ := pf_go S ((i : Int) + 1) rs1 rs2 imm (by omega) z1 hg
  by_cases h4 : S.toI ((i : Int) + 1) rs1 rs2 imm % 4 = 0
  · rw [if_pos h4, if_pos h4]
    have q := pdo_fine HD p S cb co n cp v held w h hh hn hL f hC hF ⟨i + 1, rd, rs1, rs2, imm, true⟩ hd rfl hk (by simp only [e0]; exact hfb.1) (by simp only [e0]; rw [pf1, if_pos h4]) hrd hr hs ((S.pc + 4) % 4294967296) (by
      intro _ W hW hLW
      simp only [e0]
      exact result_c3 p _ S _ _ rs1 rs2 imm v held W hW hLW hc)
    simp only [e0] at q
    have hne : S.nextI ((i : Int) + 1) rs1 rs2 imm = S.toI ((i : Int) + 1) rs1 rs2 imm := by
      unfold HS.nextI
      rw [if_neg (by omega), hg]
      rfl
    rw [w1, if_pos rfl, hct, hne] at q
    exact q
  · rw [if_neg h4, if_neg h4]
    exact pdo_traps HD p S cb co n cp v held w h hh hn hL f hC hF ⟨i + 1, rd, rs1, rs2, imm, true⟩ hd rfl hk (by simp only [e0]; exact hfb.1) 0 _ (by simp only [e0]; rw [pf1, if_neg h4]) (by simp only [e0]; rw [pf2, if_neg h4]) (by decide)
theorem mem_facts (i : Nat) (hi : i < 67) (hz : szI ((i : Int) + 1) ≠ 0) : wrB ((i : Int) + 1) = !(clR ((i : Int) + 1) == 5) ∧ 11 ≤ i + 1 ∧ i + 1 < 57 := by
  have h := List.all_eq_true.1 tab_mem i (List.mem_range.2 hi)
  rw [szI_at] at hz
  have hz' : (szN (i + 1) == 0) = false := by simp; exact hz
  rw [hz'] at h
  simp only [Bool.false_or, Bool.and_eq_true, beq_iff_eq, decide_eq_true_eq] at h
  obtain ⟨⟨h1, h2⟩, h3⟩ := h
  refine ⟨?_, h2, h3⟩
  unfold wrB
  rw [opN_at i hi, clR_at i hi]
  exact h1
theorem pdo_mem {D : Int → Dec} (HD : PDecOk D) (p : Nat) (S : HS) (cb co n cp : Nat) (v : Int) (held : Bool) (w : World) (h : PH w p (.slice (some ⟨cb, co, none⟩) n cp) S) (hh : S.halted = false) (hn : n ≤ 4096) (hL : Laid w) (f : Nat → Int) (hC : CodeAt w cb co n f) (hF : S.Fit) (i rd rs1 rs2 : Nat) (imm : Int) (hi : i < 67) (hd : S.fetchD D n f = ⟨i + 1, rd, rs1, rs2, imm, true⟩) (hk : S.pc / 4 < n) (hrd : rd < 32) (hr : rs1 < 32) (hs : rs2 < 32) (h16 : S.size % 16 = 0) (hz : szI ((i : Int) + 1) ≠ 0) : Calls Tryz.prog 24 #[.pointer (some ⟨p, 0, none⟩), .int .u32 v, .bool held] w fun e w' => e = .returned (S.instrR ⟨i + 1, rd, rs1, rs2, imm, true⟩ (S.fetchW n f) v held) ∧ PH w' p (.slice (some ⟨cb, co, none⟩) n cp) (S.instrS ⟨i + 1, rd, rs1, rs2, imm, true⟩ (S.fetchW n f) v held) ∧ Only p w w' := by
  have e0 : (((i + 1 : Nat) : Nat) : Int) = (i : Int) + 1 := by omega
  obtain ⟨w1, l1, l2⟩ := mem_facts i hi hz
  have hcs := mem_cls i hi hz
  have n0 : ¬ (clR ((i : Int) + 1) = 0 ∨ clR ((i : Int) + 1) = 1) := by rcases hcs with q | q | q <;> rw [q] <;> decide
  have n2 : ¬ clR ((i : Int) + 1) = 2 := by rcases hcs with q | q | q <;> rw [q] <;> decide
  have n3 : ¬ clR ((i : Int) + 1) = 3 := by rcases hcs with q | q | q <;> rw [q] <;> decide
  have n7 : ¬ clR ((i : Int) + 1) = 7 := by rcases hcs with q | q | q <;> rw [q] <;> decide
  have hfb := fb_low ((i : Int) + 1) rs1 imm (by omega)
  have hct := ctl_low S ((i : Int) + 1) rs1 imm (by omega)
  have hg : S.goB ((i : Int) + 1) rs1 rs2 = false := by
    unfold HS.goB
    rw [tk_not _ _ _ (by omega)]
    have a : (((i : Int) + 1) == 4) = false := by simp; omega
    have b : (((i : Int) + 1) == 3) = false := by simp; omega
    rw [a, b]
    rfl
  have hx := whereI_u32 hF.ok ((i : Int) + 1) imm rs1 hr
  have hpa := pfa_eq S ((i : Int) + 1) (S.whereI ((i : Int) + 1) rs1 imm) hz hx hF.ok.size h16
  have a9 : ¬ (i : Int) + 1 = 59 := by omega
  have a8 : ¬ (i : Int) + 1 = 58 := by omega
  have hpc : S.pfc ((i : Int) + 1) rs1 rs2 imm = S.faultI ((i : Int) + 1) (S.whereI ((i : Int) + 1) rs1 imm) := by
    unfold HS.pfc
    rw [if_neg a9, if_neg a8, if_pos hz, hpa]
  have hpv : S.pfv ((i : Int) + 1) rs1 rs2 imm = (if S.faultI ((i : Int) + 1) (S.whereI ((i : Int) + 1) rs1 imm) = -1 then 0 else S.whereI ((i : Int) + 1) rs1 imm) := by
    unfold HS.pfv
    rw [if_neg a9, if_neg a8, if_pos hz, hpa]
  have hr1 : S.instrR ⟨i + 1, rd, rs1, rs2, imm, true⟩ (S.fetchW n f) v held = S.memR (S.fetchW n f) ((i : Int) + 1) rd rs1 imm v held := by
    unfold HS.instrR
    simp only [e0]
    rw [if_neg n0, if_neg n2, if_neg n3, if_neg n7]
  have hr2 : S.instrS ⟨i + 1, rd, rs1, rs2, imm, true⟩ (S.fetchW n f) v held = S.memS ((i : Int) + 1) rd rs1 imm v held := by
    unfold HS.instrS
    simp only [e0]
    rw [if_neg n0, if_neg n2, if_neg n3, if_neg n7]
  rw [hr1, hr2]
  unfold HS.memR HS.memS
  by_cases hff : S.faultI ((i : Int) + 1) (S.whereI ((i : Int) + 1) rs1 imm) = -1
  · rw [if_pos hff, if_pos hff]
    have q := pdo_fine HD p S cb co n cp v held w h hh hn hL f hC hF ⟨i + 1, rd, rs1, rs2, imm, true⟩ hd rfl hk (by simp only [e0]; exact hfb.1) (by simp only [e0]; rw [hpc, hff]) hrd hr hs (if clR ((i : Int) + 1) = 5 then 0 else memV ((i : Int) + 1) v held) (by
      intro hw W hW hLW
      simp only [e0] at hw ⊢
      rw [w1] at hw
      have h5 : ¬ clR ((i : Int) + 1) = 5 := by simpa using hw
      rw [if_neg h5]
      unfold memV
      rcases hcs with c | c | c
      · have n47 : ¬ (i : Int) + 1 = 47 := by
          intro q
          rw [q] at c
          exact absurd (cl_47.symm.trans c) (by decide)
        rw [if_neg n47]
        exact result_c4 p _ S _ _ rs1 rs2 imm v held W hW hLW c
      · exact absurd c h5
      · by_cases n47 : (i : Int) + 1 = 47
        · rw [if_pos n47]
          exact result_c6s p _ S _ _ rs1 rs2 imm v held W hW hLW c n47
        · rw [if_neg n47, wdI_6 _ _ (class6_in _ c)]
          exact result_c6 p _ S _ _ rs1 rs2 imm v held W hW hLW c (by simp; exact n47))
    simp only [e0] at q
    rw [w1, hct, next_low S _ _ _ _ (by omega) hg] at q
    by_cases h5 : clR ((i : Int) + 1) = 5
    · rw [if_pos h5, if_pos h5]
      rw [h5] at q
      exact q
    · have h5' : (clR ((i : Int) + 1) == 5) = false := by simp; exact h5
      rw [if_neg h5, if_neg h5]
      rw [h5', if_neg h5] at q
      exact q
  · rw [if_neg hff, if_neg hff]
    exact pdo_traps HD p S cb co n cp v held w h hh hn hL f hC hF ⟨i + 1, rd, rs1, rs2, imm, true⟩ hd rfl hk (by simp only [e0]; exact hfb.1) _ _ (by simp only [e0]; exact hpc) (by simp only [e0]; rw [hpv, if_neg hff]) hff
end Go.Proofs.YtengofkjlgajlaaGreatDoor
/-
  THE PROGRAM's HART: Do: the class System; Do, whole.
-/
namespace Go.Proofs.YtengofkjlgajlaaGreatDoor
open Go Go.RowKit
theorem sys_facts (i : Nat) (hi : i < 67) (h56 : 56 ≤ i) : szI ((i : Int) + 1) = 0 ∧ wrB ((i : Int) + 1) = decide (61 ≤ i) ∧ (61 ≤ i → rd1 ((i : Int) + 1) = decide (i < 64)) := by
  have h := List.all_eq_true.1 tab_sys i (List.mem_range.2 hi)
  rw [decide_eq_true h56] at h
  simp only [Bool.not_true, Bool.false_or, Bool.and_eq_true, beq_iff_eq] at h
  obtain ⟨⟨h1, h2⟩, h3⟩ := h
  refine ⟨?_, ?_, fun q => ?_⟩
  · rw [szI_at]
    exact h1
  · unfold wrB
    rw [opN_at i hi]
    exact h2
  · rw [decide_eq_true q] at h3
    unfold rd1
    rw [opN_at i hi]
    simpa using h3
theorem go_sys (S : HS) (i rs1 rs2 : Nat) (h56 : 56 ≤ i) : S.goB ((i : Int) + 1) rs1 rs2 = false := by
  unfold HS.goB
  rw [tk_not _ _ _ (by omega)]
  have a : (((i : Int) + 1) == 4) = false := by simp; omega
  have b : (((i : Int) + 1) == 3) = false := by simp; omega
  rw [a, b]
  rfl
theorem pfc_sys (S : HS) (op : Int) (rs1 rs2 : Nat) (imm : Int) (a9 : ¬ op = 59) (a8 : ¬ op = 58) (hz : szI op = 0) (hg : S.goB op rs1 rs2 = false) : S.pfc op rs1 rs2 imm = -1 := by
  unfold HS.pfc
  rw [if_neg a9, if_neg a8, if_neg (by rw [hz]; simp), if_neg (by rw [hg]; simp)]
theorem next_sys (S : HS) (op : Int) (rs1 rs2 : Nat) (imm : Int) (h : ¬ op = 60) (hg : S.goB op rs1 rs2 = false) : S.nextI op rs1 rs2 imm = (S.pc + 4) % 4294967296 := by
  unfold HS.nextI
  rw [if_neg h, hg]
  rfl
theorem wr_csr (imm : Int) (h : csrB imm = true) : (wrI imm = 0) ↔ imm / 1024 = 3 := by
  unfold csrB at h
  simp only [Bool.or_eq_true, beq_iff_eq] at h
  rcases h with (((((((h | h) | h) | h) | h) | h) | h) | h) | h <;> subst h <;> simp [wrI]
theorem wc_sys (i rs1 : Nat) (h1 : 61 ≤ i) (h2 : i < 67) : wcB ((i : Int) + 1) rs1 = sysW ((i : Int) + 1) rs1 := by
  have : i = 61 ∨ i = 62 ∨ i = 63 ∨ i = 64 ∨ i = 65 ∨ i = 66 := by omega
  rcases this with rfl | rfl | rfl | rfl | rfl | rfl <;> rfl
theorem hc_sys (i : Nat) (h1 : 61 ≤ i) (h2 : i < 67) : hcB ((i : Int) + 1) = true := by
  unfold hcB
  rw [decide_eq_true (by omega), decide_eq_true (by omega)]
  rfl
theorem pdo_sys {D : Int → Dec} (HD : PDecOk D) (p : Nat) (S : HS) (cb co n cp : Nat) (v : Int) (held : Bool) (w : World) (h : PH w p (.slice (some ⟨cb, co, none⟩) n cp) S) (hh : S.halted = false) (hn : n ≤ 4096) (hL : Laid w) (f : Nat → Int) (hC : CodeAt w cb co n f) (hF : S.Fit) (i rd rs1 rs2 : Nat) (imm : Int) (hi : i < 67) (hd : S.fetchD D n f = ⟨i + 1, rd, rs1, rs2, imm, true⟩) (hk : S.pc / 4 < n) (hrd : rd < 32) (hr : rs1 < 32) (hs : rs2 < 32) (_hw0 : U32 (S.fetchW n f)) (hc : clR ((i : Int) + 1) = 7) (h56 : 56 ≤ i) : Calls Tryz.prog 24 #[.pointer (some ⟨p, 0, none⟩), .int .u32 v, .bool held] w fun e w' => e = .returned (S.instrR ⟨i + 1, rd, rs1, rs2, imm, true⟩ (S.fetchW n f) v held) ∧ PH w' p (.slice (some ⟨cb, co, none⟩) n cp) (S.instrS ⟨i + 1, rd, rs1, rs2, imm, true⟩ (S.fetchW n f) v held) ∧ Only p w w' := by
  have e0 : (((i + 1 : Nat) : Nat) : Int) = (i : Int) + 1 := by omega
  obtain ⟨z1, w1, r1⟩ := sys_facts i hi h56
  have hg := go_sys S i rs1 rs2 h56
  have n0 : ¬ (clR ((i : Int) + 1) = 0 ∨ clR ((i : Int) + 1) = 1) := by rw [hc]; decide
  have n2 : ¬ clR ((i : Int) + 1) = 2 := by rw [hc]; decide
  have n3 : ¬ clR ((i : Int) + 1) = 3 := by rw [hc]; decide
  have hr1 : S.instrR ⟨i + 1, rd, rs1, rs2, imm, true⟩ (S.fetchW n f) v held = S.sysR (S.fetchW n f) ((i : Int) + 1) rd rs1 imm (S.regs rs1) := by
    unfold HS.instrR
    simp only [e0]
    rw [if_neg n0, if_neg n2, if_neg n3, if_pos hc]
  have hr2 : S.instrS ⟨i + 1, rd, rs1, rs2, imm, true⟩ (S.fetchW n f) v held = S.sysS (S.fetchW n f) ((i : Int) + 1) rd rs1 imm (S.regs rs1) := by
    unfold HS.instrS
    simp only [e0]
    rw [if_neg n0, if_neg n2, if_neg n3, if_pos hc]
  rw [hr1, hr2]
  unfold HS.sysR HS.sysS
  by_cases h58 : (i : Int) + 1 = 58
  · rw [if_pos h58, if_pos h58]
    have a9 : ¬ (i : Int) + 1 = 59 := by omega
    exact pdo_traps HD p S cb co n cp v held w h hh hn hL f hC hF ⟨i + 1, rd, rs1, rs2, imm, true⟩ hd rfl hk (by simp only [e0]; exact (fb_low _ _ _ (by omega)).1) 11 0 (by simp only [e0]; unfold HS.pfc; rw [if_neg a9, if_pos h58]) (by simp only [e0]; unfold HS.pfv; rw [if_neg a9, if_pos h58]) (by decide)
  rw [if_neg h58, if_neg h58]
  by_cases h59 : (i : Int) + 1 = 59
  · rw [if_pos h59, if_pos h59]
    exact pdo_traps HD p S cb co n cp v held w h hh hn hL f hC hF ⟨i + 1, rd, rs1, rs2, imm, true⟩ hd rfl hk (by simp only [e0]; exact (fb_low _ _ _ (by omega)).1) 3 S.pc (by simp only [e0]; unfold HS.pfc; rw [if_pos h59]) (by simp only [e0]; unfold HS.pfv; rw [if_pos h59]) (by decide)
  rw [if_neg h59, if_neg h59]
  have hpc := pfc_sys S ((i : Int) + 1) rs1 rs2 imm h59 h58 z1 hg
  by_cases h60 : (i : Int) + 1 = 60
  · rw [if_pos h60, if_pos h60]
    have q := pdo_fine HD p S cb co n cp v held w h hh hn hL f hC hF ⟨i + 1, rd, rs1, rs2, imm, true⟩ hd rfl hk (by simp only [e0]; exact (fb_low _ _ _ (by omega)).1) (by simp only [e0]; exact hpc) hrd hr hs 0 (by simp only [e0]; rw [w1, decide_eq_false (by omega)]; intro q; exact absurd q (by decide))
    simp only [e0] at q
    have hne : S.nextI ((i : Int) + 1) rs1 rs2 imm = S.epc := by unfold HS.nextI; rw [if_pos h60]
    have hct : S.ctlS ((i : Int) + 1) rs1 imm = S.mretS := by unfold HS.ctlS HS.mretS; rw [if_pos h60, mret_bits _ hF.status]
    rw [w1, decide_eq_false (by omega), if_neg (by decide), hct, hne] at q
    exact q
  rw [if_neg h60, if_neg h60]
  have hne := next_sys S ((i : Int) + 1) rs1 rs2 imm h60 hg
  by_cases hfw : (i : Int) + 1 = 57 ∨ (i : Int) + 1 = 61
  · rw [if_pos hfw, if_pos hfw]
    have q := pdo_fine HD p S cb co n cp v held w h hh hn hL f hC hF ⟨i + 1, rd, rs1, rs2, imm, true⟩ hd rfl hk (by simp only [e0]; exact (fb_low _ _ _ (by omega)).1) (by simp only [e0]; exact hpc) hrd hr hs 0 (by simp only [e0]; rw [w1, decide_eq_false (by omega)]; intro q; exact absurd q (by decide))
    simp only [e0] at q
    have hct : S.ctlS ((i : Int) + 1) rs1 imm = S := by unfold HS.ctlS; rw [if_neg h60, wc_low _ _ (by omega)]; rfl
    rw [w1, decide_eq_false (by omega), if_neg (by decide), hct, hne] at q
    exact q
  rw [if_neg hfw, if_neg hfw]
  have h61 : 61 ≤ i := by omega
  have hwc := wc_sys i rs1 h61 hi
  have hhc := hc_sys i h61 hi
  have hfbE : fbB ((i : Int) + 1) rs1 imm = true ↔ (csrB imm = false ∨ (sysW ((i : Int) + 1) rs1 = true ∧ imm / 1024 = 3)) := by
    unfold fbB
    rw [hhc, hwc]
    cases hb : csrB imm
    · simp
    · have := wr_csr imm hb
      simp [this]
  unfold HS.csrR HS.csrS
  by_cases hfb : csrB imm = false ∨ (sysW ((i : Int) + 1) rs1 = true ∧ imm / 1024 = 3)
  · rw [if_pos hfb, if_pos hfb]
    obtain ⟨q1, q2⟩ := look_fb S n f ⟨i + 1, rd, rs1, rs2, imm, true⟩ hd hk (by simp only [e0]; rw [hfbE.2 hfb]; simp)
    exact pdo_trap p S cb co n cp v held w h hh HD hn hF.ok.pc hL f hC hF.ok ⟨i + 1, rd, rs1, rs2, imm, true⟩ _ _ _ hd rfl q1 q2 (by decide)
  · rw [if_neg hfb, if_neg hfb]
    have hf0 : fbB ((i : Int) + 1) rs1 imm = false := by
      cases q : fbB ((i : Int) + 1) rs1 imm
      · rfl
      · exact absurd (hfbE.1 q) hfb
    have q := pdo_fine HD p S cb co n cp v held w h hh hn hL f hC hF ⟨i + 1, rd, rs1, rs2, imm, true⟩ hd rfl hk (by simp only [e0]; exact hf0) (by simp only [e0]; exact hpc) hrd hr hs (S.csrV imm) (by
      intro _ W hW hLW
      simp only [e0]
      exact result_c7 p _ S _ _ rs1 rs2 imm v held W hW hLW hc)
    simp only [e0] at q
    have hfi : S.firstI ((i : Int) + 1) rs1 = sysA ((i : Int) + 1) rs1 (S.regs rs1) := by
      unfold HS.firstI sysA
      rw [r1 h61]
      by_cases h64 : i < 64
      · rw [decide_eq_true h64, if_pos rfl, if_neg (by omega)]
      · rw [decide_eq_false h64, if_neg (by decide), if_pos (by omega)]
    have hct : S.ctlS ((i : Int) + 1) rs1 imm = (if sysW ((i : Int) + 1) rs1 then S.setCsr imm (csrNew (sysM ((i : Int) + 1)) (S.csrV imm) (sysA ((i : Int) + 1) rs1 (S.regs rs1))) else S) := by
      unfold HS.ctlS
      rw [if_neg h60, hwc, hfi]
    rw [w1, decide_eq_true h61, if_pos rfl, hct, hne] at q
    by_cases hs1 : sysW ((i : Int) + 1) rs1 = true
    · rw [if_pos hs1, if_pos hs1]
      rw [if_pos hs1] at q
      have hpc1 : (S.setCsr imm (csrNew (sysM ((i : Int) + 1)) (S.csrV imm) (sysA ((i : Int) + 1) rs1 (S.regs rs1)))).pc = S.pc := by
        unfold HS.setCsr
        repeat' split
        all_goals rfl
      have hdr : ∀ T : HS, T.pc = S.pc → ∀ (a : Int) (r : Nat) (b c : Int), T.doneR a r b c = S.doneR a r b c := by
        intro T hT a r b c
        unfold HS.doneR
        rw [hT]
      rw [hdr _ hpc1]
      exact q
    · rw [if_neg hs1, if_neg hs1]
      rw [if_neg hs1] at q
      exact q
theorem pdo_any {D : Int → Dec} (HD : PDecOk D) (p : Nat) (S : HS) (cb co n cp : Nat) (v : Int) (held : Bool) (w : World) (h : PH w p (.slice (some ⟨cb, co, none⟩) n cp) S) (hn : n ≤ 4096) (hL : Laid w) (f : Nat → Int) (hC : CodeAt w cb co n f) (hF : S.Fit) (h16 : S.size % 16 = 0) : Calls Tryz.prog 24 #[.pointer (some ⟨p, 0, none⟩), .int .u32 v, .bool held] w fun e w' => e = .returned (S.doR D n f v held) ∧ PH w' p (.slice (some ⟨cb, co, none⟩) n cp) (S.doS D n f v held) ∧ Only p w w' := by
  unfold HS.doR HS.doS
  by_cases hh : S.halted = true
  · rw [if_pos hh, if_pos hh]
    exact pdo_halted p S cb co n cp v held w h hh
  have hh' : S.halted = false := by simpa using hh
  rw [if_neg hh, if_neg hh]
  by_cases hk : S.pc / 4 < n
  · rw [if_pos hk, if_pos hk]
    have e1 : S.fetchD D n f = D (f (S.pc / 4).toNat) := if_pos hk
    have e2 : S.fetchW n f = f (S.pc / 4).toNat := if_pos hk
    have hu := hC.word (S.pc / 4).toNat (by have := hF.ok.pc.1; omega)
    have hg := HD.good _ hu
    rw [← e1] at hg
    rw [← e2] at hu
    by_cases hok : (S.fetchD D n f).ok = true
    · rw [if_pos hok, if_pos hok]
      obtain ⟨g1, g2, g3, g4, g5⟩ := hg hok
      generalize hd : S.fetchD D n f = d at *
      obtain ⟨op, rd, rs1, rs2, imm, ok⟩ := d
      simp only at hok g1 g2 g3 g4 g5
      subst hok
      obtain ⟨i, rfl⟩ : ∃ i, op = i + 1 := ⟨op - 1, by omega⟩
      have hi : i < 67 := by omega
      rcases cls_cases i hi with c | c | c | ⟨c, hj⟩ | ⟨c, h56⟩ | hz
      · exact pdo_alu HD p S cb co n cp v held w h hh' hn hL f hC hF i rd rs1 rs2 imm hi hd hk g3 g4 g5 (Or.inl c)
      · exact pdo_alu HD p S cb co n cp v held w h hh' hn hL f hC hF i rd rs1 rs2 imm hi hd hk g3 g4 g5 (Or.inr c)
      · exact pdo_branch HD p S cb co n cp v held w h hh' hn hL f hC hF i rd rs1 rs2 imm hi hd hk g3 g4 g5 c
      · exact pdo_jump HD p S cb co n cp v held w h hh' hn hL f hC hF i rd rs1 rs2 imm hi hd hk g3 g4 g5 hj
      · exact pdo_sys HD p S cb co n cp v held w h hh' hn hL f hC hF i rd rs1 rs2 imm hi hd hk g3 g4 g5 hu c h56
      · exact pdo_mem HD p S cb co n cp v held w h hh' hn hL f hC hF i rd rs1 rs2 imm hi hd hk g3 g4 g5 h16 hz
    · rw [if_neg hok, if_neg hok]
      obtain ⟨q1, q2⟩ := look_fb S n f _ rfl hk (fun q => hok q.1)
      exact pdo_trap p S cb co n cp v held w h hh' HD hn hF.ok.pc hL f hC hF.ok _ _ _ _ rfl rfl q1 q2 (by decide)
  · rw [if_neg hk, if_neg hk]
    have e2 : S.fetchW n f = 0 := if_neg hk
    have q1 : S.lookC D n f = 1 := if_neg hk
    have q2 : S.lookT D n f = S.pc := if_neg hk
    have q := pdo_trap p S cb co n cp v held w h hh' HD hn hF.ok.pc hL f hC hF.ok _ _ _ _ rfl e2 q1 q2 (by decide)
    exact q
end Go.Proofs.YtengofkjlgajlaaGreatDoor
