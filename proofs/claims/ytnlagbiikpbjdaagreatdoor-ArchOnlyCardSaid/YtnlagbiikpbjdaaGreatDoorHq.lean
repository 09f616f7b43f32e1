/-
  THE ANSWER's HART: Do, whole.
-/
import Derived.Test.YtnlagbiikpbjdaaGreatDoorHp
namespace Go.Proofs.YtnlagbiikpbjdaaGreatDoor
open Go Go.RowKit
/-- a row that tells what an instruction did -/
def IsRet (R : Value) : Prop := ∃ a b c d e f g : Int, R = .agg #[.int .u32 a, .int .u32 b, .int .i64 c, .int .u32 d, .int .i64 e, .int .u32 f, .int .u32 g]
theorem doneR_is (S : HS) (word : Int) (r : Nat) (v next : Int) : IsRet (S.doneR word r v next) := ⟨_, _, _, _, _, _, _, rfl⟩
theorem trapR_is (S : HS) (word cause tval : Int) : IsRet (S.trapR word cause tval) := ⟨_, _, _, _, _, _, _, rfl⟩
theorem jumpR_is (S : HS) (word : Int) (r : Nat) (to : Int) : IsRet (S.jumpR word r to) := by
  unfold HS.jumpR
  split
  · exact doneR_is _ _ _ _ _
  · exact trapR_is _ _ _ _
theorem csrR_is (S : HS) (word op : Int) (rd rs1 : Nat) (imm a : Int) : IsRet (S.csrR word op rd rs1 imm a) := by
  unfold HS.csrR
  split
  · exact trapR_is _ _ _ _
  · split
    · exact doneR_is _ _ _ _ _
    · exact doneR_is _ _ _ _ _
theorem sysR_is (S : HS) (word op : Int) (rd rs1 : Nat) (imm a : Int) : IsRet (S.sysR word op rd rs1 imm a) := by
  unfold HS.sysR
  repeat' split
  all_goals first | exact trapR_is _ _ _ _ | exact doneR_is _ _ _ _ _ | exact csrR_is _ _ _ _ _ _ _
theorem memR_is (S : HS) (word op : Int) (rd rs1 : Nat) (imm v : Int) (held : Bool) : IsRet (S.memR word op rd rs1 imm v held) := by
  unfold HS.memR
  repeat' split
  all_goals first | exact trapR_is _ _ _ _ | exact doneR_is _ _ _ _ _
/-- where a jump goes -/
def HS.jumpTo (S : HS) (d : Dec) : Int := if d.op = 4 then (S.regs d.rs1 + d.imm) % 4294967296 / 2 * 2 else (S.pc + d.imm) % 4294967296
/-- what an instruction tells, by its class -/
def HS.instrR (S : HS) (d : Dec) (word v : Int) (held : Bool) : Value :=
  if clR d.op = 0 ∨ clR d.op = 1 then S.doneR word d.rd (S.compI d.op d.imm (S.regs d.rs1) (S.regs d.rs2)) (S.pc + 4)
  else if clR d.op = 2 then (if tkI d.op (S.regs d.rs1) (S.regs d.rs2) then S.jumpR word 0 ((S.pc + d.imm % 4294967296) % 4294967296) else S.doneR word 0 0 (S.pc + 4))
  else if clR d.op = 3 then S.jumpR word d.rd (S.jumpTo d)
  else if clR d.op = 7 then S.sysR word d.op d.rd d.rs1 d.imm (S.regs d.rs1)
  else S.memR word d.op d.rd d.rs1 d.imm v held
/-- what it leaves -/
def HS.instrS (S : HS) (d : Dec) (word v : Int) (held : Bool) : HS :=
  if clR d.op = 0 ∨ clR d.op = 1 then S.done d.rd (rvI d.rd (S.compI d.op d.imm (S.regs d.rs1) (S.regs d.rs2))) (S.pc + 4)
  else if clR d.op = 2 then (if tkI d.op (S.regs d.rs1) (S.regs d.rs2) then S.jumped 0 ((S.pc + d.imm % 4294967296) % 4294967296) else S.done 0 (rvI 0 0) (S.pc + 4))
  else if clR d.op = 3 then S.jumped d.rd (S.jumpTo d)
  else if clR d.op = 7 then S.sysS word d.op d.rd d.rs1 d.imm (S.regs d.rs1)
  else S.memS d.op d.rd d.rs1 d.imm v held
/-- Do: what is told, what is left -/
def HS.doR (S : HS) (D : Int → Dec) (n : Nat) (f : Nat → Int) (v : Int) (held : Bool) : Value :=
  if S.halted then S.idleR else if S.pc / 4 < n then (if (S.fetchD D n f).ok then S.instrR (S.fetchD D n f) (S.fetchW n f) v held else S.trapR (S.fetchW n f) 2 (S.fetchW n f)) else S.trapR 0 1 S.pc
def HS.doS (S : HS) (D : Int → Dec) (n : Nat) (f : Nat → Int) (v : Int) (held : Bool) : HS :=
  if S.halted then S else if S.pc / 4 < n then (if (S.fetchD D n f).ok then S.instrS (S.fetchD D n f) (S.fetchW n f) v held else S.trapped 2 (S.fetchW n f)) else S.trapped 1 S.pc
theorem cls_all : ((List.range 67).all fun i => (classR (letAt i) (codeRAt i) (gRAt i) == 0 || classR (letAt i) (codeRAt i) (gRAt i) == 1 || classR (letAt i) (codeRAt i) (gRAt i) == 2 || (classR (letAt i) (codeRAt i) (gRAt i) == 3 && (i == 2 || i == 3)) || (classR (letAt i) (codeRAt i) (gRAt i) == 7 && decide (56 ≤ i)) || szN (i + 1) != 0)) = true := by kernel_rfl
theorem cls_cases (i : Nat) (hi : i < 67) : clR ((i : Int) + 1) = 0 ∨ clR ((i : Int) + 1) = 1 ∨ clR ((i : Int) + 1) = 2 ∨ (clR ((i : Int) + 1) = 3 ∧ (i = 2 ∨ i = 3)) ∨ (clR ((i : Int) + 1) = 7 ∧ 56 ≤ i) ∨ szI ((i : Int) + 1) ≠ 0 := by
  have h := List.all_eq_true.1 cls_all i (List.mem_range.2 hi)
  have e : clR ((i : Int) + 1) = classR (letAt i) (codeRAt i) (gRAt i) := by
    unfold clR
    rw [if_pos (by omega), show ((i : Int) + 1 - 1).toNat = i by omega]
  have e2 : szI ((i : Int) + 1) = szN (i + 1) := by
    unfold szI
    rw [if_pos (by omega)]
    rfl
  rw [e, e2]
  simp only [Bool.or_eq_true, Bool.and_eq_true, beq_iff_eq, bne_iff_ne, decide_eq_true_eq] at h
  omega
theorem mem_all : ((List.range 67).all fun i => (szN (i + 1) == 0 || classR (letAt i) (codeRAt i) (gRAt i) == 4 || classR (letAt i) (codeRAt i) (gRAt i) == 5 || classR (letAt i) (codeRAt i) (gRAt i) == 6)) = true := by kernel_rfl
theorem mem_cls (i : Nat) (hi : i < 67) (hz : szI ((i : Int) + 1) ≠ 0) : clR ((i : Int) + 1) = 4 ∨ clR ((i : Int) + 1) = 5 ∨ clR ((i : Int) + 1) = 6 := by
  have h := List.all_eq_true.1 mem_all i (List.mem_range.2 hi)
  have e : clR ((i : Int) + 1) = classR (letAt i) (codeRAt i) (gRAt i) := by
    unfold clR
    rw [if_pos (by omega), show ((i : Int) + 1 - 1).toNat = i by omega]
  have e2 : szI ((i : Int) + 1) = szN (i + 1) := by
    unfold szI
    rw [if_pos (by omega)]
    rfl
  rw [e2] at hz
  rw [e]
  simp only [Bool.or_eq_true, beq_iff_eq] at h
  omega
theorem do_any {D : Int → Dec} (HD : DecOk D) (b : Nat) (S : HS) (cb co n cp : Nat) (f : Nat → Int) (w : World) (h : RH w b S) (hc : S.code = .slice (some ⟨cb, co, none⟩) n cp) (hC : CodeAt w cb co n f) (hn : n ≤ 4096) (v : Int) (held : Bool) (hS : S.Ok) (hv : U32 v) : Calls Tryz.prog 34 #[.pointer (some ⟨b, 0, none⟩), .int .u32 v, .bool held] w fun e w' => e = .returned (S.doR D n f v held) ∧ RH w' b (S.doS D n f v held) ∧ Only b w w' := by
  unfold HS.doR HS.doS
  by_cases hh : S.halted = true
  · rw [if_pos hh, if_pos hh]
    exact do_halted b S v held w h hh
  have hh' : S.halted = false := by simpa using hh
  rw [if_neg hh, if_neg hh]
  by_cases hk' : ¬ S.pc / 4 < n
  · rw [if_neg hk', if_neg hk']
    exact do_nocode HD b S cb co n cp f w h hS.pc hc hC hn v held hh' hk'
  have hk : S.pc / 4 < n := Decidable.not_not.1 hk'
  clear hk'
  rw [if_pos hk, if_pos hk]
  have hg := fetch_good HD S n f hC.word hS.pc
  by_cases hno : ¬ (S.fetchD D n f).ok = true
  · rw [if_neg hno, if_neg hno]
    exact do_illegal HD b S cb co n cp f w h hS.pc hc hC hn v held hh' hk _ rfl (by simpa using hno) _ rfl
  have hok : (S.fetchD D n f).ok = true := Decidable.not_not.1 hno
  clear hno
  rw [if_pos hok, if_pos hok]
  obtain ⟨g1, g2, g3, g4, g5⟩ := hg hok
  generalize hd : S.fetchD D n f = d at *
  generalize hw : S.fetchW n f = word
  obtain ⟨op, rd, rs1, rs2, imm, ok⟩ := d
  simp only at hok g1 g2 g3 g4 g5
  subst hok
  obtain ⟨i, rfl⟩ : ∃ i, op = i + 1 := ⟨op - 1, by omega⟩
  have hi : i < 67 := by omega
  have e0 : ((i + 1 : Nat) : Int) = (i : Int) + 1 := by omega
  unfold HS.instrR HS.instrS
  simp only [e0]
  rcases cls_cases i hi with c | c | c | ⟨c, hj⟩ | ⟨c, h56⟩ | hz
  · have hp : clR ((i : Int) + 1) = 0 ∨ clR ((i : Int) + 1) = 1 := Or.inl c
    rw [if_pos hp, if_pos hp]
    exact do_alu0 HD b S cb co n cp f w h hS.pc hc hC hn v held hh' hk i rd rs1 rs2 imm hd word hw hi g3 g4 g5 hS hv c
  · have hp : clR ((i : Int) + 1) = 0 ∨ clR ((i : Int) + 1) = 1 := Or.inr c
    rw [if_pos hp, if_pos hp]
    exact do_alu1 HD b S cb co n cp f w h hS.pc hc hC hn v held hh' hk i rd rs1 rs2 imm hd word hw hi g3 g4 g5 hS hv c
  · have n0 : ¬ (clR ((i : Int) + 1) = 0 ∨ clR ((i : Int) + 1) = 1) := by rw [c]; decide
    rw [if_neg n0, if_neg n0, if_pos c, if_pos c]
    by_cases ht : tkI ((i : Int) + 1) (S.regs rs1) (S.regs rs2) = true
    · rw [if_pos ht, if_pos ht]
      obtain ⟨x0, x1, x2, x3, x4, x5, x6, hx⟩ := jumpR_is S word 0 ((S.pc + imm % 4294967296) % 4294967296)
      rw [hx]
      exact do_take HD b S cb co n cp f w h hS.pc hc hC hn v held hh' hk i rd rs1 rs2 imm hd word hw hi g3 g4 g5 hS hv c ht x0 x1 x2 x3 x4 x5 x6 hx
    · rw [if_neg ht, if_neg ht]
      exact do_stay HD b S cb co n cp f w h hS.pc hc hC hn v held hh' hk i rd rs1 rs2 imm hd word hw hi g3 g4 g5 hS hv c (by simpa using ht)
  · have n0 : ¬ (clR ((i : Int) + 1) = 0 ∨ clR ((i : Int) + 1) = 1) := by rw [c]; decide
    have n2 : ¬ clR ((i : Int) + 1) = 2 := by rw [c]; decide
    rw [if_neg n0, if_neg n0, if_neg n2, if_neg n2, if_pos c, if_pos c]
    obtain ⟨x0, x1, x2, x3, x4, x5, x6, hx⟩ := jumpR_is S word rd (S.jumpTo ⟨i + 1, rd, rs1, rs2, imm, true⟩)
    rw [hx]
    rcases hj with rfl | rfl
    · exact do_jal HD b S cb co n cp f w h hS.pc hc hC hn v held hh' hk 2 rd rs1 rs2 imm hd word hw hi g3 g4 g5 hS hv c rfl x0 x1 x2 x3 x4 x5 x6 hx
    · exact do_jalr HD b S cb co n cp f w h hS.pc hc hC hn v held hh' hk 3 rd rs1 rs2 imm hd word hw hi g3 g4 g5 hS hv c rfl x0 x1 x2 x3 x4 x5 x6 hx
  · have n0 : ¬ (clR ((i : Int) + 1) = 0 ∨ clR ((i : Int) + 1) = 1) := by rw [c]; decide
    have n2 : ¬ clR ((i : Int) + 1) = 2 := by rw [c]; decide
    have n3 : ¬ clR ((i : Int) + 1) = 3 := by rw [c]; decide
    rw [if_neg n0, if_neg n0, if_neg n2, if_neg n2, if_neg n3, if_neg n3, if_pos c, if_pos c]
    obtain ⟨x0, x1, x2, x3, x4, x5, x6, hx⟩ := sysR_is S word ((i + 1 : Nat) : Int) rd rs1 imm (S.regs rs1)
    rw [← e0, hx]
    exact do_sys HD b S cb co n cp f w h hS.pc hc hC hn v held hh' hk i rd rs1 rs2 imm hd word hw hi g3 g4 g5 hS hv c (by omega) _ hx x0 x1 x2 x3 x4 x5 x6 rfl
  · have n0 : ¬ (clR ((i : Int) + 1) = 0 ∨ clR ((i : Int) + 1) = 1) := by rcases mem_cls i hi hz with q | q | q <;> rw [q] <;> decide
    have n2 : ¬ clR ((i : Int) + 1) = 2 := by rcases mem_cls i hi hz with q | q | q <;> rw [q] <;> decide
    have n3 : ¬ clR ((i : Int) + 1) = 3 := by rcases mem_cls i hi hz with q | q | q <;> rw [q] <;> decide
    have n7 : ¬ clR ((i : Int) + 1) = 7 := by rcases mem_cls i hi hz with q | q | q <;> rw [q] <;> decide
    rw [if_neg n0, if_neg n0, if_neg n2, if_neg n2, if_neg n3, if_neg n3, if_neg n7, if_neg n7]
    obtain ⟨x0, x1, x2, x3, x4, x5, x6, hx⟩ := memR_is S word ((i : Int) + 1) rd rs1 imm v held
    rw [hx]
    exact do_mem HD b S cb co n cp f w h hS.pc hc hC hn v held hh' hk i rd rs1 rs2 imm hd word hw hi g3 g4 g5 hS hv _ rfl (by simp; omega) (by simp; omega) (by simpa using n2) (by simpa using n3) (by simpa using n7) hz x0 x1 x2 x3 x4 x5 x6 hx
end Go.Proofs.YtnlagbiikpbjdaaGreatDoor
