/-
  THE ANSWER's HART: the class System, whole.
-/
import Derived.Test.YtnlagbiikpbjdaaGreatDoorHm
namespace Go.Proofs.YtnlagbiikpbjdaaGreatDoor
open Go Go.RowKit
/-- how a control register is written (1: put, 2: set, 3: clear); with which number; is it -/
def sysM (op : Int) : Int := if op = 62 ∨ op = 65 then 1 else if op = 63 ∨ op = 66 then 2 else 3
def sysA (op : Int) (rs1 : Nat) (a : Int) : Int := if 65 ≤ op then (rs1 : Int) else a
def sysW (op : Int) (rs1 : Nat) : Bool := sysM op == 1 || rs1 != 0
/-- control registers: what is told, what is left -/
def HS.csrR (S : HS) (word op : Int) (rd rs1 : Nat) (imm a : Int) : Value :=
  if csrB imm = false ∨ (sysW op rs1 = true ∧ imm / 1024 = 3) then S.trapR word 2 word
  else if sysW op rs1 then (S.setCsr imm (csrNew (sysM op) (S.csrV imm) (sysA op rs1 a))).doneR word rd (S.csrV imm) ((S.pc + 4) % 4294967296)
  else S.doneR word rd (S.csrV imm) ((S.pc + 4) % 4294967296)
def HS.csrS (S : HS) (word op : Int) (rd rs1 : Nat) (imm a : Int) : HS :=
  if csrB imm = false ∨ (sysW op rs1 = true ∧ imm / 1024 = 3) then S.trapped 2 word
  else if sysW op rs1 then (S.setCsr imm (csrNew (sysM op) (S.csrV imm) (sysA op rs1 a))).done rd (rvI rd (S.csrV imm)) ((S.pc + 4) % 4294967296)
  else S.done rd (rvI rd (S.csrV imm)) ((S.pc + 4) % 4294967296)
/-- the class System: what is told, what is left -/
def HS.sysR (S : HS) (word op : Int) (rd rs1 : Nat) (imm a : Int) : Value :=
  if op = 58 then S.trapR word 11 0 else if op = 59 then S.trapR word 3 S.pc else if op = 60 then S.mretS.doneR word 0 0 S.epc
  else if op = 57 ∨ op = 61 then S.doneR word 0 0 ((S.pc + 4) % 4294967296) else S.csrR word op rd rs1 imm a
def HS.sysS (S : HS) (word op : Int) (rd rs1 : Nat) (imm a : Int) : HS :=
  if op = 58 then S.trapped 11 0 else if op = 59 then S.trapped 3 S.pc else if op = 60 then S.mretS.done 0 (rvI 0 0) S.epc
  else if op = 57 ∨ op = 61 then S.done 0 (rvI 0 0) ((S.pc + 4) % 4294967296) else S.csrS word op rd rs1 imm a
theorem csr_62 (b : Nat) (S : HS) (rd rs1 : Nat) (rs2 imm word a : Int) (w : World) (h : RH w b S) (hrd : rd < 32) (_hrs : rs1 < 32) (ha : U32 a) : Calls Tryz.prog 67 #[.pointer (some ⟨b, 0, none⟩), .agg #[.int .i64 62, .int .i64 rd, .int .i64 rs1, .int .i64 rs2, .int .i64 imm], .int .u32 word, .int .u32 a] w fun e w' => e = .returned (S.csrR word 62 rd rs1 imm a) ∧ RH w' b (S.csrS word 62 rd rs1 imm a) ∧ Only b w w' := by
  unfold HS.csrR HS.csrS
  by_cases ht0 : csrB imm = false
  · have hp : csrB imm = false ∨ (sysW 62 rs1 = true ∧ imm / 1024 = 3) := Or.inl ht0
    rw [if_pos hp, if_pos hp]
    exact sys_62_none b S rd rs1 rs2 imm word a w h ht0
  have ht : csrB imm = true := by simpa using ht0
  have hW : sysW 62 rs1 = true := by unfold sysW; rw [show sysM 62 = 1 from rfl]; rfl
  by_cases h10 : imm / 1024 = 3
  · have hp : csrB imm = false ∨ (sysW 62 rs1 = true ∧ imm / 1024 = 3) := Or.inr ⟨hW, h10⟩
    rw [if_pos hp, if_pos hp]
    exact sys_62_ro b S rd rs1 rs2 imm word a w h ht (by simpa using h10)
  · have hp : ¬ (csrB imm = false ∨ (sysW 62 rs1 = true ∧ imm / 1024 = 3)) := fun q => q.elim ht0 (fun r => h10 r.2)
    rw [if_neg hp, if_neg hp, if_pos hW, if_pos hW]
    exact sys_62_put b S rd rs1 rs2 imm word a w h hrd ha _ rfl ht (by simpa using h10)
theorem csr_63 (b : Nat) (S : HS) (rd rs1 : Nat) (rs2 imm word a : Int) (w : World) (h : RH w b S) (hrd : rd < 32) (_hrs : rs1 < 32) (_ha : U32 a) : Calls Tryz.prog 67 #[.pointer (some ⟨b, 0, none⟩), .agg #[.int .i64 63, .int .i64 rd, .int .i64 rs1, .int .i64 rs2, .int .i64 imm], .int .u32 word, .int .u32 a] w fun e w' => e = .returned (S.csrR word 63 rd rs1 imm a) ∧ RH w' b (S.csrS word 63 rd rs1 imm a) ∧ Only b w w' := by
  unfold HS.csrR HS.csrS
  by_cases ht0 : csrB imm = false
  · have hp : csrB imm = false ∨ (sysW 63 rs1 = true ∧ imm / 1024 = 3) := Or.inl ht0
    rw [if_pos hp, if_pos hp]
    exact sys_63_none b S rd rs1 rs2 imm word a w h ht0
  have ht : csrB imm = true := by simpa using ht0
  by_cases h0 : rs1 = 0
  · have hW : ¬ sysW 63 rs1 = true := by unfold sysW; rw [show sysM 63 = 2 from rfl, h0]; decide
    have hp : ¬ (csrB imm = false ∨ (sysW 63 rs1 = true ∧ imm / 1024 = 3)) := fun q => q.elim ht0 (fun r => hW r.1)
    rw [if_neg hp, if_neg hp, if_neg hW, if_neg hW]
    exact sys_63_keep b S rd rs1 rs2 imm word a w h hrd _ rfl ht (by simp [h0])
  have hW : sysW 63 rs1 = true := by unfold sysW; rw [show sysM 63 = 2 from rfl]; simp [h0]
  have hne : ((rs1 : Int) != 0) = true := by simp [h0]
  by_cases h10 : imm / 1024 = 3
  · have hp : csrB imm = false ∨ (sysW 63 rs1 = true ∧ imm / 1024 = 3) := Or.inr ⟨hW, h10⟩
    rw [if_pos hp, if_pos hp]
    exact sys_63_ro b S rd rs1 rs2 imm word a w h ht hne (by simpa using h10)
  · have hp : ¬ (csrB imm = false ∨ (sysW 63 rs1 = true ∧ imm / 1024 = 3)) := fun q => q.elim ht0 (fun r => h10 r.2)
    rw [if_neg hp, if_neg hp, if_pos hW, if_pos hW]
    exact sys_63_put b S rd rs1 rs2 imm word a w h hrd _ rfl ht hne (by simpa using h10)
theorem csr_64 (b : Nat) (S : HS) (rd rs1 : Nat) (rs2 imm word a : Int) (w : World) (h : RH w b S) (hrd : rd < 32) (_hrs : rs1 < 32) (_ha : U32 a) : Calls Tryz.prog 67 #[.pointer (some ⟨b, 0, none⟩), .agg #[.int .i64 64, .int .i64 rd, .int .i64 rs1, .int .i64 rs2, .int .i64 imm], .int .u32 word, .int .u32 a] w fun e w' => e = .returned (S.csrR word 64 rd rs1 imm a) ∧ RH w' b (S.csrS word 64 rd rs1 imm a) ∧ Only b w w' := by
  unfold HS.csrR HS.csrS
  by_cases ht0 : csrB imm = false
  · have hp : csrB imm = false ∨ (sysW 64 rs1 = true ∧ imm / 1024 = 3) := Or.inl ht0
    rw [if_pos hp, if_pos hp]
    exact sys_64_none b S rd rs1 rs2 imm word a w h ht0
  have ht : csrB imm = true := by simpa using ht0
  by_cases h0 : rs1 = 0
  · have hW : ¬ sysW 64 rs1 = true := by unfold sysW; rw [show sysM 64 = 3 from rfl, h0]; decide
    have hp : ¬ (csrB imm = false ∨ (sysW 64 rs1 = true ∧ imm / 1024 = 3)) := fun q => q.elim ht0 (fun r => hW r.1)
    rw [if_neg hp, if_neg hp, if_neg hW, if_neg hW]
    exact sys_64_keep b S rd rs1 rs2 imm word a w h hrd _ rfl ht (by simp [h0])
  have hW : sysW 64 rs1 = true := by unfold sysW; rw [show sysM 64 = 3 from rfl]; simp [h0]
  have hne : ((rs1 : Int) != 0) = true := by simp [h0]
  by_cases h10 : imm / 1024 = 3
  · have hp : csrB imm = false ∨ (sysW 64 rs1 = true ∧ imm / 1024 = 3) := Or.inr ⟨hW, h10⟩
    rw [if_pos hp, if_pos hp]
    exact sys_64_ro b S rd rs1 rs2 imm word a w h ht hne (by simpa using h10)
  · have hp : ¬ (csrB imm = false ∨ (sysW 64 rs1 = true ∧ imm / 1024 = 3)) := fun q => q.elim ht0 (fun r => h10 r.2)
    rw [if_neg hp, if_neg hp, if_pos hW, if_pos hW]
    exact sys_64_put b S rd rs1 rs2 imm word a w h hrd _ rfl ht hne (by simpa using h10)
theorem csr_65 (b : Nat) (S : HS) (rd rs1 : Nat) (rs2 imm word a : Int) (w : World) (h : RH w b S) (hrd : rd < 32) (hrs : rs1 < 32) (_ha : U32 a) : Calls Tryz.prog 67 #[.pointer (some ⟨b, 0, none⟩), .agg #[.int .i64 65, .int .i64 rd, .int .i64 rs1, .int .i64 rs2, .int .i64 imm], .int .u32 word, .int .u32 a] w fun e w' => e = .returned (S.csrR word 65 rd rs1 imm a) ∧ RH w' b (S.csrS word 65 rd rs1 imm a) ∧ Only b w w' := by
  unfold HS.csrR HS.csrS
  by_cases ht0 : csrB imm = false
  · have hp : csrB imm = false ∨ (sysW 65 rs1 = true ∧ imm / 1024 = 3) := Or.inl ht0
    rw [if_pos hp, if_pos hp]
    exact sys_65_none b S rd rs1 rs2 imm word a w h ht0
  have ht : csrB imm = true := by simpa using ht0
  have hW : sysW 65 rs1 = true := by unfold sysW; rw [show sysM 65 = 1 from rfl]; rfl
  by_cases h10 : imm / 1024 = 3
  · have hp : csrB imm = false ∨ (sysW 65 rs1 = true ∧ imm / 1024 = 3) := Or.inr ⟨hW, h10⟩
    rw [if_pos hp, if_pos hp]
    exact sys_65_ro b S rd rs1 rs2 imm word a w h ht (by simpa using h10)
  · have hp : ¬ (csrB imm = false ∨ (sysW 65 rs1 = true ∧ imm / 1024 = 3)) := fun q => q.elim ht0 (fun r => h10 r.2)
    rw [if_neg hp, if_neg hp, if_pos hW, if_pos hW]
    exact sys_65_put b S rd rs1 rs2 imm word a w h hrd hrs _ rfl ht (by simpa using h10)
theorem csr_66 (b : Nat) (S : HS) (rd rs1 : Nat) (rs2 imm word a : Int) (w : World) (h : RH w b S) (hrd : rd < 32) (hrs : rs1 < 32) (_ha : U32 a) : Calls Tryz.prog 67 #[.pointer (some ⟨b, 0, none⟩), .agg #[.int .i64 66, .int .i64 rd, .int .i64 rs1, .int .i64 rs2, .int .i64 imm], .int .u32 word, .int .u32 a] w fun e w' => e = .returned (S.csrR word 66 rd rs1 imm a) ∧ RH w' b (S.csrS word 66 rd rs1 imm a) ∧ Only b w w' := by
  unfold HS.csrR HS.csrS
  by_cases ht0 : csrB imm = false
  · have hp : csrB imm = false ∨ (sysW 66 rs1 = true ∧ imm / 1024 = 3) := Or.inl ht0
    rw [if_pos hp, if_pos hp]
    exact sys_66_none b S rd rs1 rs2 imm word a w h ht0
  have ht : csrB imm = true := by simpa using ht0
  by_cases h0 : rs1 = 0
  · have hW : ¬ sysW 66 rs1 = true := by unfold sysW; rw [show sysM 66 = 2 from rfl, h0]; decide
    have hp : ¬ (csrB imm = false ∨ (sysW 66 rs1 = true ∧ imm / 1024 = 3)) := fun q => q.elim ht0 (fun r => hW r.1)
    rw [if_neg hp, if_neg hp, if_neg hW, if_neg hW]
    exact sys_66_keep b S rd rs1 rs2 imm word a w h hrd _ rfl ht (by simp [h0])
  have hW : sysW 66 rs1 = true := by unfold sysW; rw [show sysM 66 = 2 from rfl]; simp [h0]
  have hne : ((rs1 : Int) != 0) = true := by simp [h0]
  by_cases h10 : imm / 1024 = 3
  · have hp : csrB imm = false ∨ (sysW 66 rs1 = true ∧ imm / 1024 = 3) := Or.inr ⟨hW, h10⟩
    rw [if_pos hp, if_pos hp]
    exact sys_66_ro b S rd rs1 rs2 imm word a w h ht hne (by simpa using h10)
  · have hp : ¬ (csrB imm = false ∨ (sysW 66 rs1 = true ∧ imm / 1024 = 3)) := fun q => q.elim ht0 (fun r => h10 r.2)
    rw [if_neg hp, if_neg hp, if_pos hW, if_pos hW]
    exact sys_66_put b S rd rs1 rs2 imm word a w h hrd hrs _ rfl ht hne (by simpa using h10)
theorem csr_67 (b : Nat) (S : HS) (rd rs1 : Nat) (rs2 imm word a : Int) (w : World) (h : RH w b S) (hrd : rd < 32) (hrs : rs1 < 32) (_ha : U32 a) : Calls Tryz.prog 67 #[.pointer (some ⟨b, 0, none⟩), .agg #[.int .i64 67, .int .i64 rd, .int .i64 rs1, .int .i64 rs2, .int .i64 imm], .int .u32 word, .int .u32 a] w fun e w' => e = .returned (S.csrR word 67 rd rs1 imm a) ∧ RH w' b (S.csrS word 67 rd rs1 imm a) ∧ Only b w w' := by
  unfold HS.csrR HS.csrS
  by_cases ht0 : csrB imm = false
  · have hp : csrB imm = false ∨ (sysW 67 rs1 = true ∧ imm / 1024 = 3) := Or.inl ht0
    rw [if_pos hp, if_pos hp]
    exact sys_67_none b S rd rs1 rs2 imm word a w h ht0
  have ht : csrB imm = true := by simpa using ht0
  by_cases h0 : rs1 = 0
  · have hW : ¬ sysW 67 rs1 = true := by unfold sysW; rw [show sysM 67 = 3 from rfl, h0]; decide
    have hp : ¬ (csrB imm = false ∨ (sysW 67 rs1 = true ∧ imm / 1024 = 3)) := fun q => q.elim ht0 (fun r => hW r.1)
    rw [if_neg hp, if_neg hp, if_neg hW, if_neg hW]
    exact sys_67_keep b S rd rs1 rs2 imm word a w h hrd _ rfl ht (by simp [h0])
  have hW : sysW 67 rs1 = true := by unfold sysW; rw [show sysM 67 = 3 from rfl]; simp [h0]
  have hne : ((rs1 : Int) != 0) = true := by simp [h0]
  by_cases h10 : imm / 1024 = 3
  · have hp : csrB imm = false ∨ (sysW 67 rs1 = true ∧ imm / 1024 = 3) := Or.inr ⟨hW, h10⟩
    rw [if_pos hp, if_pos hp]
    exact sys_67_ro b S rd rs1 rs2 imm word a w h ht hne (by simpa using h10)
  · have hp : ¬ (csrB imm = false ∨ (sysW 67 rs1 = true ∧ imm / 1024 = 3)) := fun q => q.elim ht0 (fun r => h10 r.2)
    rw [if_neg hp, if_neg hp, if_pos hW, if_pos hW]
    exact sys_67_put b S rd rs1 rs2 imm word a w h hrd hrs _ rfl ht hne (by simpa using h10)
theorem system_any (b : Nat) (S : HS) (op : Nat) (rd rs1 : Nat) (rs2 imm word a : Int) (w : World) (h : RH w b S) (h1 : 57 ≤ op) (h2 : op ≤ 67) (hrd : rd < 32) (hrs : rs1 < 32) (ha : U32 a) : Calls Tryz.prog 67 #[.pointer (some ⟨b, 0, none⟩), .agg #[.int .i64 op, .int .i64 rd, .int .i64 rs1, .int .i64 rs2, .int .i64 imm], .int .u32 word, .int .u32 a] w fun e w' => e = .returned (S.sysR word op rd rs1 imm a) ∧ RH w' b (S.sysS word op rd rs1 imm a) ∧ Only b w w' := by
  have hm : op = 57 ∨ op = 58 ∨ op = 59 ∨ op = 60 ∨ op = 61 ∨ op = 62 ∨ op = 63 ∨ op = 64 ∨ op = 65 ∨ op = 66 ∨ op = 67 := by omega
  rcases hm with rfl | rfl | rfl | rfl | rfl | rfl | rfl | rfl | rfl | rfl | rfl
  · exact sys_57 b S rd rs1 rs2 imm word a w h
  · exact sys_58 b S rd rs1 rs2 imm word a w h
  · exact sys_59 b S rd rs1 rs2 imm word a w h
  · exact sys_60 b S rd rs1 rs2 imm word a w h
  · exact sys_61 b S rd rs1 rs2 imm word a w h
  · exact csr_62 b S rd rs1 rs2 imm word a w h hrd hrs ha
  · exact csr_63 b S rd rs1 rs2 imm word a w h hrd hrs ha
  · exact csr_64 b S rd rs1 rs2 imm word a w h hrd hrs ha
  · exact csr_65 b S rd rs1 rs2 imm word a w h hrd hrs ha
  · exact csr_66 b S rd rs1 rs2 imm word a w h hrd hrs ha
  · exact csr_67 b S rd rs1 rs2 imm word a w h hrd hrs ha
end Go.Proofs.YtnlagbiikpbjdaaGreatDoor
