/-
  A HART's NUMBERS FIT, AND GO ON TO.
-/
import Derived.Test.YtnlagbiikpbjdaaGreatDoorHq
namespace Go.Proofs.YtnlagbiikpbjdaaGreatDoor
open Go Go.RowKit
theorem u32_mod (x : Int) : U32 (x % 4294967296) := ⟨Int.emod_nonneg _ (by decide), Int.emod_lt_of_pos _ (by decide)⟩
theorem u32_zero : U32 0 := by decide
theorem u32_div (a b : Int) (ha : U32 a) (hb : 0 ≤ b) : U32 (a / b) := by
  have h1 : (0 : Int) ≤ a / b := Int.ediv_nonneg ha.1 hb
  have h2 : a / b ≤ a := Int.ediv_le_self _ ha.1
  exact ⟨h1, Int.lt_of_le_of_lt h2 ha.2⟩
theorem u32_emod (a b : Int) (ha : U32 a) (hb : 0 < b) : U32 (a % b) := by
  have h1 := Int.emod_nonneg a (by omega : b ≠ 0)
  exact ⟨h1, by
    have h3 : a % b ≤ a := by
      have := Int.mul_ediv_add_emod a b
      have h4 : 0 ≤ b * (a / b) := Int.mul_nonneg (by omega) (Int.ediv_nonneg ha.1 (by omega))
      omega
    exact Int.lt_of_le_of_lt h3 ha.2⟩
theorem u32_bit (b : Bool) : U32 (bitI b) := by cases b <;> decide
theorem exN_u32 (k : Nat) (a b : Int) (ha : U32 a) (hb : U32 b) : U32 (exN k a b) := by
  unfold exN
  split
  all_goals first
    | exact u32_mod _
    | exact u32_bit _
    | exact u32_bits _ _ _
    | exact u32_zero
    | exact u32_div _ _ ha (Int.pow_nonneg (by decide))
    | (split
       · first | exact ha | decide
       · first | exact u32_mod _ | exact u32_div _ _ ha hb.1 | exact u32_emod _ _ ha (by have := hb.1; omega))
theorem exI_u32 (op a b : Int) (ha : U32 a) (hb : U32 b) : U32 (exI op a b) := by
  unfold exI
  split
  · exact exN_u32 _ _ _ ha hb
  · exact u32_zero
theorem wdI_u32 (op r : Int) (hr : U32 r) : U32 (wdI op r) := by
  unfold wdI
  split
  · unfold wdN
    split
    all_goals first
      | exact u32_mod _
      | exact hr
      | exact u32_zero
      | exact u32_emod _ _ hr (by decide)
  · exact u32_zero
/-- all of a hart's numbers fit -/
structure HS.Fit (S : HS) : Prop where
  ok : S.Ok
  zero : S.regs 0 = 0
  status : U32 S.status
  enable : U32 S.enable
  vector : U32 S.vector
  scratch : U32 S.scratch
  epc : U32 S.epc
  cause : U32 S.cause
  tval : U32 S.tval
theorem Fit.done {S : HS} (h : S.Fit) (r : Nat) (v next : Int) (hv : U32 v) (hn : U32 next) : (S.done r (rvI r v) next).Fit := by
  refine ⟨⟨hn, fun i hi => ?_, h.ok.size⟩, ?_, h.status, h.enable, h.vector, h.scratch, h.epc, h.cause, h.tval⟩
  · show U32 (if i = r then rvI r v else S.regs i)
    split
    · unfold rvI
      split
      · exact u32_zero
      · exact hv
    · exact h.ok.regs i hi
  · show (if 0 = r then rvI r v else S.regs 0) = 0
    split
    · rename_i e
      rw [← e]
      rfl
    · exact h.zero
theorem Fit.trapped {S : HS} (h : S.Fit) (cause tval : Int) (ht : U32 tval) : (S.trapped cause tval).Fit := by
  unfold HS.trapped
  split
  · exact ⟨⟨h.ok.pc, h.ok.regs, h.ok.size⟩, h.zero, h.status, h.enable, h.vector, h.scratch, h.epc, h.cause, h.tval⟩
  · exact ⟨⟨h.vector, h.ok.regs, h.ok.size⟩, h.zero, u32_mod _, h.enable, h.vector, h.scratch, h.ok.pc, u32_mod _, ht⟩
theorem Fit.jumped {S : HS} (h : S.Fit) (r : Nat) (to : Int) (ht : U32 to) : (S.jumped r to).Fit := by
  unfold HS.jumped
  split
  · exact Fit.done h r _ _ (u32_mod _) ht
  · exact Fit.trapped h 0 to ht
theorem Fit.csrV {S : HS} (h : S.Fit) (n : Int) : U32 (S.csrV n) := by
  unfold HS.csrV
  repeat' split
  all_goals first | exact h.status | exact h.enable | exact h.vector | exact h.scratch | exact h.epc | exact h.cause | exact h.tval | exact u32_mod _ | exact u32_zero
theorem u32_four (v : Int) (hv : U32 v) : U32 (v - v % 4) := by have := hv.1; have := hv.2; exact ⟨by omega, by omega⟩
theorem Fit.setCsr {S : HS} (h : S.Fit) (n v : Int) (hv : U32 v) : (S.setCsr n v).Fit := by
  unfold HS.setCsr
  repeat' split
  · exact ⟨⟨h.ok.pc, h.ok.regs, h.ok.size⟩, h.zero, u32_bits .and v 136, h.enable, h.vector, h.scratch, h.epc, h.cause, h.tval⟩
  · exact ⟨⟨h.ok.pc, h.ok.regs, h.ok.size⟩, h.zero, h.status, u32_bits .and v 2048, h.vector, h.scratch, h.epc, h.cause, h.tval⟩
  · exact ⟨⟨h.ok.pc, h.ok.regs, h.ok.size⟩, h.zero, h.status, h.enable, u32_four v hv, h.scratch, h.epc, h.cause, h.tval⟩
  · exact ⟨⟨h.ok.pc, h.ok.regs, h.ok.size⟩, h.zero, h.status, h.enable, h.vector, hv, h.epc, h.cause, h.tval⟩
  · exact ⟨⟨h.ok.pc, h.ok.regs, h.ok.size⟩, h.zero, h.status, h.enable, h.vector, h.scratch, u32_four v hv, h.cause, h.tval⟩
  · exact ⟨⟨h.ok.pc, h.ok.regs, h.ok.size⟩, h.zero, h.status, h.enable, h.vector, h.scratch, h.epc, hv, h.tval⟩
  · exact ⟨⟨h.ok.pc, h.ok.regs, h.ok.size⟩, h.zero, h.status, h.enable, h.vector, h.scratch, h.epc, h.cause, hv⟩
  · exact h
theorem Fit.mret {S : HS} (h : S.Fit) : S.mretS.Fit := ⟨⟨h.ok.pc, h.ok.regs, h.ok.size⟩, h.zero, u32_bits .or (bits .and .u32 (S.status / 16) 8) 128, h.enable, h.vector, h.scratch, h.epc, h.cause, h.tval⟩
theorem Fit.csr {S : HS} (h : S.Fit) (word op : Int) (rd rs1 : Nat) (imm a : Int) (hw : U32 word) (hr : rs1 < 32) (ha : U32 a) : (S.csrS word op rd rs1 imm a).Fit := by
  have hA : U32 (sysA op rs1 a) := by
    unfold sysA
    split
    · exact ⟨by omega, by omega⟩
    · exact ha
  have hN : U32 (csrNew (sysM op) (S.csrV imm) (sysA op rs1 a)) := by
    unfold csrNew
    repeat' split
    all_goals first | exact u32_bits _ _ _ | exact hA
  unfold HS.csrS
  repeat' split
  · exact Fit.trapped h _ _ hw
  · exact Fit.done (Fit.setCsr h _ _ hN) _ _ _ (Fit.csrV h _) (u32_mod _)
  · exact Fit.done h _ _ _ (Fit.csrV h _) (u32_mod _)
theorem Fit.sys {S : HS} (h : S.Fit) (word op : Int) (rd rs1 : Nat) (imm a : Int) (hw : U32 word) (hr : rs1 < 32) (ha : U32 a) : (S.sysS word op rd rs1 imm a).Fit := by
  unfold HS.sysS
  repeat' split
  · exact Fit.trapped h _ _ u32_zero
  · exact Fit.trapped h _ _ h.ok.pc
  · exact Fit.done (Fit.mret h) 0 0 _ u32_zero h.epc
  · exact Fit.done h 0 0 _ u32_zero (u32_mod _)
  · exact Fit.csr h word op rd rs1 imm a hw hr ha
theorem Fit.mem {S : HS} (h : S.Fit) (op : Int) (rd rs1 : Nat) (imm v : Int) (held : Bool) (hr : rs1 < 32) (hv : U32 v) : (S.memS op rd rs1 imm v held).Fit := by
  have hV : U32 (memV op v held) := by
    unfold memV
    split
    · cases held <;> decide
    · exact wdI_u32 op v hv
  unfold HS.memS
  repeat' split
  · exact Fit.done h 0 0 _ u32_zero (u32_mod _)
  · exact Fit.done h rd _ _ hV (u32_mod _)
  · exact Fit.trapped h _ _ (whereI_u32 h.ok _ _ _ hr)
theorem compI_u32 {S : HS} (h : S.Ok) (op imm a b : Int) (ha : U32 a) (hb : U32 b) : U32 (S.compI op imm a b) := by
  unfold HS.compI
  repeat' split
  · exact exI_u32 _ _ _ h.pc (u32_mod _)
  · exact exI_u32 _ _ _ ha (u32_mod _)
  · exact exI_u32 _ _ _ ha hb
theorem Fit.instr {S : HS} (h : S.Fit) (d : Dec) (word v : Int) (held : Bool) (n : Nat) (hk : S.pc / 4 < n) (hn : n ≤ 4096) (hw : U32 word) (hv : U32 v) (h1 : d.rs1 < 32) (h2 : d.rs2 < 32) : (S.instrS d word v held).Fit := by
  have hp : U32 (S.pc + 4) := by have := h.ok.pc.1; exact ⟨by omega, by omega⟩
  have hj : U32 (S.jumpTo d) := by
    unfold HS.jumpTo
    split
    · obtain ⟨z1, z2⟩ := u32_mod (S.regs d.rs1 + d.imm)
      exact ⟨by omega, by omega⟩
    · exact u32_mod _
  unfold HS.instrS
  repeat' split
  · exact Fit.done h _ _ _ (compI_u32 h.ok _ _ _ _ (h.ok.regs _ h1) (h.ok.regs _ h2)) hp
  · exact Fit.jumped h _ _ (u32_mod _)
  · exact Fit.done h 0 0 _ u32_zero hp
  · exact Fit.jumped h _ _ hj
  · exact Fit.sys h _ _ _ _ _ _ hw h1 (h.ok.regs _ h1)
  · exact Fit.mem h _ _ _ _ _ _ h1 hv
theorem Fit.doS {S : HS} (h : S.Fit) {D : Int → Dec} (HD : DecOk D) (n : Nat) (f : Nat → Int) (v : Int) (held : Bool) (hf : ∀ i, i < n → U32 (f i)) (hn : n ≤ 4096) (hv : U32 v) : (S.doS D n f v held).Fit := by
  have hw : U32 (S.fetchW n f) := by
    unfold HS.fetchW
    split
    · exact hf _ (by have := h.ok.pc.1; omega)
    · exact u32_zero
  have hg := fetch_good HD S n f hf h.ok.pc
  unfold HS.doS
  repeat' split
  · exact h
  · rename_i hk hok
    exact Fit.instr h _ _ _ _ n hk hn hw hv (hg hok).2.2.2.1 (hg hok).2.2.2.2
  · exact Fit.trapped h _ _ hw
  · exact Fit.trapped h _ _ h.ok.pc
/-- what no instruction turns -/
def HS.Kept (S T : HS) : Prop := T.code = S.code ∧ T.size = S.size ∧ T.num = S.num
theorem kept_trapped (S : HS) (c t : Int) : S.Kept (S.trapped c t) := by
  unfold HS.trapped
  split
  · exact ⟨rfl, rfl, rfl⟩
  · exact ⟨rfl, rfl, rfl⟩
theorem kept_done (S : HS) (r : Nat) (v next : Int) : S.Kept (S.done r v next) := ⟨rfl, rfl, rfl⟩
theorem kept_set (S : HS) (n v : Int) : S.Kept (S.setCsr n v) := by
  unfold HS.setCsr
  repeat' split
  all_goals exact ⟨rfl, rfl, rfl⟩
theorem Kept.trans {S T U : HS} (h : S.Kept T) (k : T.Kept U) : S.Kept U := ⟨k.1.trans h.1, k.2.1.trans h.2.1, k.2.2.trans h.2.2⟩
theorem kept_jumped (S : HS) (r : Nat) (to : Int) : S.Kept (S.jumped r to) := by
  unfold HS.jumped
  split
  · exact kept_done _ _ _ _
  · exact kept_trapped _ _ _
theorem kept_csr (S : HS) (word op : Int) (rd rs1 : Nat) (imm a : Int) : S.Kept (S.csrS word op rd rs1 imm a) := by
  unfold HS.csrS
  split
  · exact kept_trapped _ _ _
  · split
    · exact Kept.trans (kept_set _ _ _) (kept_done _ _ _ _)
    · exact kept_done _ _ _ _
theorem kept_sys (S : HS) (word op : Int) (rd rs1 : Nat) (imm a : Int) : S.Kept (S.sysS word op rd rs1 imm a) := by
  unfold HS.sysS
  split
  · exact kept_trapped _ _ _
  · split
    · exact kept_trapped _ _ _
    · split
      · exact ⟨rfl, rfl, rfl⟩
      · split
        · exact kept_done _ _ _ _
        · exact kept_csr _ _ _ _ _ _ _
theorem kept_mem (S : HS) (op : Int) (rd rs1 : Nat) (imm v : Int) (held : Bool) : S.Kept (S.memS op rd rs1 imm v held) := by
  unfold HS.memS
  split
  · split
    · exact kept_done _ _ _ _
    · exact kept_done _ _ _ _
  · exact kept_trapped _ _ _
theorem kept_instr (S : HS) (d : Dec) (word v : Int) (held : Bool) : S.Kept (S.instrS d word v held) := by
  unfold HS.instrS
  split
  · exact kept_done _ _ _ _
  · split
    · split
      · exact kept_jumped _ _ _
      · exact kept_done _ _ _ _
    · split
      · exact kept_jumped _ _ _
      · split
        · exact kept_sys _ _ _ _ _ _ _
        · exact kept_mem _ _ _ _ _ _ _
theorem kept_doS (S : HS) (D : Int → Dec) (n : Nat) (f : Nat → Int) (v : Int) (held : Bool) : S.Kept (S.doS D n f v held) := by
  unfold HS.doS
  split
  · exact ⟨rfl, rfl, rfl⟩
  · split
    · split
      · exact kept_instr _ _ _ _ _
      · exact kept_trapped _ _ _
    · exact kept_trapped _ _ _
end Go.Proofs.YtnlagbiikpbjdaaGreatDoor
