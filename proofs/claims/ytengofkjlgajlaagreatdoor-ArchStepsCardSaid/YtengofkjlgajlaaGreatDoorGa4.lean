import Derived.Test.YtengofkjlgajlaaGreatDoorGh7
import Derived.Test.YtengofkjlgajlaaGreatDoorGx9
import Derived.Test.YtengofkjlgajlaaGreatDoorGa3
import Derived.Test.YtengofkjlgajlaaGreatDoorGx6
import Derived.Deep.MidRow
/-
  AN INSTRUCTION CHANGES ITS REGISTER ALONE: plainly.
-/
namespace Go.Proofs.YtengofkjlgajlaaGreatDoor
open Go Go.RowKit
def exc (word : Int) : Prop := word % 128 = 111 ∨ word % 128 = 103 ∨ word % 128 = 99 ∨ word % 128 = 115
/-- what the law asks of what is told, and of what is left -/
def Told1 (S S' : HS) (R : Value) : Prop := ∃ (word val cause tval : Int) (r : Nat), R = .agg #[.int .u32 S.pc, .int .u32 word, .int .i64 r, .int .u32 val, .int .i64 cause, .int .u32 tval, .int .u32 S'.pc] ∧ r < 32 ∧ (r = 0 → val = 0) ∧ (cause ≠ -1 → r = 0) ∧ (∀ i, i < 32 → S'.regs i = if i = r then val else S.regs i) ∧ (cause = -1 → exc word ∨ S'.pc = (S.pc + 4) % 4294967296) ∧ U32 word
theorem told_trap {S : HS} (hz : S.regs 0 = 0) (word c t : Int) (hc : c ≠ -1) (hw : U32 word) : Told1 S (S.trapped c t) (S.trapR word c t) := by
  have hpc : (S.trapped c t).pc = S.trapTo := by
    unfold HS.trapped HS.trapTo
    split <;> rfl
  have hre : (S.trapped c t).regs = S.regs := by
    unfold HS.trapped
    split <;> rfl
  refine ⟨word, 0, c, t, 0, ?_, by decide, fun _ => rfl, fun _ => rfl, fun i _ => ?_, fun e => absurd e hc, hw⟩
  · rw [hpc]
    rfl
  · rw [hre]
    split
    · subst i; exact hz
    · rfl
theorem told_done {S T : HS} (hpc : T.pc = S.pc) (hre : T.regs = S.regs) (word : Int) (r : Nat) (v next : Int) (hr : r < 32) (hx : exc word ∨ next = (S.pc + 4) % 4294967296) (hw : U32 word) : Told1 S (T.done r (rvI r v) next) (T.doneR word r v next) := by
  refine ⟨word, rvI r v, -1, 0, r, ?_, hr, fun e => by subst e; rfl, fun e => absurd rfl e, fun i _ => ?_, fun _ => hx, hw⟩
  · unfold HS.doneR
    rw [hpc]
    rfl
  · show (if i = r then rvI r v else T.regs i) = _
    rw [hre]
theorem told_jump {S : HS} (hz : S.regs 0 = 0) (word : Int) (r : Nat) (t : Int) (hr : r < 32) (hx : exc word) (hw : U32 word) : Told1 S (S.jumped r t) (S.jumpR word r t) := by
  unfold HS.jumped HS.jumpR
  by_cases h : t % 4 = 0
  · rw [if_pos h, if_pos h]
    exact told_done rfl rfl word r _ t hr (Or.inl hx) hw
  · rw [if_neg h, if_neg h]
    exact told_trap hz word 0 t (by decide) hw
theorem csr_same (S : HS) (n v : Int) : (S.setCsr n v).pc = S.pc ∧ (S.setCsr n v).regs = S.regs := by
  unfold HS.setCsr
  repeat' split
  all_goals exact ⟨rfl, rfl⟩
theorem told_sys {S : HS} (hz : S.regs 0 = 0) (word op : Int) (rd rs1 : Nat) (imm a : Int) (hr : rd < 32) (hx : exc word ∨ op = 57 ∨ op = 61) (hw : U32 word) : Told1 S (S.sysS word op rd rs1 imm a) (S.sysR word op rd rs1 imm a) := by
  unfold HS.sysS HS.sysR
  by_cases h1 : op = 58
  · rw [if_pos h1, if_pos h1]
    exact told_trap hz _ _ _ (by decide) hw
  rw [if_neg h1, if_neg h1]
  by_cases h2 : op = 59
  · rw [if_pos h2, if_pos h2]
    exact told_trap hz _ _ _ (by decide) hw
  rw [if_neg h2, if_neg h2]
  by_cases h3 : op = 60
  · rw [if_pos h3, if_pos h3]
    exact told_done rfl rfl word 0 0 _ (by decide) (Or.inl (by rcases hx with q | q | q; exact q; omega; omega)) hw
  rw [if_neg h3, if_neg h3]
  by_cases h4 : op = 57 ∨ op = 61
  · rw [if_pos h4, if_pos h4]
    exact told_done rfl rfl word 0 0 _ (by decide) (Or.inr rfl) hw
  rw [if_neg h4, if_neg h4]
  unfold HS.csrS HS.csrR
  by_cases h5 : csrB imm = false ∨ (sysW op rs1 = true ∧ imm / 1024 = 3)
  · rw [if_pos h5, if_pos h5]
    exact told_trap hz _ _ _ (by decide) hw
  rw [if_neg h5, if_neg h5]
  split
  · exact told_done (csr_same S _ _).1 (csr_same S _ _).2 word rd _ _ hr (Or.inr rfl) hw
  · exact told_done rfl rfl word rd _ _ hr (Or.inr rfl) hw
theorem told_mem {S : HS} (hz : S.regs 0 = 0) (word op : Int) (rd rs1 : Nat) (imm v : Int) (held : Bool) (hr : rd < 32) (hw : U32 word) : Told1 S (S.memS op rd rs1 imm v held) (S.memR word op rd rs1 imm v held) := by
  unfold HS.memS HS.memR
  by_cases h1 : S.faultI op (S.whereI op rs1 imm) = -1
  · rw [if_pos h1, if_pos h1]
    split
    · exact told_done rfl rfl word 0 0 _ (by decide) (Or.inr rfl) hw
    · exact told_done rfl rfl word rd _ _ hr (Or.inr rfl) hw
  · rw [if_neg h1, if_neg h1]
    exact told_trap hz _ _ _ h1 hw
/-- the opcode of what is decoded -/
theorem opc_all : ∀ k, k < 68 → 1 ≤ k → maskN k % 128 = 127 ∧ (clR (k : Int) = 2 → wantN k % 128 = 99) ∧ (clR (k : Int) = 3 → wantN k % 128 = 111 ∨ wantN k % 128 = 103) ∧ (clR (k : Int) = 7 → wantN k % 128 = 115 ∨ k = 57 ∨ k = 61) := by decide +kernel
theorem opc_of (k x : Nat) (hk : k < 68) (h1 : 1 ≤ k) (h : matchB k x = true) : x % 128 = wantN k % 128 := by
  unfold matchB at h
  have h := beq_iff_eq.1 h
  have e := (opc_all k hk h1).1
  rw [← h, show (128 : Nat) = 2 ^ 7 from rfl, Nat.and_mod_two_pow, show (2 : Nat) ^ 7 = 128 from rfl, e, show (127 : Nat) = 2 ^ 7 - 1 from rfl, Nat.and_two_pow_sub_one_eq_mod]
  omega
theorem told_instr {S : HS} (hz : S.regs 0 = 0) (x : Int) (hx : U32 x) (hok : (decD x).ok = true) (hpc : 0 ≤ S.pc ∧ S.pc < 16384) (v : Int) (held : Bool) : Told1 S (S.instrS (decD x) x v held) (S.instrR (decD x) x v held) := by
  unfold U32 at hx
  cases hk : decK x.toNat with
  | none =>
    unfold decD at hok
    rw [hk] at hok
    cases hok
  | some i =>
    obtain ⟨hi, hm⟩ := decK_some _ _ hk
    have hd : decD x = ⟨i + 1, (rdI (fmtAt (i + 1)) x.toNat).toNat, (rs1I (fmtAt (i + 1)) x.toNat).toNat, (rs2I (fmtAt (i + 1)) x.toNat).toNat, immI (fmtAt (i + 1)) x.toNat, true⟩ := by
      unfold decD
      rw [hk]
    have hop : (decD x).op = i + 1 := by rw [hd]
    have hrd : (decD x).rd < 32 := (decD_good x hok).2.2.1
    have hw := opc_of (i + 1) x.toNat (by omega) (by omega) hm
    obtain ⟨-, o2, o3, o7⟩ := opc_all (i + 1) (by omega) (by omega)
    rw [← hw] at o2 o3 o7
    rw [← hop] at o2 o3 o7
    have hxm : (x.toNat % 128 : Nat) = x % 128 := by omega
    generalize decD x = d at *
    unfold HS.instrS HS.instrR
    by_cases h1 : clR d.op = 0 ∨ clR d.op = 1
    · rw [if_pos h1, if_pos h1]
      exact told_done rfl rfl x d.rd _ _ hrd (Or.inr (by omega)) hx
    rw [if_neg h1, if_neg h1]
    by_cases h2 : clR d.op = 2
    · rw [if_pos h2, if_pos h2]
      have := o2 h2
      have he : exc x := by unfold exc; omega
      split
      · exact told_jump hz x 0 _ (by decide) he hx
      · exact told_done rfl rfl x 0 0 _ (by decide) (Or.inl he) hx
    rw [if_neg h2, if_neg h2]
    by_cases h3 : clR d.op = 3
    · rw [if_pos h3, if_pos h3]
      have := o3 h3
      exact told_jump hz x _ _ hrd (by unfold exc; omega) hx
    rw [if_neg h3, if_neg h3]
    by_cases h7 : clR d.op = 7
    · rw [if_pos h7, if_pos h7]
      have := o7 h7
      exact told_sys hz x _ _ _ _ _ hrd (by unfold exc; omega) hx
    rw [if_neg h7, if_neg h7]
    exact told_mem hz x _ _ _ _ _ _ hrd hx
theorem told_do {S : HS} (hF : S.Fit) (n : Nat) (f : Nat → Int) (hn : n ≤ 4096) (hf : ∀ i, i < n → U32 (f i)) (v : Int) (held : Bool) (hh : S.halted = false) : Told1 S (S.doS decD n f v held) (S.doR decD n f v held) := by
  have hp := hF.ok.pc
  unfold U32 at hp
  unfold HS.doS HS.doR
  rw [hh]
  simp only [Bool.false_eq_true, if_false]
  by_cases h1 : S.pc / 4 < n
  · rw [if_pos h1, if_pos h1]
    have hw : S.fetchW n f = f (S.pc / 4).toNat := if_pos h1
    have hD : S.fetchD decD n f = decD (f (S.pc / 4).toNat) := if_pos h1
    have hu := hf (S.pc / 4).toNat (by omega)
    rw [hw, hD]
    split
    · rename_i hok
      exact told_instr hF.zero _ hu hok (by omega) v held
    · exact told_trap hF.zero _ _ _ (by decide) hu
  · rw [if_neg h1, if_neg h1]
    exact told_trap hF.zero _ _ _ (by decide) (by unfold U32; omega)
end Go.Proofs.YtengofkjlgajlaaGreatDoor
/-
  THE MACHINE: a step.
-/
namespace Go.Proofs.YtengofkjlgajlaaGreatDoor
open Go Go.RowKit
theorem results_ret2 {fn : Func} {p u : Tmp} (h : fn.results = #[.cell p 41, .tmp u]) (tmps : Array Value) (w : World) (g : Nat) (x0 x1 x2 x3 x4 x5 x6 t : Value) (hp : tmps.getD p undef = .pointer (some ⟨g, 0, none⟩)) (ht : tmps.getD u undef = t) (h0 : w.cell? ⟨g, 0, none⟩ = some x0) (h1 : w.cell? ⟨g, 1, none⟩ = some x1) (h2 : w.cell? ⟨g, 2, none⟩ = some x2) (h3 : w.cell? ⟨g, 3, none⟩ = some x3) (h4 : w.cell? ⟨g, 4, none⟩ = some x4) (h5 : w.cell? ⟨g, 5, none⟩ = some x5) (h6 : w.cell? ⟨g, 6, none⟩ = some x6) : (results fn tmps).run Tryz.prog w = .ok (.tuple #[.agg #[x0, x1, x2, x3, x4, x5, x6], t]) w := by
  have hp' : tmps[p]?.getD undef = .pointer (some ⟨g, 0, none⟩) := by simpa using hp
  have ht' : tmps[u]?.getD undef = t := by simpa using ht
  have hl := run_loadVar_mid (P := Tryz.prog) w g 0 41 [x0, x1, x2, x3, x4, x5, x6] _ (fun j v hv => by
    match j, hv with
    | 0, hv => rw [← Option.some.inj hv]; exact h0
    | 1, hv => rw [← Option.some.inj hv]; exact h1
    | 2, hv => rw [← Option.some.inj hv]; exact h2
    | 3, hv => rw [← Option.some.inj hv]; exact h3
    | 4, hv => rw [← Option.some.inj hv]; exact h4
    | 5, hv => rw [← Option.some.inj hv]; exact h5
    | 6, hv => rw [← Option.some.inj hv]; exact h6) Tryz.underlying41 rfl (by kernel_rfl)
  simp [results, h, hp', ht', asAddr, hl]
theorem szN_all : ∀ k : Nat, k < 68 → ∃ s : Nat, s < 5 ∧ szI (k : Int) = (s : Int) := by decide +kernel
end Go.Proofs.YtengofkjlgajlaaGreatDoor
