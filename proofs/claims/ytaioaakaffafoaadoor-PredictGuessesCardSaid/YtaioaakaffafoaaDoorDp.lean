/-
  PREDICT: Guess, Restore and Learn, whatever comes.
-/
import Derived.Test.YtaioaakaffafoaaDoorDka
import Derived.Test.YtaioaakaffafoaaDoorDkb
import Derived.Test.YtaioaakaffafoaaDoorDkc
import Derived.Test.YtaioaakaffafoaaDoorDkd
import Derived.Test.YtaioaakaffafoaaDoorDn
namespace Go.Proofs.YtaioaakaffafoaaDoor
open Go Go.RowKit
/-- a predictor of this kind -/
structure DK (kind : Int) (G : PG) : Prop where
  dv : G.dv = .iface (dTy kind) (dVal kind G.gc G.nc)
  k : 0 ≤ kind ∧ kind ≤ 3
  one : 2 ≤ kind → 1 ≤ G.nc
def tkV (kind : Int) (G : PG) (S : PS) (op imm pc : Int) : Bool := if brB op then (if kind = 1 then decide (imm < 0) else if kind = 2 then decide ((2 : Int) ≤ (S.ctr (cix G.nc (pc / 4)) : Int)) else if kind = 3 then decide ((2 : Int) ≤ (S.ctr (cix G.nc (mixN pc S.hist)) : Int)) else false) else false
theorem Pr.ct {w : World} {G : PG} {S : PS} (h : Pr w G S) (k : 1 ≤ G.nc) : Ct w G.gc G.nc S.ctr := ⟨h.ctr, k, h.size.2.2.2.2.1⟩
theorem Pr.histI {w : World} {G : PG} {S : PS} (h : Pr w G S) : 0 ≤ (S.hist : Int) ∧ (S.hist : Int) ≤ 1023 := by
  have := h.low.2
  have := h.size.2.2.2.2.2
  omega
theorem guess_any (kind : Int) (G : PG) (S : PS) (op rd rs1 rs2 imm pc : Int) (w : World) (hk : DK kind G) (h : Pr w G S) (hL : Laid w) (hpc : 0 ≤ pc ∧ pc < 4294967296) : Calls Tryd.prog 11 #[.pointer (some ⟨G.p, 0, none⟩), .int .u32 pc, .agg #[.int .i64 op, .int .i64 rd, .int .i64 rs1, .int .i64 rs2, .int .i64 imm]] w fun e w' => e = .returned (.tuple #[.int .u32 (nextV G S op rd rs1 imm pc (tkV kind G S op imm pc)), .agg #[.int .i64 S.hist, .int .i64 S.top, .int .u32 (S.stack S.top)]]) ∧ Pr w' G (goS G S op rd rs1 pc (tkV kind G S op imm pc)) ∧ Turned (fun k => k = G.p ∨ k = G.gs) w w' := by
  cases hb : brB op
  · have e : tkV kind G S op imm pc = false := by unfold tkV; rw [hb]; rfl
    rw [e]
    exact guess_no G S op rd rs1 rs2 imm pc w h hL hpc hb
  · have h4 := hk.dv
    by_cases k1 : kind = 1
    · subst k1
      have e : tkV 1 G S op imm pc = decide (imm < 0) := by unfold tkV; rw [hb]; rfl
      rw [e]
      exact guess_br_back G S op rd rs1 rs2 imm pc w h hL hpc hb _ h4 (fun y _ => back_guess pc imm _ y)
    by_cases k2 : kind = 2
    · subst k2
      have e : tkV 2 G S op imm pc = decide ((2 : Int) ≤ (S.ctr (cix G.nc (pc / 4)) : Int)) := by unfold tkV; rw [hb]; rfl
      rw [e]
      exact guess_br_counted G S op rd rs1 rs2 imm pc w h hL hpc hb _ h4 (fun y hy => counted_guess G.gc G.nc S.ctr pc imm _ y (hy.ct (hk.one (by omega))) hpc)
    by_cases k3 : kind = 3
    · subst k3
      have e : tkV 3 G S op imm pc = decide ((2 : Int) ≤ (S.ctr (cix G.nc (mixN pc S.hist)) : Int)) := by unfold tkV; rw [hb]; rfl
      rw [e]
      exact guess_br_mixed G S op rd rs1 rs2 imm pc w h hL hpc hb _ h4 (fun y hy => mixed_guess G.gc G.nc S.ctr pc imm _ y (hy.ct (hk.one (by omega))) hpc h.histI)
    · have k0 : kind = 0 := by have := hk.k; omega
      subst k0
      have e : tkV 0 G S op imm pc = false := by unfold tkV; rw [hb]; rfl
      rw [e]
      exact guess_br_never G S op rd rs1 rs2 imm pc w h hL hpc hb _ h4 (fun y _ => never_guess pc imm _ y)
def lrn (kind : Int) (G : PG) (S : PS) (hh op rd rs1 pc : Int) (taken : Bool) (tg : Int) : PS :=
  if brB op then { S with ctr := if kind = 2 then cnt S.ctr (cix G.nc (pc / 4)) taken else if kind = 3 then cnt S.ctr (cix G.nc (mixN pc hh)) taken else S.ctr }
  else if farB op rd rs1 then { S with tf := upd S.tf (plc G pc) true, tp := upd S.tp (plc G pc) pc, tt := upd S.tt (plc G pc) tg } else S
theorem pr_ctr {y z : World} {G : PG} {S : PS} {f : Nat → Nat} (h : Pr y G S) (c : Ct z G.gc G.nc f) (t : Turned (· = G.gc) y z) : Pr z G { S with ctr := f } := by
  obtain ⟨a1, a2, a3, a4, a5, a6, a7, a8⟩ := h
  exact ⟨t.cells a1 a5.2.2.1, t.cells a2 a5.2.2.2.2.1, t.cells a3 a5.2.2.2.2.2, c.cells, a5, a6, a7, a8⟩
theorem learn_any (kind : Int) (G : PG) (S : PS) (hh t : Nat) (mv op rd rs1 rs2 imm pc tg : Int) (taken : Bool) (w : World) (hk : DK kind G) (h : Pr w G S) (hL : Laid w) (hf3 : ∀ k, k < G.nc → S.ctr k ≤ 3) (hpc : 0 ≤ pc ∧ pc < 4294967296) (h1 : hh ≤ G.mask) (h2 : t < G.ns) : Calls Tryd.prog 16 #[.pointer (some ⟨G.p, 0, none⟩), .agg #[.int .i64 hh, .int .i64 t, .int .u32 mv], .int .u32 pc, .agg #[.int .i64 op, .int .i64 rd, .int .i64 rs1, .int .i64 rs2, .int .i64 imm], .bool taken, .int .u32 tg] w fun e w' => e = .returned (.tuple #[]) ∧ Pr w' G (lrn kind G S hh op rd rs1 pc taken tg) ∧ Turned (fun k => k = G.gt ∨ k = G.gc) w w' := by
  have hhI : 0 ≤ (hh : Int) ∧ (hh : Int) ≤ 1023 := by have := h.size.2.2.2.2.2; omega
  unfold lrn
  cases hb : brB op
  · cases hf : farB op rd rs1
    · exact (learn_none G S hh t mv op rd rs1 rs2 imm pc tg taken w h hL hb hf h1 h2).mono fun e w' ⟨e1, e2⟩ => ⟨e1, h.below e2, Turned.of_below e2⟩
    · exact (learn_far G S hh t mv op rd rs1 rs2 imm pc tg taken w h hL hpc hb hf h1 h2).mono fun e w' ⟨e1, e2, e3⟩ => ⟨e1, e2, e3.mono fun _ => Or.inl⟩
  · have h4 := hk.dv
    by_cases k1 : kind = 1
    · subst k1
      exact learn_br_back G S S hh t mv op rd rs1 rs2 imm pc tg taken w h hL hb _ h4 (fun y hy => (back_learn pc hh taken y).mono fun e z ⟨e1, e2⟩ => ⟨e1, hy.below e2, Turned.of_below e2⟩) h1 h2
    by_cases k2 : kind = 2
    · subst k2
      exact learn_br_counted G S _ hh t mv op rd rs1 rs2 imm pc tg taken w h hL hb _ h4 (fun y hy => (counted_learn G.gc G.nc S.ctr pc hh taken y (hy.ct (hk.one (by omega))) hf3 hpc).mono fun e z ⟨e1, e2, e3⟩ => ⟨e1, pr_ctr hy e2 e3, e3.mono fun _ => Or.inr⟩) h1 h2
    by_cases k3 : kind = 3
    · subst k3
      exact learn_br_mixed G S _ hh t mv op rd rs1 rs2 imm pc tg taken w h hL hb _ h4 (fun y hy => (mixed_learn G.gc G.nc S.ctr pc hh taken y (hy.ct (hk.one (by omega))) hf3 hpc hhI).mono fun e z ⟨e1, e2, e3⟩ => ⟨e1, pr_ctr hy e2 e3, e3.mono fun _ => Or.inr⟩) h1 h2
    · have k0 : kind = 0 := by have := hk.k; omega
      subst k0
      exact learn_br_never G S S hh t mv op rd rs1 rs2 imm pc tg taken w h hL hb _ h4 (fun y hy => (never_learn pc hh taken y).mono fun e z ⟨e1, e2⟩ => ⟨e1, hy.below e2, Turned.of_below e2⟩) h1 h2
theorem cnt_le (f : Nat → Nat) (k : Nat) (taken : Bool) (n : Nat) (h : ∀ j, j < n → f j ≤ 3) : ∀ j, j < n → cnt f k taken j ≤ 3 := by
  intro j hj
  have h1 := h j hj
  unfold cnt
  split
  · split
    · unfold upd
      split
      · omega
      · exact h1
    · exact h1
  · split
    · unfold upd
      split
      · rename_i e; subst e; omega
      · exact h1
    · exact h1
theorem lrn_le (kind : Int) (G : PG) (S : PS) (hh op rd rs1 pc : Int) (taken : Bool) (tg : Int) (h : ∀ k, k < G.nc → S.ctr k ≤ 3) : ∀ k, k < G.nc → (lrn kind G S hh op rd rs1 pc taken tg).ctr k ≤ 3 := by
  unfold lrn
  split
  · show ∀ k, k < G.nc → (if kind = 2 then _ else if kind = 3 then _ else S.ctr : Nat → Nat) k ≤ 3
    split
    · exact cnt_le _ _ _ _ h
    · split
      · exact cnt_le _ _ _ _ h
      · exact h
  · split <;> exact h
theorem goS_ctr (G : PG) (S : PS) (op rd rs1 pc : Int) (taken : Bool) : (goS G S op rd rs1 pc taken).ctr = S.ctr := by
  unfold goS
  split
  · rfl
  · split
    · rfl
    · split <;> rfl
end Go.Proofs.YtaioaakaffafoaaDoor
