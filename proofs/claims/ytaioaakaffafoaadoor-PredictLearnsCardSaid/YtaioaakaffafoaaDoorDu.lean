/-
  PREDICT's LAW PredictLearns: its small parts.
-/
import Derived.Test.YtaioaakaffafoaaDoorDr
namespace Go.Proofs.YtaioaakaffafoaaDoor
open Go Go.RowKit
/-- a row of Bools that was handed in -/
def Bools (w : World) (p : Option Addr) (m : Nat) (g : Nat → Bool) : Prop := ∀ i, i < m → ∃ b o, p = some ⟨b, o, none⟩ ∧ b < w.heap.size ∧ w.cell? ⟨b, o + i, none⟩ = some (.bool (g i))
theorem new_lrn (b : Nat) (w : World) (h1 : 1 ≤ b) (h2 : b ≤ 10) : Calls Tryd.prog 6 #[.agg #[.int .i64 2, .int .i64 b, .int .i64 0, .int .i64 3, .int .i64 4]] w fun e w' => ∃ G : PG, e = .returned (.tuple #[.pointer (some ⟨G.p, 0, none⟩), .nilIface]) ∧ Pr w' G newS ∧ G.mask = 0 ∧ DK 2 G ∧ (w.heap.size ≤ G.p ∧ w.heap.size ≤ G.gt ∧ w.heap.size ≤ G.gs ∧ w.heap.size ≤ G.gc) ∧ Below w.heap.size w w' :=
  (new_good 2 b 0 3 4 8 0 rfl rfl w (by unfold gOk; simp; omega)).mono fun e w' ⟨G, e1, e2, _, _, e5, e6, e7, e8, e9⟩ => ⟨G, e1, e2, e5, ⟨e6, by omega, fun h => by rw [e7 h]; exact (pow_le10 b h2).1⟩, e8, e9⟩
theorem brB6 : brB 6 = true := by decide +kernel
theorem callB40 : callB 4 0 = false := by decide +kernel
def cK (G : PG) (pc : Int) : Nat := cix G.nc (pc / 4)
def bneV (G : PG) (S : PS) (pc : Int) : Int := if 2 ≤ S.ctr (cK G pc) then (pc + 64) % 4294967296 else (pc + 4) % 4294967296
theorem g_bne (G : PG) (S : PS) (pc : Int) (w : World) (hk : DK 2 G) (hm : G.mask = 0) (h : Pr w G S) (hL : Laid w) (hpc : 0 ≤ pc ∧ pc < 4294967296) : Calls Tryd.prog 11 #[.pointer (some ⟨G.p, 0, none⟩), .int .u32 pc, .agg #[.int .i64 6, .int .i64 0, .int .i64 1, .int .i64 0, .int .i64 64]] w fun e w' => e = .returned (.tuple #[.int .u32 (bneV G S pc), .agg #[.int .i64 0, .int .i64 S.top, .int .u32 (S.stack S.top)]]) ∧ Pr w' G S ∧ Turned (fun k => k = G.p ∨ k = G.gt ∨ k = G.gs ∨ k = G.gc) w w' := by
  have hh : S.hist = 0 := by have := h.low.2; omega
  have q := guess_any 2 G S 6 0 1 0 64 pc w hk h hL hpc
  have e0 : tkV 2 G S 6 64 pc = decide ((2 : Int) ≤ (S.ctr (cK G pc) : Int)) := by unfold tkV; rw [brB6]; rfl
  have e1 : nextV G S 6 0 1 64 pc (decide ((2 : Int) ≤ (S.ctr (cK G pc) : Int))) = bneV G S pc := by
    unfold nextV bneV
    by_cases q : 2 ≤ S.ctr (cK G pc)
    · have : (2 : Int) ≤ (S.ctr (cK G pc) : Int) := by omega
      simp [q, this]
    · have : ¬ (2 : Int) ≤ (S.ctr (cK G pc) : Int) := by omega
      rw [if_neg q, decide_eq_false this]
      rfl
  have e2 : ∀ tk, goS G S 6 0 1 pc tk = S := fun tk => by
    unfold goS; rw [brB6, hm]
    show ({ S with hist := (S.hist * 2 + (if tk then 1 else 0)) % 1 } : PS) = S
    rw [Nat.mod_one, ← hh]
  rw [e2, hh, e0, e1] at q
  exact q.mono fun e w' ⟨a1, a2, a3⟩ => ⟨a1, a2, a3.mono fun k hk => by rcases hk with h | h; exact Or.inl h; exact Or.inr (Or.inr (Or.inl h))⟩
def lS (G : PG) (S : PS) (pc : Int) (taken : Bool) : PS := { S with ctr := cnt S.ctr (cK G pc) taken }
theorem l_bne (G : PG) (S : PS) (mv pc tg : Int) (taken : Bool) (w : World) (hk : DK 2 G) (h : Pr w G S) (hL : Laid w) (hf3 : ∀ k, k < G.nc → S.ctr k ≤ 3) (hpc : 0 ≤ pc ∧ pc < 4294967296) : Calls Tryd.prog 16 #[.pointer (some ⟨G.p, 0, none⟩), .agg #[.int .i64 0, .int .i64 S.top, .int .u32 mv], .int .u32 pc, .agg #[.int .i64 6, .int .i64 0, .int .i64 1, .int .i64 0, .int .i64 64], .bool taken, .int .u32 tg] w fun e w' => e = .returned (.tuple #[]) ∧ Pr w' G (lS G S pc taken) ∧ Turned (fun k => k = G.p ∨ k = G.gt ∨ k = G.gs ∨ k = G.gc) w w' := by
  have q := learn_any 2 G S 0 S.top mv 6 0 1 0 64 pc tg taken w hk h hL hf3 hpc (Nat.zero_le _) h.low.1
  have e2 : lrn 2 G S 0 6 0 1 pc taken tg = lS G S pc taken := by unfold lrn; rw [brB6]; rfl
  have e3 : ((0 : Nat) : Int) = 0 := rfl
  rw [e3, e2] at q
  exact q.mono fun e w' ⟨a1, a2, a3⟩ => ⟨a1, a2, a3.mono fun k hk => by rcases hk with h | h; exact Or.inr (Or.inl h); exact Or.inr (Or.inr (Or.inr h))⟩
theorem g_far (G : PG) (S : PS) (pc : Int) (w : World) (hk : DK 2 G) (hm : G.mask = 0) (h : Pr w G S) (hL : Laid w) (hpc : 0 ≤ pc ∧ pc < 4294967296) : Calls Tryd.prog 11 #[.pointer (some ⟨G.p, 0, none⟩), .int .u32 pc, .agg #[.int .i64 4, .int .i64 0, .int .i64 5, .int .i64 0, .int .i64 0]] w fun e w' => e = .returned (.tuple #[.int .u32 (farV G S pc), .agg #[.int .i64 0, .int .i64 S.top, .int .u32 (S.stack S.top)]]) ∧ Pr w' G S ∧ Turned (fun k => k = G.p ∨ k = G.gt ∨ k = G.gs ∨ k = G.gc) w w' := by
  have hh : S.hist = 0 := by have := h.low.2; omega
  have q := guess_any 2 G S 4 0 5 0 0 pc w hk h hL hpc
  have e0 : tkV 2 G S 4 0 pc = false := by unfold tkV; rw [brB4]; rfl
  have e1 : nextV G S 4 0 5 0 pc false = farV G S pc := by unfold nextV; rfl
  have e2 : goS G S 4 0 5 pc false = S := by unfold goS; rw [brB4, callB40]; rfl
  rw [e0, e1, e2, hh] at q
  exact q.mono fun e w' ⟨a1, a2, a3⟩ => ⟨a1, a2, a3.mono fun k hk => by rcases hk with h | h; exact Or.inl h; exact Or.inr (Or.inr (Or.inl h))⟩
def fS (G : PG) (S : PS) (pc tg : Int) : PS := { S with tf := upd S.tf (plc G pc) true, tp := upd S.tp (plc G pc) pc, tt := upd S.tt (plc G pc) tg }
theorem l_far (G : PG) (S : PS) (mv pc tg : Int) (w : World) (hk : DK 2 G) (h : Pr w G S) (hL : Laid w) (hf3 : ∀ k, k < G.nc → S.ctr k ≤ 3) (hpc : 0 ≤ pc ∧ pc < 4294967296) : Calls Tryd.prog 16 #[.pointer (some ⟨G.p, 0, none⟩), .agg #[.int .i64 0, .int .i64 S.top, .int .u32 mv], .int .u32 pc, .agg #[.int .i64 4, .int .i64 0, .int .i64 5, .int .i64 0, .int .i64 0], .bool true, .int .u32 tg] w fun e w' => e = .returned (.tuple #[]) ∧ Pr w' G (fS G S pc tg) ∧ Turned (fun k => k = G.p ∨ k = G.gt ∨ k = G.gs ∨ k = G.gc) w w' := by
  have q := learn_any 2 G S 0 S.top mv 4 0 5 0 0 pc tg true w hk h hL hf3 hpc (Nat.zero_le _) h.low.1
  have e2 : lrn 2 G S 0 4 0 5 pc true tg = fS G S pc tg := by unfold lrn; rw [brB4]; rfl
  have e3 : ((0 : Nat) : Int) = 0 := rfl
  rw [e3, e2] at q
  exact q.mono fun e w' ⟨a1, a2, a3⟩ => ⟨a1, a2, a3.mono fun k hk => by rcases hk with h | h; exact Or.inr (Or.inl h); exact Or.inr (Or.inr (Or.inr h))⟩
theorem far_went (G : PG) (S : PS) (pc tg : Int) : farV G (fS G S pc tg) pc = tg := by
  unfold farV fS
  simp [upd_same]
def bneC : Nat → Value
  | 0 => .int .i64 6
  | 2 => .int .i64 1
  | 4 => .int .i64 64
  | _ => .int .i64 0
/-- the law's memory in the midst of its loops -/
structure Sl (B : Nat) (w x : World) (G : PG) (S : PS) (ib : Nat) : Prop where
  pr : Pr x G S
  le : ∀ k, k < G.nc → S.ctr k ≤ 3
  ic : CellsAt 5 x ib bneC
  laid : Laid x
  gr : Below w.heap.size w x
  sz : B ≤ x.heap.size
  lt : G.p < B ∧ G.gt < B ∧ G.gs < B ∧ G.gc < B ∧ ib < B
  lo : w.heap.size ≤ B ∧ w.heap.size ≤ G.p ∧ w.heap.size ≤ G.gt ∧ w.heap.size ≤ G.gs ∧ w.heap.size ≤ G.gc
  ne : ib ≠ G.p ∧ ib ≠ G.gt ∧ ib ≠ G.gs ∧ ib ≠ G.gc
  off : Off G
  gl : ∀ k, k = 1 ∨ k = 2 ∨ k = 3 → k < B
theorem Sl.below {B : Nat} {w x y : World} {G : PG} {S : PS} {ib : Nat} (h : Sl B w x G S ib) (c : Below B x y) : Sl B w y G S ib := by
  obtain ⟨h1, hle, h3, h5, h6, h7, h8, h9, h10, h11, h12⟩ := h
  have c2 : Turned (fun k => B ≤ k) x y := ⟨c.os, c.tape, c.output, c.size, fun k _ hk => c.block k (by omega)⟩
  exact ⟨h1.turned c2 (by omega) (by omega) (by omega) (by omega), hle, c2.cells h3 (by omega), h5.turned c2 (fun k hk hq => by have := h12 k hk; omega), h6.trans (c.mono h9.1), Nat.le_trans h7 c.size, h8, h9, h10, h11, h12⟩
theorem Sl.step {B : Nat} {w x y : World} {G : PG} {S T : PS} {ib : Nat} (h : Sl B w x G S ib) (c : Turned (fun k => k = G.p ∨ k = G.gt ∨ k = G.gs ∨ k = G.gc) x y) (p : Pr y G T) (le : ∀ k, k < G.nc → T.ctr k ≤ 3) : Sl B w y G T ib := by
  obtain ⟨h1, hle, h3, h5, h6, h7, h8, h9, h10, h11, h12⟩ := h
  exact ⟨p, le, c.cells h3 (by omega), h5.turned c (fun k hk hq => by have := h11 k hk; omega), h6.trans (c.below h6.size (fun k hk => by omega)), Nat.le_trans h7 c.size, h8, h9, h10, h11, h12⟩
theorem sl_start {w w2 : World} {G : PG} {t : TypeId} (hL : Laid w) (hP : Pr w2 G newS) (hlo : w.heap.size ≤ G.p ∧ w.heap.size ≤ G.gt ∧ w.heap.size ≤ G.gs ∧ w.heap.size ≤ G.gc) (hb2 : Below w.heap.size w w2) : Sl (w2.heap.size + 1) w (w2.alloc (.cells #[.int .i64 6, .int .i64 0, .int .i64 1, .int .i64 0, .int .i64 64] t)) G newS w2.heap.size := by
  have p1 := hP.cells.here
  have p2 := hP.tgt.here
  have p3 := hP.stk.here
  have p4 := hP.ctr.here
  have hz := hb2.size
  have k4 : Below w2.heap.size w2 (w2.alloc (.cells #[.int .i64 6, .int .i64 0, .int .i64 1, .int .i64 0, .int .i64 64] t)) := (Below.refl _ _).alloc (Nat.le_refl _) _
  have gl : ∀ k, k = 1 ∨ k = 2 ∨ k = 3 → k < w.heap.size := fun k hk => by
    rcases hk with rfl | rfl | rfl
    · exact hL.zb
    · exact hL.zo
    · exact hL.zl
  refine ⟨hP.below k4, fun k _ => by show 1 ≤ 3; omega, cells_new w2 fun o ho => ?_, hL.below (hb2.trans (k4.mono hz)), hb2.trans (k4.mono hz), by simp, by omega, by omega, by omega, fun k hk => ?_, fun k hk => ?_⟩
  · match o, ho with
    | 0, _ => rfl
    | 1, _ => rfl
    | 2, _ => rfl
    | 3, _ => rfl
    | 4, _ => rfl
  · have := gl k hk
    omega
  · have := gl k hk
    omega
/-- so often learned -/
def Lrnt (G : PG) (S : PS) (pc : Int) (taken : Bool) (j : Nat) : Prop := if taken then j ≤ S.ctr (cK G pc) else S.ctr (cK G pc) + j ≤ 3
theorem lrnt_next (G : PG) (S : PS) (pc : Int) (taken : Bool) (j : Nat) (h : Lrnt G S pc taken j) (hj : j < 2) (h3 : S.ctr (cK G pc) ≤ 3) : Lrnt G (lS G S pc taken) pc taken (j + 1) := by
  unfold Lrnt lS cnt at *
  cases taken
  · simp only [Bool.false_eq_true, if_false] at *
    split
    · rw [upd_same]; omega
    · omega
  · simp only [if_true] at *
    split
    · rw [upd_same]; omega
    · omega
theorem lrnt_end (G : PG) (S : PS) (pc : Int) (taken : Bool) (h : Lrnt G S pc taken 2) : bneV G S pc = if taken then (pc + 64) % 4294967296 else (pc + 4) % 4294967296 := by
  unfold Lrnt at h
  unfold bneV
  cases taken
  · simp only [Bool.false_eq_true, if_false] at *
    rw [if_neg (by omega)]
  · simp only [if_true] at *
    rw [if_pos h]
theorem ck_lt (G : PG) (pc : Int) (h : DK 2 G) : cK G pc < G.nc := (cix_is G.nc (pc / 4) (h.one (by omega))).2
end Go.Proofs.YtaioaakaffafoaaDoor
