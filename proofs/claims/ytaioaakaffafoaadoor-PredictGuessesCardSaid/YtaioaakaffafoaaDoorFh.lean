/-
  PREDICT: the answer's Guess (jalr).
-/
import Derived.Test.YtaioaakaffafoaaDoorFga
namespace Go.Proofs.YtaioaakaffafoaaDoor
open Go Go.RowKit
set_option maxRecDepth 20000 in
set_option maxHeartbeats 8000000 in
theorem rg_n1_no (G : PG) (kd : Int) (bits hb tb : Nat) (S : PS) (rd rs1 imm pc : Int) (w : World) (h : Rp w G kd bits hb tb S) (hpc : 0 ≤ pc ∧ pc < 4294967296) (hr1 : (rs1 == 1) = false) (hf1 : S.tf (plc G pc) = false) : Calls Tryd.prog 12 #[.pointer (some ⟨G.p, 0, none⟩), .int .u32 pc, .agg #[.int .i64 3, .int .i64 rd, .int .i64 rs1, .int .i64 imm]] w fun e w' => e = .returned (.tuple #[.int .u32 ((pc + 4) % 4294967296), .agg #[.int .i64 S.hist, .int .i64 S.top, .int .u32 (S.stack S.top)]]) ∧ Rp w' G kd bits hb tb (goS G S (opW 3) rd rs1 pc false) ∧ Turned (fun k => k = G.p ∨ k = G.gs) w w' := by
  have HPC := Hid.in hpc
  have HP : Hid (∀ y, Below w.heap.size w y → Rp y G kd bits hb tb S) := fun y hy => h.below hy
  have HHI : Hid (0 ≤ (S.hist : Int) ∧ (S.hist : Int) ≤ 1023) := by have := h.low.2; have := h.size.2.2.2.2.2.2; show _ ∧ _; omega
  have h3 := h.cells.here
  have l1 := h.low.1
  have hsh := h.stk.here
  have n1 : ¬ G.p = w.heap.size := by omega
  have n2 : ¬ G.gs = w.heap.size := by omega
  have n3 : ¬ G.p = w.heap.size + 1 := by omega
  have n4 : ¬ G.gs = w.heap.size + 1 := by omega
  have n5 : ¬ G.p = w.heap.size + 1 + 1 := by omega
  have n6 : ¬ G.gs = w.heap.size + 1 + 1 := by omega
  have n7 : ¬ G.gt = w.heap.size + 1 := by have := h.tgt.here; omega
  have n8 : ¬ G.gc = w.heap.size + 1 := by have := h.ctr.here; omega
  have cs3 : ∀ o1 o2 o3, (((w.alloc o1).alloc o2).alloc o3).cell? ⟨G.gs, S.top, none⟩ = some (.int .u32 (S.stack S.top)) := fun o1 o2 o3 => (HP.out _ ((((Below.refl _ _).alloc (Nat.le_refl _) o1).alloc (by simp) o2).alloc (by simp; omega) o3)).stk.cell S.top l1
  have d9 : ∀ o1 o2 o3, (((w.alloc o1).alloc o2).alloc o3).cell? ⟨G.p, 9, none⟩ = some (.int .i64 S.top) := fun o1 o2 o3 => (HP.out _ ((((Below.refl _ _).alloc (Nat.le_refl _) o1).alloc (by simp) o2).alloc (by simp; omega) o3)).cells.cell 9 (by decide)
  have d5 : ∀ o1 o2 o3, (((w.alloc o1).alloc o2).alloc o3).cell? ⟨G.p, 5, none⟩ = some (.int .i64 S.hist) := fun o1 o2 o3 => (HP.out _ ((((Below.refl _ _).alloc (Nat.le_refl _) o1).alloc (by simp) o2).alloc (by simp; omega) o3)).cells.cell 5 (by decide)
  have d8 : ∀ o1 o2 o3, (((w.alloc o1).alloc o2).alloc o3).cell? ⟨G.p, 8, none⟩ = some (.slice (some ⟨G.gs, 0, none⟩) G.ns G.ns) := fun o1 o2 o3 => (HP.out _ ((((Below.refl _ _).alloc (Nat.le_refl _) o1).alloc (by simp) o2).alloc (by simp; omega) o3)).cells.cell 8 (by decide)
  have f5 : ∀ o1 o2, ((w.alloc o1).alloc o2).cell? ⟨G.p, 5, none⟩ = some (.int .i64 S.hist) := fun o1 o2 => (HP.out _ (((Below.refl _ _).alloc (Nat.le_refl _) o1).alloc (by simp) o2)).cells.cell 5 (by decide)
  have f8 : ∀ o1 o2, ((w.alloc o1).alloc o2).cell? ⟨G.p, 8, none⟩ = some (.slice (some ⟨G.gs, 0, none⟩) G.ns G.ns) := fun o1 o2 => (HP.out _ (((Below.refl _ _).alloc (Nat.le_refl _) o1).alloc (by simp) o2)).cells.cell 8 (by decide)
  have f9 : ∀ o1 o2, ((w.alloc o1).alloc o2).cell? ⟨G.p, 9, none⟩ = some (.int .i64 S.top) := fun o1 o2 => (HP.out _ (((Below.refl _ _).alloc (Nat.le_refl _) o1).alloc (by simp) o2)).cells.cell 9 (by decide)
  have fs : ∀ o1 o2, ((w.alloc o1).alloc o2).cell? ⟨G.gs, S.top, none⟩ = some (.int .u32 (S.stack S.top)) := fun o1 o2 => (HP.out _ (((Below.refl _ _).alloc (Nat.le_refl _) o1).alloc (by simp) o2)).stk.cell S.top l1
  have HWH : Hid (What 3) := Or.inr (Or.inr (Or.inr rfl))
  obtain ⟨q1, q2⟩ := plc_is G pc h.size.1
  obtain ⟨k, hk⟩ : ∃ k, k = plc G pc := ⟨_, rfl⟩
  have HKK := Hid.in hk
  rw [← hk] at q1 q2
  clear hk
  have hnt := h.size.2.1
  have hnt1 := h.size.1
  have hpq : 0 ≤ pc / 4 := by omega
  have htm : (pc / 4).tmod (G.nt : Int) = (k : Int) := by rw [Int.tmod_eq_emod_of_nonneg hpq]; exact q1
  have htm2 : pc.tdiv 4 % 4294967296 % (G.nt : Int) = (k : Int) := by
    rw [Int.tdiv_eq_ediv_of_nonneg hpc.1, Int.emod_eq_of_lt hpq (by omega)]; exact q1
  have hz : ¬ (G.nt : Int) = 0 := by omega
  have hz2 : ¬ (G.nt : Int) = -1 := by omega
  have hpi : pc / 4 < 4294967296 := by omega
  clear q1
  clear h hpc
  go_enter Tryd.func12, Tryd.ntmps12
  go_wp2
  go_region
  obtain ⟨g1, g2, g3, g4, g5, g6⟩ := keepG w #[.int .i64 3, .int .i64 rd, .int .i64 rs1, .int .i64 imm] #[.int .i64 0, .int .i64 0, .int .u32 0] #[.int .i64 S.hist, .int .i64 S.top, .int .u32 (S.stack S.top)] 45 52 52
  generalize hW1 : (((w.alloc (.cells #[.int .i64 3, .int .i64 rd, .int .i64 rs1, .int .i64 imm] 45)).alloc (.cells #[.int .i64 0, .int .i64 0, .int .u32 0] 52)).alloc (.cells #[.int .i64 S.hist, .int .i64 S.top, .int .u32 (S.stack S.top)] 52)).drew = W1 at g1 g2 g3 g4 g5 g6 ⊢
  clear cs3 d5 d9 d8 f5 f8 f9 fs hW1
  have HG6 := Hid.in g6
  have z1 : w.heap.size < W1.heap.size := by rw [g5]; omega
  have z2 : w.heap.size + 1 < W1.heap.size := by rw [g5]; omega
  have z3 : w.heap.size + 1 + 1 < W1.heap.size := by rw [g5]; omega
  have hR1 := HP.out _ g6
  have w0 : W1.cell? ⟨G.p, 0, none⟩ = some (.int .i64 kd) := hR1.cells.cell 0 (by decide)
  have w5 : W1.cell? ⟨G.p, 5, none⟩ = some (.int .i64 S.hist) := hR1.cells.cell 5 (by decide)
  have w6 : W1.cell? ⟨G.p, 6, none⟩ = some (.slice (some ⟨G.gc, 0, none⟩) G.nc G.nc) := hR1.cells.cell 6 (by decide)
  have w7 : W1.cell? ⟨G.p, 7, none⟩ = some (.slice (some ⟨G.gt, 0, none⟩) G.nt G.nt) := hR1.cells.cell 7 (by decide)
  have wp := hR1.cells.here
  have wc := hR1.ctr.here
  have wt := hR1.tgt.here
  have HR1 := Hid.in hR1
  clear g5 g6
  have t0 : W1.cell? ⟨G.gt, k * 3, none⟩ = some (.bool (S.tf k)) := by
    rw [HR1.out.tgt.cell (k * 3) (by omega)]
    unfold encG
    rw [if_pos (by omega)]
    have : k * 3 / 3 = k := by omega
    rw [this]
  have t1 : W1.cell? ⟨G.gt, k * 3 + 1, none⟩ = some (.int .u32 (S.tp k)) := by
    rw [HR1.out.tgt.cell (k * 3 + 1) (by omega)]
    unfold encG
    rw [if_neg (by omega), if_pos (by omega)]
    have : (k * 3 + 1) / 3 = k := by omega
    rw [this]
  have t2 : W1.cell? ⟨G.gt, k * 3 + 2, none⟩ = some (.int .u32 (S.tt k)) := by
    rw [HR1.out.tgt.cell (k * 3 + 2) (by omega)]
    unfold encG
    rw [if_neg (by omega), if_neg (by omega)]
    have : (k * 3 + 2) / 3 = k := by omega
    rw [this]
  rw [← HKK.out] at hf1
  rw [hf1] at t0
  go_wp2
  go_region
  obtain ⟨v1, v2, v3⟩ := keepT W1 #[.bool false, .int .u32 (S.tp k), .int .u32 (S.tt k)] 86
  generalize hW2 : (W1.alloc (.cells #[.bool false, .int .u32 (S.tp k), .int .u32 (S.tt k)] 86)).drew = W2 at v1 v2 v3 ⊢
  have g12 := fun i => (v3.cell (p := ⟨w.heap.size, i, none⟩) z1).trans (g1 i)
  have g22 := fun i => (v3.cell (p := ⟨w.heap.size + 1, i, none⟩) z2).trans (g2 i)
  have g32 := fun i => (v3.cell (p := ⟨w.heap.size + 1 + 1, i, none⟩) z3).trans (g3 i)
  have g42 := fun i => (v3.frozen (p := ⟨w.heap.size + 1, i, none⟩) z2).trans (g4 i)
  have z12 : w.heap.size < W2.heap.size := by omega
  have z22 : w.heap.size + 1 < W2.heap.size := by omega
  have z32 : w.heap.size + 1 + 1 < W2.heap.size := by omega
  have HR2 := Hid.in (HR1.out.below v3)
  have HV3 := Hid.in v3
  clear hW2 t0 t1 t2 g1 g2 g3 g4 w0 w5 w6 w7 v3 htm htm2 hz hz2 hpq hpi
  go_wp2_with ((go_at_call 27; go_loud (refine (rgoes_any G kd bits hb tb S 3 rd rs1 imm pc false _ (HR2.out) HWH.out HPC.out).mono ?_; rintro e W4 ⟨rfl, hP4, hT4⟩; have HP4 := Hid.in hP4; have HT4 := Hid.in hT4; have m0 := hT4.to_cell (c := w.heap.size + 1 + 1) (o := 0) (by omega) (by omega) (g32 0); have m1 := hT4.to_cell (c := w.heap.size + 1 + 1) (o := 1) (by omega) (by omega) (g32 1); have m2 := hT4.to_cell (c := w.heap.size + 1 + 1) (o := 2) (by omega) (by omega) (g32 2); have r0 := hT4.to_cell (c := w.heap.size + 1) (o := 0) (by omega) (by omega) (g22 0); have r1 := hT4.to_cell (c := w.heap.size + 1) (o := 1) (by omega) (by omega) (g22 1); have r2 := hT4.to_cell (c := w.heap.size + 1) (o := 2) (by omega) (by omega) (g22 2); have rf : ∀ o, W4.frozen? ⟨w.heap.size + 1, o, none⟩ = false := fun o => (World.frozen?_of_block (hT4.block (w.heap.size + 1) (by omega) (by omega))).trans (g42 o); have z24 := Nat.lt_of_lt_of_le (show w.heap.size + 1 < _ by omega) hT4.size; have z34 := Nat.lt_of_lt_of_le (show w.heap.size + 1 + 1 < _ by omega) hT4.size; clear hP4 hT4)))
  go_region
  all_goals (try go_wp2)
  refine bodyPost_ret (v := .tuple #[.int .u32 ((pc + 4) % 4294967296), .agg #[.int .i64 S.hist, .int .i64 S.top, .int .u32 (S.stack S.top)]]) (by simp [results, Tryd.results12, go_sem, *]) rfl ?_
  exact ⟨rfl, HP4.out.turned ((((Turned.refl (· = w.heap.size + 1) W4).set rfl _ _).set rfl _ _).set rfl _ _).drew n3 n7 n4 n8, ((((((Turned.of_below HG6.out).trans (Turned.of_below HV3.out)).trans HT4.out).setNew (by omega) _ _).setNew (by omega) _ _).setNew (by omega) _ _).drew⟩
set_option maxRecDepth 20000 in
set_option maxHeartbeats 8000000 in
theorem rg_n1_eq (G : PG) (kd : Int) (bits hb tb : Nat) (S : PS) (rd rs1 imm pc : Int) (w : World) (h : Rp w G kd bits hb tb S) (hpc : 0 ≤ pc ∧ pc < 4294967296) (hr1 : (rs1 == 1) = false) (hf1 : S.tf (plc G pc) = true) (hf2 : (S.tp (plc G pc) == pc) = true) : Calls Tryd.prog 12 #[.pointer (some ⟨G.p, 0, none⟩), .int .u32 pc, .agg #[.int .i64 3, .int .i64 rd, .int .i64 rs1, .int .i64 imm]] w fun e w' => e = .returned (.tuple #[.int .u32 (S.tt (plc G pc)), .agg #[.int .i64 S.hist, .int .i64 S.top, .int .u32 (S.stack S.top)]]) ∧ Rp w' G kd bits hb tb (goS G S (opW 3) rd rs1 pc false) ∧ Turned (fun k => k = G.p ∨ k = G.gs) w w' := by
  have HPC := Hid.in hpc
  have HP : Hid (∀ y, Below w.heap.size w y → Rp y G kd bits hb tb S) := fun y hy => h.below hy
  have HHI : Hid (0 ≤ (S.hist : Int) ∧ (S.hist : Int) ≤ 1023) := by have := h.low.2; have := h.size.2.2.2.2.2.2; show _ ∧ _; omega
  have h3 := h.cells.here
  have l1 := h.low.1
  have hsh := h.stk.here
  have n1 : ¬ G.p = w.heap.size := by omega
  have n2 : ¬ G.gs = w.heap.size := by omega
  have n3 : ¬ G.p = w.heap.size + 1 := by omega
  have n4 : ¬ G.gs = w.heap.size + 1 := by omega
  have n5 : ¬ G.p = w.heap.size + 1 + 1 := by omega
  have n6 : ¬ G.gs = w.heap.size + 1 + 1 := by omega
  have n7 : ¬ G.gt = w.heap.size + 1 := by have := h.tgt.here; omega
  have n8 : ¬ G.gc = w.heap.size + 1 := by have := h.ctr.here; omega
  have cs3 : ∀ o1 o2 o3, (((w.alloc o1).alloc o2).alloc o3).cell? ⟨G.gs, S.top, none⟩ = some (.int .u32 (S.stack S.top)) := fun o1 o2 o3 => (HP.out _ ((((Below.refl _ _).alloc (Nat.le_refl _) o1).alloc (by simp) o2).alloc (by simp; omega) o3)).stk.cell S.top l1
  have d9 : ∀ o1 o2 o3, (((w.alloc o1).alloc o2).alloc o3).cell? ⟨G.p, 9, none⟩ = some (.int .i64 S.top) := fun o1 o2 o3 => (HP.out _ ((((Below.refl _ _).alloc (Nat.le_refl _) o1).alloc (by simp) o2).alloc (by simp; omega) o3)).cells.cell 9 (by decide)
  have d5 : ∀ o1 o2 o3, (((w.alloc o1).alloc o2).alloc o3).cell? ⟨G.p, 5, none⟩ = some (.int .i64 S.hist) := fun o1 o2 o3 => (HP.out _ ((((Below.refl _ _).alloc (Nat.le_refl _) o1).alloc (by simp) o2).alloc (by simp; omega) o3)).cells.cell 5 (by decide)
  have d8 : ∀ o1 o2 o3, (((w.alloc o1).alloc o2).alloc o3).cell? ⟨G.p, 8, none⟩ = some (.slice (some ⟨G.gs, 0, none⟩) G.ns G.ns) := fun o1 o2 o3 => (HP.out _ ((((Below.refl _ _).alloc (Nat.le_refl _) o1).alloc (by simp) o2).alloc (by simp; omega) o3)).cells.cell 8 (by decide)
  have f5 : ∀ o1 o2, ((w.alloc o1).alloc o2).cell? ⟨G.p, 5, none⟩ = some (.int .i64 S.hist) := fun o1 o2 => (HP.out _ (((Below.refl _ _).alloc (Nat.le_refl _) o1).alloc (by simp) o2)).cells.cell 5 (by decide)
  have f8 : ∀ o1 o2, ((w.alloc o1).alloc o2).cell? ⟨G.p, 8, none⟩ = some (.slice (some ⟨G.gs, 0, none⟩) G.ns G.ns) := fun o1 o2 => (HP.out _ (((Below.refl _ _).alloc (Nat.le_refl _) o1).alloc (by simp) o2)).cells.cell 8 (by decide)
  have f9 : ∀ o1 o2, ((w.alloc o1).alloc o2).cell? ⟨G.p, 9, none⟩ = some (.int .i64 S.top) := fun o1 o2 => (HP.out _ (((Below.refl _ _).alloc (Nat.le_refl _) o1).alloc (by simp) o2)).cells.cell 9 (by decide)
  have fs : ∀ o1 o2, ((w.alloc o1).alloc o2).cell? ⟨G.gs, S.top, none⟩ = some (.int .u32 (S.stack S.top)) := fun o1 o2 => (HP.out _ (((Below.refl _ _).alloc (Nat.le_refl _) o1).alloc (by simp) o2)).stk.cell S.top l1
  have HWH : Hid (What 3) := Or.inr (Or.inr (Or.inr rfl))
  obtain ⟨q1, q2⟩ := plc_is G pc h.size.1
  obtain ⟨k, hk⟩ : ∃ k, k = plc G pc := ⟨_, rfl⟩
  have HKK := Hid.in hk
  rw [← hk] at q1 q2
  clear hk
  have hnt := h.size.2.1
  have hnt1 := h.size.1
  have hpq : 0 ≤ pc / 4 := by omega
  have htm : (pc / 4).tmod (G.nt : Int) = (k : Int) := by rw [Int.tmod_eq_emod_of_nonneg hpq]; exact q1
  have htm2 : pc.tdiv 4 % 4294967296 % (G.nt : Int) = (k : Int) := by
    rw [Int.tdiv_eq_ediv_of_nonneg hpc.1, Int.emod_eq_of_lt hpq (by omega)]; exact q1
  have hz : ¬ (G.nt : Int) = 0 := by omega
  have hz2 : ¬ (G.nt : Int) = -1 := by omega
  have hpi : pc / 4 < 4294967296 := by omega
  clear q1
  clear h hpc
  go_enter Tryd.func12, Tryd.ntmps12
  go_wp2
  go_region
  obtain ⟨g1, g2, g3, g4, g5, g6⟩ := keepG w #[.int .i64 3, .int .i64 rd, .int .i64 rs1, .int .i64 imm] #[.int .i64 0, .int .i64 0, .int .u32 0] #[.int .i64 S.hist, .int .i64 S.top, .int .u32 (S.stack S.top)] 45 52 52
  generalize hW1 : (((w.alloc (.cells #[.int .i64 3, .int .i64 rd, .int .i64 rs1, .int .i64 imm] 45)).alloc (.cells #[.int .i64 0, .int .i64 0, .int .u32 0] 52)).alloc (.cells #[.int .i64 S.hist, .int .i64 S.top, .int .u32 (S.stack S.top)] 52)).drew = W1 at g1 g2 g3 g4 g5 g6 ⊢
  clear cs3 d5 d9 d8 f5 f8 f9 fs hW1
  have HG6 := Hid.in g6
  have z1 : w.heap.size < W1.heap.size := by rw [g5]; omega
  have z2 : w.heap.size + 1 < W1.heap.size := by rw [g5]; omega
  have z3 : w.heap.size + 1 + 1 < W1.heap.size := by rw [g5]; omega
  have hR1 := HP.out _ g6
  have w0 : W1.cell? ⟨G.p, 0, none⟩ = some (.int .i64 kd) := hR1.cells.cell 0 (by decide)
  have w5 : W1.cell? ⟨G.p, 5, none⟩ = some (.int .i64 S.hist) := hR1.cells.cell 5 (by decide)
  have w6 : W1.cell? ⟨G.p, 6, none⟩ = some (.slice (some ⟨G.gc, 0, none⟩) G.nc G.nc) := hR1.cells.cell 6 (by decide)
  have w7 : W1.cell? ⟨G.p, 7, none⟩ = some (.slice (some ⟨G.gt, 0, none⟩) G.nt G.nt) := hR1.cells.cell 7 (by decide)
  have wp := hR1.cells.here
  have wc := hR1.ctr.here
  have wt := hR1.tgt.here
  have HR1 := Hid.in hR1
  clear g5 g6
  have t0 : W1.cell? ⟨G.gt, k * 3, none⟩ = some (.bool (S.tf k)) := by
    rw [HR1.out.tgt.cell (k * 3) (by omega)]
    unfold encG
    rw [if_pos (by omega)]
    have : k * 3 / 3 = k := by omega
    rw [this]
  have t1 : W1.cell? ⟨G.gt, k * 3 + 1, none⟩ = some (.int .u32 (S.tp k)) := by
    rw [HR1.out.tgt.cell (k * 3 + 1) (by omega)]
    unfold encG
    rw [if_neg (by omega), if_pos (by omega)]
    have : (k * 3 + 1) / 3 = k := by omega
    rw [this]
  have t2 : W1.cell? ⟨G.gt, k * 3 + 2, none⟩ = some (.int .u32 (S.tt k)) := by
    rw [HR1.out.tgt.cell (k * 3 + 2) (by omega)]
    unfold encG
    rw [if_neg (by omega), if_neg (by omega)]
    have : (k * 3 + 2) / 3 = k := by omega
    rw [this]
  rw [← HKK.out] at hf1 hf2
  rw [hf1] at t0
  go_wp2
  go_region
  obtain ⟨v1, v2, v3⟩ := keepT W1 #[.bool true, .int .u32 (S.tp k), .int .u32 (S.tt k)] 86
  generalize hW2 : (W1.alloc (.cells #[.bool true, .int .u32 (S.tp k), .int .u32 (S.tt k)] 86)).drew = W2 at v1 v2 v3 ⊢
  have g12 := fun i => (v3.cell (p := ⟨w.heap.size, i, none⟩) z1).trans (g1 i)
  have g22 := fun i => (v3.cell (p := ⟨w.heap.size + 1, i, none⟩) z2).trans (g2 i)
  have g32 := fun i => (v3.cell (p := ⟨w.heap.size + 1 + 1, i, none⟩) z3).trans (g3 i)
  have g42 := fun i => (v3.frozen (p := ⟨w.heap.size + 1, i, none⟩) z2).trans (g4 i)
  have z12 : w.heap.size < W2.heap.size := by omega
  have z22 : w.heap.size + 1 < W2.heap.size := by omega
  have z32 : w.heap.size + 1 + 1 < W2.heap.size := by omega
  have HR2 := Hid.in (HR1.out.below v3)
  have HV3 := Hid.in v3
  clear hW2 t0 t1 t2 g1 g2 g3 g4 w0 w5 w6 w7 v3 htm htm2 hz hz2 hpq hpi
  go_wp2_with ((go_at_call 27; go_loud (refine (rgoes_any G kd bits hb tb S 3 rd rs1 imm pc false _ (HR2.out) HWH.out HPC.out).mono ?_; rintro e W4 ⟨rfl, hP4, hT4⟩; have HP4 := Hid.in hP4; have HT4 := Hid.in hT4; have m0 := hT4.to_cell (c := w.heap.size + 1 + 1) (o := 0) (by omega) (by omega) (g32 0); have m1 := hT4.to_cell (c := w.heap.size + 1 + 1) (o := 1) (by omega) (by omega) (g32 1); have m2 := hT4.to_cell (c := w.heap.size + 1 + 1) (o := 2) (by omega) (by omega) (g32 2); have r0 := hT4.to_cell (c := w.heap.size + 1) (o := 0) (by omega) (by omega) (g22 0); have r1 := hT4.to_cell (c := w.heap.size + 1) (o := 1) (by omega) (by omega) (g22 1); have r2 := hT4.to_cell (c := w.heap.size + 1) (o := 2) (by omega) (by omega) (g22 2); have rf : ∀ o, W4.frozen? ⟨w.heap.size + 1, o, none⟩ = false := fun o => (World.frozen?_of_block (hT4.block (w.heap.size + 1) (by omega) (by omega))).trans (g42 o); have z24 := Nat.lt_of_lt_of_le (show w.heap.size + 1 < _ by omega) hT4.size; have z34 := Nat.lt_of_lt_of_le (show w.heap.size + 1 + 1 < _ by omega) hT4.size; clear hP4 hT4)))
  go_region
  all_goals (try go_wp2)
  rw [← HKK.out]
  refine bodyPost_ret (v := .tuple #[.int .u32 (S.tt k), .agg #[.int .i64 S.hist, .int .i64 S.top, .int .u32 (S.stack S.top)]]) (by simp [results, Tryd.results12, go_sem, *]) rfl ?_
  exact ⟨rfl, HP4.out.turned ((((Turned.refl (· = w.heap.size + 1) W4).set rfl _ _).set rfl _ _).set rfl _ _).drew n3 n7 n4 n8, ((((((Turned.of_below HG6.out).trans (Turned.of_below HV3.out)).trans HT4.out).setNew (by omega) _ _).setNew (by omega) _ _).setNew (by omega) _ _).drew⟩
set_option maxRecDepth 20000 in
set_option maxHeartbeats 8000000 in
theorem rg_n1_ne (G : PG) (kd : Int) (bits hb tb : Nat) (S : PS) (rd rs1 imm pc : Int) (w : World) (h : Rp w G kd bits hb tb S) (hpc : 0 ≤ pc ∧ pc < 4294967296) (hr1 : (rs1 == 1) = false) (hf1 : S.tf (plc G pc) = true) (hf2 : (S.tp (plc G pc) == pc) = false) : Calls Tryd.prog 12 #[.pointer (some ⟨G.p, 0, none⟩), .int .u32 pc, .agg #[.int .i64 3, .int .i64 rd, .int .i64 rs1, .int .i64 imm]] w fun e w' => e = .returned (.tuple #[.int .u32 ((pc + 4) % 4294967296), .agg #[.int .i64 S.hist, .int .i64 S.top, .int .u32 (S.stack S.top)]]) ∧ Rp w' G kd bits hb tb (goS G S (opW 3) rd rs1 pc false) ∧ Turned (fun k => k = G.p ∨ k = G.gs) w w' := by
  have HPC := Hid.in hpc
  have HP : Hid (∀ y, Below w.heap.size w y → Rp y G kd bits hb tb S) := fun y hy => h.below hy
  have HHI : Hid (0 ≤ (S.hist : Int) ∧ (S.hist : Int) ≤ 1023) := by have := h.low.2; have := h.size.2.2.2.2.2.2; show _ ∧ _; omega
  have h3 := h.cells.here
  have l1 := h.low.1
  have hsh := h.stk.here
  have n1 : ¬ G.p = w.heap.size := by omega
  have n2 : ¬ G.gs = w.heap.size := by omega
  have n3 : ¬ G.p = w.heap.size + 1 := by omega
  have n4 : ¬ G.gs = w.heap.size + 1 := by omega
  have n5 : ¬ G.p = w.heap.size + 1 + 1 := by omega
  have n6 : ¬ G.gs = w.heap.size + 1 + 1 := by omega
  have n7 : ¬ G.gt = w.heap.size + 1 := by have := h.tgt.here; omega
  have n8 : ¬ G.gc = w.heap.size + 1 := by have := h.ctr.here; omega
  have cs3 : ∀ o1 o2 o3, (((w.alloc o1).alloc o2).alloc o3).cell? ⟨G.gs, S.top, none⟩ = some (.int .u32 (S.stack S.top)) := fun o1 o2 o3 => (HP.out _ ((((Below.refl _ _).alloc (Nat.le_refl _) o1).alloc (by simp) o2).alloc (by simp; omega) o3)).stk.cell S.top l1
  have d9 : ∀ o1 o2 o3, (((w.alloc o1).alloc o2).alloc o3).cell? ⟨G.p, 9, none⟩ = some (.int .i64 S.top) := fun o1 o2 o3 => (HP.out _ ((((Below.refl _ _).alloc (Nat.le_refl _) o1).alloc (by simp) o2).alloc (by simp; omega) o3)).cells.cell 9 (by decide)
  have d5 : ∀ o1 o2 o3, (((w.alloc o1).alloc o2).alloc o3).cell? ⟨G.p, 5, none⟩ = some (.int .i64 S.hist) := fun o1 o2 o3 => (HP.out _ ((((Below.refl _ _).alloc (Nat.le_refl _) o1).alloc (by simp) o2).alloc (by simp; omega) o3)).cells.cell 5 (by decide)
  have d8 : ∀ o1 o2 o3, (((w.alloc o1).alloc o2).alloc o3).cell? ⟨G.p, 8, none⟩ = some (.slice (some ⟨G.gs, 0, none⟩) G.ns G.ns) := fun o1 o2 o3 => (HP.out _ ((((Below.refl _ _).alloc (Nat.le_refl _) o1).alloc (by simp) o2).alloc (by simp; omega) o3)).cells.cell 8 (by decide)
  have f5 : ∀ o1 o2, ((w.alloc o1).alloc o2).cell? ⟨G.p, 5, none⟩ = some (.int .i64 S.hist) := fun o1 o2 => (HP.out _ (((Below.refl _ _).alloc (Nat.le_refl _) o1).alloc (by simp) o2)).cells.cell 5 (by decide)
  have f8 : ∀ o1 o2, ((w.alloc o1).alloc o2).cell? ⟨G.p, 8, none⟩ = some (.slice (some ⟨G.gs, 0, none⟩) G.ns G.ns) := fun o1 o2 => (HP.out _ (((Below.refl _ _).alloc (Nat.le_refl _) o1).alloc (by simp) o2)).cells.cell 8 (by decide)
  have f9 : ∀ o1 o2, ((w.alloc o1).alloc o2).cell? ⟨G.p, 9, none⟩ = some (.int .i64 S.top) := fun o1 o2 => (HP.out _ (((Below.refl _ _).alloc (Nat.le_refl _) o1).alloc (by simp) o2)).cells.cell 9 (by decide)
  have fs : ∀ o1 o2, ((w.alloc o1).alloc o2).cell? ⟨G.gs, S.top, none⟩ = some (.int .u32 (S.stack S.top)) := fun o1 o2 => (HP.out _ (((Below.refl _ _).alloc (Nat.le_refl _) o1).alloc (by simp) o2)).stk.cell S.top l1
  have HWH : Hid (What 3) := Or.inr (Or.inr (Or.inr rfl))
  obtain ⟨q1, q2⟩ := plc_is G pc h.size.1
  obtain ⟨k, hk⟩ : ∃ k, k = plc G pc := ⟨_, rfl⟩
  have HKK := Hid.in hk
  rw [← hk] at q1 q2
  clear hk
  have hnt := h.size.2.1
  have hnt1 := h.size.1
  have hpq : 0 ≤ pc / 4 := by omega
  have htm : (pc / 4).tmod (G.nt : Int) = (k : Int) := by rw [Int.tmod_eq_emod_of_nonneg hpq]; exact q1
  have htm2 : pc.tdiv 4 % 4294967296 % (G.nt : Int) = (k : Int) := by
    rw [Int.tdiv_eq_ediv_of_nonneg hpc.1, Int.emod_eq_of_lt hpq (by omega)]; exact q1
  have hz : ¬ (G.nt : Int) = 0 := by omega
  have hz2 : ¬ (G.nt : Int) = -1 := by omega
  have hpi : pc / 4 < 4294967296 := by omega
  clear q1
  clear h hpc
  go_enter Tryd.func12, Tryd.ntmps12
  go_wp2
  go_region
  obtain ⟨g1, g2, g3, g4, g5, g6⟩ := keepG w #[.int .i64 3, .int .i64 rd, .int .i64 rs1, .int .i64 imm] #[.int .i64 0, .int .i64 0, .int .u32 0] #[.int .i64 S.hist, .int .i64 S.top, .int .u32 (S.stack S.top)] 45 52 52
  generalize hW1 : (((w.alloc (.cells #[.int .i64 3, .int .i64 rd, .int .i64 rs1, .int .i64 imm] 45)).alloc (.cells #[.int .i64 0, .int .i64 0, .int .u32 0] 52)).alloc (.cells #[.int .i64 S.hist, .int .i64 S.top, .int .u32 (S.stack S.top)] 52)).drew = W1 at g1 g2 g3 g4 g5 g6 ⊢
  clear cs3 d5 d9 d8 f5 f8 f9 fs hW1
  have HG6 := Hid.in g6
  have z1 : w.heap.size < W1.heap.size := by rw [g5]; omega
  have z2 : w.heap.size + 1 < W1.heap.size := by rw [g5]; omega
  have z3 : w.heap.size + 1 + 1 < W1.heap.size := by rw [g5]; omega
  have hR1 := HP.out _ g6
  have w0 : W1.cell? ⟨G.p, 0, none⟩ = some (.int .i64 kd) := hR1.cells.cell 0 (by decide)
  have w5 : W1.cell? ⟨G.p, 5, none⟩ = some (.int .i64 S.hist) := hR1.cells.cell 5 (by decide)
  have w6 : W1.cell? ⟨G.p, 6, none⟩ = some (.slice (some ⟨G.gc, 0, none⟩) G.nc G.nc) := hR1.cells.cell 6 (by decide)
  have w7 : W1.cell? ⟨G.p, 7, none⟩ = some (.slice (some ⟨G.gt, 0, none⟩) G.nt G.nt) := hR1.cells.cell 7 (by decide)
  have wp := hR1.cells.here
  have wc := hR1.ctr.here
  have wt := hR1.tgt.here
  have HR1 := Hid.in hR1
  clear g5 g6
  have t0 : W1.cell? ⟨G.gt, k * 3, none⟩ = some (.bool (S.tf k)) := by
    rw [HR1.out.tgt.cell (k * 3) (by omega)]
    unfold encG
    rw [if_pos (by omega)]
    have : k * 3 / 3 = k := by omega
    rw [this]
  have t1 : W1.cell? ⟨G.gt, k * 3 + 1, none⟩ = some (.int .u32 (S.tp k)) := by
    rw [HR1.out.tgt.cell (k * 3 + 1) (by omega)]
    unfold encG
    rw [if_neg (by omega), if_pos (by omega)]
    have : (k * 3 + 1) / 3 = k := by omega
    rw [this]
  have t2 : W1.cell? ⟨G.gt, k * 3 + 2, none⟩ = some (.int .u32 (S.tt k)) := by
    rw [HR1.out.tgt.cell (k * 3 + 2) (by omega)]
    unfold encG
    rw [if_neg (by omega), if_neg (by omega)]
    have : (k * 3 + 2) / 3 = k := by omega
    rw [this]
  rw [← HKK.out] at hf1 hf2
  rw [hf1] at t0
  go_wp2
  go_region
  obtain ⟨v1, v2, v3⟩ := keepT W1 #[.bool true, .int .u32 (S.tp k), .int .u32 (S.tt k)] 86
  generalize hW2 : (W1.alloc (.cells #[.bool true, .int .u32 (S.tp k), .int .u32 (S.tt k)] 86)).drew = W2 at v1 v2 v3 ⊢
  have g12 := fun i => (v3.cell (p := ⟨w.heap.size, i, none⟩) z1).trans (g1 i)
  have g22 := fun i => (v3.cell (p := ⟨w.heap.size + 1, i, none⟩) z2).trans (g2 i)
  have g32 := fun i => (v3.cell (p := ⟨w.heap.size + 1 + 1, i, none⟩) z3).trans (g3 i)
  have g42 := fun i => (v3.frozen (p := ⟨w.heap.size + 1, i, none⟩) z2).trans (g4 i)
  have z12 : w.heap.size < W2.heap.size := by omega
  have z22 : w.heap.size + 1 < W2.heap.size := by omega
  have z32 : w.heap.size + 1 + 1 < W2.heap.size := by omega
  have HR2 := Hid.in (HR1.out.below v3)
  have HV3 := Hid.in v3
  clear hW2 t0 t1 t2 g1 g2 g3 g4 w0 w5 w6 w7 v3 htm htm2 hz hz2 hpq hpi
  go_wp2_with ((go_at_call 27; go_loud (refine (rgoes_any G kd bits hb tb S 3 rd rs1 imm pc false _ (HR2.out) HWH.out HPC.out).mono ?_; rintro e W4 ⟨rfl, hP4, hT4⟩; have HP4 := Hid.in hP4; have HT4 := Hid.in hT4; have m0 := hT4.to_cell (c := w.heap.size + 1 + 1) (o := 0) (by omega) (by omega) (g32 0); have m1 := hT4.to_cell (c := w.heap.size + 1 + 1) (o := 1) (by omega) (by omega) (g32 1); have m2 := hT4.to_cell (c := w.heap.size + 1 + 1) (o := 2) (by omega) (by omega) (g32 2); have r0 := hT4.to_cell (c := w.heap.size + 1) (o := 0) (by omega) (by omega) (g22 0); have r1 := hT4.to_cell (c := w.heap.size + 1) (o := 1) (by omega) (by omega) (g22 1); have r2 := hT4.to_cell (c := w.heap.size + 1) (o := 2) (by omega) (by omega) (g22 2); have rf : ∀ o, W4.frozen? ⟨w.heap.size + 1, o, none⟩ = false := fun o => (World.frozen?_of_block (hT4.block (w.heap.size + 1) (by omega) (by omega))).trans (g42 o); have z24 := Nat.lt_of_lt_of_le (show w.heap.size + 1 < _ by omega) hT4.size; have z34 := Nat.lt_of_lt_of_le (show w.heap.size + 1 + 1 < _ by omega) hT4.size; clear hP4 hT4)))
  go_region
  all_goals (try go_wp2)
  refine bodyPost_ret (v := .tuple #[.int .u32 ((pc + 4) % 4294967296), .agg #[.int .i64 S.hist, .int .i64 S.top, .int .u32 (S.stack S.top)]]) (by simp [results, Tryd.results12, go_sem, *]) rfl ?_
  exact ⟨rfl, HP4.out.turned ((((Turned.refl (· = w.heap.size + 1) W4).set rfl _ _).set rfl _ _).set rfl _ _).drew n3 n7 n4 n8, ((((((Turned.of_below HG6.out).trans (Turned.of_below HV3.out)).trans HT4.out).setNew (by omega) _ _).setNew (by omega) _ _).setNew (by omega) _ _).drew⟩
end Go.Proofs.YtaioaakaffafoaaDoor
