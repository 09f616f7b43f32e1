/-
  PREDICT: the answer's Guess.
-/
import Derived.Test.YtaioaakaffafoaaDoorFc
import Derived.Test.YtaioaakaffafoaaDoorDk
namespace Go.Proofs.YtaioaakaffafoaaDoor
open Go Go.RowKit
theorem nextV_no (G : PG) (S : PS) (op rd rs1 imm pc : Int) (h3 : (op == 3) = false) (h4 : (op == 4) = false) : nextV G S op rd rs1 imm pc false = (pc + 4) % 4294967296 := by
  unfold nextV retB farB retB
  rw [h3, h4]
  rfl
set_option maxRecDepth 20000 in
set_option maxHeartbeats 1000000 in
theorem rg_other (G : PG) (kd : Int) (bits hb tb : Nat) (S : PS) (rd rs1 imm pc : Int) (w : World) (h : Rp w G kd bits hb tb S) (hpc : 0 ≤ pc ∧ pc < 4294967296) : Calls Tryd.prog 12 #[.pointer (some ⟨G.p, 0, none⟩), .int .u32 pc, .agg #[.int .i64 0, .int .i64 rd, .int .i64 rs1, .int .i64 imm]] w fun e w' => e = .returned (.tuple #[.int .u32 ((pc + 4) % 4294967296), .agg #[.int .i64 S.hist, .int .i64 S.top, .int .u32 (S.stack S.top)]]) ∧ Rp w' G kd bits hb tb (goS G S (opW 0) rd rs1 pc false) ∧ Turned (fun k => k = G.p ∨ k = G.gs) w w' := by
  have HPC := Hid.in hpc
  have HP : Hid (∀ y, Below w.heap.size w y → Rp y G kd bits hb tb S) := fun y hy => h.below hy
  have HHI : Hid (0 ≤ (S.hist : Int) ∧ (S.hist : Int) ≤ 1023) := by have := h.low.2; have := h.size.2.2.2.2.2.2; show _ ∧ _; omega
  have h3 := h.cells.here
  have l1 := h.low.1
  have hsh := h.stk.here
  have n1 : ¬ G.p = w.heap.size := by omega
  have n2 : ¬ G.gs = w.heap.size := by omega
  have n3 : ¬ G.p = w.heap.size + 1 := by omega
  have n4 : ¬ G.gs = w.heap.size + 1 := by omega
  have n5 : ¬ G.p = w.heap.size + 1 + 1 := by omega
  have n6 : ¬ G.gs = w.heap.size + 1 + 1 := by omega
  have n7 : ¬ G.gt = w.heap.size + 1 := by have := h.tgt.here; omega
  have n8 : ¬ G.gc = w.heap.size + 1 := by have := h.ctr.here; omega
  have cs3 : ∀ o1 o2 o3, (((w.alloc o1).alloc o2).alloc o3).cell? ⟨G.gs, S.top, none⟩ = some (.int .u32 (S.stack S.top)) := fun o1 o2 o3 => (HP.out _ ((((Below.refl _ _).alloc (Nat.le_refl _) o1).alloc (by simp) o2).alloc (by simp; omega) o3)).stk.cell S.top l1
  have d9 : ∀ o1 o2 o3, (((w.alloc o1).alloc o2).alloc o3).cell? ⟨G.p, 9, none⟩ = some (.int .i64 S.top) := fun o1 o2 o3 => (HP.out _ ((((Below.refl _ _).alloc (Nat.le_refl _) o1).alloc (by simp) o2).alloc (by simp; omega) o3)).cells.cell 9 (by decide)
  have d5 : ∀ o1 o2 o3, (((w.alloc o1).alloc o2).alloc o3).cell? ⟨G.p, 5, none⟩ = some (.int .i64 S.hist) := fun o1 o2 o3 => (HP.out _ ((((Below.refl _ _).alloc (Nat.le_refl _) o1).alloc (by simp) o2).alloc (by simp; omega) o3)).cells.cell 5 (by decide)
  have d8 : ∀ o1 o2 o3, (((w.alloc o1).alloc o2).alloc o3).cell? ⟨G.p, 8, none⟩ = some (.slice (some ⟨G.gs, 0, none⟩) G.ns G.ns) := fun o1 o2 o3 => (HP.out _ ((((Below.refl _ _).alloc (Nat.le_refl _) o1).alloc (by simp) o2).alloc (by simp; omega) o3)).cells.cell 8 (by decide)
  have f5 : ∀ o1 o2, ((w.alloc o1).alloc o2).cell? ⟨G.p, 5, none⟩ = some (.int .i64 S.hist) := fun o1 o2 => (HP.out _ (((Below.refl _ _).alloc (Nat.le_refl _) o1).alloc (by simp) o2)).cells.cell 5 (by decide)
  have f8 : ∀ o1 o2, ((w.alloc o1).alloc o2).cell? ⟨G.p, 8, none⟩ = some (.slice (some ⟨G.gs, 0, none⟩) G.ns G.ns) := fun o1 o2 => (HP.out _ (((Below.refl _ _).alloc (Nat.le_refl _) o1).alloc (by simp) o2)).cells.cell 8 (by decide)
  have f9 : ∀ o1 o2, ((w.alloc o1).alloc o2).cell? ⟨G.p, 9, none⟩ = some (.int .i64 S.top) := fun o1 o2 => (HP.out _ (((Below.refl _ _).alloc (Nat.le_refl _) o1).alloc (by simp) o2)).cells.cell 9 (by decide)
  have fs : ∀ o1 o2, ((w.alloc o1).alloc o2).cell? ⟨G.gs, S.top, none⟩ = some (.int .u32 (S.stack S.top)) := fun o1 o2 => (HP.out _ (((Below.refl _ _).alloc (Nat.le_refl _) o1).alloc (by simp) o2)).stk.cell S.top l1
  have HWH : Hid (What 0) := Or.inl rfl
  clear h hpc
  go_enter Tryd.func12, Tryd.ntmps12
  go_wp2
  go_region
  obtain ⟨g1, g2, g3, g4, g5, g6⟩ := keepG w #[.int .i64 0, .int .i64 rd, .int .i64 rs1, .int .i64 imm] #[.int .i64 0, .int .i64 0, .int .u32 0] #[.int .i64 S.hist, .int .i64 S.top, .int .u32 (S.stack S.top)] 45 52 52
  generalize hW1 : (((w.alloc (.cells #[.int .i64 0, .int .i64 rd, .int .i64 rs1, .int .i64 imm] 45)).alloc (.cells #[.int .i64 0, .int .i64 0, .int .u32 0] 52)).alloc (.cells #[.int .i64 S.hist, .int .i64 S.top, .int .u32 (S.stack S.top)] 52)).drew = W1 at g1 g2 g3 g4 g5 g6 ⊢
  clear cs3 d5 d9 d8 f5 f8 f9 fs hW1
  have HG6 := Hid.in g6
  have z1 : w.heap.size < W1.heap.size := by rw [g5]; omega
  have z2 : w.heap.size + 1 < W1.heap.size := by rw [g5]; omega
  have z3 : w.heap.size + 1 + 1 < W1.heap.size := by rw [g5]; omega
  have hR1 := HP.out _ g6
  have w0 : W1.cell? ⟨G.p, 0, none⟩ = some (.int .i64 kd) := hR1.cells.cell 0 (by decide)
  have w5 : W1.cell? ⟨G.p, 5, none⟩ = some (.int .i64 S.hist) := hR1.cells.cell 5 (by decide)
  have w6 : W1.cell? ⟨G.p, 6, none⟩ = some (.slice (some ⟨G.gc, 0, none⟩) G.nc G.nc) := hR1.cells.cell 6 (by decide)
  have w7 : W1.cell? ⟨G.p, 7, none⟩ = some (.slice (some ⟨G.gt, 0, none⟩) G.nt G.nt) := hR1.cells.cell 7 (by decide)
  have wp := hR1.cells.here
  have wc := hR1.ctr.here
  have wt := hR1.tgt.here
  have HR1 := Hid.in hR1
  clear g5 g6
  go_wp2_with (first
    | (go_at_call 27; refine (rgoes_any G kd bits hb tb S 0 rd rs1 imm pc false _ (HR1.out.below (by repeat (with_reducible first | exact Below.refl _ _ | refine Below.drew ?_ | refine Below.alloc ?_ (by first | omega | (simp <;> omega)) _))) HWH.out HPC.out).mono ?_; rintro e W4 ⟨rfl, hP4, hT4⟩; have HP4 := Hid.in hP4; have HT4 := Hid.in hT4; have m0 := hT4.to_cell (c := w.heap.size + 1 + 1) (o := 0) (by omega) (by omega) (g3 0); have m1 := hT4.to_cell (c := w.heap.size + 1 + 1) (o := 1) (by omega) (by omega) (g3 1); have m2 := hT4.to_cell (c := w.heap.size + 1 + 1) (o := 2) (by omega) (by omega) (g3 2); have r0 := hT4.to_cell (c := w.heap.size + 1) (o := 0) (by omega) (by omega) (g2 0); have r1 := hT4.to_cell (c := w.heap.size + 1) (o := 1) (by omega) (by omega) (g2 1); have r2 := hT4.to_cell (c := w.heap.size + 1) (o := 2) (by omega) (by omega) (g2 2); have rf : ∀ o, W4.frozen? ⟨w.heap.size + 1, o, none⟩ = false := fun o => (World.frozen?_of_block (hT4.block (w.heap.size + 1) (by omega) (by omega))).trans (g4 o); have z24 := Nat.lt_of_lt_of_le (show w.heap.size + 1 < _ by omega) hT4.size; have z34 := Nat.lt_of_lt_of_le (show w.heap.size + 1 + 1 < _ by omega) hT4.size; clear hP4 hT4))
  go_region
  all_goals (try go_wp2)
  refine bodyPost_ret (v := .tuple #[.int .u32 ((pc + 4) % 4294967296), .agg #[.int .i64 S.hist, .int .i64 S.top, .int .u32 (S.stack S.top)]]) (by simp [results, Tryd.results12, go_sem, *]) rfl ?_
  exact ⟨rfl, HP4.out.turned ((((Turned.refl (· = w.heap.size + 1) W4).set rfl _ _).set rfl _ _).set rfl _ _).drew n3 n7 n4 n8, ((((((Turned.of_below HG6.out).trans (Turned.refl _ W1)).trans HT4.out).setNew (by omega) _ _).setNew (by omega) _ _).setNew (by omega) _ _).drew⟩
end Go.Proofs.YtaioaakaffafoaaDoor
