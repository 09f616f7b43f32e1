/-
  PREDICT: Guess of a branch (mixed).
-/
import Derived.Test.YtaioaakaffafoaaDoorDk
namespace Go.Proofs.YtaioaakaffafoaaDoor
open Go Go.RowKit
set_option maxHeartbeats 1000000 in
theorem guess_br_mixed (G : PG) (S : PS) (op rd rs1 rs2 imm pc : Int) (w : World) (h : Pr w G S) (hL : Laid w) (hpc : 0 ≤ pc ∧ pc < 4294967296) (hb : brB op = true) (tk : Bool) (hd : G.dv = .iface 102 (.agg #[.slice (some ⟨G.gc, 0, none⟩) G.nc G.nc])) (hl : ∀ y, Pr y G S → Calls Tryd.prog 71 #[.agg #[.slice (some ⟨G.gc, 0, none⟩) G.nc G.nc], .int .u32 pc, .int .i64 imm, .int .i64 S.hist] y fun e z => e = .returned (.bool tk) ∧ Below y.heap.size y z) : Calls Tryd.prog 11 #[.pointer (some ⟨G.p, 0, none⟩), .int .u32 pc, .agg #[.int .i64 op, .int .i64 rd, .int .i64 rs1, .int .i64 rs2, .int .i64 imm]] w fun e w' => e = .returned (.tuple #[.int .u32 (nextV G S op rd rs1 imm pc tk), .agg #[.int .i64 S.hist, .int .i64 S.top, .int .u32 (S.stack S.top)]]) ∧ Pr w' G (goS G S op rd rs1 pc tk) ∧ Turned (fun k => k = G.p ∨ k = G.gs) w w' := by
  have HB := Hid.in hb
  have HPC := Hid.in hpc
  have HP : Hid (∀ y, Below w.heap.size w y → Pr y G S) := fun y hy => h.below hy
  have HLL : Hid (∀ y, Below w.heap.size w y → Laid y) := fun y hy => hL.below hy
  have h3 := h.cells.here
  have l1 := h.low.1
  have hsh := h.stk.here
  have n1 : ¬ G.p = w.heap.size := by omega
  have n2 : ¬ G.gs = w.heap.size := by omega
  have n3 : ¬ G.p = w.heap.size + 1 := by omega
  have n4 : ¬ G.gs = w.heap.size + 1 := by omega
  have n5 : ¬ G.p = w.heap.size + 1 + 1 := by omega
  have n6 : ¬ G.gs = w.heap.size + 1 + 1 := by omega
  have n7 : ¬ G.gt = w.heap.size + 1 := by have := h.tgt.here; omega
  have n8 : ¬ G.gc = w.heap.size + 1 := by have := h.ctr.here; omega
  have cs3 : ∀ o1 o2 o3, (((w.alloc o1).alloc o2).alloc o3).cell? ⟨G.gs, S.top, none⟩ = some (.int .u32 (S.stack S.top)) := fun o1 o2 o3 => (HP.out _ ((((Below.refl _ _).alloc (Nat.le_refl _) o1).alloc (by simp) o2).alloc (by simp; omega) o3)).stk.cell S.top l1
  have d5 : ∀ o1 o2 o3, (((w.alloc o1).alloc o2).alloc o3).cell? ⟨G.p, 5, none⟩ = some (.int .i64 S.top) := fun o1 o2 o3 => (HP.out _ ((((Below.refl _ _).alloc (Nat.le_refl _) o1).alloc (by simp) o2).alloc (by simp; omega) o3)).cells.cell 5 (by decide)
  have d1 : ∀ o1 o2 o3, (((w.alloc o1).alloc o2).alloc o3).cell? ⟨G.p, 1, none⟩ = some (.int .i64 S.hist) := fun o1 o2 o3 => (HP.out _ ((((Below.refl _ _).alloc (Nat.le_refl _) o1).alloc (by simp) o2).alloc (by simp; omega) o3)).cells.cell 1 (by decide)
  have d4 : ∀ o1 o2 o3, (((w.alloc o1).alloc o2).alloc o3).cell? ⟨G.p, 4, none⟩ = some (.slice (some ⟨G.gs, 0, none⟩) G.ns G.ns) := fun o1 o2 o3 => (HP.out _ ((((Below.refl _ _).alloc (Nat.le_refl _) o1).alloc (by simp) o2).alloc (by simp; omega) o3)).cells.cell 4 (by decide)
  have f1 : ∀ o1 o2, ((w.alloc o1).alloc o2).cell? ⟨G.p, 1, none⟩ = some (.int .i64 S.hist) := fun o1 o2 => (HP.out _ (((Below.refl _ _).alloc (Nat.le_refl _) o1).alloc (by simp) o2)).cells.cell 1 (by decide)
  have f4 : ∀ o1 o2, ((w.alloc o1).alloc o2).cell? ⟨G.p, 4, none⟩ = some (.slice (some ⟨G.gs, 0, none⟩) G.ns G.ns) := fun o1 o2 => (HP.out _ (((Below.refl _ _).alloc (Nat.le_refl _) o1).alloc (by simp) o2)).cells.cell 4 (by decide)
  have f5 : ∀ o1 o2, ((w.alloc o1).alloc o2).cell? ⟨G.p, 5, none⟩ = some (.int .i64 S.top) := fun o1 o2 => (HP.out _ (((Below.refl _ _).alloc (Nat.le_refl _) o1).alloc (by simp) o2)).cells.cell 5 (by decide)
  have fs : ∀ o1 o2, ((w.alloc o1).alloc o2).cell? ⟨G.gs, S.top, none⟩ = some (.int .u32 (S.stack S.top)) := fun o1 o2 => (HP.out _ (((Below.refl _ _).alloc (Nat.le_refl _) o1).alloc (by simp) o2)).stk.cell S.top l1
  have HD := Hid.in hd
  have HLC := Hid.in hl
  have hm : ∀ w, (Go.method 275 102 (.agg #[.slice (some ⟨G.gc, 0, none⟩) G.nc G.nc]) "oocore/predict.guess").run Tryd.prog w = .ok (71, .agg #[.slice (some ⟨G.gc, 0, none⟩) G.nc G.nc]) w := fun w => by kernel_rfl
  have hn : ∀ w, (Go.nilAhead 275 102 (.agg #[.slice (some ⟨G.gc, 0, none⟩) G.nc G.nc]) "oocore/predict.guess").run Tryd.prog w = .ok (some false) w := fun w => by kernel_rfl
  clear h hL hb hpc hd hl
  go_enter Tryd.func11, Tryd.ntmps11
  go_wp2
  go_region
  go_wp2
  obtain ⟨g1, g2, g3, g4, g5, g6⟩ := keepG w #[.int .i64 op, .int .i64 rd, .int .i64 rs1, .int .i64 rs2, .int .i64 imm] #[.int .i64 0, .int .i64 0, .int .u32 0] #[.int .i64 S.hist, .int .i64 S.top, .int .u32 (S.stack S.top)] 43 49 49
  generalize (((w.alloc (.cells #[.int .i64 op, .int .i64 rd, .int .i64 rs1, .int .i64 rs2, .int .i64 imm] 43)).alloc (.cells #[.int .i64 0, .int .i64 0, .int .u32 0] 49)).alloc (.cells #[.int .i64 S.hist, .int .i64 S.top, .int .u32 (S.stack S.top)] 49)).drew = W1 at g1 g2 g3 g4 g5 g6 ⊢
  clear cs3 d5 d1 d4 f1 f4 f5 fs
  have HG6 := Hid.in g6
  have HG5 := Hid.in g5
  clear g6 g5
  have z1 : w.heap.size < W1.heap.size := by rw [HG5.out]; omega
  have z2 : w.heap.size + 1 < W1.heap.size := by rw [HG5.out]; omega
  have z3 : w.heap.size + 1 + 1 < W1.heap.size := by rw [HG5.out]; omega
  have p0 : W1.cell? ⟨G.p, 0, none⟩ = some (.iface 102 (.agg #[.slice (some ⟨G.gc, 0, none⟩) G.nc G.nc])) := ((HP.out _ HG6.out).cells.cell 0 (by decide)).trans (congrArg some HD.out)
  have p1 : W1.cell? ⟨G.p, 1, none⟩ = some (.int .i64 S.hist) := (HP.out _ HG6.out).cells.cell 1 (by decide)
  go_region_held3 (fun w' => w'.cell? ⟨w.heap.size, 0, none⟩ = some (.int .i64 op) ∧ w'.cell? ⟨w.heap.size, 1, none⟩ = some (.int .i64 rd) ∧ w'.cell? ⟨w.heap.size, 2, none⟩ = some (.int .i64 rs1) ∧ w'.cell? ⟨w.heap.size, 3, none⟩ = some (.int .i64 rs2) ∧ w'.cell? ⟨w.heap.size, 4, none⟩ = some (.int .i64 imm) ∧ w'.cell? ⟨G.p, 0, none⟩ = some (.iface 102 (.agg #[.slice (some ⟨G.gc, 0, none⟩) G.nc G.nc])) ∧ w'.cell? ⟨G.p, 1, none⟩ = some (.int .i64 S.hist)) (go_keep) (first
    | (go_at_call 23; refine (isBranch_any op rd rs1 rs2 imm _ (by with_reducible exact (HLL.out _ HG6.out).drew)).mono ?_; rintro e WB ⟨rfl, hbB⟩; rw [HB.out]; have hbB' := belowU hbB; have HXB := Hid.in (HG6.out.trans (hbB'.mono HG6.out.size)); have g1B := fun i => (hbB'.cell (p := ⟨w.heap.size, i, none⟩) z1).trans (g1 i); have g3B := fun i => (hbB'.cell (p := ⟨w.heap.size + 1 + 1, i, none⟩) z3).trans (g3 i); have g2B := fun i => (hbB'.cell (p := ⟨w.heap.size + 1, i, none⟩) z2).trans (g2 i); have g4B := fun i => (hbB'.frozen (p := ⟨w.heap.size + 1, i, none⟩) z2).trans (g4 i); have z1B := Nat.lt_of_lt_of_le z1 hbB'.size; have z2B := Nat.lt_of_lt_of_le z2 hbB'.size; have z3B := Nat.lt_of_lt_of_le z3 hbB'.size; have p0B : WB.cell? ⟨G.p, 0, none⟩ = some (.iface 102 (.agg #[.slice (some ⟨G.gc, 0, none⟩) G.nc G.nc])) := (HP.out _ HXB.out).cells.cell 0 (by decide) |>.trans (congrArg some HD.out); have p1B : WB.cell? ⟨G.p, 1, none⟩ = some (.int .i64 S.hist) := (HP.out _ HXB.out).cells.cell 1 (by decide))
    | (go_at_call 71; refine (HLC.out _ (by with_reducible exact HP.out _ HXB.out)).mono ?_; rintro e W2 ⟨rfl, hb2'⟩; have HX2 := Hid.in (HXB.out.trans (hb2'.mono HXB.out.size)); have g12 := fun i => (hb2'.cell (p := ⟨w.heap.size, i, none⟩) z1B).trans (g1B i); have g32 := fun i => (hb2'.cell (p := ⟨w.heap.size + 1 + 1, i, none⟩) z3B).trans (g3B i); have g22 := fun i => (hb2'.cell (p := ⟨w.heap.size + 1, i, none⟩) z2B).trans (g2B i); have g42 := fun i => (hb2'.frozen (p := ⟨w.heap.size + 1, i, none⟩) z2B).trans (g4B i); have z12 := Nat.lt_of_lt_of_le z1B hb2'.size; have z22 := Nat.lt_of_lt_of_le z2B hb2'.size; have z32 := Nat.lt_of_lt_of_le z3B hb2'.size; have p02 : W2.cell? ⟨G.p, 0, none⟩ = some (.iface 102 (.agg #[.slice (some ⟨G.gc, 0, none⟩) G.nc G.nc])) := ((HP.out _ HX2.out).cells.cell 0 (by decide)).trans (congrArg some HD.out); have p12 : W2.cell? ⟨G.p, 1, none⟩ = some (.int .i64 S.hist) := (HP.out _ HX2.out).cells.cell 1 (by decide)))
  go_wp2_with (first
    | (go_at_call 24; go_loud (refine (next_any G S op rd rs1 rs2 imm pc tk _ (HP.out _ HX2.out) HPC.out).mono ?_; rintro e W3 ⟨rfl, hb3⟩; have HX3 := Hid.in (HX2.out.trans (hb3.mono HX2.out.size)); have g13 := fun i => (hb3.cell (p := ⟨w.heap.size, i, none⟩) z12).trans (g12 i); have g33 := fun i => (hb3.cell (p := ⟨w.heap.size + 1 + 1, i, none⟩) z32).trans (g32 i); have g23 := fun i => (hb3.cell (p := ⟨w.heap.size + 1, i, none⟩) z22).trans (g22 i); have g43 := fun i => (hb3.frozen (p := ⟨w.heap.size + 1, i, none⟩) z22).trans (g42 i); have z13 := Nat.lt_of_lt_of_le z12 hb3.size; have z23 := Nat.lt_of_lt_of_le z22 hb3.size; have z33 := Nat.lt_of_lt_of_le z32 hb3.size))
    | (go_at_call 25; go_loud (refine (goOn_any G S op rd rs1 rs2 imm pc tk _ (HP.out _ HX3.out) (HLL.out _ HX3.out) HPC.out).mono ?_; rintro e W4 ⟨rfl, hP4, hT4⟩; have HP4 := Hid.in hP4; have HT4 := Hid.in hT4; have m0 := hT4.to_cell (c := w.heap.size + 1 + 1) (o := 0) z33 (by omega) (g33 0); have m1 := hT4.to_cell (c := w.heap.size + 1 + 1) (o := 1) z33 (by omega) (g33 1); have m2 := hT4.to_cell (c := w.heap.size + 1 + 1) (o := 2) z33 (by omega) (g33 2); have r0 := hT4.to_cell (c := w.heap.size + 1) (o := 0) z23 (by omega) (g23 0); have r1 := hT4.to_cell (c := w.heap.size + 1) (o := 1) z23 (by omega) (g23 1); have r2 := hT4.to_cell (c := w.heap.size + 1) (o := 2) z23 (by omega) (g23 2); have rf : ∀ o, W4.frozen? ⟨w.heap.size + 1, o, none⟩ = false := fun o => (World.frozen?_of_block (w := W3) (hT4.block (w.heap.size + 1) z23 (by omega))).trans (g43 o); have z24 := Nat.lt_of_lt_of_le z23 hT4.size; have z34 := Nat.lt_of_lt_of_le z33 hT4.size; clear hP4 hT4 g33 g23 g13)))
  go_region
  all_goals (try go_wp2)
  refine bodyPost_ret (v := .tuple #[.int .u32 (nextV G S op rd rs1 imm pc tk), .agg #[.int .i64 S.hist, .int .i64 S.top, .int .u32 (S.stack S.top)]]) (by simp [results, Tryd.results11, go_sem, *]) rfl ?_
  exact ⟨rfl, HP4.out.turned ((((Turned.refl (· = w.heap.size + 1) W4).set rfl _ _).set rfl _ _).set rfl _ _).drew n3 n7 n4 n8, ((((((Turned.of_below HX3.out).trans HT4.out).setNew (by omega) _ _).setNew (by omega) _ _).setNew (by omega) _ _)).drew⟩
end Go.Proofs.YtaioaakaffafoaaDoor
