import Derived.Test.YtemamhkhjijdlaaGreatDoorY13
/-
  PREDICT: Guess of what is no branch.
-/
namespace Go.Proofs.YtemamhkhjijdlaaGreatDoor
open Go Go.RowKit
theorem Turned.setNew {Q : Nat → Prop} {x y : World} (h : Turned Q x y) {b : Nat} (hb : x.heap.size ≤ b) (o : Nat) (v : Value) : Turned Q x (y.setCell ⟨b, o, none⟩ v) :=
  ⟨h.os, h.tape, h.output, by simpa [World.setCell] using h.size, fun k hk hq => (Below.heap_setCell _ _ _ _ (show k ≠ b by omega)).trans (h.block k hk hq)⟩
theorem keepG (w : World) (c d e : Array Value) (t u v : TypeId) : (∀ i, (((w.alloc (.cells c t)).alloc (.cells d u)).alloc (.cells e v)).drew.cell? ⟨w.heap.size, i, none⟩ = c[i]?) ∧ (∀ i, (((w.alloc (.cells c t)).alloc (.cells d u)).alloc (.cells e v)).drew.cell? ⟨w.heap.size + 1, i, none⟩ = d[i]?) ∧ (∀ i, (((w.alloc (.cells c t)).alloc (.cells d u)).alloc (.cells e v)).drew.cell? ⟨w.heap.size + 1 + 1, i, none⟩ = e[i]?) ∧ (∀ i, (((w.alloc (.cells c t)).alloc (.cells d u)).alloc (.cells e v)).drew.frozen? ⟨w.heap.size + 1, i, none⟩ = false) ∧ (((w.alloc (.cells c t)).alloc (.cells d u)).alloc (.cells e v)).drew.heap.size = w.heap.size + 3 ∧ Below w.heap.size w (((w.alloc (.cells c t)).alloc (.cells d u)).alloc (.cells e v)).drew := by
  have a1 : CellsAt 0 (w.alloc (.cells c t)) w.heap.size (fun _ => undef) := cells_new w (fun i hi => by omega)
  refine ⟨fun i => ?_, fun i => ?_, fun i => ?_, fun i => ?_, by simp [World.drew], (((Below.refl _ _).alloc (Nat.le_refl _) _).alloc (by simp) _).alloc (by simp; omega) _ |>.drew⟩
  · have q := World.cell?_alloc_new w c t i
    have b1 : Below (w.alloc (.cells c t)).heap.size (w.alloc (.cells c t)) (((w.alloc (.cells c t)).alloc (.cells d u)).alloc (.cells e v)).drew := (((Below.refl _ _).alloc (Nat.le_refl _) _).alloc (by simp) _).drew
    rw [b1.cell (p := ⟨w.heap.size, i, none⟩) (by simp)]; exact q
  · have q := World.cell?_alloc_new (w.alloc (.cells c t)) d u i
    rw [World.size_alloc] at q
    have b1 : Below ((w.alloc (.cells c t)).alloc (.cells d u)).heap.size ((w.alloc (.cells c t)).alloc (.cells d u)) (((w.alloc (.cells c t)).alloc (.cells d u)).alloc (.cells e v)).drew := ((Below.refl _ _).alloc (Nat.le_refl _) _).drew
    rw [b1.cell (p := ⟨w.heap.size + 1, i, none⟩) (by simp)]; exact q
  · have q := World.cell?_alloc_new ((w.alloc (.cells c t)).alloc (.cells d u)) e v i
    rw [World.size_alloc, World.size_alloc] at q
    exact q
  · have b1 : Below ((w.alloc (.cells c t)).alloc (.cells d u)).heap.size ((w.alloc (.cells c t)).alloc (.cells d u)) (((w.alloc (.cells c t)).alloc (.cells d u)).alloc (.cells e v)).drew := ((Below.refl _ _).alloc (Nat.le_refl _) _).drew
    rw [b1.frozen (p := ⟨w.heap.size + 1, i, none⟩) (by simp)]
    exact World.frozen?_alloc_at d u _ i (by simp)
set_option maxHeartbeats 1000000 in
theorem guess_no (G : PG) (S : PS) (op rd rs1 rs2 imm pc : Int) (w : World) (h : Pr w G S) (hL : Laid w) (hpc : 0 ≤ pc ∧ pc < 4294967296) (hb : brB op = false) : Calls Tryz.prog 164 #[.pointer (some ⟨G.p, 0, none⟩), .int .u32 pc, .agg #[.int .i64 op, .int .i64 rd, .int .i64 rs1, .int .i64 rs2, .int .i64 imm]] w fun e w' => e = .returned (.tuple #[.int .u32 (nextV G S op rd rs1 imm pc false), .agg #[.int .i64 S.hist, .int .i64 S.top, .int .u32 (S.stack S.top)]]) ∧ Pr w' G (goS G S op rd rs1 pc false) ∧ Turned (fun k => k = G.p ∨ k = G.gs) w w' := by
  have HB := Hid.in hb
  have HPC := Hid.in hpc
  have HP : Hid (∀ y, Below w.heap.size w y → Pr y G S) := fun y hy => h.below hy
  have HLL : Hid (∀ y, Below w.heap.size w y → Laid y) := fun y hy => hL.below hy
  have h3 := h.cells.here
  have l1 := h.low.1
  have hsh := h.stk.here
  have n1 : ¬ G.p = w.heap.size := by omega
  have n2 : ¬ G.gs = w.heap.size := by omega
  have n3 : ¬ G.p = w.heap.size + 1 := by omega
  have n4 : ¬ G.gs = w.heap.size + 1 := by omega
  have n5 : ¬ G.p = w.heap.size + 1 + 1 := by omega
  have n6 : ¬ G.gs = w.heap.size + 1 + 1 := by omega
  have n7 : ¬ G.gt = w.heap.size + 1 := by have := h.tgt.here; omega
  have n8 : ¬ G.gc = w.heap.size + 1 := by have := h.ctr.here; omega
  have cs3 : ∀ o1 o2 o3, (((w.alloc o1).alloc o2).alloc o3).cell? ⟨G.gs, S.top, none⟩ = some (.int .u32 (S.stack S.top)) := fun o1 o2 o3 => (HP.out _ ((((Below.refl _ _).alloc (Nat.le_refl _) o1).alloc (by simp) o2).alloc (by simp; omega) o3)).stk.cell S.top l1
  have d5 : ∀ o1 o2 o3, (((w.alloc o1).alloc o2).alloc o3).cell? ⟨G.p, 5, none⟩ = some (.int .i64 S.top) := fun o1 o2 o3 => (HP.out _ ((((Below.refl _ _).alloc (Nat.le_refl _) o1).alloc (by simp) o2).alloc (by simp; omega) o3)).cells.cell 5 (by decide)
  have d1 : ∀ o1 o2 o3, (((w.alloc o1).alloc o2).alloc o3).cell? ⟨G.p, 1, none⟩ = some (.int .i64 S.hist) := fun o1 o2 o3 => (HP.out _ ((((Below.refl _ _).alloc (Nat.le_refl _) o1).alloc (by simp) o2).alloc (by simp; omega) o3)).cells.cell 1 (by decide)
  have d4 : ∀ o1 o2 o3, (((w.alloc o1).alloc o2).alloc o3).cell? ⟨G.p, 4, none⟩ = some (.slice (some ⟨G.gs, 0, none⟩) G.ns G.ns) := fun o1 o2 o3 => (HP.out _ ((((Below.refl _ _).alloc (Nat.le_refl _) o1).alloc (by simp) o2).alloc (by simp; omega) o3)).cells.cell 4 (by decide)
  have f1 : ∀ o1 o2, ((w.alloc o1).alloc o2).cell? ⟨G.p, 1, none⟩ = some (.int .i64 S.hist) := fun o1 o2 => (HP.out _ (((Below.refl _ _).alloc (Nat.le_refl _) o1).alloc (by simp) o2)).cells.cell 1 (by decide)
  have f4 : ∀ o1 o2, ((w.alloc o1).alloc o2).cell? ⟨G.p, 4, none⟩ = some (.slice (some ⟨G.gs, 0, none⟩) G.ns G.ns) := fun o1 o2 => (HP.out _ (((Below.refl _ _).alloc (Nat.le_refl _) o1).alloc (by simp) o2)).cells.cell 4 (by decide)
  have f5 : ∀ o1 o2, ((w.alloc o1).alloc o2).cell? ⟨G.p, 5, none⟩ = some (.int .i64 S.top) := fun o1 o2 => (HP.out _ (((Below.refl _ _).alloc (Nat.le_refl _) o1).alloc (by simp) o2)).cells.cell 5 (by decide)
  have fs : ∀ o1 o2, ((w.alloc o1).alloc o2).cell? ⟨G.gs, S.top, none⟩ = some (.int .u32 (S.stack S.top)) := fun o1 o2 => (HP.out _ (((Below.refl _ _).alloc (Nat.le_refl _) o1).alloc (by simp) o2)).stk.cell S.top l1
  clear h hL hb hpc
  go_enter Tryz.func164, Tryz.ntmps164
  go_wp2
  go_region
  go_wp2
  obtain ⟨g1, g2, g3, g4, g5, g6⟩ := keepG w #[.int .i64 op, .int .i64 rd, .int .i64 rs1, .int .i64 rs2, .int .i64 imm] #[.int .i64 0, .int .i64 0, .int .u32 0] #[.int .i64 S.hist, .int .i64 S.top, .int .u32 (S.stack S.top)] 199 224 224
  generalize (((w.alloc (.cells #[.int .i64 op, .int .i64 rd, .int .i64 rs1, .int .i64 rs2, .int .i64 imm] 199)).alloc (.cells #[.int .i64 0, .int .i64 0, .int .u32 0] 224)).alloc (.cells #[.int .i64 S.hist, .int .i64 S.top, .int .u32 (S.stack S.top)] 224)).drew = W1 at g1 g2 g3 g4 g5 g6 ⊢
  clear cs3 d5 d1 d4 f1 f4 f5 fs
  have HG6 := Hid.in g6
  have HG5 := Hid.in g5
  clear g6 g5
  have z1 : w.heap.size < W1.heap.size := by rw [HG5.out]; omega
  have z2 : w.heap.size + 1 < W1.heap.size := by rw [HG5.out]; omega
  have z3 : w.heap.size + 1 + 1 < W1.heap.size := by rw [HG5.out]; omega
  have p0 : W1.cell? ⟨G.p, 0, none⟩ = some G.dv := (HP.out _ HG6.out).cells.cell 0 (by decide)
  have p1 : W1.cell? ⟨G.p, 1, none⟩ = some (.int .i64 S.hist) := (HP.out _ HG6.out).cells.cell 1 (by decide)
  refine wp_region_any (by kernel_rfl) ?_
  change wpAny _ _ _ _ _ _ _ (World.drew _)
  refine wpAny_ready (rs := [0]) (by kernel_rfl) (by simp) ?_
  refine AllReady.cons rfl (fun K hK => ?_) AllReady.nil
  go_simp
  refine hK _ _ ?_
  clear hK K
  refine wpAny_ready (rs := [1]) (by kernel_rfl) (by simp) ?_
  refine AllReady.cons rfl (fun K hK => ?_) AllReady.nil
  go_simp
  go_wp2_with ((go_at_call 222; refine (isBranch_any op rd rs1 rs2 imm _ (by with_reducible exact (HLL.out _ HG6.out).drew)).mono ?_; rintro e W2 ⟨rfl, hb2⟩; rw [HB.out]; have hb2' := belowU hb2; have HX2 := Hid.in (HG6.out.trans (hb2'.mono HG6.out.size)); have g12 := fun i => (hb2'.cell (p := ⟨w.heap.size, i, none⟩) z1).trans (g1 i); have g32 := fun i => (hb2'.cell (p := ⟨w.heap.size + 1 + 1, i, none⟩) z3).trans (g3 i); have g22 := fun i => (hb2'.cell (p := ⟨w.heap.size + 1, i, none⟩) z2).trans (g2 i); have g42 := fun i => (hb2'.frozen (p := ⟨w.heap.size + 1, i, none⟩) z2).trans (g4 i); have z12 := Nat.lt_of_lt_of_le z1 hb2'.size; have z22 := Nat.lt_of_lt_of_le z2 hb2'.size; have z32 := Nat.lt_of_lt_of_le z3 hb2'.size; have p02 : W2.cell? ⟨G.p, 0, none⟩ = some G.dv := (HP.out _ HX2.out).cells.cell 0 (by decide); have p12 : W2.cell? ⟨G.p, 1, none⟩ = some (.int .i64 S.hist) := (HP.out _ HX2.out).cells.cell 1 (by decide)))
  refine wpAny_take (i := 2) (v := .bool false) rfl (by kernel_rfl) (by kernel_rfl) (by kernel_rfl) (fun _ _ _ h => h) (Or.inl ⟨by kernel_rfl, fun _ => by kernel_rfl⟩) ?_
  refine wpAny_take (i := 3) (v := undef) rfl (by kernel_rfl) (by kernel_rfl) (by kernel_rfl) (fun _ _ _ h => h) (Or.inr ⟨by kernel_rfl, rfl⟩) ?_
  refine wpAny_take (i := 4) (v := undef) rfl (by kernel_rfl) (by kernel_rfl) (by kernel_rfl) (fun _ _ _ h => h) (Or.inr ⟨by kernel_rfl, rfl⟩) ?_
  refine wpAny_take (i := 5) (v := undef) rfl (by kernel_rfl) (by kernel_rfl) (by kernel_rfl) (fun _ _ _ h => h) (Or.inr ⟨by kernel_rfl, rfl⟩) ?_
  refine wpAny_take (i := 6) (v := undef) rfl (by kernel_rfl) (by kernel_rfl) (by kernel_rfl) (fun _ _ _ h => h) (Or.inr ⟨by kernel_rfl, rfl⟩) ?_
  refine wpAny_take (i := 7) (v := undef) rfl (by kernel_rfl) (by kernel_rfl) (by kernel_rfl) (fun _ _ _ h => h) (Or.inr ⟨by kernel_rfl, rfl⟩) ?_
  refine wpAny_take (i := 8) (v := undef) rfl (by kernel_rfl) (by kernel_rfl) (by kernel_rfl) (fun _ _ _ h => h) (Or.inr ⟨by kernel_rfl, rfl⟩) ?_
  refine wpAny_take (i := 9) (v := undef) rfl (by kernel_rfl) (by kernel_rfl) (by kernel_rfl) (fun _ _ _ h => h) (Or.inr ⟨by kernel_rfl, rfl⟩) ?_
  refine wpAny_take (i := 10) (v := undef) rfl (by kernel_rfl) (by kernel_rfl) (by kernel_rfl) (fun _ _ _ h => h) (Or.inr ⟨by kernel_rfl, rfl⟩) ?_
  refine wpAny_take (i := 11) (v := undef) rfl (by kernel_rfl) (by kernel_rfl) (by kernel_rfl) (fun _ _ _ h => h) (Or.inr ⟨by kernel_rfl, rfl⟩) ?_
  refine wpAny_take (i := 12) (v := undef) rfl (by kernel_rfl) (by kernel_rfl) (by kernel_rfl) (fun _ _ _ h => h) (Or.inr ⟨by kernel_rfl, rfl⟩) ?_
  refine wpAny_take (i := 13) (v := undef) rfl (by kernel_rfl) (by kernel_rfl) (by kernel_rfl) (fun _ _ _ h => h) (Or.inr ⟨by kernel_rfl, rfl⟩) ?_
  refine wpAny_take (i := 14) (v := undef) rfl (by kernel_rfl) (by kernel_rfl) (by kernel_rfl) (fun _ _ _ h => h) (Or.inr ⟨by kernel_rfl, rfl⟩) ?_
  refine wpAny_take (i := 15) (v := undef) rfl (by kernel_rfl) (by kernel_rfl) (by kernel_rfl) (fun _ _ _ h => h) (Or.inr ⟨by kernel_rfl, rfl⟩) ?_
  refine wpAny_take (i := 16) (v := undef) rfl (by kernel_rfl) (by kernel_rfl) (by kernel_rfl) (fun _ _ _ h => h) (Or.inr ⟨by kernel_rfl, rfl⟩) ?_
  refine wpAny_take (i := 17) (v := .bool false) rfl (by kernel_rfl) (by kernel_rfl) (by kernel_rfl) (fun _ _ _ h => h) (Or.inl ⟨by kernel_rfl, fun _ => by kernel_rfl⟩) ?_
  refine wpAny_take (i := 18) (v := .bool false) rfl (by kernel_rfl) (by kernel_rfl) (by kernel_rfl) (fun _ _ _ h => h) (Or.inl ⟨by kernel_rfl, fun _ => by kernel_rfl⟩) ?_
  refine wpAny_done (by kernel_rfl) ?_ _
  go_wp2_with (first
    | (go_at_call 223; go_loud (refine (next_any G S op rd rs1 rs2 imm pc false _ (HP.out _ HX2.out) HPC.out).mono ?_; rintro e W3 ⟨rfl, hb3⟩; have HX3 := Hid.in (HX2.out.trans (hb3.mono HX2.out.size)); have g13 := fun i => (hb3.cell (p := ⟨w.heap.size, i, none⟩) z12).trans (g12 i); have g33 := fun i => (hb3.cell (p := ⟨w.heap.size + 1 + 1, i, none⟩) z32).trans (g32 i); have g23 := fun i => (hb3.cell (p := ⟨w.heap.size + 1, i, none⟩) z22).trans (g22 i); have g43 := fun i => (hb3.frozen (p := ⟨w.heap.size + 1, i, none⟩) z22).trans (g42 i); have z13 := Nat.lt_of_lt_of_le z12 hb3.size; have z23 := Nat.lt_of_lt_of_le z22 hb3.size; have z33 := Nat.lt_of_lt_of_le z32 hb3.size))
    | (go_at_call 191; go_loud (refine (goOn_any G S op rd rs1 rs2 imm pc false _ (HP.out _ HX3.out) (HLL.out _ HX3.out) HPC.out).mono ?_; rintro e W4 ⟨rfl, hP4, hT4⟩; have HP4 := Hid.in hP4; have HT4 := Hid.in hT4; have m0 := hT4.to_cell (c := w.heap.size + 1 + 1) (o := 0) z33 (by omega) (g33 0); have m1 := hT4.to_cell (c := w.heap.size + 1 + 1) (o := 1) z33 (by omega) (g33 1); have m2 := hT4.to_cell (c := w.heap.size + 1 + 1) (o := 2) z33 (by omega) (g33 2); have r0 := hT4.to_cell (c := w.heap.size + 1) (o := 0) z23 (by omega) (g23 0); have r1 := hT4.to_cell (c := w.heap.size + 1) (o := 1) z23 (by omega) (g23 1); have r2 := hT4.to_cell (c := w.heap.size + 1) (o := 2) z23 (by omega) (g23 2); have rf : ∀ o, W4.frozen? ⟨w.heap.size + 1, o, none⟩ = false := fun o => (World.frozen?_of_block (w := W3) (hT4.block (w.heap.size + 1) z23 (by omega))).trans (g43 o); have z24 := Nat.lt_of_lt_of_le z23 hT4.size; have z34 := Nat.lt_of_lt_of_le z33 hT4.size; clear hP4 hT4 g33 g23 g13)))
  go_region
  all_goals (try go_wp2)
  refine bodyPost_ret (v := .tuple #[.int .u32 (nextV G S op rd rs1 imm pc false), .agg #[.int .i64 S.hist, .int .i64 S.top, .int .u32 (S.stack S.top)]]) (by simp [results, Tryz.results164, go_sem, *]) rfl ?_
  exact ⟨rfl, HP4.out.turned ((((Turned.refl (· = w.heap.size + 1) W4).set rfl _ _).set rfl _ _).set rfl _ _).drew n3 n7 n4 n8, ((((((Turned.of_below HX3.out).trans HT4.out).setNew (by omega) _ _).setNew (by omega) _ _).setNew (by omega) _ _)).drew⟩
end Go.Proofs.YtemamhkhjijdlaaGreatDoor
