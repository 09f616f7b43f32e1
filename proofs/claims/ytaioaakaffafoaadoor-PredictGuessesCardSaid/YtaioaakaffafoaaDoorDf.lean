/-
  PREDICT: the program's predictor goes back.
-/
import Derived.Test.YtaioaakaffafoaaDoorDe
namespace Go.Proofs.YtaioaakaffafoaaDoor
open Go Go.RowKit
theorem Pr.drew {w : World} {G : PG} {S : PS} (h : Pr w G S) : Pr w.drew G S := h.below (Below.refl _ _).drew
theorem Pr.setHist {w : World} {G : PG} {S : PS} (h : Pr w G S) (hh : Nat) (h1 : hh ≤ G.mask) : Pr (w.setCell ⟨G.p, 1, none⟩ (.int .i64 hh)) G { S with hist := hh } := by
  obtain ⟨a1, a2, a3, a4, a5, a6, a7, a8⟩ := h
  exact ⟨CD.hist a1 hh, a2.setOther _ _ (fun e => a5.1 e.symm), a3.setOther _ _ (fun e => a5.2.1 e.symm), a4.setOther _ _ (fun e => a5.2.2.1 e.symm), a5, ⟨a6.1, h1⟩, a7, a8⟩
theorem Pr.setTop {w : World} {G : PG} {S : PS} (h : Pr w G S) (t : Nat) (h1 : t < G.ns) : Pr (w.setCell ⟨G.p, 5, none⟩ (.int .i64 t)) G { S with top := t } := by
  obtain ⟨a1, a2, a3, a4, a5, a6, a7, a8⟩ := h
  exact ⟨CD.top a1 t, a2.setOther _ _ (fun e => a5.1 e.symm), a3.setOther _ _ (fun e => a5.2.1 e.symm), a4.setOther _ _ (fun e => a5.2.2.1 e.symm), a5, ⟨h1, a6.2⟩, a7, a8⟩
theorem Pr.setStk {w : World} {G : PG} {S : PS} (h : Pr w G S) (t : Nat) (h2 : t < G.ns) (v : Int) : Pr (w.setCell ⟨G.gs, t, none⟩ (.int .u32 v)) G { S with stack := upd S.stack t v } := by
  obtain ⟨a1, a2, a3, a4, a5, a6, a7, a8⟩ := h
  refine ⟨a1.setOther _ _ a5.2.1, a2.setOther _ _ a5.2.2.2.1, ?_, a4.setOther _ _ (fun e => a5.2.2.2.2.2 e.symm), a5, a6, a7, a8⟩
  refine (a3.set t h2 _).to ?_
  funext k
  show upd (fun k => Value.int .u32 (S.stack k)) t _ k = Value.int .u32 (upd S.stack t _ k)
  by_cases e : k = t
  · rw [e, upd_same, upd_same]
  · rw [upd_other _ _ _ _ e, upd_other _ _ _ _ e]
def Off (G : PG) : Prop := ∀ k, k = 1 ∨ k = 2 ∨ k = 3 → k ≠ G.p ∧ k ≠ G.gt ∧ k ≠ G.gs ∧ k ≠ G.gc
theorem Laid.turned {Q : Nat → Prop} {w w' : World} (h : Laid w) (t : Turned Q w w') (q : ∀ k, k = 1 ∨ k = 2 ∨ k = 3 → ¬ Q k) : Laid w' := by
  have c : ∀ b o v, (b = 1 ∨ b = 2 ∨ b = 3) → w.cell? ⟨b, o, none⟩ = some v → w'.cell? ⟨b, o, none⟩ = some v := fun b o v hb hv => t.to_cell (cell_here hv) (q b hb) hv
  have B := fun o v => c 1 o v (Or.inl rfl)
  have O := fun o v => c 2 o v (Or.inr (Or.inl rfl))
  have L := fun o v => c 3 o v (Or.inr (Or.inr rfl))
  exact ⟨fun k hk => B _ _ (h.b0 k hk), fun k hk => B _ _ (h.b1 k hk), fun k hk => B _ _ (h.b2 k hk), fun k hk => B _ _ (h.b3 k hk),
    fun k hk => O _ _ (h.o0 k hk), fun k hk => O _ _ (h.o1 k hk), fun k hk => O _ _ (h.o2 k hk), fun k hk => O _ _ (h.o3 k hk),
    fun k hk => L _ _ (h.l0 k hk), fun k hk => L _ _ (h.l1 k hk), fun k hk => L _ _ (h.l2 k hk), fun k hk => L _ _ (h.l3 k hk), fun k hk => L _ _ (h.l4 k hk),
    fun k hk => L _ _ (h.l5 k hk), fun k hk => L _ _ (h.l6 k hk), fun k hk => L _ _ (h.l7 k hk), fun k hk => L _ _ (h.l8 k hk), Nat.lt_of_lt_of_le h.zb t.size, Nat.lt_of_lt_of_le h.zo t.size, Nat.lt_of_lt_of_le h.zl t.size⟩
theorem keepB2 {w w2 : World} {c d : Array Value} {t u : TypeId} (hb : Below ((w.alloc (.cells c t)).alloc (.cells d u)).heap.size ((w.alloc (.cells c t)).alloc (.cells d u)) w2) :
    (∀ i, w2.cell? ⟨w.heap.size, i, none⟩ = c[i]?) ∧ (∀ i, w2.cell? ⟨w.heap.size + 1, i, none⟩ = d[i]?) ∧ w.heap.size + 1 < w2.heap.size ∧ Below w.heap.size w w2 := by
  have hs := hb.size
  simp only [World.size_alloc] at hs
  obtain ⟨k1, k2, k3, k4⟩ := keepB hb
  simp only [World.size_alloc] at k1 k3
  refine ⟨fun i => ?_, k1, k3, ((Below.refl _ _).alloc (Nat.le_refl _) _).trans (k4.mono (by simp))⟩
  rw [k4.cell (p := ⟨w.heap.size, i, none⟩) (by simp)]
  exact World.cell?_alloc_new w c t i
set_option maxHeartbeats 2000000 in
theorem restore_no (G : PG) (S : PS) (mh mt mv op rd rs1 rs2 imm pc : Int) (taken : Bool) (w : World) (h : Pr w G S) (ho : ownB G mh mt = false) : Calls Tryd.prog 14 #[.pointer (some ⟨G.p, 0, none⟩), .agg #[.int .i64 mh, .int .i64 mt, .int .u32 mv], .int .u32 pc, .agg #[.int .i64 op, .int .i64 rd, .int .i64 rs1, .int .i64 rs2, .int .i64 imm], .bool taken] w fun e w' => e = .returned (.tuple #[]) ∧ Below w.heap.size w w' := by
  have HO := Hid.in ho
  have HP : Hid (∀ y, Below w.heap.size w y → Pr y G S) := fun y hy => h.below hy
  clear h ho
  go_enter Tryd.func14, Tryd.ntmps14
  go_wp2_with (go_at_call 28; refine (owns_any G S mh mt mv _ (HP.out _ (((Below.refl _ _).alloc (Nat.le_refl _) _).alloc (by simp) _))).mono ?_; rintro e w1 ⟨rfl, hb1⟩; rw [HO.out]; have HB1 := Hid.in ((((Below.refl w.heap.size w).alloc (Nat.le_refl _) _).alloc (by simp) _).trans (hb1.mono (by simp; omega))); clear hb1)
  exact bodyPost_ret (results_none Tryd.results14 _ _ _) rfl ⟨rfl, HB1.out⟩
set_option maxHeartbeats 4000000 in
theorem restore_yes (G : PG) (S : PS) (hh t : Nat) (mv op rd rs1 rs2 imm pc : Int) (taken : Bool) (w : World) (h : Pr w G S) (hL : Laid w) (hoff : Off G) (hpc : 0 ≤ pc ∧ pc < 4294967296) (h1 : hh ≤ G.mask) (h2 : t < G.ns) : Calls Tryd.prog 14 #[.pointer (some ⟨G.p, 0, none⟩), .agg #[.int .i64 hh, .int .i64 t, .int .u32 mv], .int .u32 pc, .agg #[.int .i64 op, .int .i64 rd, .int .i64 rs1, .int .i64 rs2, .int .i64 imm], .bool taken] w fun e w' => e = .returned (.tuple #[]) ∧ Pr w' G (goS G { S with hist := hh, top := t, stack := upd S.stack t mv } op rd rs1 pc taken) ∧ Turned (fun k => k = G.p ∨ k = G.gs) w w' := by
  have HO : Hid (ownB G hh t = true) := by unfold ownB; show _ = _; simp; omega
  have HP : Hid (∀ y, Below w.heap.size w y → Pr y G S) := fun y hy => h.below hy
  have HLL : Hid (∀ y, Turned (fun k => k = G.p ∨ k = G.gs) w y → Laid y) := fun y hy => hL.turned hy (fun k hk hq => by have := hoff k hk; omega)
  have HPC := Hid.in hpc
  have hne : G.p ≠ G.gs := h.ne.2.1
  have hne2 : G.gs ≠ G.p := fun e => hne e.symm
  have hp9 := h.cells.here
  have hs9 := h.stk.here
  clear h hL hpc
  go_enter Tryd.func14, Tryd.ntmps14
  go_wp2_with (go_at_call 28; go_loud (refine (owns_any G S hh t mv _ (HP.out _ (((Below.refl _ _).alloc (Nat.le_refl _) _).alloc (by simp) _))).mono ?_; rintro e w1 ⟨rfl, hb1⟩; rw [HO.out]; obtain ⟨k1, k2, k3, k4⟩ := keepB2 hb1; have hP1 := HP.out _ k4; have c1 : w1.cell? ⟨G.p, 1, none⟩ = some (.int .i64 S.hist) := hP1.cells.cell 1 (by decide); have c4 : w1.cell? ⟨G.p, 4, none⟩ = some (.slice (some ⟨G.gs, 0, none⟩) G.ns G.ns) := hP1.cells.cell 4 (by decide); have c5 : w1.cell? ⟨G.p, 5, none⟩ = some (.int .i64 S.top) := hP1.cells.cell 5 (by decide); have h3 := hP1.cells.here; have h4 := hP1.cells.free; have cs := hP1.stk.cell t h2; have hsh := hP1.stk.here; have hsf := hP1.stk.free; have n1 : ¬ G.p = w.heap.size := (by omega); have n2 : ¬ G.gs = w.heap.size := (by omega); have n3 : ¬ G.p = w.heap.size + 1 := (by omega); have n4 : ¬ G.gs = w.heap.size + 1 := (by omega); have HP1 := Hid.in hP1; have HK := Hid.in k4; clear hb1 hP1 k4))
  go_region
  all_goals (try go_wp2)
  go_region
  go_wp2_with (go_at_call 25; go_loud (have hP2 := (((HP1.out.setHist hh h1).setTop t h2).setStk t h2 mv).drew.drew; have hT2 := ((((Turned.of_below (Q := fun k => k = G.p ∨ k = G.gs) HK.out).set (b := G.p) (Or.inl rfl) 1 (.int .i64 hh)).set (b := G.p) (Or.inl rfl) 5 (.int .i64 t)).set (b := G.gs) (Or.inr rfl) t (.int .u32 mv)).drew.drew; refine (goOn_any G _ op rd rs1 rs2 imm pc taken _ hP2 (HLL.out _ hT2) HPC.out).mono ?_; rintro e w3 ⟨rfl, hp3, ht3⟩))
  exact bodyPost_end (results_none Tryd.results14 _ _ _) rfl ⟨rfl, hp3, hT2.trans ht3⟩
end Go.Proofs.YtaioaakaffafoaaDoor
