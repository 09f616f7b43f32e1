/-
  PREDICT: Learn of a jump; of anything else.
-/
import Derived.Test.YtaioaakaffafoaaDoorDi
namespace Go.Proofs.YtaioaakaffafoaaDoor
open Go Go.RowKit
theorem Pr.setTgt {w : World} {G : PG} {S : PS} (h : Pr w G S) (k : Nat) (hk : k < G.nt) (pc tg : Int) : Pr (((w.setCell ⟨G.gt, k * 3, none⟩ (.bool true)).setCell ⟨G.gt, k * 3 + 1, none⟩ (.int .u32 pc)).setCell ⟨G.gt, k * 3 + 2, none⟩ (.int .u32 tg)) G { S with tf := upd S.tf k true, tp := upd S.tp k pc, tt := upd S.tt k tg } := by
  obtain ⟨a1, a2, a3, a4, a5, a6, a7, a8⟩ := h
  refine ⟨((a1.setOther _ _ a5.1).setOther _ _ a5.1).setOther _ _ a5.1, ?_, ((a3.setOther _ _ (fun e => a5.2.2.2.1 e.symm)).setOther _ _ (fun e => a5.2.2.2.1 e.symm)).setOther _ _ (fun e => a5.2.2.2.1 e.symm), ((a4.setOther _ _ (fun e => a5.2.2.2.2.1 e.symm)).setOther _ _ (fun e => a5.2.2.2.2.1 e.symm)).setOther _ _ (fun e => a5.2.2.2.2.1 e.symm), a5, a6, a7, a8⟩
  refine (((a2.set (k * 3) (by omega) _).set (k * 3 + 1) (by omega) _).set (k * 3 + 2) (by omega) _).to ?_
  funext j
  show upd (upd (upd (encG S.tf S.tp S.tt) (k * 3) _) (k * 3 + 1) _) (k * 3 + 2) _ j = encG (upd S.tf k true) (upd S.tp k pc) (upd S.tt k tg) j
  by_cases e2 : j = k * 3 + 2
  · have q : (k * 3 + 2) / 3 = k := by omega
    rw [e2, upd_same]
    unfold encG
    rw [if_neg (by omega), if_neg (by omega), q, upd_same]
  · rw [upd_other _ _ _ _ e2]
    by_cases e1 : j = k * 3 + 1
    · have q : (k * 3 + 1) / 3 = k := by omega
      rw [e1, upd_same]
      unfold encG
      rw [if_neg (by omega), if_pos (by omega), q, upd_same]
    · rw [upd_other _ _ _ _ e1]
      by_cases e0 : j = k * 3
      · have q : (k * 3) / 3 = k := by omega
        rw [e0, upd_same]
        unfold encG
        rw [if_pos (by omega), q, upd_same]
      · have q : j / 3 ≠ k := by omega
        rw [upd_other _ _ _ _ e0]
        unfold encG
        rw [upd_other _ _ _ _ q, upd_other _ _ _ _ q, upd_other _ _ _ _ q]
set_option maxHeartbeats 1000000 in
theorem learn_none (G : PG) (S : PS) (hh t : Nat) (mv op rd rs1 rs2 imm pc tg : Int) (taken : Bool) (w : World) (h : Pr w G S) (hL : Laid w) (hb : brB op = false) (hf : farB op rd rs1 = false) (h1 : hh ≤ G.mask) (h2 : t < G.ns) : Calls Tryd.prog 16 #[.pointer (some ⟨G.p, 0, none⟩), .agg #[.int .i64 hh, .int .i64 t, .int .u32 mv], .int .u32 pc, .agg #[.int .i64 op, .int .i64 rd, .int .i64 rs1, .int .i64 rs2, .int .i64 imm], .bool taken, .int .u32 tg] w fun e w' => e = .returned (.tuple #[]) ∧ Below w.heap.size w w' := by
  have HO : Hid (ownB G hh t = true) := by unfold ownB; show _ = _; simp; omega
  have HB := Hid.in hb
  have HFR := Hid.in hf
  have HP : Hid (∀ y, Below w.heap.size w y → Pr y G S) := fun y hy => h.below hy
  have HLL : Hid (∀ y, Below w.heap.size w y → Laid y) := fun y hy => hL.below hy
  clear h hL hb hf
  go_enter Tryd.func16, Tryd.ntmps16
  go_wp2_with (first
    | (go_at_call 28; refine (owns_any G S hh t mv _ (HP.out _ (((Below.refl _ _).alloc (Nat.le_refl _) _).alloc (by simp) _))).mono ?_; rintro e w1 ⟨rfl, hb1⟩; rw [HO.out]; obtain ⟨k1, k2, k3, k4⟩ := keepB2 hb1)
    | (go_at_call 23; refine (isBranch_any op rd rs1 rs2 imm _ (HLL.out _ k4)).mono ?_; rintro e w2 ⟨rfl, hb2⟩; rw [HB.out]; have k42 := below2 k4 hb2; have k22 := fun i => (hb2.cell (p := ⟨w.heap.size + 1, i, none⟩) (show w.heap.size + 1 < w1.heap.size by omega)).trans (k2 i))
    | (go_at_call 30; refine (isFar_any op rd rs1 rs2 imm _).mono ?_; rintro e w3 ⟨rfl, hb3⟩; rw [HFR.out]; have k43 := below2 k42 hb3; have hP3 := HP.out _ k43; have c3 : w3.cell? ⟨G.p, 3, none⟩ = some (.slice (some ⟨G.gt, 0, none⟩) G.nt G.nt) := hP3.cells.cell 3 (by decide); have h33 := hP3.cells.here))
  exact bodyPost_end (results_none Tryd.results16 _ _ _) rfl ⟨rfl, k43⟩
set_option maxHeartbeats 1000000 in
theorem learn_far (G : PG) (S : PS) (hh t : Nat) (mv op rd rs1 rs2 imm pc tg : Int) (taken : Bool) (w : World) (h : Pr w G S) (hL : Laid w) (hpc : 0 ≤ pc ∧ pc < 4294967296) (hb : brB op = false) (hf : farB op rd rs1 = true) (h1 : hh ≤ G.mask) (h2 : t < G.ns) : Calls Tryd.prog 16 #[.pointer (some ⟨G.p, 0, none⟩), .agg #[.int .i64 hh, .int .i64 t, .int .u32 mv], .int .u32 pc, .agg #[.int .i64 op, .int .i64 rd, .int .i64 rs1, .int .i64 rs2, .int .i64 imm], .bool taken, .int .u32 tg] w fun e w' => e = .returned (.tuple #[]) ∧ Pr w' G { S with tf := upd S.tf (plc G pc) true, tp := upd S.tp (plc G pc) pc, tt := upd S.tt (plc G pc) tg } ∧ Turned (· = G.gt) w w' := by
  have HO : Hid (ownB G hh t = true) := by unfold ownB; show _ = _; simp; omega
  have HB := Hid.in hb
  have HFR := Hid.in hf
  have HP : Hid (∀ y, Below w.heap.size w y → Pr y G S) := fun y hy => h.below hy
  have HLL : Hid (∀ y, Below w.heap.size w y → Laid y) := fun y hy => hL.below hy
  have HPC := Hid.in hpc
  clear h hL hb hf hpc
  go_enter Tryd.func16, Tryd.ntmps16
  go_wp2_with (first
    | (go_at_call 28; refine (owns_any G S hh t mv _ (HP.out _ (((Below.refl _ _).alloc (Nat.le_refl _) _).alloc (by simp) _))).mono ?_; rintro e w1 ⟨rfl, hb1⟩; rw [HO.out]; obtain ⟨k1, k2, k3, k4⟩ := keepB2 hb1)
    | (go_at_call 23; refine (isBranch_any op rd rs1 rs2 imm _ (HLL.out _ k4)).mono ?_; rintro e w2 ⟨rfl, hb2⟩; rw [HB.out]; have k42 := below2 k4 hb2; have k22 := fun i => (hb2.cell (p := ⟨w.heap.size + 1, i, none⟩) (show w.heap.size + 1 < w1.heap.size by omega)).trans (k2 i))
    | (go_at_call 30; refine (isFar_any op rd rs1 rs2 imm _).mono ?_; rintro e w3 ⟨rfl, hb3⟩; rw [HFR.out]; have k43 := below2 k42 hb3; have hP3 := HP.out _ k43; have c3 : w3.cell? ⟨G.p, 3, none⟩ = some (.slice (some ⟨G.gt, 0, none⟩) G.nt G.nt) := hP3.cells.cell 3 (by decide); have h33 := hP3.cells.here))
  have q2 := (plc_is G pc hP3.size.1).2
  have hnt := hP3.size.2.1
  have t0 := hP3.tgt.cell (plc G pc * 3) (by omega)
  have t1 := hP3.tgt.cell (plc G pc * 3 + 1) (by omega)
  have t2 := hP3.tgt.cell (plc G pc * 3 + 2) (by omega)
  have hth := hP3.tgt.here
  have htf := hP3.tgt.free
  obtain ⟨k, hk⟩ : ∃ k, k = plc G pc := ⟨_, rfl⟩
  have HKK := Hid.in hk
  rw [← hk] at q2 t0 t1 t2
  generalize encG S.tf S.tp S.tt (k * 3) = v0 at t0
  generalize encG S.tf S.tp S.tt (k * 3 + 1) = v1 at t1
  generalize encG S.tf S.tp S.tt (k * 3 + 2) = v2 at t2
  clear hk
  have HP3 := Hid.in hP3
  clear hP3
  go_region_with (go_at_call 31; refine (placeOf_any G S pc _ HP3.out.drew HPC.out).mono ?_; rintro e w4 ⟨rfl, hw⟩; rw [← HKK.out]; have hw2 := hw.symm; clear hw; subst hw2)
  all_goals (simp only [Exit.inBlock]; refine bodyPost_end (results_none Tryd.results16 _ _ _) rfl ?_; rw [← HKK.out]; exact ⟨rfl, (HP3.out.setTgt k q2 pc tg).drew, ((((Turned.of_below (Q := (· = G.gt)) k43).set (b := G.gt) rfl _ _).set (b := G.gt) rfl _ _).set (b := G.gt) rfl _ _).drew⟩)
end Go.Proofs.YtaioaakaffafoaaDoor
