/-
  PREDICT: the answer's Restore and Learn.
-/
import Derived.Test.YtaioaakaffafoaaDoorFc
namespace Go.Proofs.YtaioaakaffafoaaDoor
open Go Go.RowKit
set_option maxHeartbeats 400000 in
theorem rrestore_no (G : PG) (kd : Int) (bits hb tb : Nat) (S : PS) (mh mt mv what rd rs1 imm pc : Int) (taken : Bool) (w : World) (h : Rp w G kd bits hb tb S) (ho : ownB G mh mt = false) : Calls Tryd.prog 15 #[.pointer (some ⟨G.p, 0, none⟩), .agg #[.int .i64 mh, .int .i64 mt, .int .u32 mv], .int .u32 pc, .agg #[.int .i64 what, .int .i64 rd, .int .i64 rs1, .int .i64 imm], .bool taken] w fun e w' => e = .returned (.tuple #[]) ∧ Below w.heap.size w w' := by
  have HO := Hid.in ho
  have HP : Hid (∀ y, Below w.heap.size w y → Rp y G kd bits hb tb S) := fun y hy => h.below hy
  clear h ho
  go_enter Tryd.func15, Tryd.ntmps15
  go_wp2_with (go_at_call 29; refine (rwhole_any G kd bits hb tb S mh mt mv _ (HP.out _ (((Below.refl _ _).alloc (Nat.le_refl _) _).alloc (by simp) _))).mono ?_; rintro e w1 ⟨rfl, hb1⟩; rw [HO.out]; obtain ⟨k1, k2, k3, k4⟩ := keepB2 hb1; have HB1 := Hid.in k4; clear hb1)
  exact bodyPost_ret (results_none Tryd.results15 _ _ _) rfl ⟨rfl, HB1.out⟩
set_option maxHeartbeats 400000 in
theorem rlearn_no (G : PG) (kd : Int) (bits hb tb : Nat) (S : PS) (mh mt mv what rd rs1 imm pc tg : Int) (taken : Bool) (w : World) (h : Rp w G kd bits hb tb S) (ho : ownB G mh mt = false) : Calls Tryd.prog 17 #[.pointer (some ⟨G.p, 0, none⟩), .agg #[.int .i64 mh, .int .i64 mt, .int .u32 mv], .int .u32 pc, .agg #[.int .i64 what, .int .i64 rd, .int .i64 rs1, .int .i64 imm], .bool taken, .int .u32 tg] w fun e w' => e = .returned (.tuple #[]) ∧ Below w.heap.size w w' := by
  have HO := Hid.in ho
  have HP : Hid (∀ y, Below w.heap.size w y → Rp y G kd bits hb tb S) := fun y hy => h.below hy
  clear h ho
  go_enter Tryd.func17, Tryd.ntmps17
  go_wp2_with (go_at_call 29; refine (rwhole_any G kd bits hb tb S mh mt mv _ (HP.out _ (((Below.refl _ _).alloc (Nat.le_refl _) _).alloc (by simp) _))).mono ?_; rintro e w1 ⟨rfl, hb1⟩; rw [HO.out]; obtain ⟨k1, k2, k3, k4⟩ := keepB2 hb1; have HB1 := Hid.in k4; clear hb1)
  exact bodyPost_ret (results_none Tryd.results17 _ _ _) rfl ⟨rfl, HB1.out⟩
set_option maxHeartbeats 1000000 in
theorem rrestore_yes (G : PG) (kd : Int) (bits hb tb : Nat) (S : PS) (hh t : Nat) (mv what rd rs1 imm pc : Int) (taken : Bool) (w : World) (h : Rp w G kd bits hb tb S) (hw : What what) (hpc : 0 ≤ pc ∧ pc < 4294967296) (h1 : hh ≤ G.mask) (h2 : t < G.ns) : Calls Tryd.prog 15 #[.pointer (some ⟨G.p, 0, none⟩), .agg #[.int .i64 hh, .int .i64 t, .int .u32 mv], .int .u32 pc, .agg #[.int .i64 what, .int .i64 rd, .int .i64 rs1, .int .i64 imm], .bool taken] w fun e w' => e = .returned (.tuple #[]) ∧ Rp w' G kd bits hb tb (goS G { S with hist := hh, top := t, stack := upd S.stack t mv } (opW what) rd rs1 pc taken) ∧ Turned (fun k => k = G.p ∨ k = G.gs) w w' := by
  have HO : Hid (ownB G hh t = true) := by unfold ownB; show _ = _; simp; omega
  have HP : Hid (∀ y, Below w.heap.size w y → Rp y G kd bits hb tb S) := fun y hy => h.below hy
  have HPC := Hid.in hpc
  have HWH := Hid.in hw
  have hne : G.p ≠ G.gs := h.ne.2.1
  have hne2 : G.gs ≠ G.p := fun e => hne e.symm
  have hp9 := h.cells.here
  have hs9 := h.stk.here
  have hns := h.size.2.2.2.1
  have hti : (t : Int) < (G.ns : Int) := by omega
  have ht0 : (0 : Int) ≤ (t : Int) := by omega
  clear h hpc hw
  go_enter Tryd.func15, Tryd.ntmps15
  go_wp2_with (go_at_call 29; refine (rwhole_any G kd bits hb tb S hh t mv _ (HP.out _ (((Below.refl _ _).alloc (Nat.le_refl _) _).alloc (by simp) _))).mono ?_; rintro e w1 ⟨rfl, hb1⟩; rw [HO.out]; obtain ⟨k1, k2, k3, k4⟩ := keepB2 hb1; have hP1 := HP.out _ k4; have c5 : w1.cell? ⟨G.p, 5, none⟩ = some (.int .i64 S.hist) := hP1.cells.cell 5 (by decide); have c8 : w1.cell? ⟨G.p, 8, none⟩ = some (.slice (some ⟨G.gs, 0, none⟩) G.ns G.ns) := hP1.cells.cell 8 (by decide); have c9 : w1.cell? ⟨G.p, 9, none⟩ = some (.int .i64 S.top) := hP1.cells.cell 9 (by decide); have h3 := hP1.cells.here; have h4 := hP1.cells.free; have cs := hP1.stk.cell t h2; have hsh := hP1.stk.here; have hsf := hP1.stk.free; have n1 : ¬ G.p = w.heap.size := (by omega); have n2 : ¬ G.gs = w.heap.size := (by omega); have n3 : ¬ G.p = w.heap.size + 1 := (by omega); have n4 : ¬ G.gs = w.heap.size + 1 := (by omega); have HP1 := Hid.in hP1; have HK := Hid.in k4; clear hb1 hP1 k4)
  go_region
  go_wp2_with (go_at_call 27; go_loud (have hP2 := (((HP1.out.setHist hh h1).setTop t h2).setStk t h2 mv).drew; have hT2 := ((((Turned.of_below (Q := fun k => k = G.p ∨ k = G.gs) HK.out).set (b := G.p) (Or.inl rfl) 5 (.int .i64 hh)).set (b := G.p) (Or.inl rfl) 9 (.int .i64 t)).set (b := G.gs) (Or.inr rfl) t (.int .u32 mv)).drew; refine (rgoes_any G kd bits hb tb _ what rd rs1 imm pc taken _ hP2 HWH.out HPC.out).mono ?_; rintro e w3 ⟨rfl, hp3, ht3⟩))
  exact bodyPost_end (results_none Tryd.results15 _ _ _) rfl ⟨rfl, hp3, hT2.trans ht3⟩
theorem Rp.setCtr {w : World} {G : PG} {kd : Int} {bits hb tb : Nat} {S : PS} (h : Rp w G kd bits hb tb S) (k v : Nat) (hk : k < G.nc) (hv : v ≤ 3) : Rp (w.setCell ⟨G.gc, k, none⟩ (.int .i64 v)) G kd bits hb tb { S with ctr := upd S.ctr k v } := by
  obtain ⟨a1, a2, a3, a4, a5, a6, a7, a8, a9, a10⟩ := h
  refine ⟨a1.setOther _ _ a5.2.2.1, a2.setOther _ _ a5.2.2.2.2.1, a3.setOther _ _ a5.2.2.2.2.2, ?_, a5, a6, a7, fun j hj => ?_, a9, a10⟩
  · refine (a4.set k hk _).to ?_
    funext j
    show upd (fun k => Value.int .i64 (S.ctr k)) k _ j = Value.int .i64 ((upd S.ctr k v j : Nat) : Int)
    by_cases e : j = k
    · rw [e, upd_same, upd_same]
    · rw [upd_other _ _ _ _ e, upd_other _ _ _ _ e]
  · show upd S.ctr k v j ≤ 3
    unfold upd
    split
    · exact hv
    · exact a8 j hj
theorem cnt_upd (f : Nat → Nat) (k : Nat) (taken : Bool) : cnt f k taken = upd f k (if taken then (if f k < 3 then f k + 1 else f k) else (if 0 < f k then f k - 1 else f k)) := by
  have same : upd f k (f k) = f := by
    funext j
    by_cases e : j = k
    · rw [e, upd_same]
    · rw [upd_other _ _ _ _ e]
  unfold cnt
  cases taken
  · simp only [Bool.false_eq_true, if_false]
    split
    · rfl
    · exact same.symm
  · simp only [if_true]
    split
    · rfl
    · exact same.symm
set_option maxHeartbeats 1000000 in
theorem rlearn_tu (G : PG) (kd : Int) (bits hb tb : Nat) (S : PS) (hh t : Nat) (mv rd rs1 imm pc tg : Int) (w : World) (h : Rp w G kd bits hb tb S) (hpc : 0 ≤ pc ∧ pc < 4294967296) (h1 : hh ≤ G.mask) (h2 : t < G.ns) (k0 : Nat) (hk0 : k0 = cix G.nc (rN kd pc hh)) (hc : S.ctr k0 < 3) : Calls Tryd.prog 17 #[.pointer (some ⟨G.p, 0, none⟩), .agg #[.int .i64 hh, .int .i64 t, .int .u32 mv], .int .u32 pc, .agg #[.int .i64 1, .int .i64 rd, .int .i64 rs1, .int .i64 imm], .bool true, .int .u32 tg] w fun e w' => e = .returned (.tuple #[]) ∧ Rp w' G kd bits hb tb { S with ctr := upd S.ctr k0 (S.ctr k0 + 1) } ∧ Turned (· = G.gc) w w' := by
  have HO : Hid (ownB G hh t = true) := by unfold ownB; show _ = _; simp; omega
  have HP : Hid (∀ y, Below w.heap.size w y → Rp y G kd bits hb tb S) := fun y hy => h.below hy
  have HPC := Hid.in hpc
  have HK0 := Hid.in hk0
  have hkl : k0 < G.nc := by rw [hk0]; exact (cix_is G.nc _ h.size.2.2.2.2.1).2
  have hnc := h.size.2.2.2.2.2.1
  have hle := h.le k0 hkl
  have HHI : Hid (0 ≤ (hh : Int) ∧ (hh : Int) ≤ 1023) := by have := h.size.2.2.2.2.2.2; show _ ∧ _; omega
  have hgc := h.ctr.here
  have n1 : ¬ G.gc = w.heap.size := by omega
  have n2 : ¬ G.gc = w.heap.size + 1 := by omega
  have hcI : (S.ctr k0 : Int) < 3 := by omega
  have HV : Hid ((S.ctr k0 : Int) + 1 = ((S.ctr k0 + 1 : Nat) : Int)) := by show _ = _; omega
  clear h hpc hk0 hc
  go_enter Tryd.func17, Tryd.ntmps17
  go_wp2_with (first
    | (go_at_call 29; refine (rwhole_any G kd bits hb tb S hh t mv _ (HP.out _ (((Below.refl _ _).alloc (Nat.le_refl _) _).alloc (by simp) _))).mono ?_; rintro e w1 ⟨rfl, hb1⟩; rw [HO.out]; obtain ⟨k1, k2, k3, k4⟩ := keepB2 hb1; have hP1 := HP.out _ k4; have c6 : w1.cell? ⟨G.p, 6, none⟩ = some (.slice (some ⟨G.gc, 0, none⟩) G.nc G.nc) := hP1.cells.cell 6 (by decide); have ck : w1.cell? ⟨G.gc, k0, none⟩ = some (.int .i64 (S.ctr k0)) := hP1.ctr.cell k0 hkl; have h3 := hP1.cells.here; have hch := hP1.ctr.here; have hcf := hP1.ctr.free; have HP1 := Hid.in hP1; have HK := Hid.in k4; clear hb1 hP1 k4)
    | (go_at_call 26; refine (rindex_any G kd bits hb tb S pc hh _ HP1.out HPC.out HHI.out).mono ?_; rintro e w2 ⟨rfl, hw2⟩; have hw2' := hw2.symm; clear hw2; subst hw2'; rw [← HK0.out]))
  all_goals (first
    | refine bodyPost_end (results_none Tryd.results17 _ _ _) rfl ⟨rfl, ?_, (Turned.of_below (Q := (· = G.gc)) HK.out).set (b := G.gc) rfl _ _⟩
    | fail)
  first
    | exact HP1.out.setCtr k0 _ hkl (by omega)
    | (rw [HV.out]; exact HP1.out.setCtr k0 _ hkl (by omega))
set_option maxHeartbeats 1000000 in
theorem rlearn_tn (G : PG) (kd : Int) (bits hb tb : Nat) (S : PS) (hh t : Nat) (mv rd rs1 imm pc tg : Int) (w : World) (h : Rp w G kd bits hb tb S) (hpc : 0 ≤ pc ∧ pc < 4294967296) (h1 : hh ≤ G.mask) (h2 : t < G.ns) (k0 : Nat) (hk0 : k0 = cix G.nc (rN kd pc hh)) (hc : ¬ S.ctr k0 < 3) : Calls Tryd.prog 17 #[.pointer (some ⟨G.p, 0, none⟩), .agg #[.int .i64 hh, .int .i64 t, .int .u32 mv], .int .u32 pc, .agg #[.int .i64 1, .int .i64 rd, .int .i64 rs1, .int .i64 imm], .bool true, .int .u32 tg] w fun e w' => e = .returned (.tuple #[]) ∧ Rp w' G kd bits hb tb { S with ctr := upd S.ctr k0 (S.ctr k0) } ∧ Turned (· = G.gc) w w' := by
  have HO : Hid (ownB G hh t = true) := by unfold ownB; show _ = _; simp; omega
  have HP : Hid (∀ y, Below w.heap.size w y → Rp y G kd bits hb tb S) := fun y hy => h.below hy
  have HPC := Hid.in hpc
  have HK0 := Hid.in hk0
  have hkl : k0 < G.nc := by rw [hk0]; exact (cix_is G.nc _ h.size.2.2.2.2.1).2
  have hnc := h.size.2.2.2.2.2.1
  have hle := h.le k0 hkl
  have HHI : Hid (0 ≤ (hh : Int) ∧ (hh : Int) ≤ 1023) := by have := h.size.2.2.2.2.2.2; show _ ∧ _; omega
  have hgc := h.ctr.here
  have n1 : ¬ G.gc = w.heap.size := by omega
  have n2 : ¬ G.gc = w.heap.size + 1 := by omega
  have hcI : decide ((S.ctr k0 : Int) < 3) = false := decide_eq_false (by omega)
  have HV : Hid ((S.ctr k0 : Int) = (S.ctr k0 : Int)) := rfl
  clear h hpc hk0 hc
  go_enter Tryd.func17, Tryd.ntmps17
  go_wp2_with (first
    | (go_at_call 29; refine (rwhole_any G kd bits hb tb S hh t mv _ (HP.out _ (((Below.refl _ _).alloc (Nat.le_refl _) _).alloc (by simp) _))).mono ?_; rintro e w1 ⟨rfl, hb1⟩; rw [HO.out]; obtain ⟨k1, k2, k3, k4⟩ := keepB2 hb1; have hP1 := HP.out _ k4; have c6 : w1.cell? ⟨G.p, 6, none⟩ = some (.slice (some ⟨G.gc, 0, none⟩) G.nc G.nc) := hP1.cells.cell 6 (by decide); have ck : w1.cell? ⟨G.gc, k0, none⟩ = some (.int .i64 (S.ctr k0)) := hP1.ctr.cell k0 hkl; have h3 := hP1.cells.here; have hch := hP1.ctr.here; have hcf := hP1.ctr.free; have HP1 := Hid.in hP1; have HK := Hid.in k4; clear hb1 hP1 k4)
    | (go_at_call 26; refine (rindex_any G kd bits hb tb S pc hh _ HP1.out HPC.out HHI.out).mono ?_; rintro e w2 ⟨rfl, hw2⟩; have hw2' := hw2.symm; clear hw2; subst hw2'; rw [← HK0.out]))
  all_goals (first
    | refine bodyPost_end (results_none Tryd.results17 _ _ _) rfl ⟨rfl, ?_, (Turned.of_below (Q := (· = G.gc)) HK.out).set (b := G.gc) rfl _ _⟩
    | fail)
  first
    | exact HP1.out.setCtr k0 _ hkl (by omega)
    | (rw [HV.out]; exact HP1.out.setCtr k0 _ hkl (by omega))
set_option maxHeartbeats 1000000 in
theorem rlearn_nd (G : PG) (kd : Int) (bits hb tb : Nat) (S : PS) (hh t : Nat) (mv rd rs1 imm pc tg : Int) (w : World) (h : Rp w G kd bits hb tb S) (hpc : 0 ≤ pc ∧ pc < 4294967296) (h1 : hh ≤ G.mask) (h2 : t < G.ns) (k0 : Nat) (hk0 : k0 = cix G.nc (rN kd pc hh)) (hc : 0 < S.ctr k0) : Calls Tryd.prog 17 #[.pointer (some ⟨G.p, 0, none⟩), .agg #[.int .i64 hh, .int .i64 t, .int .u32 mv], .int .u32 pc, .agg #[.int .i64 1, .int .i64 rd, .int .i64 rs1, .int .i64 imm], .bool false, .int .u32 tg] w fun e w' => e = .returned (.tuple #[]) ∧ Rp w' G kd bits hb tb { S with ctr := upd S.ctr k0 (S.ctr k0 - 1) } ∧ Turned (· = G.gc) w w' := by
  have HO : Hid (ownB G hh t = true) := by unfold ownB; show _ = _; simp; omega
  have HP : Hid (∀ y, Below w.heap.size w y → Rp y G kd bits hb tb S) := fun y hy => h.below hy
  have HPC := Hid.in hpc
  have HK0 := Hid.in hk0
  have hkl : k0 < G.nc := by rw [hk0]; exact (cix_is G.nc _ h.size.2.2.2.2.1).2
  have hnc := h.size.2.2.2.2.2.1
  have hle := h.le k0 hkl
  have HHI : Hid (0 ≤ (hh : Int) ∧ (hh : Int) ≤ 1023) := by have := h.size.2.2.2.2.2.2; show _ ∧ _; omega
  have hgc := h.ctr.here
  have n1 : ¬ G.gc = w.heap.size := by omega
  have n2 : ¬ G.gc = w.heap.size + 1 := by omega
  have hcI : (0 : Int) < (S.ctr k0 : Int) := by omega
  have HV : Hid ((S.ctr k0 : Int) - 1 = ((S.ctr k0 - 1 : Nat) : Int)) := by show _ = _; omega
  clear h hpc hk0 hc
  go_enter Tryd.func17, Tryd.ntmps17
  go_wp2_with (first
    | (go_at_call 29; refine (rwhole_any G kd bits hb tb S hh t mv _ (HP.out _ (((Below.refl _ _).alloc (Nat.le_refl _) _).alloc (by simp) _))).mono ?_; rintro e w1 ⟨rfl, hb1⟩; rw [HO.out]; obtain ⟨k1, k2, k3, k4⟩ := keepB2 hb1; have hP1 := HP.out _ k4; have c6 : w1.cell? ⟨G.p, 6, none⟩ = some (.slice (some ⟨G.gc, 0, none⟩) G.nc G.nc) := hP1.cells.cell 6 (by decide); have ck : w1.cell? ⟨G.gc, k0, none⟩ = some (.int .i64 (S.ctr k0)) := hP1.ctr.cell k0 hkl; have h3 := hP1.cells.here; have hch := hP1.ctr.here; have hcf := hP1.ctr.free; have HP1 := Hid.in hP1; have HK := Hid.in k4; clear hb1 hP1 k4)
    | (go_at_call 26; refine (rindex_any G kd bits hb tb S pc hh _ HP1.out HPC.out HHI.out).mono ?_; rintro e w2 ⟨rfl, hw2⟩; have hw2' := hw2.symm; clear hw2; subst hw2'; rw [← HK0.out]))
  all_goals (first
    | refine bodyPost_end (results_none Tryd.results17 _ _ _) rfl ⟨rfl, ?_, (Turned.of_below (Q := (· = G.gc)) HK.out).set (b := G.gc) rfl _ _⟩
    | fail)
  first
    | exact HP1.out.setCtr k0 _ hkl (by omega)
    | (rw [HV.out]; exact HP1.out.setCtr k0 _ hkl (by omega))
set_option maxHeartbeats 1000000 in
theorem rlearn_nn (G : PG) (kd : Int) (bits hb tb : Nat) (S : PS) (hh t : Nat) (mv rd rs1 imm pc tg : Int) (w : World) (h : Rp w G kd bits hb tb S) (hpc : 0 ≤ pc ∧ pc < 4294967296) (h1 : hh ≤ G.mask) (h2 : t < G.ns) (k0 : Nat) (hk0 : k0 = cix G.nc (rN kd pc hh)) (hc : S.ctr k0 = 0) : Calls Tryd.prog 17 #[.pointer (some ⟨G.p, 0, none⟩), .agg #[.int .i64 hh, .int .i64 t, .int .u32 mv], .int .u32 pc, .agg #[.int .i64 1, .int .i64 rd, .int .i64 rs1, .int .i64 imm], .bool false, .int .u32 tg] w fun e w' => e = .returned (.tuple #[]) ∧ Rp w' G kd bits hb tb { S with ctr := upd S.ctr k0 (0) } ∧ Turned (· = G.gc) w w' := by
  have HO : Hid (ownB G hh t = true) := by unfold ownB; show _ = _; simp; omega
  have HP : Hid (∀ y, Below w.heap.size w y → Rp y G kd bits hb tb S) := fun y hy => h.below hy
  have HPC := Hid.in hpc
  have HK0 := Hid.in hk0
  have hkl : k0 < G.nc := by rw [hk0]; exact (cix_is G.nc _ h.size.2.2.2.2.1).2
  have hnc := h.size.2.2.2.2.2.1
  have HHI : Hid (0 ≤ (hh : Int) ∧ (hh : Int) ≤ 1023) := by have := h.size.2.2.2.2.2.2; show _ ∧ _; omega
  have hgc := h.ctr.here
  have n1 : ¬ G.gc = w.heap.size := by omega
  have n2 : ¬ G.gc = w.heap.size + 1 := by omega
  have HZ := Hid.in hc
  clear h hpc hk0 hc
  go_enter Tryd.func17, Tryd.ntmps17
  go_wp2_with (first
    | (go_at_call 29; refine (rwhole_any G kd bits hb tb S hh t mv _ (HP.out _ (((Below.refl _ _).alloc (Nat.le_refl _) _).alloc (by simp) _))).mono ?_; rintro e w1 ⟨rfl, hb1⟩; rw [HO.out]; obtain ⟨k1, k2, k3, k4⟩ := keepB2 hb1; have hP1 := HP.out _ k4; have c6 : w1.cell? ⟨G.p, 6, none⟩ = some (.slice (some ⟨G.gc, 0, none⟩) G.nc G.nc) := hP1.cells.cell 6 (by decide); have ck : w1.cell? ⟨G.gc, k0, none⟩ = some (.int .i64 0) := (hP1.ctr.cell k0 hkl).trans (by rw [HZ.out]; rfl); have h3 := hP1.cells.here; have hch := hP1.ctr.here; have hcf := hP1.ctr.free; have HP1 := Hid.in hP1; have HK := Hid.in k4; clear hb1 hP1 k4)
    | (go_at_call 26; refine (rindex_any G kd bits hb tb S pc hh _ HP1.out HPC.out HHI.out).mono ?_; rintro e w2 ⟨rfl, hw2⟩; have hw2' := hw2.symm; clear hw2; subst hw2'; rw [← HK0.out]))
  all_goals (first
    | refine bodyPost_end (results_none Tryd.results17 _ _ _) rfl ⟨rfl, ?_, (Turned.of_below (Q := (· = G.gc)) HK.out).set (b := G.gc) rfl _ _⟩
    | fail)
  exact HP1.out.setCtr k0 0 hkl (by omega)
theorem Rp.setTgt {w : World} {G : PG} {kd : Int} {bits hb tb : Nat} {S : PS} (h : Rp w G kd bits hb tb S) (k : Nat) (hk : k < G.nt) (pc tg : Int) : Rp (((w.setCell ⟨G.gt, k * 3, none⟩ (.bool true)).setCell ⟨G.gt, k * 3 + 1, none⟩ (.int .u32 pc)).setCell ⟨G.gt, k * 3 + 2, none⟩ (.int .u32 tg)) G kd bits hb tb { S with tf := upd S.tf k true, tp := upd S.tp k pc, tt := upd S.tt k tg } := by
  obtain ⟨a1, a2, a3, a4, a5, a6, a7, a8, a9, a10⟩ := h
  refine ⟨((a1.setOther _ _ a5.1).setOther _ _ a5.1).setOther _ _ a5.1, ?_, ((a3.setOther _ _ (fun e => a5.2.2.2.1 e.symm)).setOther _ _ (fun e => a5.2.2.2.1 e.symm)).setOther _ _ (fun e => a5.2.2.2.1 e.symm), ((a4.setOther _ _ (fun e => a5.2.2.2.2.1 e.symm)).setOther _ _ (fun e => a5.2.2.2.2.1 e.symm)).setOther _ _ (fun e => a5.2.2.2.2.1 e.symm), a5, a6, a7, a8, a9, a10⟩
  refine (((a2.set (k * 3) (by omega) _).set (k * 3 + 1) (by omega) _).set (k * 3 + 2) (by omega) _).to ?_
  funext j
  show upd (upd (upd (encG S.tf S.tp S.tt) (k * 3) _) (k * 3 + 1) _) (k * 3 + 2) _ j = encG (upd S.tf k true) (upd S.tp k pc) (upd S.tt k tg) j
  by_cases e2 : j = k * 3 + 2
  · have q : (k * 3 + 2) / 3 = k := by omega
    rw [e2, upd_same]
    unfold encG
    rw [if_neg (by omega), if_neg (by omega), q, upd_same]
  · rw [upd_other _ _ _ _ e2]
    by_cases e1 : j = k * 3 + 1
    · have q : (k * 3 + 1) / 3 = k := by omega
      rw [e1, upd_same]
      unfold encG
      rw [if_neg (by omega), if_pos (by omega), q, upd_same]
    · rw [upd_other _ _ _ _ e1]
      by_cases e0 : j = k * 3
      · have q : (k * 3) / 3 = k := by omega
        rw [e0, upd_same]
        unfold encG
        rw [if_pos (by omega), q, upd_same]
      · have q : j / 3 ≠ k := by omega
        rw [upd_other _ _ _ _ e0]
        unfold encG
        rw [upd_other _ _ _ _ q, upd_other _ _ _ _ q, upd_other _ _ _ _ q]
set_option maxHeartbeats 1000000 in
theorem rlearn_far1 (G : PG) (kd : Int) (bits hb tb : Nat) (S : PS) (hh t : Nat) (mv rd rs1 imm pc tg : Int) (taken : Bool) (w : World) (h : Rp w G kd bits hb tb S) (hpc : 0 ≤ pc ∧ pc < 4294967296) (h1 : hh ≤ G.mask) (h2 : t < G.ns) (k : Nat) (hk : k = plc G pc) (hr1 : (rs1 == 1) = false) : Calls Tryd.prog 17 #[.pointer (some ⟨G.p, 0, none⟩), .agg #[.int .i64 hh, .int .i64 t, .int .u32 mv], .int .u32 pc, .agg #[.int .i64 3, .int .i64 rd, .int .i64 rs1, .int .i64 imm], .bool taken, .int .u32 tg] w fun e w' => e = .returned (.tuple #[]) ∧ Rp w' G kd bits hb tb { S with tf := upd S.tf k true, tp := upd S.tp k pc, tt := upd S.tt k tg } ∧ Turned (· = G.gt) w w' := by
  have HO : Hid (ownB G hh t = true) := by unfold ownB; show _ = _; simp; omega
  have HP : Hid (∀ y, Below w.heap.size w y → Rp y G kd bits hb tb S) := fun y hy => h.below hy
  obtain ⟨q1, q2⟩ := plc_is G pc h.size.1
  rw [← hk] at q1 q2
  have hnt := h.size.2.1
  have hnt1 := h.size.1
  have hpq : 0 ≤ pc / 4 := by omega
  have htm2 : pc.tdiv 4 % 4294967296 % (G.nt : Int) = (k : Int) := by
    rw [Int.tdiv_eq_ediv_of_nonneg hpc.1, Int.emod_eq_of_lt hpq (by omega)]; exact q1
  have hz : ¬ (G.nt : Int) = 0 := by omega
  have hgt := h.tgt.here
  have n1 : ¬ G.gt = w.heap.size := by omega
  have n2 : ¬ G.gt = w.heap.size + 1 := by omega
  clear h hpc hk q1
  go_enter Tryd.func17, Tryd.ntmps17
  go_wp2_with (go_at_call 29; refine (rwhole_any G kd bits hb tb S hh t mv _ (HP.out _ (((Below.refl _ _).alloc (Nat.le_refl _) _).alloc (by simp) _))).mono ?_; rintro e w1 ⟨rfl, hb1⟩; rw [HO.out]; obtain ⟨k1, k2, k3, k4⟩ := keepB2 hb1; have hP1 := HP.out _ k4; have c7 : w1.cell? ⟨G.p, 7, none⟩ = some (.slice (some ⟨G.gt, 0, none⟩) G.nt G.nt) := hP1.cells.cell 7 (by decide); have t0 := hP1.tgt.cell (k * 3) (by omega); have t1 := hP1.tgt.cell (k * 3 + 1) (by omega); have t2 := hP1.tgt.cell (k * 3 + 2) (by omega); have h3 := hP1.cells.here; have hth := hP1.tgt.here; have htf := hP1.tgt.free; have HP1 := Hid.in hP1; have HK := Hid.in k4; clear hb1 hP1 k4; generalize encG S.tf S.tp S.tt (k * 3) = v0 at t0; generalize encG S.tf S.tp S.tt (k * 3 + 1) = v1 at t1; generalize encG S.tf S.tp S.tt (k * 3 + 2) = v2 at t2)
  go_region
  all_goals (try go_wp2)
  refine bodyPost_end (results_none Tryd.results17 _ _ _) rfl ⟨rfl, (HP1.out.setTgt k q2 pc tg).drew, ((((Turned.of_below (Q := (· = G.gt)) HK.out).set (b := G.gt) rfl _ _).set (b := G.gt) rfl _ _).set (b := G.gt) rfl _ _).drew⟩
set_option maxHeartbeats 1000000 in
theorem rlearn_far2 (G : PG) (kd : Int) (bits hb tb : Nat) (S : PS) (hh t : Nat) (mv rd imm pc tg : Int) (taken : Bool) (w : World) (h : Rp w G kd bits hb tb S) (hpc : 0 ≤ pc ∧ pc < 4294967296) (h1 : hh ≤ G.mask) (h2 : t < G.ns) (k : Nat) (hk : k = plc G pc) (hr2 : (rd == 0) = false) : Calls Tryd.prog 17 #[.pointer (some ⟨G.p, 0, none⟩), .agg #[.int .i64 hh, .int .i64 t, .int .u32 mv], .int .u32 pc, .agg #[.int .i64 3, .int .i64 rd, .int .i64 1, .int .i64 imm], .bool taken, .int .u32 tg] w fun e w' => e = .returned (.tuple #[]) ∧ Rp w' G kd bits hb tb { S with tf := upd S.tf k true, tp := upd S.tp k pc, tt := upd S.tt k tg } ∧ Turned (· = G.gt) w w' := by
  have HO : Hid (ownB G hh t = true) := by unfold ownB; show _ = _; simp; omega
  have HP : Hid (∀ y, Below w.heap.size w y → Rp y G kd bits hb tb S) := fun y hy => h.below hy
  obtain ⟨q1, q2⟩ := plc_is G pc h.size.1
  rw [← hk] at q1 q2
  have hnt := h.size.2.1
  have hnt1 := h.size.1
  have hpq : 0 ≤ pc / 4 := by omega
  have htm2 : pc.tdiv 4 % 4294967296 % (G.nt : Int) = (k : Int) := by
    rw [Int.tdiv_eq_ediv_of_nonneg hpc.1, Int.emod_eq_of_lt hpq (by omega)]; exact q1
  have hz : ¬ (G.nt : Int) = 0 := by omega
  have hgt := h.tgt.here
  have n1 : ¬ G.gt = w.heap.size := by omega
  have n2 : ¬ G.gt = w.heap.size + 1 := by omega
  have hr3 : ¬ rd = 0 := by simpa using hr2
  clear h hpc hk q1
  go_enter Tryd.func17, Tryd.ntmps17
  go_wp2_with (go_at_call 29; refine (rwhole_any G kd bits hb tb S hh t mv _ (HP.out _ (((Below.refl _ _).alloc (Nat.le_refl _) _).alloc (by simp) _))).mono ?_; rintro e w1 ⟨rfl, hb1⟩; rw [HO.out]; obtain ⟨k1, k2, k3, k4⟩ := keepB2 hb1; have hP1 := HP.out _ k4; have c7 : w1.cell? ⟨G.p, 7, none⟩ = some (.slice (some ⟨G.gt, 0, none⟩) G.nt G.nt) := hP1.cells.cell 7 (by decide); have t0 := hP1.tgt.cell (k * 3) (by omega); have t1 := hP1.tgt.cell (k * 3 + 1) (by omega); have t2 := hP1.tgt.cell (k * 3 + 2) (by omega); have h3 := hP1.cells.here; have hth := hP1.tgt.here; have htf := hP1.tgt.free; have HP1 := Hid.in hP1; have HK := Hid.in k4; clear hb1 hP1 k4; generalize encG S.tf S.tp S.tt (k * 3) = v0 at t0; generalize encG S.tf S.tp S.tt (k * 3 + 1) = v1 at t1; generalize encG S.tf S.tp S.tt (k * 3 + 2) = v2 at t2)
  go_region
  all_goals (try go_wp2)
  refine bodyPost_end (results_none Tryd.results17 _ _ _) rfl ⟨rfl, (HP1.out.setTgt k q2 pc tg).drew, ((((Turned.of_below (Q := (· = G.gt)) HK.out).set (b := G.gt) rfl _ _).set (b := G.gt) rfl _ _).set (b := G.gt) rfl _ _).drew⟩
set_option maxHeartbeats 400000 in
theorem rlearn_other (G : PG) (kd : Int) (bits hb tb : Nat) (S : PS) (hh t : Nat) (mv rd rs1 imm pc tg : Int) (taken : Bool) (w : World) (h : Rp w G kd bits hb tb S) (h1 : hh ≤ G.mask) (h2 : t < G.ns) : Calls Tryd.prog 17 #[.pointer (some ⟨G.p, 0, none⟩), .agg #[.int .i64 hh, .int .i64 t, .int .u32 mv], .int .u32 pc, .agg #[.int .i64 0, .int .i64 rd, .int .i64 rs1, .int .i64 imm], .bool taken, .int .u32 tg] w fun e w' => e = .returned (.tuple #[]) ∧ Below w.heap.size w w' := by
  have HO : Hid (ownB G hh t = true) := by unfold ownB; show _ = _; simp; omega
  have HP : Hid (∀ y, Below w.heap.size w y → Rp y G kd bits hb tb S) := fun y hy => h.below hy
  clear h
  go_enter Tryd.func17, Tryd.ntmps17
  go_wp2_with (go_at_call 29; refine (rwhole_any G kd bits hb tb S hh t mv _ (HP.out _ (((Below.refl _ _).alloc (Nat.le_refl _) _).alloc (by simp) _))).mono ?_; rintro e w1 ⟨rfl, hb1⟩; rw [HO.out]; obtain ⟨k1, k2, k3, k4⟩ := keepB2 hb1; have HB1 := Hid.in k4; clear hb1 k4)
  exact bodyPost_end (results_none Tryd.results17 _ _ _) rfl ⟨rfl, HB1.out⟩
set_option maxHeartbeats 400000 in
theorem rlearn_jal (G : PG) (kd : Int) (bits hb tb : Nat) (S : PS) (hh t : Nat) (mv rd rs1 imm pc tg : Int) (taken : Bool) (w : World) (h : Rp w G kd bits hb tb S) (h1 : hh ≤ G.mask) (h2 : t < G.ns) : Calls Tryd.prog 17 #[.pointer (some ⟨G.p, 0, none⟩), .agg #[.int .i64 hh, .int .i64 t, .int .u32 mv], .int .u32 pc, .agg #[.int .i64 2, .int .i64 rd, .int .i64 rs1, .int .i64 imm], .bool taken, .int .u32 tg] w fun e w' => e = .returned (.tuple #[]) ∧ Below w.heap.size w w' := by
  have HO : Hid (ownB G hh t = true) := by unfold ownB; show _ = _; simp; omega
  have HP : Hid (∀ y, Below w.heap.size w y → Rp y G kd bits hb tb S) := fun y hy => h.below hy
  clear h
  go_enter Tryd.func17, Tryd.ntmps17
  go_wp2_with (go_at_call 29; refine (rwhole_any G kd bits hb tb S hh t mv _ (HP.out _ (((Below.refl _ _).alloc (Nat.le_refl _) _).alloc (by simp) _))).mono ?_; rintro e w1 ⟨rfl, hb1⟩; rw [HO.out]; obtain ⟨k1, k2, k3, k4⟩ := keepB2 hb1; have HB1 := Hid.in k4; clear hb1 k4)
  exact bodyPost_end (results_none Tryd.results17 _ _ _) rfl ⟨rfl, HB1.out⟩
set_option maxHeartbeats 400000 in
theorem rlearn_ret (G : PG) (kd : Int) (bits hb tb : Nat) (S : PS) (hh t : Nat) (mv imm pc tg : Int) (taken : Bool) (w : World) (h : Rp w G kd bits hb tb S) (h1 : hh ≤ G.mask) (h2 : t < G.ns) : Calls Tryd.prog 17 #[.pointer (some ⟨G.p, 0, none⟩), .agg #[.int .i64 hh, .int .i64 t, .int .u32 mv], .int .u32 pc, .agg #[.int .i64 3, .int .i64 0, .int .i64 1, .int .i64 imm], .bool taken, .int .u32 tg] w fun e w' => e = .returned (.tuple #[]) ∧ Below w.heap.size w w' := by
  have HO : Hid (ownB G hh t = true) := by unfold ownB; show _ = _; simp; omega
  have HP : Hid (∀ y, Below w.heap.size w y → Rp y G kd bits hb tb S) := fun y hy => h.below hy
  clear h
  go_enter Tryd.func17, Tryd.ntmps17
  go_wp2_with (go_at_call 29; refine (rwhole_any G kd bits hb tb S hh t mv _ (HP.out _ (((Below.refl _ _).alloc (Nat.le_refl _) _).alloc (by simp) _))).mono ?_; rintro e w1 ⟨rfl, hb1⟩; rw [HO.out]; obtain ⟨k1, k2, k3, k4⟩ := keepB2 hb1; have HB1 := Hid.in k4; clear hb1 k4)
  exact bodyPost_end (results_none Tryd.results17 _ _ _) rfl ⟨rfl, HB1.out⟩
end Go.Proofs.YtaioaakaffafoaaDoor
