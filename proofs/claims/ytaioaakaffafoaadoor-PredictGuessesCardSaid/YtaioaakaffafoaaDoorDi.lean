/-
  PREDICT: counters by place and history.
-/
import Derived.Test.YtaioaakaffafoaaDoorDh
namespace Go.Proofs.YtaioaakaffafoaaDoor
open Go Go.RowKit
def mixN (pc hist : Int) : Int := bits .xor .u32 (pc / 4) hist
theorem mixN_is (pc hist : Int) : 0 ≤ mixN pc hist ∧ mixN pc hist < 4294967296 := by
  have h1 := bits_lo_u32 .xor (pc / 4) hist
  have h2 := bits_hi_u32 .xor (pc / 4) hist
  unfold mixN
  omega
set_option maxHeartbeats 1000000 in
theorem mixed_guess (gc nc : Nat) (f : Nat → Nat) (pc imm hist : Int) (w : World) (h : Ct w gc nc f) (hp : 0 ≤ pc ∧ pc < 4294967296) (hh : 0 ≤ hist ∧ hist ≤ 1023) : Calls Tryd.prog 71 #[.agg #[.slice (some ⟨gc, 0, none⟩) nc nc], .int .u32 pc, .int .i64 imm, .int .i64 hist] w fun e w' => e = .returned (.bool (decide ((2 : Int) ≤ (f (cix nc (mixN pc hist)) : Int)))) ∧ Below w.heap.size w w' := by
  have HC := Hid.in h
  have HN := Hid.in (mixN_is pc hist)
  have hm : hist % 4294967296 = hist := by omega
  obtain ⟨p1, p2⟩ := hp
  obtain ⟨q1, q2⟩ := hh
  clear h
  go_enter Tryd.func71, Tryd.ntmps71
  go_wp2_with (go_at_call 69; have hx : bits .xor .u32 (pc / 4) hist = mixN pc hist := rfl; rw [hx]; go_loud (refine (isLikely_any gc nc f (mixN pc hist) _ (HC.out.below ((Below.refl _ _).alloc (Nat.le_refl _) _)) HN.out).mono ?_; rintro e w1 ⟨rfl, hb1⟩; obtain ⟨k1, k2, k3, k4⟩ := keepB hb1))
  go_ret
  exact ⟨rfl, k4⟩
set_option maxHeartbeats 1000000 in
theorem mixed_learn (gc nc : Nat) (f : Nat → Nat) (pc hist : Int) (taken : Bool) (w : World) (h : Ct w gc nc f) (hf : ∀ k, k < nc → f k ≤ 3) (hp : 0 ≤ pc ∧ pc < 4294967296) (hh : 0 ≤ hist ∧ hist ≤ 1023) : Calls Tryd.prog 72 #[.agg #[.slice (some ⟨gc, 0, none⟩) nc nc], .int .u32 pc, .int .i64 hist, .bool taken] w fun e w' => e = .returned (.tuple #[]) ∧ Ct w' gc nc (cnt f (cix nc (mixN pc hist)) taken) ∧ Turned (· = gc) w w' := by
  have HC := Hid.in h
  have HF := Hid.in hf
  have HN := Hid.in (mixN_is pc hist)
  have hm : hist % 4294967296 = hist := by omega
  obtain ⟨p1, p2⟩ := hp
  obtain ⟨q1, q2⟩ := hh
  clear h hf
  go_enter Tryd.func72, Tryd.ntmps72
  go_wp2_with (go_at_call 66; have hx : bits .xor .u32 (pc / 4) hist = mixN pc hist := rfl; rw [hx]; refine (count_any gc nc f (mixN pc hist) taken _ (HC.out.below ((Below.refl _ _).alloc (Nat.le_refl _) _)) HF.out HN.out).mono ?_; rintro e w1 ⟨rfl, hc1, ht1⟩)
  exact bodyPost_end (results_none Tryd.results72 _ _ _) rfl ⟨rfl, hc1, ((Turned.refl (· = gc) w).alloc _).trans ht1⟩
set_option maxHeartbeats 1000000 in
theorem learn_no (G : PG) (S : PS) (mh mt mv op rd rs1 rs2 imm pc tg : Int) (taken : Bool) (w : World) (h : Pr w G S) (ho : ownB G mh mt = false) : Calls Tryd.prog 16 #[.pointer (some ⟨G.p, 0, none⟩), .agg #[.int .i64 mh, .int .i64 mt, .int .u32 mv], .int .u32 pc, .agg #[.int .i64 op, .int .i64 rd, .int .i64 rs1, .int .i64 rs2, .int .i64 imm], .bool taken, .int .u32 tg] w fun e w' => e = .returned (.tuple #[]) ∧ Below w.heap.size w w' := by
  have HO := Hid.in ho
  have HP : Hid (∀ y, Below w.heap.size w y → Pr y G S) := fun y hy => h.below hy
  clear h ho
  go_enter Tryd.func16, Tryd.ntmps16
  go_wp2_with (go_at_call 28; refine (owns_any G S mh mt mv _ (HP.out _ (((Below.refl _ _).alloc (Nat.le_refl _) _).alloc (by simp) _))).mono ?_; rintro e w1 ⟨rfl, hb1⟩; rw [HO.out]; obtain ⟨k1, k2, k3, k4⟩ := keepB2 hb1)
  exact bodyPost_ret (results_none Tryd.results16 _ _ _) rfl ⟨rfl, k4⟩
set_option maxHeartbeats 2000000 in
theorem learn_br_never (G : PG) (S S' : PS) (hh t : Nat) (mv op rd rs1 rs2 imm pc tg : Int) (taken : Bool) (w : World) (h : Pr w G S) (hL : Laid w) (hb : brB op = true) (Q : Nat → Prop) (hd : G.dv = .iface 103 (.agg #[]))
    (hl : ∀ y, Pr y G S → Calls Tryd.prog 74 #[.agg #[], .int .u32 pc, .int .i64 hh, .bool taken] y fun e z => e = .returned (.tuple #[]) ∧ Pr z G S' ∧ Turned Q y z)
    (h1 : hh ≤ G.mask) (h2 : t < G.ns) : Calls Tryd.prog 16 #[.pointer (some ⟨G.p, 0, none⟩), .agg #[.int .i64 hh, .int .i64 t, .int .u32 mv], .int .u32 pc, .agg #[.int .i64 op, .int .i64 rd, .int .i64 rs1, .int .i64 rs2, .int .i64 imm], .bool taken, .int .u32 tg] w fun e w' => e = .returned (.tuple #[]) ∧ Pr w' G S' ∧ Turned Q w w' := by
  have HO : Hid (ownB G hh t = true) := by unfold ownB; show _ = _; simp; omega
  have HB := Hid.in hb
  have HD := Hid.in hd
  have HLC := Hid.in hl
  have HP : Hid (∀ y, Below w.heap.size w y → Pr y G S) := fun y hy => h.below hy
  have HLL : Hid (∀ y, Below w.heap.size w y → Laid y) := fun y hy => hL.below hy
  clear h hL hb hd hl
  have hm : ∀ w, (Go.method 275 103 (.agg #[]) "oocore/predict.learn").run Tryd.prog w = .ok (74, .agg #[]) w := fun w => by kernel_rfl
  have hn : ∀ w, (Go.nilAhead 275 103 (.agg #[]) "oocore/predict.learn").run Tryd.prog w = .ok (some false) w := fun w => by kernel_rfl
  go_enter Tryd.func16, Tryd.ntmps16
  go_wp2_with (first
    | (go_at_call 28; refine (owns_any G S hh t mv _ (HP.out _ (((Below.refl _ _).alloc (Nat.le_refl _) _).alloc (by simp) _))).mono ?_; rintro e w1 ⟨rfl, hb1⟩; rw [HO.out]; obtain ⟨k1, k2, k3, k4⟩ := keepB2 hb1)
    | (go_at_call 23; refine (isBranch_any op rd rs1 rs2 imm _ (HLL.out _ k4)).mono ?_; rintro e w2 ⟨rfl, hb2⟩; rw [HB.out]; have k42 := below2 k4 hb2; have hP2 := HP.out _ k42; have c0 : w2.cell? ⟨G.p, 0, none⟩ = some (.iface 103 (.agg #[])) := (hP2.cells.cell 0 (by decide)).trans (congrArg some HD.out); have h32 := hP2.cells.here; have k12 := fun i => (hb2.cell (p := ⟨w.heap.size, i, none⟩) (show w.heap.size < w1.heap.size by omega)).trans (k1 i)))
  go_region_with (go_at_call 74; refine (HLC.out _ (by with_reducible first | exact hP2 | exact hP2.drew | exact hP2.drew.drew)).mono ?_; rintro e w3 ⟨rfl, hp3, ht3⟩)
  all_goals (simp only [Exit.inBlock]; exact bodyPost_end (results_none Tryd.results16 _ _ _) rfl ⟨rfl, hp3, (Turned.of_below k42).drew.trans ht3⟩)
set_option maxHeartbeats 2000000 in
theorem learn_br_back (G : PG) (S S' : PS) (hh t : Nat) (mv op rd rs1 rs2 imm pc tg : Int) (taken : Bool) (w : World) (h : Pr w G S) (hL : Laid w) (hb : brB op = true) (Q : Nat → Prop) (hd : G.dv = .iface 96 (.agg #[]))
    (hl : ∀ y, Pr y G S → Calls Tryd.prog 65 #[.agg #[], .int .u32 pc, .int .i64 hh, .bool taken] y fun e z => e = .returned (.tuple #[]) ∧ Pr z G S' ∧ Turned Q y z)
    (h1 : hh ≤ G.mask) (h2 : t < G.ns) : Calls Tryd.prog 16 #[.pointer (some ⟨G.p, 0, none⟩), .agg #[.int .i64 hh, .int .i64 t, .int .u32 mv], .int .u32 pc, .agg #[.int .i64 op, .int .i64 rd, .int .i64 rs1, .int .i64 rs2, .int .i64 imm], .bool taken, .int .u32 tg] w fun e w' => e = .returned (.tuple #[]) ∧ Pr w' G S' ∧ Turned Q w w' := by
  have HO : Hid (ownB G hh t = true) := by unfold ownB; show _ = _; simp; omega
  have HB := Hid.in hb
  have HD := Hid.in hd
  have HLC := Hid.in hl
  have HP : Hid (∀ y, Below w.heap.size w y → Pr y G S) := fun y hy => h.below hy
  have HLL : Hid (∀ y, Below w.heap.size w y → Laid y) := fun y hy => hL.below hy
  clear h hL hb hd hl
  have hm : ∀ w, (Go.method 275 96 (.agg #[]) "oocore/predict.learn").run Tryd.prog w = .ok (65, .agg #[]) w := fun w => by kernel_rfl
  have hn : ∀ w, (Go.nilAhead 275 96 (.agg #[]) "oocore/predict.learn").run Tryd.prog w = .ok (some false) w := fun w => by kernel_rfl
  go_enter Tryd.func16, Tryd.ntmps16
  go_wp2_with (first
    | (go_at_call 28; refine (owns_any G S hh t mv _ (HP.out _ (((Below.refl _ _).alloc (Nat.le_refl _) _).alloc (by simp) _))).mono ?_; rintro e w1 ⟨rfl, hb1⟩; rw [HO.out]; obtain ⟨k1, k2, k3, k4⟩ := keepB2 hb1)
    | (go_at_call 23; refine (isBranch_any op rd rs1 rs2 imm _ (HLL.out _ k4)).mono ?_; rintro e w2 ⟨rfl, hb2⟩; rw [HB.out]; have k42 := below2 k4 hb2; have hP2 := HP.out _ k42; have c0 : w2.cell? ⟨G.p, 0, none⟩ = some (.iface 96 (.agg #[])) := (hP2.cells.cell 0 (by decide)).trans (congrArg some HD.out); have h32 := hP2.cells.here; have k12 := fun i => (hb2.cell (p := ⟨w.heap.size, i, none⟩) (show w.heap.size < w1.heap.size by omega)).trans (k1 i)))
  go_region_with (go_at_call 65; refine (HLC.out _ (by with_reducible first | exact hP2 | exact hP2.drew | exact hP2.drew.drew)).mono ?_; rintro e w3 ⟨rfl, hp3, ht3⟩)
  all_goals (simp only [Exit.inBlock]; exact bodyPost_end (results_none Tryd.results16 _ _ _) rfl ⟨rfl, hp3, (Turned.of_below k42).drew.trans ht3⟩)
set_option maxHeartbeats 2000000 in
theorem learn_br_counted (G : PG) (S S' : PS) (hh t : Nat) (mv op rd rs1 rs2 imm pc tg : Int) (taken : Bool) (w : World) (h : Pr w G S) (hL : Laid w) (hb : brB op = true) (Q : Nat → Prop) (hd : G.dv = .iface 99 (.agg #[.slice (some ⟨G.gc, 0, none⟩) G.nc G.nc]))
    (hl : ∀ y, Pr y G S → Calls Tryd.prog 68 #[.agg #[.slice (some ⟨G.gc, 0, none⟩) G.nc G.nc], .int .u32 pc, .int .i64 hh, .bool taken] y fun e z => e = .returned (.tuple #[]) ∧ Pr z G S' ∧ Turned Q y z)
    (h1 : hh ≤ G.mask) (h2 : t < G.ns) : Calls Tryd.prog 16 #[.pointer (some ⟨G.p, 0, none⟩), .agg #[.int .i64 hh, .int .i64 t, .int .u32 mv], .int .u32 pc, .agg #[.int .i64 op, .int .i64 rd, .int .i64 rs1, .int .i64 rs2, .int .i64 imm], .bool taken, .int .u32 tg] w fun e w' => e = .returned (.tuple #[]) ∧ Pr w' G S' ∧ Turned Q w w' := by
  have HO : Hid (ownB G hh t = true) := by unfold ownB; show _ = _; simp; omega
  have HB := Hid.in hb
  have HD := Hid.in hd
  have HLC := Hid.in hl
  have HP : Hid (∀ y, Below w.heap.size w y → Pr y G S) := fun y hy => h.below hy
  have HLL : Hid (∀ y, Below w.heap.size w y → Laid y) := fun y hy => hL.below hy
  clear h hL hb hd hl
  have hm : ∀ w, (Go.method 275 99 (.agg #[.slice (some ⟨G.gc, 0, none⟩) G.nc G.nc]) "oocore/predict.learn").run Tryd.prog w = .ok (68, .agg #[.slice (some ⟨G.gc, 0, none⟩) G.nc G.nc]) w := fun w => by kernel_rfl
  have hn : ∀ w, (Go.nilAhead 275 99 (.agg #[.slice (some ⟨G.gc, 0, none⟩) G.nc G.nc]) "oocore/predict.learn").run Tryd.prog w = .ok (some false) w := fun w => by kernel_rfl
  go_enter Tryd.func16, Tryd.ntmps16
  go_wp2_with (first
    | (go_at_call 28; refine (owns_any G S hh t mv _ (HP.out _ (((Below.refl _ _).alloc (Nat.le_refl _) _).alloc (by simp) _))).mono ?_; rintro e w1 ⟨rfl, hb1⟩; rw [HO.out]; obtain ⟨k1, k2, k3, k4⟩ := keepB2 hb1)
    | (go_at_call 23; refine (isBranch_any op rd rs1 rs2 imm _ (HLL.out _ k4)).mono ?_; rintro e w2 ⟨rfl, hb2⟩; rw [HB.out]; have k42 := below2 k4 hb2; have hP2 := HP.out _ k42; have c0 : w2.cell? ⟨G.p, 0, none⟩ = some (.iface 99 (.agg #[.slice (some ⟨G.gc, 0, none⟩) G.nc G.nc])) := (hP2.cells.cell 0 (by decide)).trans (congrArg some HD.out); have h32 := hP2.cells.here; have k12 := fun i => (hb2.cell (p := ⟨w.heap.size, i, none⟩) (show w.heap.size < w1.heap.size by omega)).trans (k1 i)))
  go_region_with (go_at_call 68; refine (HLC.out _ (by with_reducible first | exact hP2 | exact hP2.drew | exact hP2.drew.drew)).mono ?_; rintro e w3 ⟨rfl, hp3, ht3⟩)
  all_goals (simp only [Exit.inBlock]; exact bodyPost_end (results_none Tryd.results16 _ _ _) rfl ⟨rfl, hp3, (Turned.of_below k42).drew.trans ht3⟩)
set_option maxHeartbeats 2000000 in
theorem learn_br_mixed (G : PG) (S S' : PS) (hh t : Nat) (mv op rd rs1 rs2 imm pc tg : Int) (taken : Bool) (w : World) (h : Pr w G S) (hL : Laid w) (hb : brB op = true) (Q : Nat → Prop) (hd : G.dv = .iface 102 (.agg #[.slice (some ⟨G.gc, 0, none⟩) G.nc G.nc]))
    (hl : ∀ y, Pr y G S → Calls Tryd.prog 72 #[.agg #[.slice (some ⟨G.gc, 0, none⟩) G.nc G.nc], .int .u32 pc, .int .i64 hh, .bool taken] y fun e z => e = .returned (.tuple #[]) ∧ Pr z G S' ∧ Turned Q y z)
    (h1 : hh ≤ G.mask) (h2 : t < G.ns) : Calls Tryd.prog 16 #[.pointer (some ⟨G.p, 0, none⟩), .agg #[.int .i64 hh, .int .i64 t, .int .u32 mv], .int .u32 pc, .agg #[.int .i64 op, .int .i64 rd, .int .i64 rs1, .int .i64 rs2, .int .i64 imm], .bool taken, .int .u32 tg] w fun e w' => e = .returned (.tuple #[]) ∧ Pr w' G S' ∧ Turned Q w w' := by
  have HO : Hid (ownB G hh t = true) := by unfold ownB; show _ = _; simp; omega
  have HB := Hid.in hb
  have HD := Hid.in hd
  have HLC := Hid.in hl
  have HP : Hid (∀ y, Below w.heap.size w y → Pr y G S) := fun y hy => h.below hy
  have HLL : Hid (∀ y, Below w.heap.size w y → Laid y) := fun y hy => hL.below hy
  clear h hL hb hd hl
  have hm : ∀ w, (Go.method 275 102 (.agg #[.slice (some ⟨G.gc, 0, none⟩) G.nc G.nc]) "oocore/predict.learn").run Tryd.prog w = .ok (72, .agg #[.slice (some ⟨G.gc, 0, none⟩) G.nc G.nc]) w := fun w => by kernel_rfl
  have hn : ∀ w, (Go.nilAhead 275 102 (.agg #[.slice (some ⟨G.gc, 0, none⟩) G.nc G.nc]) "oocore/predict.learn").run Tryd.prog w = .ok (some false) w := fun w => by kernel_rfl
  go_enter Tryd.func16, Tryd.ntmps16
  go_wp2_with (first
    | (go_at_call 28; refine (owns_any G S hh t mv _ (HP.out _ (((Below.refl _ _).alloc (Nat.le_refl _) _).alloc (by simp) _))).mono ?_; rintro e w1 ⟨rfl, hb1⟩; rw [HO.out]; obtain ⟨k1, k2, k3, k4⟩ := keepB2 hb1)
    | (go_at_call 23; refine (isBranch_any op rd rs1 rs2 imm _ (HLL.out _ k4)).mono ?_; rintro e w2 ⟨rfl, hb2⟩; rw [HB.out]; have k42 := below2 k4 hb2; have hP2 := HP.out _ k42; have c0 : w2.cell? ⟨G.p, 0, none⟩ = some (.iface 102 (.agg #[.slice (some ⟨G.gc, 0, none⟩) G.nc G.nc])) := (hP2.cells.cell 0 (by decide)).trans (congrArg some HD.out); have h32 := hP2.cells.here; have k12 := fun i => (hb2.cell (p := ⟨w.heap.size, i, none⟩) (show w.heap.size < w1.heap.size by omega)).trans (k1 i)))
  go_region_with (go_at_call 72; refine (HLC.out _ (by with_reducible first | exact hP2 | exact hP2.drew | exact hP2.drew.drew)).mono ?_; rintro e w3 ⟨rfl, hp3, ht3⟩)
  all_goals (simp only [Exit.inBlock]; exact bodyPost_end (results_none Tryd.results16 _ _ _) rfl ⟨rfl, hp3, (Turned.of_below k42).drew.trans ht3⟩)
end Go.Proofs.YtaioaakaffafoaaDoor
