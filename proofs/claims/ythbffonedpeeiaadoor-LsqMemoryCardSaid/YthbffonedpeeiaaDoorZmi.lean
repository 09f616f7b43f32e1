import Derived.Test.YthbffonedpeeiaaDoorZme
import Derived.Deep.CutBlock
import Derived.StillTailTactics
import Derived.Deep.DeepCutAuto
/-
  LSQ's LAW LsqMemory: what it makes at its start.
-/
namespace Go.Proofs.YthbffonedpeeiaaDoor
open Go Go.RowKit
theorem reg7_is : (regIn Tryd.f4.body 7) = .region 7 (opsIn (regIn Tryd.f4.body 7)) true := rfl
theorem size7 : (opsIn (regIn Tryd.f4.body 7)).size = 16 := by kernel_rfl
theorem nosel7 : Region.noSelect (opsIn (regIn Tryd.f4.body 7)) = true := by kernel_rfl
theorem ready7 : ∀ rem ∈ subs L7, rem ≠ [] → Region.ready .any (opsIn (regIn Tryd.f4.body 7)) (lst7 rem) = rem.map (·.1) := by decide +kernel
theorem take7 {K : Act → World → Prop} {i s : Nat} {o : Oper} {v : Value} {fuel : Nat} {listed listed' : Array Bool} {a : Act} {w : World} (hi : (opsIn (regIn Tryd.f4.body 7))[i]? = some o) (hd : o.dst = some s) (hg : o.guard = none) (hrun : ∀ w, (execOp a.eval o).run Tryd.prog w = .ok (.value v) w) (hf : Region.free .any (opsIn (regIn Tryd.f4.body 7)) listed i = true) (hr : (Region.ready .any (opsIn (regIn Tryd.f4.body 7)) listed).contains i = true) (hl : listed.setIfInBounds i true = listed') (h : wpAny Tryd.prog .any (opsIn (regIn Tryd.f4.body 7)) (Exit.then K NoX) fuel listed' (a.put (some s) v) w) : wpAny Tryd.prog .any (opsIn (regIn Tryd.f4.body 7)) (Exit.then K NoX) (fuel + 1) listed a w := by
  refine wpAny_take hi nosel7 hf hr (fun _ _ _ h => h) (Or.inl ⟨by unfold Region.wanted; rw [hg], hrun⟩) ?_
  rw [hl, hd]
  exact h
theorem one7 {K : Act → World → Prop} {i s : Nat} {o : Oper} {v : Value} {fuel : Nat} {listed listed' : Array Bool} {a : Act} {w w' : World} (hi : (opsIn (regIn Tryd.f4.body 7))[i]? = some o) (hd : o.dst = some s) (hg : o.guard = none) (hr : Region.ready .any (opsIn (regIn Tryd.f4.body 7)) listed = [i]) (hl : listed.setIfInBounds i true = listed') (hrun : (execOp a.eval o).run Tryd.prog w = .ok (.value v) w') (h : wpAny Tryd.prog .any (opsIn (regIn Tryd.f4.body 7)) (Exit.then K NoX) fuel listed' (a.put (some s) v) w') : wpAny Tryd.prog .any (opsIn (regIn Tryd.f4.body 7)) (Exit.then K NoX) (fuel + 1) listed a w := by
  refine wpAny_all hr (by simp) (fun j hj => ?_)
  rw [List.mem_singleton] at hj
  subst hj
  unfold wpOp
  rw [hi]
  have hwa : Region.wanted o (yielded (opsIn (regIn Tryd.f4.body 7)) a.tmps) = true := by
    unfold Region.wanted
    rw [hg]
  simp only [hwa, if_true]
  rw [hl]
  refine Or.inl ?_
  unfold Oper.wp
  rw [hrun]
  simp only [Oper.upon]
  rw [hd]
  exact h
theorem op0 : ∃ o, (opsIn (regIn Tryd.f4.body 7))[0]? = some o ∧ o.dst = some 42 ∧ o.guard = none ∧ o.op = .move (.tmp 9) := ⟨_, rfl, rfl, rfl, rfl⟩
theorem op1 : ∃ o, (opsIn (regIn Tryd.f4.body 7))[1]? = some o ∧ o.dst = some 43 ∧ o.guard = none ∧ o.op = .move (.tmp 2) := ⟨_, rfl, rfl, rfl, rfl⟩
theorem op2 : ∃ o, (opsIn (regIn Tryd.f4.body 7))[2]? = some o ∧ o.dst = some 44 ∧ o.guard = none ∧ o.op = .move (.tmp 11) := ⟨_, rfl, rfl, rfl, rfl⟩
theorem op3 : ∃ o, (opsIn (regIn Tryd.f4.body 7))[3]? = some o ∧ o.dst = some 45 ∧ o.guard = none ∧ o.op = .slice 62 (.tmp 43) none (some (.tmp 44)) none := ⟨_, rfl, rfl, rfl, rfl⟩
theorem op4 : ∃ o, (opsIn (regIn Tryd.f4.body 7))[4]? = some o ∧ o.dst = some 46 ∧ o.guard = none ∧ o.op = .move (.tmp 11) := ⟨_, rfl, rfl, rfl, rfl⟩
theorem op5 : ∃ o, (opsIn (regIn Tryd.f4.body 7))[5]? = some o ∧ o.dst = some 47 ∧ o.guard = none ∧ o.op = .makeSlice 66 (.tmp 46) (.tmp 46) := ⟨_, rfl, rfl, rfl, rfl⟩
theorem op6 : ∃ o, (opsIn (regIn Tryd.f4.body 7))[6]? = some o ∧ o.dst = some 48 ∧ o.guard = none ∧ o.op = .move (.tmp 11) := ⟨_, rfl, rfl, rfl, rfl⟩
theorem op7 : ∃ o, (opsIn (regIn Tryd.f4.body 7))[7]? = some o ∧ o.dst = some 49 ∧ o.guard = none ∧ o.op = .makeSlice 67 (.tmp 48) (.tmp 48) := ⟨_, rfl, rfl, rfl, rfl⟩
theorem op8 : ∃ o, (opsIn (regIn Tryd.f4.body 7))[8]? = some o ∧ o.dst = some 50 ∧ o.guard = none ∧ o.op = .move (.tmp 11) := ⟨_, rfl, rfl, rfl, rfl⟩
theorem op9 : ∃ o, (opsIn (regIn Tryd.f4.body 7))[9]? = some o ∧ o.dst = some 51 ∧ o.guard = none ∧ o.op = .makeSlice 67 (.tmp 50) (.tmp 50) := ⟨_, rfl, rfl, rfl, rfl⟩
theorem op10 : ∃ o, (opsIn (regIn Tryd.f4.body 7))[10]? = some o ∧ o.dst = some 52 ∧ o.guard = none ∧ o.op = .move (.tmp 11) := ⟨_, rfl, rfl, rfl, rfl⟩
theorem op11 : ∃ o, (opsIn (regIn Tryd.f4.body 7))[11]? = some o ∧ o.dst = some 53 ∧ o.guard = none ∧ o.op = .makeSlice 67 (.tmp 52) (.tmp 52) := ⟨_, rfl, rfl, rfl, rfl⟩
theorem op12 : ∃ o, (opsIn (regIn Tryd.f4.body 7))[12]? = some o ∧ o.dst = some 54 ∧ o.guard = none ∧ o.op = .makeSlice 68 (.const (.int .i64 16)) (.const (.int .i64 16)) := ⟨_, rfl, rfl, rfl, rfl⟩
theorem op13 : ∃ o, (opsIn (regIn Tryd.f4.body 7))[13]? = some o ∧ o.dst = some 55 ∧ o.guard = none ∧ o.op = .build 70 #[(0, .tmp 42), (1, .tmp 45), (4, .tmp 47), (5, .tmp 49), (6, .tmp 51), (7, .tmp 53), (8, .tmp 54)] := ⟨_, rfl, rfl, rfl, rfl⟩
theorem op14 : ∃ o, (opsIn (regIn Tryd.f4.body 7))[14]? = some o ∧ o.dst = some 56 ∧ o.guard = none ∧ o.op = .box 70 (.tmp 55) := ⟨_, rfl, rfl, rfl, rfl⟩
theorem op15 : ∃ o, (opsIn (regIn Tryd.f4.body 7))[15]? = some o ∧ o.dst = some 12 ∧ o.guard = none ∧ o.op = .assign (.tmp 56) := ⟨_, rfl, rfl, rfl, rfl⟩
theorem run_slice7 {a : Act} {o : Oper} {n m cl : Nat} {lp : Option Addr} (ho : o.op = .slice 62 (.tmp 43) none (some (.tmp 44)) none) (h1 : a.eval (.tmp 43) = .slice lp m cl) (h2 : a.eval (.tmp 44) = .int .i64 n) (hnm : n ≤ m ∧ m ≤ cl) (w : World) : (execOp a.eval o).run Tryd.prog w = .ok (.value (.slice lp n cl)) w := by
  have hnc : (n : Int) ≤ (cl : Int) := by omega
  unfold execOp
  simp only [ho, h1, h2, Option.map_some, Option.map_none]
  go_simp
theorem run_build7 {a : Act} {o : Oper} {p0 p1 p4 p5 p6 p7 p8 : Option Addr} {n1 c1 n4 n5 n6 n7 n8 c4 c5 c6 c7 c8 : Nat} (ho : o.op = .build 70 #[(0, .tmp 42), (1, .tmp 45), (4, .tmp 47), (5, .tmp 49), (6, .tmp 51), (7, .tmp 53), (8, .tmp 54)]) (h0 : a.eval (.tmp 42) = .pointer p0) (h1 : a.eval (.tmp 45) = .slice p1 n1 c1) (h4 : a.eval (.tmp 47) = .slice p4 n4 c4) (h5 : a.eval (.tmp 49) = .slice p5 n5 c5) (h6 : a.eval (.tmp 51) = .slice p6 n6 c6) (h7 : a.eval (.tmp 53) = .slice p7 n7 c7) (h8 : a.eval (.tmp 54) = .slice p8 n8 c8) (w : World) : (execOp a.eval o).run Tryd.prog w = .ok (.value (.agg #[.pointer p0, .slice p1 n1 c1, .int .i64 0, .int .i64 0, .slice p4 n4 c4, .slice p5 n5 c5, .slice p6 n6 c6, .slice p7 n7 c7, .slice p8 n8 c8])) w := by
  have hb : (Instr.build 70 #[(0, .pointer p0), (1, .slice p1 n1 c1), (4, .slice p4 n4 c4), (5, .slice p5 n5 c5), (6, .slice p6 n6 c6), (7, .slice p7 n7 c7), (8, .slice p8 n8 c8)]).run Tryd.prog w = .ok (.agg #[.pointer p0, .slice p1 n1 c1, .int .i64 0, .int .i64 0, .slice p4 n4 c4, .slice p5 n5 c5, .slice p6 n6 c6, .slice p7 n7 c7, .slice p8 n8 c8]) w := by kernel_rfl
  unfold execOp
  simp only [ho, List.map_toArray, List.map_cons, List.map_nil, h0, h1, h4, h5, h6, h7, h8, Sem.run_bind, hb, Result.andThen_ok, Sem.run_pure]
theorem run_box7 {a : Act} {o : Oper} {v0 v1 v2 v3 v4 v5 v6 v7 v8 : Value} {w : World} (ho : o.op = .box 70 (.tmp 55)) (h0 : a.eval (.tmp 55) = .agg #[v0, v1, v2, v3, v4, v5, v6, v7, v8]) : (execOp a.eval o).run Tryd.prog w = .ok (.value (.pointer (some ⟨w.heap.size, 0, none⟩))) (w.alloc (.cells #[v0, v1, v2, v3, v4, v5, v6, v7, v8] 70)) := by
  unfold execOp
  simp only [ho, h0]
  go_simp
set_option maxRecDepth 100000 in
set_option maxHeartbeats 4000000 in
theorem reg7A (n m sz : Nat) (w w1 : World) (q cl : Nat) (lp : Option Addr) (a : Act) (hs : a.tmps.size = 272) (h2 : a.eval (.tmp 2) = .slice lp m cl) (h9 : a.eval (.tmp 9) = .pointer (some ⟨q, 0, none⟩)) (h11 : a.eval (.tmp 11) = .int .i64 n) (hn60 : n ≤ 60) (hnm : n ≤ m ∧ m ≤ cl) (kq : Qm w1 w.heap.size q (.slice none 0 0) ⟨sz, []⟩) (b1 : Below w.heap.size w w1) {K : Act → World → Prop}
    (hk : ∀ (v47 v49 v51 v53 v54 v55 : Value) (y : World) (b : Nat → Nat), Xm w y q (.slice none 0 0) (.slice lp n cl) b n (M0 sz) → K (((((((((((((((((a).put (some 42) (.pointer (some ⟨q, 0, none⟩))).put (some 43) (.slice lp m cl)).put (some 44) (.int .i64 n)).put (some 45) (.slice lp n cl)).put (some 46) (.int .i64 n)).put (some 48) (.int .i64 n)).put (some 50) (.int .i64 n)).put (some 52) (.int .i64 n)).put (some 47) v47).put (some 49) v49).put (some 51) v51).put (some 53) v53).put (some 54) v54).put (some 55) v55).put (some 56) (.pointer (some ⟨b 0, 0, none⟩))).put (some 12) (.pointer (some ⟨b 0, 0, none⟩))) y) : (regIn Tryd.f4.body 7).wp Tryd.prog (Exit.then K NoX) a w1 := by
  have hmk1 := make_run (P := Tryd.prog) 66 38 (.int .u32 0) 4 Tryd.underlying66 (by kernel_rfl) rfl n (by omega) (by omega)
  have hmk2 := make_run (P := Tryd.prog) 67 4 (.bool false) 1 Tryd.underlying67 (by kernel_rfl) rfl n (by omega) (by omega)
  have hmk5 : ∀ u : World, (Instr.makeSlice 68 (.int .i64 16) (.int .i64 16)).run Tryd.prog u = .ok (.slice (some ⟨u.heap.size, 0, none⟩) 16 16) (u.alloc (.cells (madeCells #[.int .u8 0] 16) 5)) := make_run (P := Tryd.prog) 68 5 (.int .u8 0) 1 Tryd.underlying68 (by kernel_rfl) rfl 16 (by omega) (by omega)
  rw [reg7_is]
  refine wp_region_any (by kernel_rfl) ?_
  have b2 : Below w.heap.size w { w1 with drawn := w1.drawn + 1 } := b1.drew
  have kq2 := kq.below ((Below.refl w1.heap.size w1).drew)
  change Qm { w1 with drawn := w1.drawn + 1 } _ _ _ _ at kq2
  generalize { w1 with drawn := w1.drawn + 1 } = w2 at b2 kq2 ⊢
  rw [size7]
  show wpAny _ _ _ _ (15 + 1) #[false, false, false, false, false, false, false, false, false, false, false, false, false, false, false, false] _ _
  obtain ⟨xo0, xi0, xd0, xg0, xp0⟩ := op0
  refine take7 (i := 0) (s := 42) (v := .pointer (some ⟨q, 0, none⟩)) (fuel := 15) (listed := _) (listed' := #[true, false, false, false, false, false, false, false, false, false, false, false, false, false, false, false]) xi0 xd0 xg0 (fun w => run_move xp0 h9 w) (by kernel_rfl) (by kernel_rfl) rfl ?_
  obtain ⟨a0, ha0⟩ : ∃ x, a.put (some 42) (.pointer (some ⟨q, 0, none⟩)) = x := ⟨_, rfl⟩
  rw [ha0]
  have e2_0 : a0.eval (.tmp 2) = _ := ha0 ▸ ev_put h2 (by decide)
  have e9_0 : a0.eval (.tmp 9) = _ := ha0 ▸ ev_put h9 (by decide)
  have e11_0 : a0.eval (.tmp 11) = _ := ha0 ▸ ev_put h11 (by decide)
  have e42_0 : a0.eval (.tmp 42) = _ := ha0 ▸ ev_same (by rw [hs]; decide)
  have s_0 : a0.tmps.size = 272 := ha0 ▸ size_put hs
  obtain ⟨xo1, xi1, xd1, xg1, xp1⟩ := op1
  refine take7 (i := 1) (s := 43) (v := .slice lp m cl) (fuel := 14) (listed := _) (listed' := #[true, true, false, false, false, false, false, false, false, false, false, false, false, false, false, false]) xi1 xd1 xg1 (fun w => run_move xp1 e2_0 w) (by kernel_rfl) (by kernel_rfl) rfl ?_
  obtain ⟨a1, ha1⟩ : ∃ x, a0.put (some 43) (.slice lp m cl) = x := ⟨_, rfl⟩
  rw [ha1]
  have e2_1 : a1.eval (.tmp 2) = _ := ha1 ▸ ev_put e2_0 (by decide)
  have e9_1 : a1.eval (.tmp 9) = _ := ha1 ▸ ev_put e9_0 (by decide)
  have e11_1 : a1.eval (.tmp 11) = _ := ha1 ▸ ev_put e11_0 (by decide)
  have e42_1 : a1.eval (.tmp 42) = _ := ha1 ▸ ev_put e42_0 (by decide)
  have e43_1 : a1.eval (.tmp 43) = _ := ha1 ▸ ev_same (by rw [s_0]; decide)
  have s_1 : a1.tmps.size = 272 := ha1 ▸ size_put s_0
  obtain ⟨xo2, xi2, xd2, xg2, xp2⟩ := op2
  refine take7 (i := 2) (s := 44) (v := .int .i64 n) (fuel := 13) (listed := _) (listed' := #[true, true, true, false, false, false, false, false, false, false, false, false, false, false, false, false]) xi2 xd2 xg2 (fun w => run_move xp2 e11_1 w) (by kernel_rfl) (by kernel_rfl) rfl ?_
  obtain ⟨a2, ha2⟩ : ∃ x, a1.put (some 44) (.int .i64 n) = x := ⟨_, rfl⟩
  rw [ha2]
  have e2_2 : a2.eval (.tmp 2) = _ := ha2 ▸ ev_put e2_1 (by decide)
  have e9_2 : a2.eval (.tmp 9) = _ := ha2 ▸ ev_put e9_1 (by decide)
  have e11_2 : a2.eval (.tmp 11) = _ := ha2 ▸ ev_put e11_1 (by decide)
  have e42_2 : a2.eval (.tmp 42) = _ := ha2 ▸ ev_put e42_1 (by decide)
  have e43_2 : a2.eval (.tmp 43) = _ := ha2 ▸ ev_put e43_1 (by decide)
  have e44_2 : a2.eval (.tmp 44) = _ := ha2 ▸ ev_same (by rw [s_1]; decide)
  have s_2 : a2.tmps.size = 272 := ha2 ▸ size_put s_1
  obtain ⟨xo3, xi3, xd3, xg3, xp3⟩ := op3
  refine take7 (i := 3) (s := 45) (v := .slice lp n cl) (fuel := 12) (listed := _) (listed' := #[true, true, true, true, false, false, false, false, false, false, false, false, false, false, false, false]) xi3 xd3 xg3 (fun w => run_slice7 xp3 e43_2 e44_2 hnm w) (by kernel_rfl) (by kernel_rfl) rfl ?_
  obtain ⟨a3, ha3⟩ : ∃ x, a2.put (some 45) (.slice lp n cl) = x := ⟨_, rfl⟩
  rw [ha3]
  have e2_3 : a3.eval (.tmp 2) = _ := ha3 ▸ ev_put e2_2 (by decide)
  have e9_3 : a3.eval (.tmp 9) = _ := ha3 ▸ ev_put e9_2 (by decide)
  have e11_3 : a3.eval (.tmp 11) = _ := ha3 ▸ ev_put e11_2 (by decide)
  have e42_3 : a3.eval (.tmp 42) = _ := ha3 ▸ ev_put e42_2 (by decide)
  have e43_3 : a3.eval (.tmp 43) = _ := ha3 ▸ ev_put e43_2 (by decide)
  have e44_3 : a3.eval (.tmp 44) = _ := ha3 ▸ ev_put e44_2 (by decide)
  have e45_3 : a3.eval (.tmp 45) = _ := ha3 ▸ ev_same (by rw [s_2]; decide)
  have s_3 : a3.tmps.size = 272 := ha3 ▸ size_put s_2
  obtain ⟨xo4, xi4, xd4, xg4, xp4⟩ := op4
  refine take7 (i := 4) (s := 46) (v := .int .i64 n) (fuel := 11) (listed := _) (listed' := #[true, true, true, true, true, false, false, false, false, false, false, false, false, false, false, false]) xi4 xd4 xg4 (fun w => run_move xp4 e11_3 w) (by kernel_rfl) (by kernel_rfl) rfl ?_
  obtain ⟨a4, ha4⟩ : ∃ x, a3.put (some 46) (.int .i64 n) = x := ⟨_, rfl⟩
  rw [ha4]
  have e2_4 : a4.eval (.tmp 2) = _ := ha4 ▸ ev_put e2_3 (by decide)
  have e9_4 : a4.eval (.tmp 9) = _ := ha4 ▸ ev_put e9_3 (by decide)
  have e11_4 : a4.eval (.tmp 11) = _ := ha4 ▸ ev_put e11_3 (by decide)
  have e42_4 : a4.eval (.tmp 42) = _ := ha4 ▸ ev_put e42_3 (by decide)
  have e43_4 : a4.eval (.tmp 43) = _ := ha4 ▸ ev_put e43_3 (by decide)
  have e44_4 : a4.eval (.tmp 44) = _ := ha4 ▸ ev_put e44_3 (by decide)
  have e45_4 : a4.eval (.tmp 45) = _ := ha4 ▸ ev_put e45_3 (by decide)
  have e46_4 : a4.eval (.tmp 46) = _ := ha4 ▸ ev_same (by rw [s_3]; decide)
  have s_4 : a4.tmps.size = 272 := ha4 ▸ size_put s_3
  obtain ⟨xo6, xi6, xd6, xg6, xp6⟩ := op6
  refine take7 (i := 6) (s := 48) (v := .int .i64 n) (fuel := 10) (listed := _) (listed' := #[true, true, true, true, true, false, true, false, false, false, false, false, false, false, false, false]) xi6 xd6 xg6 (fun w => run_move xp6 e11_4 w) (by kernel_rfl) (by kernel_rfl) rfl ?_
  obtain ⟨a5, ha5⟩ : ∃ x, a4.put (some 48) (.int .i64 n) = x := ⟨_, rfl⟩
  rw [ha5]
  have e2_5 : a5.eval (.tmp 2) = _ := ha5 ▸ ev_put e2_4 (by decide)
  have e9_5 : a5.eval (.tmp 9) = _ := ha5 ▸ ev_put e9_4 (by decide)
  have e11_5 : a5.eval (.tmp 11) = _ := ha5 ▸ ev_put e11_4 (by decide)
  have e42_5 : a5.eval (.tmp 42) = _ := ha5 ▸ ev_put e42_4 (by decide)
  have e43_5 : a5.eval (.tmp 43) = _ := ha5 ▸ ev_put e43_4 (by decide)
  have e44_5 : a5.eval (.tmp 44) = _ := ha5 ▸ ev_put e44_4 (by decide)
  have e45_5 : a5.eval (.tmp 45) = _ := ha5 ▸ ev_put e45_4 (by decide)
  have e46_5 : a5.eval (.tmp 46) = _ := ha5 ▸ ev_put e46_4 (by decide)
  have e48_5 : a5.eval (.tmp 48) = _ := ha5 ▸ ev_same (by rw [s_4]; decide)
  have s_5 : a5.tmps.size = 272 := ha5 ▸ size_put s_4
  obtain ⟨xo8, xi8, xd8, xg8, xp8⟩ := op8
  refine take7 (i := 8) (s := 50) (v := .int .i64 n) (fuel := 9) (listed := _) (listed' := #[true, true, true, true, true, false, true, false, true, false, false, false, false, false, false, false]) xi8 xd8 xg8 (fun w => run_move xp8 e11_5 w) (by kernel_rfl) (by kernel_rfl) rfl ?_
  obtain ⟨a6, ha6⟩ : ∃ x, a5.put (some 50) (.int .i64 n) = x := ⟨_, rfl⟩
  rw [ha6]
  have e2_6 : a6.eval (.tmp 2) = _ := ha6 ▸ ev_put e2_5 (by decide)
  have e9_6 : a6.eval (.tmp 9) = _ := ha6 ▸ ev_put e9_5 (by decide)
  have e11_6 : a6.eval (.tmp 11) = _ := ha6 ▸ ev_put e11_5 (by decide)
  have e42_6 : a6.eval (.tmp 42) = _ := ha6 ▸ ev_put e42_5 (by decide)
  have e43_6 : a6.eval (.tmp 43) = _ := ha6 ▸ ev_put e43_5 (by decide)
  have e44_6 : a6.eval (.tmp 44) = _ := ha6 ▸ ev_put e44_5 (by decide)
  have e45_6 : a6.eval (.tmp 45) = _ := ha6 ▸ ev_put e45_5 (by decide)
  have e46_6 : a6.eval (.tmp 46) = _ := ha6 ▸ ev_put e46_5 (by decide)
  have e48_6 : a6.eval (.tmp 48) = _ := ha6 ▸ ev_put e48_5 (by decide)
  have e50_6 : a6.eval (.tmp 50) = _ := ha6 ▸ ev_same (by rw [s_5]; decide)
  have s_6 : a6.tmps.size = 272 := ha6 ▸ size_put s_5
  obtain ⟨xo10, xi10, xd10, xg10, xp10⟩ := op10
  refine take7 (i := 10) (s := 52) (v := .int .i64 n) (fuel := 8) (listed := _) (listed' := #[true, true, true, true, true, false, true, false, true, false, true, false, false, false, false, false]) xi10 xd10 xg10 (fun w => run_move xp10 e11_6 w) (by kernel_rfl) (by kernel_rfl) rfl ?_
  obtain ⟨a7, ha7⟩ : ∃ x, a6.put (some 52) (.int .i64 n) = x := ⟨_, rfl⟩
  rw [ha7]
  have e2_7 : a7.eval (.tmp 2) = _ := ha7 ▸ ev_put e2_6 (by decide)
  have e9_7 : a7.eval (.tmp 9) = _ := ha7 ▸ ev_put e9_6 (by decide)
  have e11_7 : a7.eval (.tmp 11) = _ := ha7 ▸ ev_put e11_6 (by decide)
  have e42_7 : a7.eval (.tmp 42) = _ := ha7 ▸ ev_put e42_6 (by decide)
  have e43_7 : a7.eval (.tmp 43) = _ := ha7 ▸ ev_put e43_6 (by decide)
  have e44_7 : a7.eval (.tmp 44) = _ := ha7 ▸ ev_put e44_6 (by decide)
  have e45_7 : a7.eval (.tmp 45) = _ := ha7 ▸ ev_put e45_6 (by decide)
  have e46_7 : a7.eval (.tmp 46) = _ := ha7 ▸ ev_put e46_6 (by decide)
  have e48_7 : a7.eval (.tmp 48) = _ := ha7 ▸ ev_put e48_6 (by decide)
  have e50_7 : a7.eval (.tmp 50) = _ := ha7 ▸ ev_put e50_6 (by decide)
  have e52_7 : a7.eval (.tmp 52) = _ := ha7 ▸ ev_same (by rw [s_6]; decide)
  have s_7 : a7.tmps.size = 272 := ha7 ▸ size_put s_6
  have hmk := wpAny_makes (P := Tryd.prog) (md := .any) (ops := (opsIn (regIn Tryd.f4.body 7))) (Q := Exit.then K NoX) w2 a7 L7 3 (val7 n) (obj7 n 38 4 5) lst7 (by decide) (by decide) (by decide) (fun rem hs hne => ready7 rem (mem_subs hs) hne) (fun rem hs x hx => set7 rem (mem_subs hs) x hx) ?_ ?_ 5 L7 (fun _ => none) w2 (fun _ => 0) rfl (List.Sublist.refl _) ⟨fun x hx hn => absurd hx hn, fun x hx _ _ hn => absurd hx hn, Below.refl _ _, fun _ _ => rfl⟩
  · rw [frame_none] at hmk
    exact hmk
  · intro x hx
    simp only [List.mem_cons, List.not_mem_nil, or_false] at hx
    rcases hx with rfl | rfl | rfl | rfl | rfl
    · obtain ⟨o, xi, xd, xg, xp⟩ := op5
      exact ⟨o, xi, xg, xd, fun vals u K hv h => make_wp xp ((frame_eval _ vals 46 (hv 46 (by decide))).trans e46_7) ((frame_eval _ vals 46 (hv 46 (by decide))).trans e46_7) (hmk1 u) h⟩
    · obtain ⟨o, xi, xd, xg, xp⟩ := op7
      exact ⟨o, xi, xg, xd, fun vals u K hv h => make_wp xp ((frame_eval _ vals 48 (hv 48 (by decide))).trans e48_7) ((frame_eval _ vals 48 (hv 48 (by decide))).trans e48_7) (hmk2 u) h⟩
    · obtain ⟨o, xi, xd, xg, xp⟩ := op9
      exact ⟨o, xi, xg, xd, fun vals u K hv h => make_wp xp ((frame_eval _ vals 50 (hv 50 (by decide))).trans e50_7) ((frame_eval _ vals 50 (hv 50 (by decide))).trans e50_7) (hmk2 u) h⟩
    · obtain ⟨o, xi, xd, xg, xp⟩ := op11
      exact ⟨o, xi, xg, xd, fun vals u K hv h => make_wp xp ((frame_eval _ vals 52 (hv 52 (by decide))).trans e52_7) ((frame_eval _ vals 52 (hv 52 (by decide))).trans e52_7) (hmk2 u) h⟩
    · obtain ⟨o, xi, xd, xg, xp⟩ := op12
      exact ⟨o, xi, xg, xd, fun vals u K hv h => make_wp xp rfl rfl (hmk5 u) h⟩
  · intro vals W2 B hM
    have hv := vals7 hM
    have hfr : frame a7 vals = ((((a7.put (some 47) (val7 n 5 (B 5))).put (some 49) (val7 n 7 (B 7))).put (some 51) (val7 n 9 (B 9))).put (some 53) (val7 n 11 (B 11))).put (some 54) (val7 n 12 (B 12)) := by
      rw [hv, ← frame_put, ← frame_put, ← frame_put, ← frame_put, ← frame_put, frame_none]
    rw [hfr]
    obtain ⟨a8, ha8⟩ : ∃ x, a7.put (some 47) (val7 n 5 (B 5)) = x := ⟨_, rfl⟩
    rw [ha8]
    have e42_8 : a8.eval (.tmp 42) = _ := ha8 ▸ ev_put e42_7 (by decide)
    have e45_8 : a8.eval (.tmp 45) = _ := ha8 ▸ ev_put e45_7 (by decide)
    have e47_8 : a8.eval (.tmp 47) = _ := ha8 ▸ ev_same (by rw [s_7]; decide)
    have s_8 : a8.tmps.size = 272 := ha8 ▸ size_put s_7
    obtain ⟨a9, ha9⟩ : ∃ x, a8.put (some 49) (val7 n 7 (B 7)) = x := ⟨_, rfl⟩
    rw [ha9]
    have e42_9 : a9.eval (.tmp 42) = _ := ha9 ▸ ev_put e42_8 (by decide)
    have e45_9 : a9.eval (.tmp 45) = _ := ha9 ▸ ev_put e45_8 (by decide)
    have e47_9 : a9.eval (.tmp 47) = _ := ha9 ▸ ev_put e47_8 (by decide)
    have e49_9 : a9.eval (.tmp 49) = _ := ha9 ▸ ev_same (by rw [s_8]; decide)
    have s_9 : a9.tmps.size = 272 := ha9 ▸ size_put s_8
    obtain ⟨a10, ha10⟩ : ∃ x, a9.put (some 51) (val7 n 9 (B 9)) = x := ⟨_, rfl⟩
    rw [ha10]
    have e42_10 : a10.eval (.tmp 42) = _ := ha10 ▸ ev_put e42_9 (by decide)
    have e45_10 : a10.eval (.tmp 45) = _ := ha10 ▸ ev_put e45_9 (by decide)
    have e47_10 : a10.eval (.tmp 47) = _ := ha10 ▸ ev_put e47_9 (by decide)
    have e49_10 : a10.eval (.tmp 49) = _ := ha10 ▸ ev_put e49_9 (by decide)
    have e51_10 : a10.eval (.tmp 51) = _ := ha10 ▸ ev_same (by rw [s_9]; decide)
    have s_10 : a10.tmps.size = 272 := ha10 ▸ size_put s_9
    obtain ⟨a11, ha11⟩ : ∃ x, a10.put (some 53) (val7 n 11 (B 11)) = x := ⟨_, rfl⟩
    rw [ha11]
    have e42_11 : a11.eval (.tmp 42) = _ := ha11 ▸ ev_put e42_10 (by decide)
    have e45_11 : a11.eval (.tmp 45) = _ := ha11 ▸ ev_put e45_10 (by decide)
    have e47_11 : a11.eval (.tmp 47) = _ := ha11 ▸ ev_put e47_10 (by decide)
    have e49_11 : a11.eval (.tmp 49) = _ := ha11 ▸ ev_put e49_10 (by decide)
    have e51_11 : a11.eval (.tmp 51) = _ := ha11 ▸ ev_put e51_10 (by decide)
    have e53_11 : a11.eval (.tmp 53) = _ := ha11 ▸ ev_same (by rw [s_10]; decide)
    have s_11 : a11.tmps.size = 272 := ha11 ▸ size_put s_10
    obtain ⟨a12, ha12⟩ : ∃ x, a11.put (some 54) (val7 n 12 (B 12)) = x := ⟨_, rfl⟩
    rw [ha12]
    have e42_12 : a12.eval (.tmp 42) = _ := ha12 ▸ ev_put e42_11 (by decide)
    have e45_12 : a12.eval (.tmp 45) = _ := ha12 ▸ ev_put e45_11 (by decide)
    have e47_12 : a12.eval (.tmp 47) = _ := ha12 ▸ ev_put e47_11 (by decide)
    have e49_12 : a12.eval (.tmp 49) = _ := ha12 ▸ ev_put e49_11 (by decide)
    have e51_12 : a12.eval (.tmp 51) = _ := ha12 ▸ ev_put e51_11 (by decide)
    have e53_12 : a12.eval (.tmp 53) = _ := ha12 ▸ ev_put e53_11 (by decide)
    have e54_12 : a12.eval (.tmp 54) = _ := ha12 ▸ ev_same (by rw [s_11]; decide)
    have s_12 : a12.tmps.size = 272 := ha12 ▸ size_put s_11
    obtain ⟨b, hb0, hX⟩ : ∃ b : Nat → Nat, b 0 = W2.heap.size ∧ Xm w (W2.alloc (.cells #[.pointer (some ⟨q, 0, none⟩), .slice lp n cl, .int .i64 0, .int .i64 0, .slice (some ⟨B 5, 0, none⟩) n n, .slice (some ⟨B 7, 0, none⟩) n n, .slice (some ⟨B 9, 0, none⟩) n n, .slice (some ⟨B 11, 0, none⟩) n n, .slice (some ⟨B 12, 0, none⟩) 16 16] 70)) q (.slice none 0 0) (.slice lp n cl) b n (M0 sz) := ⟨_, rfl, xm_start (t := 70) (lv := .slice lp n cl) kq2 b2 hM rfl rfl rfl rfl rfl⟩
    obtain ⟨o13, i13, d13, g13, p13⟩ := op13
    refine one7 (fuel := 2) (listed' := #[true, true, true, true, true, true, true, true, true, true, true, true, true, true, false, false]) i13 d13 g13 (by kernel_rfl) rfl (run_build7 p13 e42_12 e45_12 e47_12 e49_12 e51_12 e53_12 e54_12 W2) ?_
    obtain ⟨o14, i14, d14, g14, p14⟩ := op14
    refine one7 (fuel := 1) (listed' := #[true, true, true, true, true, true, true, true, true, true, true, true, true, true, true, false]) i14 d14 g14 (by kernel_rfl) rfl (run_box7 p14 (ev_same (by rw [s_12]; decide))) ?_
    obtain ⟨o15, i15, d15, g15, p15⟩ := op15
    refine one7 (fuel := 0) (listed' := #[true, true, true, true, true, true, true, true, true, true, true, true, true, true, true, true]) i15 d15 g15 (by kernel_rfl) rfl (run_assign p15 (ev_same (by rw [size_put s_12]; decide)) _) ?_
    refine wpAny_done (by kernel_rfl) ?_ _
    subst ha12 ha11 ha10 ha9 ha8 ha7 ha6 ha5 ha4 ha3 ha2 ha1 ha0
    rw [← hb0]
    exact hk _ _ _ _ _ _ _ b hX
end Go.Proofs.YthbffonedpeeiaaDoor
/-
  LSQ's LAW LsqMemory: what it makes at its start, in its frame.
-/
namespace Go.Proofs.YthbffonedpeeiaaDoor
open Go Go.RowKit
set_option maxRecDepth 100000 in
set_option maxHeartbeats 4000000 in
theorem reg7 {u0 u1 u3 u4 u5 u6 u7 u8 u10 u12 u13 u14 u15 u16 u17 u18 u19 u20 u21 u22 u23 u24 u25 u26 u27 u28 u29 u30 u31 u32 u33 u34 u35 u36 u37 u38 u39 u40 u41 u42 u43 u44 u45 u46 u47 u48 u49 u50 u51 u52 u53 u54 u55 u56 u57 u58 u59 u60 u61 u62 u63 u64 u65 u66 u67 u68 u69 u70 u71 u72 u73 u74 u75 u76 u77 u78 u79 u80 u81 u82 u83 u84 u85 u86 u87 u88 u89 u90 u91 u92 u93 u94 u95 u96 u97 u98 u99 u100 u101 u102 u103 u104 u105 u106 u107 u108 u109 u110 u111 u112 u113 u114 u115 u116 u117 u118 u119 u120 u121 u122 u123 u124 u125 u126 u127 u128 u129 u130 u131 u132 u133 u134 u135 u136 u137 u138 u139 u140 u141 u142 u143 u144 u145 u146 u147 u148 u149 u150 u151 u152 u153 u154 u155 u156 u157 u158 u159 u160 u161 u162 u163 u164 u165 u166 u167 u168 u169 u170 u171 u172 u173 u174 u175 u176 u177 u178 u179 u180 u181 u182 u183 u184 u185 u186 u187 u188 u189 u190 u191 u192 u193 u194 u195 u196 u197 u198 u199 u200 u201 u202 u203 u204 u205 u206 u207 u208 u209 u210 u211 u212 u213 u214 u215 u216 u217 u218 u219 u220 u221 u222 u223 u224 u225 u226 u227 u228 u229 u230 u231 u232 u233 u234 u235 u236 u237 u238 u239 u240 u241 u242 u243 u244 u245 u246 u247 u248 u249 u250 u251 u252 u253 u254 u255 u256 u257 u258 u259 u260 u261 u262 u263 u264 u265 u266 u267 u268 u269 u270 u271 : Value} {ds : List Deferred} (n m sz : Nat) (w w1 : World) (q cl : Nat) (lp : Option Addr) (hn60 : n ≤ 60) (hnm : n ≤ m ∧ m ≤ cl) (kq : Qm w1 w.heap.size q (.slice none 0 0) ⟨sz, []⟩) (b1 : Below w.heap.size w w1) {K : Act → World → Prop}
    (hk : ∀ (t42 t43 t44 t45 t46 t47 t48 t49 t50 t51 t52 t53 t54 t55 t56 : Value) (y : World) (b : Nat → Nat), Xm w y q (.slice none 0 0) (.slice lp n cl) b n (M0 sz) → K ⟨#[u0, u1, .slice lp m cl, u3, u4, u5, u6, u7, u8, .pointer (some ⟨q, 0, none⟩), u10, .int .i64 n, .pointer (some ⟨b 0, 0, none⟩), u13, u14, u15, u16, u17, u18, u19, u20, u21, u22, u23, u24, u25, u26, u27, u28, u29, u30, u31, u32, u33, u34, u35, u36, u37, u38, u39, u40, u41, t42, t43, t44, t45, t46, t47, t48, t49, t50, t51, t52, t53, t54, t55, t56, u57, u58, u59, u60, u61, u62, u63, u64, u65, u66, u67, u68, u69, u70, u71, u72, u73, u74, u75, u76, u77, u78, u79, u80, u81, u82, u83, u84, u85, u86, u87, u88, u89, u90, u91, u92, u93, u94, u95, u96, u97, u98, u99, u100, u101, u102, u103, u104, u105, u106, u107, u108, u109, u110, u111, u112, u113, u114, u115, u116, u117, u118, u119, u120, u121, u122, u123, u124, u125, u126, u127, u128, u129, u130, u131, u132, u133, u134, u135, u136, u137, u138, u139, u140, u141, u142, u143, u144, u145, u146, u147, u148, u149, u150, u151, u152, u153, u154, u155, u156, u157, u158, u159, u160, u161, u162, u163, u164, u165, u166, u167, u168, u169, u170, u171, u172, u173, u174, u175, u176, u177, u178, u179, u180, u181, u182, u183, u184, u185, u186, u187, u188, u189, u190, u191, u192, u193, u194, u195, u196, u197, u198, u199, u200, u201, u202, u203, u204, u205, u206, u207, u208, u209, u210, u211, u212, u213, u214, u215, u216, u217, u218, u219, u220, u221, u222, u223, u224, u225, u226, u227, u228, u229, u230, u231, u232, u233, u234, u235, u236, u237, u238, u239, u240, u241, u242, u243, u244, u245, u246, u247, u248, u249, u250, u251, u252, u253, u254, u255, u256, u257, u258, u259, u260, u261, u262, u263, u264, u265, u266, u267, u268, u269, u270, u271], ds⟩ y) : (regIn Tryd.f4.body 7).wp Tryd.prog (Exit.then K NoX) ⟨#[u0, u1, .slice lp m cl, u3, u4, u5, u6, u7, u8, .pointer (some ⟨q, 0, none⟩), u10, .int .i64 n, u12, u13, u14, u15, u16, u17, u18, u19, u20, u21, u22, u23, u24, u25, u26, u27, u28, u29, u30, u31, u32, u33, u34, u35, u36, u37, u38, u39, u40, u41, u42, u43, u44, u45, u46, u47, u48, u49, u50, u51, u52, u53, u54, u55, u56, u57, u58, u59, u60, u61, u62, u63, u64, u65, u66, u67, u68, u69, u70, u71, u72, u73, u74, u75, u76, u77, u78, u79, u80, u81, u82, u83, u84, u85, u86, u87, u88, u89, u90, u91, u92, u93, u94, u95, u96, u97, u98, u99, u100, u101, u102, u103, u104, u105, u106, u107, u108, u109, u110, u111, u112, u113, u114, u115, u116, u117, u118, u119, u120, u121, u122, u123, u124, u125, u126, u127, u128, u129, u130, u131, u132, u133, u134, u135, u136, u137, u138, u139, u140, u141, u142, u143, u144, u145, u146, u147, u148, u149, u150, u151, u152, u153, u154, u155, u156, u157, u158, u159, u160, u161, u162, u163, u164, u165, u166, u167, u168, u169, u170, u171, u172, u173, u174, u175, u176, u177, u178, u179, u180, u181, u182, u183, u184, u185, u186, u187, u188, u189, u190, u191, u192, u193, u194, u195, u196, u197, u198, u199, u200, u201, u202, u203, u204, u205, u206, u207, u208, u209, u210, u211, u212, u213, u214, u215, u216, u217, u218, u219, u220, u221, u222, u223, u224, u225, u226, u227, u228, u229, u230, u231, u232, u233, u234, u235, u236, u237, u238, u239, u240, u241, u242, u243, u244, u245, u246, u247, u248, u249, u250, u251, u252, u253, u254, u255, u256, u257, u258, u259, u260, u261, u262, u263, u264, u265, u266, u267, u268, u269, u270, u271], ds⟩ w1 := by
  refine reg7A n m sz w w1 q cl lp _ rfl rfl rfl rfl hn60 hnm kq b1 (fun v47 v49 v51 v53 v54 v55 y b hX => ?_)
  have h := hk (.pointer (some ⟨q, 0, none⟩)) (.slice lp m cl) (.int .i64 n) (.slice lp n cl) (.int .i64 n) v47 (.int .i64 n) v49 (.int .i64 n) v51 (.int .i64 n) v53 v54 v55 (.pointer (some ⟨b 0, 0, none⟩)) y b hX
  exact Eq.mpr (by kernel_rfl) h
end Go.Proofs.YthbffonedpeeiaaDoor
