/-
  THE MACHINE: a byte for its device: a region, step by step.
-/
import Derived.Test.YtengofkjlgajlaaGreatDoorGa1
import Derived.Deep.RegionHeld3
import Derived.RegionTactic
namespace Go.Proofs.YtengofkjlgajlaaGreatDoor
open Go Go.RowKit
def regOf (t : Nat) : Code → Option Code
  | .region i o d => bif i == t then some (.region i o d) else none
  | .cond _ x y => (regOf t x).or (regOf t y)
  | .seq x y => (regOf t x).or (regOf t y)
  | .block _ x => regOf t x
  | .loop x => regOf t x
  | .scope x => regOf t x
  | _ => none
def blkOf (t : Nat) : Code → Option Code
  | .block i x => bif i == t then some (.block i x) else blkOf t x
  | .cond _ x y => (blkOf t x).or (blkOf t y)
  | .seq x y => (blkOf t x).or (blkOf t y)
  | .loop x => blkOf t x
  | .scope x => blkOf t x
  | _ => none
def regIn (c : Option Code) (t : Nat) : Code := (c.bind (regOf t)).getD .skip
def blkIn (c : Option Code) (t : Nat) : Code := (c.bind (blkOf t)).getD .skip
def opsIn : Code → Array Oper
  | .region _ o _ => o
  | _ => #[]
abbrev NoX : Exit → Act → World → Prop := fun _ _ _ => False
theorem wp_any {P : Program} {s : Code} {K : Act → World → Prop} {Q' : Exit → Act → World → Prop} {a : Act} {w : World} (h : s.wp P (Exit.then K NoX) a w) : s.wp P (Exit.then K Q') a w := by
  refine wp_mono h ?_
  intro e a' w' hq
  cases e with
  | normal => exact hq
  | exit id => exact hq.elim
  | goto l => exact hq.elim
  | ret => exact hq.elim
  | panic ch => exact hq.elim
  | outgrown => exact hq.elim
theorem ev_put {a : Act} {t s : Nat} {u v : Value} (h : a.eval (.tmp t) = v) (hne : t ≠ s) : (a.put (some s) u).eval (.tmp t) = v := by
  rw [Act.eval_put (fun d hd e => by cases hd; cases e; exact hne rfl)]
  exact h
theorem ev_same {a : Act} {s : Nat} {u : Value} (h : s < a.tmps.size) : (a.put (some s) u).eval (.tmp s) = u := by
  show (a.tmps.setIfInBounds s u).getD s undef = u
  simp [Array.getD_eq_getD_getElem?, h]
theorem size_put {a : Act} {s k : Nat} {u : Value} (h : a.tmps.size = k) : (a.put (some s) u).tmps.size = k := by
  show (a.tmps.setIfInBounds s u).size = k
  simpa using h
section
variable {P : Program} {a : Act} {o : Oper} {v : Value}
theorem run_move {x : Operand} (ho : o.op = .move x) (hx : a.eval x = v) (w : World) : (execOp a.eval o).run P w = .ok (.value v) w := by
  unfold execOp
  simp only [ho, hx, Sem.run_pure]
theorem run_nil {x : Operand} {p : Addr} (ho : o.op = .nilCheck x) (hx : a.eval x = .pointer (some p)) (w : World) : (execOp a.eval o).run P w = .ok (.value (.pointer (some p))) w := by
  unfold execOp
  simp only [ho, hx]
  go_simp
end
theorem st_0 : ∃ o, (opsIn (regIn Tryz.f66.body 2))[0]? = some o ∧ o.dst = some 7 ∧ o.guard = none ∧ o.op = .move (.tmp 0) := ⟨_, rfl, rfl, rfl, rfl⟩
theorem st_1 : ∃ o, (opsIn (regIn Tryz.f66.body 2))[1]? = some o ∧ o.dst = some 8 ∧ o.guard = none ∧ o.op = .move (.tmp 0) := ⟨_, rfl, rfl, rfl, rfl⟩
theorem st_2 : ∃ o, (opsIn (regIn Tryz.f66.body 2))[2]? = some o ∧ o.dst = some 9 ∧ o.guard = none ∧ o.op = .nilCheck (.tmp 8) := ⟨_, rfl, rfl, rfl, rfl⟩
theorem st_3 : ∃ o, (opsIn (regIn Tryz.f66.body 2))[3]? = some o ∧ o.dst = some 10 ∧ o.guard = none ∧ o.op = .fieldAddr 70 (.tmp 9) 2 := ⟨_, rfl, rfl, rfl, rfl⟩
theorem st_4 : ∃ o, (opsIn (regIn Tryz.f66.body 2))[4]? = some o ∧ o.dst = some 11 ∧ o.guard = none ∧ o.op = .load 23 (.tmp 10) := ⟨_, rfl, rfl, rfl, rfl⟩
theorem st_5 : ∃ o, (opsIn (regIn Tryz.f66.body 2))[5]? = some o ∧ o.dst = some 12 ∧ o.guard = none ∧ o.op = .fieldAddr 61 (.tmp 3) 3 := ⟨_, rfl, rfl, rfl, rfl⟩
theorem st_6 : ∃ o, (opsIn (regIn Tryz.f66.body 2))[6]? = some o ∧ o.dst = some 13 ∧ o.guard = none ∧ o.op = .load 33 (.tmp 12) := ⟨_, rfl, rfl, rfl, rfl⟩
theorem st_7 : ∃ o, (opsIn (regIn Tryz.f66.body 2))[7]? = some o ∧ o.dst = some 14 ∧ o.guard = none ∧ o.op = .convert 33 5 (.tmp 13) := ⟨_, rfl, rfl, rfl, rfl⟩
theorem st_8 : ∃ o, (opsIn (regIn Tryz.f66.body 2))[8]? = some o ∧ o.dst = some 15 ∧ o.guard = none ∧ o.op = .buildSlice 23 1 #[(0, .tmp 14)] := ⟨_, rfl, rfl, rfl, rfl⟩
theorem st_9 : ∃ o, (opsIn (regIn Tryz.f66.body 2))[9]? = some o ∧ o.dst = some 16 ∧ o.guard = none ∧ o.op = .call { callee := .builtin .append, args := #[.tmp 11, .tmp 15], argTypes := #[23, 23] } ∧ o.type = 23 := ⟨_, rfl, rfl, rfl, rfl, rfl⟩
theorem st_10 : ∃ o, (opsIn (regIn Tryz.f66.body 2))[10]? = some o ∧ o.dst = some 17 ∧ o.guard = none ∧ o.op = .nilCheck (.tmp 7) := ⟨_, rfl, rfl, rfl, rfl⟩
theorem st_11 : ∃ o, (opsIn (regIn Tryz.f66.body 2))[11]? = some o ∧ o.dst = some 18 ∧ o.guard = none ∧ o.op = .fieldAddr 70 (.tmp 17) 2 := ⟨_, rfl, rfl, rfl, rfl⟩
theorem st_12 : ∃ o, (opsIn (regIn Tryz.f66.body 2))[12]? = some o ∧ o.dst = none ∧ o.guard = none ∧ o.op = .store 23 (.tmp 18) (.tmp 16) := ⟨_, rfl, rfl, rfl, rfl⟩
theorem nosel2 : Region.noSelect (opsIn (regIn Tryz.f66.body 2)) = true := by kernel_rfl
section
variable {Q : Exit → Act → World → Prop}
theorem at_take {i s : Nat} {o : Oper} {v : Value} {fuel : Nat} {listed listed' : Array Bool} {a : Act} {w : World} (hQ : ∀ c a a' w, Q (.panic c) a w → Q (.panic c) a' w) (hi : (opsIn (regIn Tryz.f66.body 2))[i]? = some o) (hd : o.dst = some s) (hg : o.guard = none) (hrun : ∀ w, (execOp a.eval o).run Tryz.prog w = .ok (.value v) w) (hf : Region.free .any (opsIn (regIn Tryz.f66.body 2)) listed i = true) (hr : (Region.ready .any (opsIn (regIn Tryz.f66.body 2)) listed).contains i = true) (hl : listed.setIfInBounds i true = listed') (h : wpAny Tryz.prog .any (opsIn (regIn Tryz.f66.body 2)) Q fuel listed' (a.put (some s) v) w) : wpAny Tryz.prog .any (opsIn (regIn Tryz.f66.body 2)) Q (fuel + 1) listed a w := by
  refine wpAny_take hi nosel2 hf hr (fun c a w h => hQ c _ _ w h) (Or.inl ⟨by unfold Region.wanted; rw [hg], hrun⟩) ?_
  rw [hl, hd]
  exact h
theorem at_op {i s : Nat} {o : Oper} {v : Value} {fuel : Nat} {listed listed' : Array Bool} {a : Act} {w w' : World} (hi : (opsIn (regIn Tryz.f66.body 2))[i]? = some o) (hd : o.dst = some s) (hg : o.guard = none) (hrun : (execOp a.eval o).run Tryz.prog w = .ok (.value v) w') (hl : listed.setIfInBounds i true = listed') (h : wpAny Tryz.prog .any (opsIn (regIn Tryz.f66.body 2)) Q fuel listed' (a.put (some s) v) w') : wpOp Tryz.prog (opsIn (regIn Tryz.f66.body 2)) Q i (wpAny Tryz.prog .any (opsIn (regIn Tryz.f66.body 2)) Q fuel (listed.setIfInBounds i true)) a w := by
  unfold wpOp
  rw [hi]
  have hwa : Region.wanted o (yielded (opsIn (regIn Tryz.f66.body 2)) a.tmps) = true := by
    unfold Region.wanted
    rw [hg]
  simp only [hwa, if_true]
  rw [hl]
  refine Or.inl ?_
  unfold Oper.wp
  rw [hrun]
  simp only [Oper.upon]
  rw [hd]
  exact h
theorem at_one {i s : Nat} {o : Oper} {v : Value} {fuel : Nat} {listed listed' : Array Bool} {a : Act} {w w' : World} (hr : Region.ready .any (opsIn (regIn Tryz.f66.body 2)) listed = [i]) (hi : (opsIn (regIn Tryz.f66.body 2))[i]? = some o) (hd : o.dst = some s) (hg : o.guard = none) (hrun : (execOp a.eval o).run Tryz.prog w = .ok (.value v) w') (hl : listed.setIfInBounds i true = listed') (h : wpAny Tryz.prog .any (opsIn (regIn Tryz.f66.body 2)) Q fuel listed' (a.put (some s) v) w') : wpAny Tryz.prog .any (opsIn (regIn Tryz.f66.body 2)) Q (fuel + 1) listed a w := by
  refine wpAny_all hr (by simp) (fun j hj => ?_)
  rw [List.mem_singleton] at hj
  subst hj
  exact at_op hi hd hg hrun hl h
theorem at_two {i j : Nat} {fuel : Nat} {listed : Array Bool} {a : Act} {w : World} (hr : Region.ready .any (opsIn (regIn Tryz.f66.body 2)) listed = [i, j]) (h1 : wpOp Tryz.prog (opsIn (regIn Tryz.f66.body 2)) Q i (wpAny Tryz.prog .any (opsIn (regIn Tryz.f66.body 2)) Q fuel (listed.setIfInBounds i true)) a w) (h2 : wpOp Tryz.prog (opsIn (regIn Tryz.f66.body 2)) Q j (wpAny Tryz.prog .any (opsIn (regIn Tryz.f66.body 2)) Q fuel (listed.setIfInBounds j true)) a w) : wpAny Tryz.prog .any (opsIn (regIn Tryz.f66.body 2)) Q (fuel + 1) listed a w := by
  refine wpAny_all hr (by simp) (fun k hk => ?_)
  simp only [List.mem_cons, List.not_mem_nil, or_false] at hk
  rcases hk with rfl | rfl
  · exact h1
  · exact h2
end
section
variable {a : Act} {o : Oper} {x y : Operand}
theorem run_m2 {b : Nat} (ho : o.op = .fieldAddr 70 x 2) (hx : a.eval x = .pointer (some ⟨b, 0, none⟩)) (w : World) : (execOp a.eval o).run Tryz.prog w = .ok (.value (.pointer (some ⟨b, 2, none⟩))) w := by
  unfold execOp
  simp only [ho, hx]
  go_simp
theorem run_q3 {b : Nat} (ho : o.op = .fieldAddr 61 x 3) (hx : a.eval x = .pointer (some ⟨b, 0, none⟩)) (w : World) : (execOp a.eval o).run Tryz.prog w = .ok (.value (.pointer (some ⟨b, 3, none⟩))) w := by
  unfold execOp
  simp only [ho, hx]
  go_simp
theorem run_ls {p : Addr} {q : Option Addr} {n c : Nat} {w : World} (ho : o.op = .load 23 x) (hx : a.eval x = .pointer (some p)) (hc : w.cell? p = some (.slice q n c)) : (execOp a.eval o).run Tryz.prog w = .ok (.value (.slice q n c)) w := by
  unfold execOp
  simp only [ho, hx]
  go_simp
theorem run_lu {p : Addr} {i : Int} {w : World} (ho : o.op = .load 33 x) (hx : a.eval x = .pointer (some p)) (hc : w.cell? p = some (.int .u32 i)) : (execOp a.eval o).run Tryz.prog w = .ok (.value (.int .u32 i)) w := by
  unfold execOp
  simp only [ho, hx]
  go_simp
theorem run_cb {i : Int} (ho : o.op = .convert 33 5 x) (hx : a.eval x = .int .u32 i) (w : World) : (execOp a.eval o).run Tryz.prog w = .ok (.value (.int .u8 (i % 256))) w := by
  unfold execOp
  simp only [ho, hx]
  go_simp
  rfl
theorem run_bs {i : Int} (ho : o.op = .buildSlice 23 1 #[(0, x)]) (hx : a.eval x = .int .u8 i) (w : World) : (execOp a.eval o).run Tryz.prog w = .ok (.value (.slice (some ⟨w.heap.size, 0, none⟩) 1 1)) (w.alloc (.cells #[.int .u8 i] 5)) := by
  unfold execOp
  simp only [ho, List.map_toArray, List.map_cons, List.map_nil, hx]
  go_simp
theorem run_ap {v u v' : Value} {w w' : World} {t : TypeId} (ho : o.op = Op.call { callee := Callee.builtin Builtin.append, args := #[x, y], argTypes := #[t, t] }) (ht : o.type = t) (hs : a.eval x = v) (hx : a.eval y = u) (hr : (Builtin.append_ #[t, t] t #[v, u]).run Tryz.prog w = .ok v' w') : (execOp a.eval o).run Tryz.prog w = .ok (.value v') w' := by
  rw [← ht] at hr
  simp [execOp, ho, resolve, invoke, builtin, hs, hx, Result.andThen]
  rw [ht] at hr ⊢
  rw [hr]
theorem run_ss {p : Addr} {q : Option Addr} {n c : Nat} {u : Value} {w : World} (ho : o.op = .store 23 x y) (hx : a.eval x = .pointer (some p)) (hy : a.eval y = .slice q n c) (hc : w.cell? p = some u) (hf : w.frozen? p = false) : (execOp a.eval o).run Tryz.prog w = .ok .skip (w.setCell p (.slice q n c)) := by
  unfold execOp
  simp only [ho, hx, hy]
  go_simp
end
set_option maxRecDepth 100000 in
theorem st_fin {Q : Exit → Act → World → Prop} (p : Nat) (oq : Option Addr) (on oc : Nat) (q' : Option Addr) (n' cap' : Nat) (X Y Z : World) (a : Act) (hs : a.tmps.size = 24) (h7 : a.eval (.tmp 7) = .pointer (some ⟨p, 0, none⟩)) (h11 : a.eval (.tmp 11) = .slice oq on oc) (h15 : a.eval (.tmp 15) = .slice (some ⟨X.heap.size, 0, none⟩) 1 1) (hrun : (Builtin.append_ #[23, 23] 23 #[.slice oq on oc, .slice (some ⟨X.heap.size, 0, none⟩) 1 1]).run Tryz.prog Y = .ok (.slice q' n' cap') Z) (e3 : Z.cell? ⟨p, 2, none⟩ = some (.slice oq on oc)) (f3 : Z.frozen? ⟨p, 2, none⟩ = false) (hk : ∀ a', a'.defers = a.defers → Q .normal a' (Z.setCell ⟨p, 2, none⟩ (.slice q' n' cap'))) : wpAny Tryz.prog .any (opsIn (regIn Tryz.f66.body 2)) Q 4 #[true, true, true, true, true, true, true, true, true, false, false, false, false] a Y := by
  obtain ⟨xo9, xi9, xd9, xg9, xp9, xt9⟩ := st_9
  refine at_one (fuel := 3) (listed' := #[true, true, true, true, true, true, true, true, true, true, false, false, false]) (by kernel_rfl) xi9 xd9 xg9 (run_ap xp9 xt9 h11 h15 hrun) rfl ?_
  obtain ⟨ac1, hac1⟩ : ∃ x, a.put (some 16) (.slice q' n' cap') = x := ⟨_, rfl⟩
  rw [hac1]
  have e7_1 : ac1.eval (.tmp 7) = _ := hac1 ▸ ev_put h7 (by decide)
  have e16_1 : ac1.eval (.tmp 16) = _ := hac1 ▸ ev_same (by rw [hs]; decide)
  have zz1 : ac1.tmps.size = 24 := hac1 ▸ size_put hs
  have dd1 : ac1.defers = a.defers := hac1 ▸ rfl
  obtain ⟨xo10, xi10, xd10, xg10, xp10⟩ := st_10
  refine at_one (fuel := 2) (listed' := #[true, true, true, true, true, true, true, true, true, true, true, false, false]) (by kernel_rfl) xi10 xd10 xg10 (run_nil xp10 e7_1 _) rfl ?_
  obtain ⟨ac2, hac2⟩ : ∃ x, ac1.put (some 17) (.pointer (some ⟨p, 0, none⟩)) = x := ⟨_, rfl⟩
  rw [hac2]
  have e16_2 : ac2.eval (.tmp 16) = _ := hac2 ▸ ev_put e16_1 (by decide)
  have e17_2 : ac2.eval (.tmp 17) = _ := hac2 ▸ ev_same (by rw [zz1]; decide)
  have zz2 : ac2.tmps.size = 24 := hac2 ▸ size_put zz1
  have dd2 : ac2.defers = ac1.defers := hac2 ▸ rfl
  obtain ⟨xo11, xi11, xd11, xg11, xp11⟩ := st_11
  refine at_one (fuel := 1) (listed' := #[true, true, true, true, true, true, true, true, true, true, true, true, false]) (by kernel_rfl) xi11 xd11 xg11 (run_m2 xp11 e17_2 _) rfl ?_
  obtain ⟨ac3, hac3⟩ : ∃ x, ac2.put (some 18) (.pointer (some ⟨p, 2, none⟩)) = x := ⟨_, rfl⟩
  rw [hac3]
  have e16_3 : ac3.eval (.tmp 16) = _ := hac3 ▸ ev_put e16_2 (by decide)
  have e18_3 : ac3.eval (.tmp 18) = _ := hac3 ▸ ev_same (by rw [zz2]; decide)
  have zz3 : ac3.tmps.size = 24 := hac3 ▸ size_put zz2
  have dd3 : ac3.defers = ac2.defers := hac3 ▸ rfl
  obtain ⟨xo12, xi12, xd12, xg12, xp12⟩ := st_12
  refine wpAny_all (rs := [12]) (by kernel_rfl) (by simp) (fun j hj => ?_)
  rw [List.mem_singleton] at hj
  subst hj
  unfold wpOp
  rw [xi12]
  have hwa : Region.wanted xo12 (yielded (opsIn (regIn Tryz.f66.body 2)) ac3.tmps) = true := by
    unfold Region.wanted
    rw [xg12]
  simp only [hwa, if_true]
  refine Or.inl ?_
  unfold Oper.wp
  rw [run_ss xp12 e18_3 e16_3 e3 f3]
  simp only [Oper.upon]
  rw [xd12]
  refine wpAny_done (by kernel_rfl) ?_ _
  exact hk _ (dd3.trans (dd2.trans dd1))
set_option maxRecDepth 100000 in
theorem st_reg {Q : Exit → Act → World → Prop} (hQ : ∀ c a a' w, Q (.panic c) a w → Q (.panic c) a' w) (p zb : Nat) (oq : Option Addr) (on oc : Nat) (da : Int) (q' : Option Addr) (n' cap' : Nat) (X Y Z : World) (w0 : World) (hX : w0.drew = X) (hY : X.alloc (.cells #[.int .u8 (da % 256)] 5) = Y) (hrun : (Builtin.append_ #[23, 23] 23 #[.slice oq on oc, .slice (some ⟨X.heap.size, 0, none⟩) 1 1]).run Tryz.prog Y = .ok (.slice q' n' cap') Z) (e1 : X.cell? ⟨p, 2, none⟩ = some (.slice oq on oc)) (e2 : Y.cell? ⟨p, 2, none⟩ = some (.slice oq on oc)) (e3 : Z.cell? ⟨p, 2, none⟩ = some (.slice oq on oc)) (f3 : Z.frozen? ⟨p, 2, none⟩ = false) (x3 : X.cell? ⟨zb, 3, none⟩ = some (.int .u32 da)) (a : Act) (hs : a.tmps.size = 24) (h0 : a.eval (.tmp 0) = .pointer (some ⟨p, 0, none⟩)) (h3 : a.eval (.tmp 3) = .pointer (some ⟨zb, 0, none⟩)) (hk : ∀ a', a'.defers = a.defers → Q .normal a' (Z.setCell ⟨p, 2, none⟩ (.slice q' n' cap'))) : (regIn Tryz.f66.body 2).wp Tryz.prog Q a w0 := by
  show (Code.region 2 (opsIn (regIn Tryz.f66.body 2)) true).wp _ _ _ _
  refine wp_region_any (by kernel_rfl) ?_
  have hX2 : ({ w0 with drawn := w0.drawn + 1 } : World) = X := hX
  rw [hX2]
  show wpAny _ _ _ _ (12 + 1) #[false, false, false, false, false, false, false, false, false, false, false, false, false] _ _
  obtain ⟨xo0, xi0, xd0, xg0, xp0⟩ := st_0
  refine at_take (i := 0) (s := 7) (v := .pointer (some ⟨p, 0, none⟩)) (fuel := 12) (listed' := #[true, false, false, false, false, false, false, false, false, false, false, false, false]) hQ xi0 xd0 xg0 (fun w => run_move xp0 h0 w) (by kernel_rfl) (by kernel_rfl) rfl ?_
  obtain ⟨ac1, hac1⟩ : ∃ x, a.put (some 7) (.pointer (some ⟨p, 0, none⟩)) = x := ⟨_, rfl⟩
  rw [hac1]
  have e0_1 : ac1.eval (.tmp 0) = _ := hac1 ▸ ev_put h0 (by decide)
  have e3_1 : ac1.eval (.tmp 3) = _ := hac1 ▸ ev_put h3 (by decide)
  have e7_1 : ac1.eval (.tmp 7) = _ := hac1 ▸ ev_same (by rw [hs]; decide)
  have zz1 : ac1.tmps.size = 24 := hac1 ▸ size_put hs
  have dd1 : ac1.defers = a.defers := hac1 ▸ rfl
  obtain ⟨xo1, xi1, xd1, xg1, xp1⟩ := st_1
  refine at_take (i := 1) (s := 8) (v := .pointer (some ⟨p, 0, none⟩)) (fuel := 11) (listed' := #[true, true, false, false, false, false, false, false, false, false, false, false, false]) hQ xi1 xd1 xg1 (fun w => run_move xp1 e0_1 w) (by kernel_rfl) (by kernel_rfl) rfl ?_
  obtain ⟨ac2, hac2⟩ : ∃ x, ac1.put (some 8) (.pointer (some ⟨p, 0, none⟩)) = x := ⟨_, rfl⟩
  rw [hac2]
  have e0_2 : ac2.eval (.tmp 0) = _ := hac2 ▸ ev_put e0_1 (by decide)
  have e3_2 : ac2.eval (.tmp 3) = _ := hac2 ▸ ev_put e3_1 (by decide)
  have e7_2 : ac2.eval (.tmp 7) = _ := hac2 ▸ ev_put e7_1 (by decide)
  have e8_2 : ac2.eval (.tmp 8) = _ := hac2 ▸ ev_same (by rw [zz1]; decide)
  have zz2 : ac2.tmps.size = 24 := hac2 ▸ size_put zz1
  have dd2 : ac2.defers = ac1.defers := hac2 ▸ rfl
  obtain ⟨xo2, xi2, xd2, xg2, xp2⟩ := st_2
  refine at_take (i := 2) (s := 9) (v := .pointer (some ⟨p, 0, none⟩)) (fuel := 10) (listed' := #[true, true, true, false, false, false, false, false, false, false, false, false, false]) hQ xi2 xd2 xg2 (fun w => run_nil xp2 e8_2 w) (by kernel_rfl) (by kernel_rfl) rfl ?_
  obtain ⟨ac3, hac3⟩ : ∃ x, ac2.put (some 9) (.pointer (some ⟨p, 0, none⟩)) = x := ⟨_, rfl⟩
  rw [hac3]
  have e0_3 : ac3.eval (.tmp 0) = _ := hac3 ▸ ev_put e0_2 (by decide)
  have e3_3 : ac3.eval (.tmp 3) = _ := hac3 ▸ ev_put e3_2 (by decide)
  have e7_3 : ac3.eval (.tmp 7) = _ := hac3 ▸ ev_put e7_2 (by decide)
  have e8_3 : ac3.eval (.tmp 8) = _ := hac3 ▸ ev_put e8_2 (by decide)
  have e9_3 : ac3.eval (.tmp 9) = _ := hac3 ▸ ev_same (by rw [zz2]; decide)
  have zz3 : ac3.tmps.size = 24 := hac3 ▸ size_put zz2
  have dd3 : ac3.defers = ac2.defers := hac3 ▸ rfl
  obtain ⟨xo3, xi3, xd3, xg3, xp3⟩ := st_3
  refine at_take (i := 3) (s := 10) (v := .pointer (some ⟨p, 2, none⟩)) (fuel := 9) (listed' := #[true, true, true, true, false, false, false, false, false, false, false, false, false]) hQ xi3 xd3 xg3 (fun w => run_m2 xp3 e9_3 w) (by kernel_rfl) (by kernel_rfl) rfl ?_
  obtain ⟨ac4, hac4⟩ : ∃ x, ac3.put (some 10) (.pointer (some ⟨p, 2, none⟩)) = x := ⟨_, rfl⟩
  rw [hac4]
  have e0_4 : ac4.eval (.tmp 0) = _ := hac4 ▸ ev_put e0_3 (by decide)
  have e3_4 : ac4.eval (.tmp 3) = _ := hac4 ▸ ev_put e3_3 (by decide)
  have e7_4 : ac4.eval (.tmp 7) = _ := hac4 ▸ ev_put e7_3 (by decide)
  have e8_4 : ac4.eval (.tmp 8) = _ := hac4 ▸ ev_put e8_3 (by decide)
  have e9_4 : ac4.eval (.tmp 9) = _ := hac4 ▸ ev_put e9_3 (by decide)
  have e10_4 : ac4.eval (.tmp 10) = _ := hac4 ▸ ev_same (by rw [zz3]; decide)
  have zz4 : ac4.tmps.size = 24 := hac4 ▸ size_put zz3
  have dd4 : ac4.defers = ac3.defers := hac4 ▸ rfl
  obtain ⟨xo5, xi5, xd5, xg5, xp5⟩ := st_5
  refine at_take (i := 5) (s := 12) (v := .pointer (some ⟨zb, 3, none⟩)) (fuel := 8) (listed' := #[true, true, true, true, false, true, false, false, false, false, false, false, false]) hQ xi5 xd5 xg5 (fun w => run_q3 xp5 e3_4 w) (by kernel_rfl) (by kernel_rfl) rfl ?_
  obtain ⟨ac5, hac5⟩ : ∃ x, ac4.put (some 12) (.pointer (some ⟨zb, 3, none⟩)) = x := ⟨_, rfl⟩
  rw [hac5]
  have e0_5 : ac5.eval (.tmp 0) = _ := hac5 ▸ ev_put e0_4 (by decide)
  have e3_5 : ac5.eval (.tmp 3) = _ := hac5 ▸ ev_put e3_4 (by decide)
  have e7_5 : ac5.eval (.tmp 7) = _ := hac5 ▸ ev_put e7_4 (by decide)
  have e8_5 : ac5.eval (.tmp 8) = _ := hac5 ▸ ev_put e8_4 (by decide)
  have e9_5 : ac5.eval (.tmp 9) = _ := hac5 ▸ ev_put e9_4 (by decide)
  have e10_5 : ac5.eval (.tmp 10) = _ := hac5 ▸ ev_put e10_4 (by decide)
  have e12_5 : ac5.eval (.tmp 12) = _ := hac5 ▸ ev_same (by rw [zz4]; decide)
  have zz5 : ac5.tmps.size = 24 := hac5 ▸ size_put zz4
  have dd5 : ac5.defers = ac4.defers := hac5 ▸ rfl
  obtain ⟨xo4, xi4, xd4, xg4, xp4⟩ := st_4
  obtain ⟨xo6, xi6, xd6, xg6, xp6⟩ := st_6
  obtain ⟨xo7, xi7, xd7, xg7, xp7⟩ := st_7
  obtain ⟨xo8, xi8, xd8, xg8, xp8⟩ := st_8
  refine at_two (i := 4) (j := 6) (fuel := 7) (by kernel_rfl) ?_ ?_
  · refine at_op (fuel := 7) (listed' := #[true, true, true, true, true, true, false, false, false, false, false, false, false]) xi4 xd4 xg4 (run_ls xp4 e10_5 e1) rfl ?_
    obtain ⟨ac6, hac6⟩ : ∃ x, ac5.put (some 11) (.slice oq on oc) = x := ⟨_, rfl⟩
    rw [hac6]
    have e7_6 : ac6.eval (.tmp 7) = _ := hac6 ▸ ev_put e7_5 (by decide)
    have e10_6 : ac6.eval (.tmp 10) = _ := hac6 ▸ ev_put e10_5 (by decide)
    have e12_6 : ac6.eval (.tmp 12) = _ := hac6 ▸ ev_put e12_5 (by decide)
    have e11_6 : ac6.eval (.tmp 11) = _ := hac6 ▸ ev_same (by rw [zz5]; decide)
    have zz6 : ac6.tmps.size = 24 := hac6 ▸ size_put zz5
    have dd6 : ac6.defers = ac5.defers := hac6 ▸ rfl
    refine at_one (fuel := 6) (listed' := #[true, true, true, true, true, true, true, false, false, false, false, false, false]) (by kernel_rfl) xi6 xd6 xg6 (run_lu xp6 e12_6 x3) rfl ?_
    obtain ⟨ac7, hac7⟩ : ∃ x, ac6.put (some 13) (.int .u32 da) = x := ⟨_, rfl⟩
    rw [hac7]
    have e7_7 : ac7.eval (.tmp 7) = _ := hac7 ▸ ev_put e7_6 (by decide)
    have e10_7 : ac7.eval (.tmp 10) = _ := hac7 ▸ ev_put e10_6 (by decide)
    have e12_7 : ac7.eval (.tmp 12) = _ := hac7 ▸ ev_put e12_6 (by decide)
    have e11_7 : ac7.eval (.tmp 11) = _ := hac7 ▸ ev_put e11_6 (by decide)
    have e13_7 : ac7.eval (.tmp 13) = _ := hac7 ▸ ev_same (by rw [zz6]; decide)
    have zz7 : ac7.tmps.size = 24 := hac7 ▸ size_put zz6
    have dd7 : ac7.defers = ac6.defers := hac7 ▸ rfl
    refine at_one (fuel := 5) (listed' := #[true, true, true, true, true, true, true, true, false, false, false, false, false]) (by kernel_rfl) xi7 xd7 xg7 (run_cb xp7 e13_7 _) rfl ?_
    obtain ⟨ac8, hac8⟩ : ∃ x, ac7.put (some 14) (.int .u8 (da % 256)) = x := ⟨_, rfl⟩
    rw [hac8]
    have e7_8 : ac8.eval (.tmp 7) = _ := hac8 ▸ ev_put e7_7 (by decide)
    have e10_8 : ac8.eval (.tmp 10) = _ := hac8 ▸ ev_put e10_7 (by decide)
    have e12_8 : ac8.eval (.tmp 12) = _ := hac8 ▸ ev_put e12_7 (by decide)
    have e11_8 : ac8.eval (.tmp 11) = _ := hac8 ▸ ev_put e11_7 (by decide)
    have e13_8 : ac8.eval (.tmp 13) = _ := hac8 ▸ ev_put e13_7 (by decide)
    have e14_8 : ac8.eval (.tmp 14) = _ := hac8 ▸ ev_same (by rw [zz7]; decide)
    have zz8 : ac8.tmps.size = 24 := hac8 ▸ size_put zz7
    have dd8 : ac8.defers = ac7.defers := hac8 ▸ rfl
    refine at_one (fuel := 4) (listed' := #[true, true, true, true, true, true, true, true, true, false, false, false, false]) (by kernel_rfl) xi8 xd8 xg8 ((run_bs xp8 e14_8 X).trans (by rw [hY])) rfl ?_
    obtain ⟨ac9, hac9⟩ : ∃ x, ac8.put (some 15) (.slice (some ⟨X.heap.size, 0, none⟩) 1 1) = x := ⟨_, rfl⟩
    rw [hac9]
    have e7_9 : ac9.eval (.tmp 7) = _ := hac9 ▸ ev_put e7_8 (by decide)
    have e10_9 : ac9.eval (.tmp 10) = _ := hac9 ▸ ev_put e10_8 (by decide)
    have e12_9 : ac9.eval (.tmp 12) = _ := hac9 ▸ ev_put e12_8 (by decide)
    have e11_9 : ac9.eval (.tmp 11) = _ := hac9 ▸ ev_put e11_8 (by decide)
    have e13_9 : ac9.eval (.tmp 13) = _ := hac9 ▸ ev_put e13_8 (by decide)
    have e14_9 : ac9.eval (.tmp 14) = _ := hac9 ▸ ev_put e14_8 (by decide)
    have e15_9 : ac9.eval (.tmp 15) = _ := hac9 ▸ ev_same (by rw [zz8]; decide)
    have zz9 : ac9.tmps.size = 24 := hac9 ▸ size_put zz8
    have dd9 : ac9.defers = ac8.defers := hac9 ▸ rfl
    refine st_fin p oq on oc q' n' cap' X Y Z ac9 zz9 e7_9 e11_9 e15_9 hrun e3 f3 (fun a' h => hk a' (h.trans (by rw [dd9, dd8, dd7, dd6, dd5, dd4, dd3, dd2, dd1])))
  · refine at_op (fuel := 7) (listed' := #[true, true, true, true, false, true, true, false, false, false, false, false, false]) xi6 xd6 xg6 (run_lu xp6 e12_5 x3) rfl ?_
    obtain ⟨ac6, hac6⟩ : ∃ x, ac5.put (some 13) (.int .u32 da) = x := ⟨_, rfl⟩
    rw [hac6]
    have e7_6 : ac6.eval (.tmp 7) = _ := hac6 ▸ ev_put e7_5 (by decide)
    have e10_6 : ac6.eval (.tmp 10) = _ := hac6 ▸ ev_put e10_5 (by decide)
    have e12_6 : ac6.eval (.tmp 12) = _ := hac6 ▸ ev_put e12_5 (by decide)
    have e13_6 : ac6.eval (.tmp 13) = _ := hac6 ▸ ev_same (by rw [zz5]; decide)
    have zz6 : ac6.tmps.size = 24 := hac6 ▸ size_put zz5
    have dd6 : ac6.defers = ac5.defers := hac6 ▸ rfl
    refine at_take (i := 7) (s := 14) (v := .int .u8 (da % 256)) (fuel := 6) (listed' := #[true, true, true, true, false, true, true, true, false, false, false, false, false]) hQ xi7 xd7 xg7 (fun w => run_cb xp7 e13_6 w) (by kernel_rfl) (by kernel_rfl) rfl ?_
    obtain ⟨ac7, hac7⟩ : ∃ x, ac6.put (some 14) (.int .u8 (da % 256)) = x := ⟨_, rfl⟩
    rw [hac7]
    have e7_7 : ac7.eval (.tmp 7) = _ := hac7 ▸ ev_put e7_6 (by decide)
    have e10_7 : ac7.eval (.tmp 10) = _ := hac7 ▸ ev_put e10_6 (by decide)
    have e12_7 : ac7.eval (.tmp 12) = _ := hac7 ▸ ev_put e12_6 (by decide)
    have e13_7 : ac7.eval (.tmp 13) = _ := hac7 ▸ ev_put e13_6 (by decide)
    have e14_7 : ac7.eval (.tmp 14) = _ := hac7 ▸ ev_same (by rw [zz6]; decide)
    have zz7 : ac7.tmps.size = 24 := hac7 ▸ size_put zz6
    have dd7 : ac7.defers = ac6.defers := hac7 ▸ rfl
    refine at_two (i := 4) (j := 8) (fuel := 5) (by kernel_rfl) ?_ ?_
    · refine at_op (fuel := 5) (listed' := #[true, true, true, true, true, true, true, true, false, false, false, false, false]) xi4 xd4 xg4 (run_ls xp4 e10_7 e1) rfl ?_
      obtain ⟨ac8, hac8⟩ : ∃ x, ac7.put (some 11) (.slice oq on oc) = x := ⟨_, rfl⟩
      rw [hac8]
      have e7_8 : ac8.eval (.tmp 7) = _ := hac8 ▸ ev_put e7_7 (by decide)
      have e10_8 : ac8.eval (.tmp 10) = _ := hac8 ▸ ev_put e10_7 (by decide)
      have e12_8 : ac8.eval (.tmp 12) = _ := hac8 ▸ ev_put e12_7 (by decide)
      have e13_8 : ac8.eval (.tmp 13) = _ := hac8 ▸ ev_put e13_7 (by decide)
      have e14_8 : ac8.eval (.tmp 14) = _ := hac8 ▸ ev_put e14_7 (by decide)
      have e11_8 : ac8.eval (.tmp 11) = _ := hac8 ▸ ev_same (by rw [zz7]; decide)
      have zz8 : ac8.tmps.size = 24 := hac8 ▸ size_put zz7
      have dd8 : ac8.defers = ac7.defers := hac8 ▸ rfl
      refine at_one (fuel := 4) (listed' := #[true, true, true, true, true, true, true, true, true, false, false, false, false]) (by kernel_rfl) xi8 xd8 xg8 ((run_bs xp8 e14_8 X).trans (by rw [hY])) rfl ?_
      obtain ⟨ac9, hac9⟩ : ∃ x, ac8.put (some 15) (.slice (some ⟨X.heap.size, 0, none⟩) 1 1) = x := ⟨_, rfl⟩
      rw [hac9]
      have e7_9 : ac9.eval (.tmp 7) = _ := hac9 ▸ ev_put e7_8 (by decide)
      have e10_9 : ac9.eval (.tmp 10) = _ := hac9 ▸ ev_put e10_8 (by decide)
      have e12_9 : ac9.eval (.tmp 12) = _ := hac9 ▸ ev_put e12_8 (by decide)
      have e13_9 : ac9.eval (.tmp 13) = _ := hac9 ▸ ev_put e13_8 (by decide)
      have e14_9 : ac9.eval (.tmp 14) = _ := hac9 ▸ ev_put e14_8 (by decide)
      have e11_9 : ac9.eval (.tmp 11) = _ := hac9 ▸ ev_put e11_8 (by decide)
      have e15_9 : ac9.eval (.tmp 15) = _ := hac9 ▸ ev_same (by rw [zz8]; decide)
      have zz9 : ac9.tmps.size = 24 := hac9 ▸ size_put zz8
      have dd9 : ac9.defers = ac8.defers := hac9 ▸ rfl
      refine st_fin p oq on oc q' n' cap' X Y Z ac9 zz9 e7_9 e11_9 e15_9 hrun e3 f3 (fun a' h => hk a' (h.trans (by rw [dd9, dd8, dd7, dd6, dd5, dd4, dd3, dd2, dd1])))
    · refine at_op (fuel := 5) (listed' := #[true, true, true, true, false, true, true, true, true, false, false, false, false]) xi8 xd8 xg8 ((run_bs xp8 e14_7 X).trans (by rw [hY])) rfl ?_
      obtain ⟨ac8, hac8⟩ : ∃ x, ac7.put (some 15) (.slice (some ⟨X.heap.size, 0, none⟩) 1 1) = x := ⟨_, rfl⟩
      rw [hac8]
      have e7_8 : ac8.eval (.tmp 7) = _ := hac8 ▸ ev_put e7_7 (by decide)
      have e10_8 : ac8.eval (.tmp 10) = _ := hac8 ▸ ev_put e10_7 (by decide)
      have e12_8 : ac8.eval (.tmp 12) = _ := hac8 ▸ ev_put e12_7 (by decide)
      have e13_8 : ac8.eval (.tmp 13) = _ := hac8 ▸ ev_put e13_7 (by decide)
      have e14_8 : ac8.eval (.tmp 14) = _ := hac8 ▸ ev_put e14_7 (by decide)
      have e15_8 : ac8.eval (.tmp 15) = _ := hac8 ▸ ev_same (by rw [zz7]; decide)
      have zz8 : ac8.tmps.size = 24 := hac8 ▸ size_put zz7
      have dd8 : ac8.defers = ac7.defers := hac8 ▸ rfl
      refine at_one (fuel := 4) (listed' := #[true, true, true, true, true, true, true, true, true, false, false, false, false]) (by kernel_rfl) xi4 xd4 xg4 (run_ls xp4 e10_8 e2) rfl ?_
      obtain ⟨ac9, hac9⟩ : ∃ x, ac8.put (some 11) (.slice oq on oc) = x := ⟨_, rfl⟩
      rw [hac9]
      have e7_9 : ac9.eval (.tmp 7) = _ := hac9 ▸ ev_put e7_8 (by decide)
      have e10_9 : ac9.eval (.tmp 10) = _ := hac9 ▸ ev_put e10_8 (by decide)
      have e12_9 : ac9.eval (.tmp 12) = _ := hac9 ▸ ev_put e12_8 (by decide)
      have e13_9 : ac9.eval (.tmp 13) = _ := hac9 ▸ ev_put e13_8 (by decide)
      have e14_9 : ac9.eval (.tmp 14) = _ := hac9 ▸ ev_put e14_8 (by decide)
      have e15_9 : ac9.eval (.tmp 15) = _ := hac9 ▸ ev_put e15_8 (by decide)
      have e11_9 : ac9.eval (.tmp 11) = _ := hac9 ▸ ev_same (by rw [zz8]; decide)
      have zz9 : ac9.tmps.size = 24 := hac9 ▸ size_put zz8
      have dd9 : ac9.defers = ac8.defers := hac9 ▸ rfl
      refine st_fin p oq on oc q' n' cap' X Y Z ac9 zz9 e7_9 e11_9 e15_9 hrun e3 f3 (fun a' h => hk a' (h.trans (by rw [dd9, dd8, dd7, dd6, dd5, dd4, dd3, dd2, dd1])))
end Go.Proofs.YtengofkjlgajlaaGreatDoor
