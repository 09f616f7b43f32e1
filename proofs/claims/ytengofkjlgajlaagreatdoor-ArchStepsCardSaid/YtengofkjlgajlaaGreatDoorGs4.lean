import Derived.Test.YtengofkjlgajlaaGreatDoorGs1
import Derived.Test.YtengofkjlgajlaaGreatDoorGy1
/-
  ArchSteps: region 35: laws of its operations.
-/
namespace Go.Proofs.YtengofkjlgajlaaGreatDoor
open Go Go.RowKit
section
variable {P : Program} {ops : Array Oper} {a : Act} {k s : Nat} {o : Oper} {v : Value} {C : World → Prop} {Q : Act → Prop}
theorem qd_call {f : FuncId} {args : Array Value} (hk : ops[k]? = some o) (hd : o.dst = some s) (hw : Region.wanted o (yielded ops a.tmps) = true) (hr : ∀ w, (execOp a.eval o).run P w = .ok (.enter f args) w) (hc : ∀ w, C w → Calls P f args w fun e w' => e = .returned v ∧ C w') (h : wpQuiet P ops C Q (ops.toList.drop (k + 1)) (a.put (some s) v)) : wpQuiet P ops C Q (ops.toList.drop k) a := by
  rw [drop_at hk]
  refine wpQuiet_step (fun K hK => ?_)
  rw [if_pos hw]
  refine ⟨v, fun w hw' => ?_, ?_⟩
  · unfold Oper.quietAt
    rw [hr w]
    exact ⟨rfl, hc w hw'⟩
  · rw [hd]
    exact hK _ h
end
section
variable {a : Act} {o : Oper} {x y : Operand}
theorem run_not {b r : Bool} (ho : o.op = .unOp .not 4 x) (hx : a.eval x = .bool b) (hr : (!b) = r) (w : World) : (execOp a.eval o).run Tryz.prog w = .ok (.value (.bool r)) w := by
  subst hr
  unfold execOp
  simp only [ho, hx]
  go_simp
theorem run_ne4 {p : Bool} {t2 : TypeId} (ho : o.op = .binOp .neq 4 x y t2) (hx : a.eval x = .bool p) (hy : a.eval y = .bool p) (w : World) : (execOp a.eval o).run Tryz.prog w = .ok (.value (.bool false)) w := by
  unfold execOp
  simp only [ho, hx, hy]
  go_simp
theorem run_cl {v : Value} (ho : o.op = .call { callee := .value (.func 11), args := #[x], argTypes := #[41] }) (hx : a.eval x = v) (w : World) : (execOp a.eval o).run Tryz.prog w = .ok (.enter 11 #[v]) w := by
  subst hx
  unfold execOp
  simp only [ho]
  go_simp
theorem run_l41 {b : Nat} {e0 e1 e2 e3 e4 e5 e6 : Int} {w : World} (ho : o.op = .load 41 x) (hx : a.eval x = .pointer (some ⟨b, 0, none⟩)) (c0 : w.cell? ⟨b, 0, none⟩ = some (.int .u32 e0)) (c1 : w.cell? ⟨b, 1, none⟩ = some (.int .u32 e1)) (c2 : w.cell? ⟨b, 2, none⟩ = some (.int .i64 e2)) (c3 : w.cell? ⟨b, 3, none⟩ = some (.int .u32 e3)) (c4 : w.cell? ⟨b, 4, none⟩ = some (.int .i64 e4)) (c5 : w.cell? ⟨b, 5, none⟩ = some (.int .u32 e5)) (c6 : w.cell? ⟨b, 6, none⟩ = some (.int .u32 e6)) : (execOp a.eval o).run Tryz.prog w = .ok (.value (.agg #[.int .u32 e0, .int .u32 e1, .int .i64 e2, .int .u32 e3, .int .i64 e4, .int .u32 e5, .int .u32 e6])) w := by
  unfold execOp
  simp only [ho, hx]
  go_simp
theorem run_na41 {e0 e1 e2 e3 e4 e5 e6 : Int} {t2 : TypeId} (ho : o.op = .binOp .neq 41 x y t2) (hx : a.eval x = .agg #[.int .u32 e0, .int .u32 e1, .int .i64 e2, .int .u32 e3, .int .i64 e4, .int .u32 e5, .int .u32 e6]) (hy : a.eval y = .agg #[.int .u32 e0, .int .u32 e1, .int .i64 e2, .int .u32 e3, .int .i64 e4, .int .u32 e5, .int .u32 e6]) (w : World) : (execOp a.eval o).run Tryz.prog w = .ok (.value (.bool false)) w := by
  unfold execOp
  simp only [ho, hx, hy]
  go_simp
theorem run_l44 {b : Nat} {e0 e1 e2 e3 e4 e5 e6 : Int} {w : World} (ho : o.op = .load 44 x) (hx : a.eval x = .pointer (some ⟨b, 0, none⟩)) (c0 : w.cell? ⟨b, 0, none⟩ = some (.int .u32 e0)) (c1 : w.cell? ⟨b, 1, none⟩ = some (.int .u32 e1)) (c2 : w.cell? ⟨b, 2, none⟩ = some (.int .i64 e2)) (c3 : w.cell? ⟨b, 3, none⟩ = some (.int .u32 e3)) (c4 : w.cell? ⟨b, 4, none⟩ = some (.int .i64 e4)) (c5 : w.cell? ⟨b, 5, none⟩ = some (.int .u32 e5)) (c6 : w.cell? ⟨b, 6, none⟩ = some (.int .u32 e6)) : (execOp a.eval o).run Tryz.prog w = .ok (.value (.agg #[.int .u32 e0, .int .u32 e1, .int .i64 e2, .int .u32 e3, .int .i64 e4, .int .u32 e5, .int .u32 e6])) w := by
  unfold execOp
  simp only [ho, hx]
  go_simp
theorem run_na44 {e0 e1 e2 e3 e4 e5 e6 : Int} {t2 : TypeId} (ho : o.op = .binOp .neq 44 x y t2) (hx : a.eval x = .agg #[.int .u32 e0, .int .u32 e1, .int .i64 e2, .int .u32 e3, .int .i64 e4, .int .u32 e5, .int .u32 e6]) (hy : a.eval y = .agg #[.int .u32 e0, .int .u32 e1, .int .i64 e2, .int .u32 e3, .int .i64 e4, .int .u32 e5, .int .u32 e6]) (w : World) : (execOp a.eval o).run Tryz.prog w = .ok (.value (.bool false)) w := by
  unfold execOp
  simp only [ho, hx, hy]
  go_simp
theorem run_b41 (ho : o.op = .build 41 #[]) (w : World) : (execOp a.eval o).run Tryz.prog w = .ok (.value (.agg #[.int .u32 0, .int .u32 0, .int .i64 0, .int .u32 0, .int .i64 0, .int .u32 0, .int .u32 0])) w := by
  unfold execOp
  simp only [ho]
  go_simp
end
theorem q35_0 : ∃ o, (opsIn (regIn Tryz.f3.body 35))[0]? = some o ∧ o.dst = some 199 ∧ o.guard = none ∧ o.op = .move (.tmp 21) := ⟨_, rfl, rfl, rfl, rfl⟩
theorem q35_1 : ∃ o, (opsIn (regIn Tryz.f3.body 35))[1]? = some o ∧ o.dst = some 200 ∧ o.guard = none ∧ o.op = .move (.tmp 23) := ⟨_, rfl, rfl, rfl, rfl⟩
theorem q35_2 : ∃ o, (opsIn (regIn Tryz.f3.body 35))[2]? = some o ∧ o.dst = some 201 ∧ o.guard = none ∧ o.op = .binOp .neq 4 (.tmp 199) (.tmp 200) 4 := ⟨_, rfl, rfl, rfl, rfl⟩
theorem q35_3 : ∃ o, (opsIn (regIn Tryz.f3.body 35))[3]? = some o ∧ o.dst = some 202 ∧ o.guard = none ∧ o.op = .move (.tmp 201) := ⟨_, rfl, rfl, rfl, rfl⟩
theorem q35_4 : ∃ o, (opsIn (regIn Tryz.f3.body 35))[4]? = some o ∧ o.dst = some 203 ∧ o.guard = some (3, false) ∧ o.op = .move (.tmp 21) := ⟨_, rfl, rfl, rfl, rfl⟩
theorem q35_5 : ∃ o, (opsIn (regIn Tryz.f3.body 35))[5]? = some o ∧ o.dst = some 204 ∧ o.guard = some (3, false) ∧ o.op = .move (.tmp 203) := ⟨_, rfl, rfl, rfl, rfl⟩
theorem q35_6 : ∃ o, (opsIn (regIn Tryz.f3.body 35))[6]? = some o ∧ o.dst = some 205 ∧ o.guard = some (5, true) ∧ o.op = .load 41 (.tmp 20) := ⟨_, rfl, rfl, rfl, rfl⟩
theorem q35_7 : ∃ o, (opsIn (regIn Tryz.f3.body 35))[7]? = some o ∧ o.dst = some 206 ∧ o.guard = some (5, true) ∧ o.op = .call { callee := .value (.func 11), args := #[.tmp 205], argTypes := #[41] } := ⟨_, rfl, rfl, rfl, rfl⟩
theorem q35_8 : ∃ o, (opsIn (regIn Tryz.f3.body 35))[8]? = some o ∧ o.dst = some 207 ∧ o.guard = some (5, true) ∧ o.op = .load 44 (.tmp 22) := ⟨_, rfl, rfl, rfl, rfl⟩
theorem q35_9 : ∃ o, (opsIn (regIn Tryz.f3.body 35))[9]? = some o ∧ o.dst = some 208 ∧ o.guard = some (5, true) ∧ o.op = .binOp .neq 44 (.tmp 206) (.tmp 207) 44 := ⟨_, rfl, rfl, rfl, rfl⟩
theorem q35_10 : ∃ o, (opsIn (regIn Tryz.f3.body 35))[10]? = some o ∧ o.dst = some 209 ∧ o.guard = some (3, false) ∧ o.op = .pick (.tmp 204) (.tmp 208) (.const (.bool false)) := ⟨_, rfl, rfl, rfl, rfl⟩
theorem q35_11 : ∃ o, (opsIn (regIn Tryz.f3.body 35))[11]? = some o ∧ o.dst = some 210 ∧ o.guard = none ∧ o.op = .pick (.tmp 202) (.const (.bool true)) (.tmp 209) := ⟨_, rfl, rfl, rfl, rfl⟩
theorem q35_12 : ∃ o, (opsIn (regIn Tryz.f3.body 35))[12]? = some o ∧ o.dst = some 211 ∧ o.guard = none ∧ o.op = .move (.tmp 210) := ⟨_, rfl, rfl, rfl, rfl⟩
theorem q35_13 : ∃ o, (opsIn (regIn Tryz.f3.body 35))[13]? = some o ∧ o.dst = some 212 ∧ o.guard = some (12, false) ∧ o.op = .move (.tmp 21) := ⟨_, rfl, rfl, rfl, rfl⟩
theorem q35_14 : ∃ o, (opsIn (regIn Tryz.f3.body 35))[14]? = some o ∧ o.dst = some 213 ∧ o.guard = some (12, false) ∧ o.op = .unOp .not 4 (.tmp 212) := ⟨_, rfl, rfl, rfl, rfl⟩
theorem q35_15 : ∃ o, (opsIn (regIn Tryz.f3.body 35))[15]? = some o ∧ o.dst = some 214 ∧ o.guard = some (12, false) ∧ o.op = .move (.tmp 213) := ⟨_, rfl, rfl, rfl, rfl⟩
theorem q35_16 : ∃ o, (opsIn (regIn Tryz.f3.body 35))[16]? = some o ∧ o.dst = some 215 ∧ o.guard = some (15, true) ∧ o.op = .load 41 (.tmp 20) := ⟨_, rfl, rfl, rfl, rfl⟩
theorem q35_17 : ∃ o, (opsIn (regIn Tryz.f3.body 35))[17]? = some o ∧ o.dst = some 216 ∧ o.guard = some (15, true) ∧ o.op = .build 41 #[] := ⟨_, rfl, rfl, rfl, rfl⟩
theorem q35_18 : ∃ o, (opsIn (regIn Tryz.f3.body 35))[18]? = some o ∧ o.dst = some 217 ∧ o.guard = some (15, true) ∧ o.op = .binOp .neq 41 (.tmp 215) (.tmp 216) 41 := ⟨_, rfl, rfl, rfl, rfl⟩
theorem q35_19 : ∃ o, (opsIn (regIn Tryz.f3.body 35))[19]? = some o ∧ o.dst = some 218 ∧ o.guard = some (12, false) ∧ o.op = .pick (.tmp 214) (.tmp 217) (.const (.bool false)) := ⟨_, rfl, rfl, rfl, rfl⟩
theorem q35_20 : ∃ o, (opsIn (regIn Tryz.f3.body 35))[20]? = some o ∧ o.dst = some 219 ∧ o.guard = none ∧ o.op = .pick (.tmp 211) (.const (.bool true)) (.tmp 218) := ⟨_, rfl, rfl, rfl, rfl⟩
end Go.Proofs.YtengofkjlgajlaaGreatDoor
/-
  ArchSteps: region 35: is what was retired the same?
-/
namespace Go.Proofs.YtengofkjlgajlaaGreatDoor
open Go Go.RowKit
set_option maxRecDepth 100000 in
set_option maxHeartbeats 4000000 in
theorem r35a (xb yb : Nat) (e0 e1 e2 e3 e4 e5 e6 : Int) (W0 : World) (a : Act) (hs : a.tmps.size = 287) (h20 : a.eval (.tmp 20) = .pointer (some ⟨xb, 0, none⟩)) (h21 : a.eval (.tmp 21) = .bool true) (h23 : a.eval (.tmp 23) = .bool true) (h22 : a.eval (.tmp 22) = .pointer (some ⟨yb, 0, none⟩)) (hxb : xb < W0.heap.size) (hyb : yb < W0.heap.size) (cx0 : W0.cell? ⟨xb, 0, none⟩ = some (.int .u32 e0)) (cx1 : W0.cell? ⟨xb, 1, none⟩ = some (.int .u32 e1)) (cx2 : W0.cell? ⟨xb, 2, none⟩ = some (.int .i64 e2)) (cx3 : W0.cell? ⟨xb, 3, none⟩ = some (.int .u32 e3)) (cx4 : W0.cell? ⟨xb, 4, none⟩ = some (.int .i64 e4)) (cx5 : W0.cell? ⟨xb, 5, none⟩ = some (.int .u32 e5)) (cx6 : W0.cell? ⟨xb, 6, none⟩ = some (.int .u32 e6)) (cy0 : W0.cell? ⟨yb, 0, none⟩ = some (.int .u32 e0)) (cy1 : W0.cell? ⟨yb, 1, none⟩ = some (.int .u32 e1)) (cy2 : W0.cell? ⟨yb, 2, none⟩ = some (.int .i64 e2)) (cy3 : W0.cell? ⟨yb, 3, none⟩ = some (.int .u32 e3)) (cy4 : W0.cell? ⟨yb, 4, none⟩ = some (.int .i64 e4)) (cy5 : W0.cell? ⟨yb, 5, none⟩ = some (.int .u32 e5)) (cy6 : W0.cell? ⟨yb, 6, none⟩ = some (.int .u32 e6)) {K : Act → World → Prop} (hk : ∀ y : World, Below W0.heap.size W0 y → K ((((((((((((((((((((((a).put (some 199) (.bool true)).put (some 200) (.bool true)).put (some 201) (.bool false)).put (some 202) (.bool false)).put (some 203) (.bool true)).put (some 204) (.bool true)).put (some 205) (.agg #[.int .u32 e0, .int .u32 e1, .int .i64 e2, .int .u32 e3, .int .i64 e4, .int .u32 e5, .int .u32 e6])).put (some 206) (.agg #[.int .u32 e0, .int .u32 e1, .int .i64 e2, .int .u32 e3, .int .i64 e4, .int .u32 e5, .int .u32 e6])).put (some 207) (.agg #[.int .u32 e0, .int .u32 e1, .int .i64 e2, .int .u32 e3, .int .i64 e4, .int .u32 e5, .int .u32 e6])).put (some 208) (.bool false)).put (some 209) (.bool false)).put (some 210) (.bool false)).put (some 211) (.bool false)).put (some 212) (.bool true)).put (some 213) (.bool false)).put (some 214) (.bool false)).put (some 215) (undef)).put (some 216) (undef)).put (some 217) (undef)).put (some 218) (.bool false)).put (some 219) (.bool false)) y) : (regIn Tryz.f3.body 35).wp Tryz.prog (Exit.then K NoX) a W0 := by
  show (Code.region 35 (opsIn (regIn Tryz.f3.body 35)) true).wp _ _ _ _
  refine wp_region_quiet (C := fun w' => Below W0.heap.size W0 w') (by kernel_rfl) (by kernel_rfl) ⟨rfl, rfl, rfl, Nat.le_refl _, fun _ _ => rfl⟩ ?_
  show wpQuiet _ _ _ _ (List.drop 0 _) _
  obtain ⟨xo0, xi0, xd0, xg0, xp0⟩ := q35_0
  refine qd_want (k := 0) (v := .bool true) xi0 xd0 (w_none xg0) (fun w _ => run_move xp0 h21 w) ?_
  obtain ⟨ac1, hac1⟩ : ∃ x, a.put (some 199) (.bool true) = x := ⟨_, rfl⟩
  rw [hac1]
  have e20_1 : ac1.eval (.tmp 20) = _ := hac1 ▸ ev_put h20 (by decide)
  have e21_1 : ac1.eval (.tmp 21) = _ := hac1 ▸ ev_put h21 (by decide)
  have e23_1 : ac1.eval (.tmp 23) = _ := hac1 ▸ ev_put h23 (by decide)
  have e22_1 : ac1.eval (.tmp 22) = _ := hac1 ▸ ev_put h22 (by decide)
  have e199_1 : ac1.eval (.tmp 199) = _ := hac1 ▸ ev_same (by rw [hs]; decide)
  have zz1 : ac1.tmps.size = 287 := hac1 ▸ size_put hs
  obtain ⟨xo1, xi1, xd1, xg1, xp1⟩ := q35_1
  refine qd_want (k := 1) (v := .bool true) xi1 xd1 (w_none xg1) (fun w _ => run_move xp1 e23_1 w) ?_
  obtain ⟨ac2, hac2⟩ : ∃ x, ac1.put (some 200) (.bool true) = x := ⟨_, rfl⟩
  rw [hac2]
  have e20_2 : ac2.eval (.tmp 20) = _ := hac2 ▸ ev_put e20_1 (by decide)
  have e21_2 : ac2.eval (.tmp 21) = _ := hac2 ▸ ev_put e21_1 (by decide)
  have e22_2 : ac2.eval (.tmp 22) = _ := hac2 ▸ ev_put e22_1 (by decide)
  have e199_2 : ac2.eval (.tmp 199) = _ := hac2 ▸ ev_put e199_1 (by decide)
  have e200_2 : ac2.eval (.tmp 200) = _ := hac2 ▸ ev_same (by rw [zz1]; decide)
  have zz2 : ac2.tmps.size = 287 := hac2 ▸ size_put zz1
  obtain ⟨xo2, xi2, xd2, xg2, xp2⟩ := q35_2
  refine qd_want (k := 2) (v := .bool false) xi2 xd2 (w_none xg2) (fun w _ => run_ne4 xp2 e199_2 e200_2 w) ?_
  obtain ⟨ac3, hac3⟩ : ∃ x, ac2.put (some 201) (.bool false) = x := ⟨_, rfl⟩
  rw [hac3]
  have e20_3 : ac3.eval (.tmp 20) = _ := hac3 ▸ ev_put e20_2 (by decide)
  have e21_3 : ac3.eval (.tmp 21) = _ := hac3 ▸ ev_put e21_2 (by decide)
  have e22_3 : ac3.eval (.tmp 22) = _ := hac3 ▸ ev_put e22_2 (by decide)
  have e201_3 : ac3.eval (.tmp 201) = _ := hac3 ▸ ev_same (by rw [zz2]; decide)
  have zz3 : ac3.tmps.size = 287 := hac3 ▸ size_put zz2
  obtain ⟨xo3, xi3, xd3, xg3, xp3⟩ := q35_3
  refine qd_want (k := 3) (v := .bool false) xi3 xd3 (w_none xg3) (fun w _ => run_move xp3 e201_3 w) ?_
  obtain ⟨ac4, hac4⟩ : ∃ x, ac3.put (some 202) (.bool false) = x := ⟨_, rfl⟩
  rw [hac4]
  have e20_4 : ac4.eval (.tmp 20) = _ := hac4 ▸ ev_put e20_3 (by decide)
  have e21_4 : ac4.eval (.tmp 21) = _ := hac4 ▸ ev_put e21_3 (by decide)
  have e22_4 : ac4.eval (.tmp 22) = _ := hac4 ▸ ev_put e22_3 (by decide)
  have e202_4 : ac4.eval (.tmp 202) = _ := hac4 ▸ ev_same (by rw [zz3]; decide)
  have zz4 : ac4.tmps.size = 287 := hac4 ▸ size_put zz3
  obtain ⟨xo4, xi4, xd4, xg4, xp4⟩ := q35_4
  refine qd_want (k := 4) (v := .bool true) xi4 xd4 (w_some xg4 (by kernel_rfl) e202_4 rfl) (fun w _ => run_move xp4 e21_4 w) ?_
  obtain ⟨ac5, hac5⟩ : ∃ x, ac4.put (some 203) (.bool true) = x := ⟨_, rfl⟩
  rw [hac5]
  have e20_5 : ac5.eval (.tmp 20) = _ := hac5 ▸ ev_put e20_4 (by decide)
  have e21_5 : ac5.eval (.tmp 21) = _ := hac5 ▸ ev_put e21_4 (by decide)
  have e22_5 : ac5.eval (.tmp 22) = _ := hac5 ▸ ev_put e22_4 (by decide)
  have e202_5 : ac5.eval (.tmp 202) = _ := hac5 ▸ ev_put e202_4 (by decide)
  have e203_5 : ac5.eval (.tmp 203) = _ := hac5 ▸ ev_same (by rw [zz4]; decide)
  have zz5 : ac5.tmps.size = 287 := hac5 ▸ size_put zz4
  obtain ⟨xo5, xi5, xd5, xg5, xp5⟩ := q35_5
  refine qd_want (k := 5) (v := .bool true) xi5 xd5 (w_some xg5 (by kernel_rfl) e202_5 rfl) (fun w _ => run_move xp5 e203_5 w) ?_
  obtain ⟨ac6, hac6⟩ : ∃ x, ac5.put (some 204) (.bool true) = x := ⟨_, rfl⟩
  rw [hac6]
  have e20_6 : ac6.eval (.tmp 20) = _ := hac6 ▸ ev_put e20_5 (by decide)
  have e21_6 : ac6.eval (.tmp 21) = _ := hac6 ▸ ev_put e21_5 (by decide)
  have e22_6 : ac6.eval (.tmp 22) = _ := hac6 ▸ ev_put e22_5 (by decide)
  have e202_6 : ac6.eval (.tmp 202) = _ := hac6 ▸ ev_put e202_5 (by decide)
  have e204_6 : ac6.eval (.tmp 204) = _ := hac6 ▸ ev_same (by rw [zz5]; decide)
  have zz6 : ac6.tmps.size = 287 := hac6 ▸ size_put zz5
  obtain ⟨xo6, xi6, xd6, xg6, xp6⟩ := q35_6
  refine qd_want (k := 6) (v := .agg #[.int .u32 e0, .int .u32 e1, .int .i64 e2, .int .u32 e3, .int .i64 e4, .int .u32 e5, .int .u32 e6]) xi6 xd6 (w_some xg6 (by kernel_rfl) e204_6 rfl) (fun w hw => run_l41 xp6 e20_6 ((hw.cell (p := ⟨xb, 0, none⟩) hxb).trans cx0) ((hw.cell (p := ⟨xb, 1, none⟩) hxb).trans cx1) ((hw.cell (p := ⟨xb, 2, none⟩) hxb).trans cx2) ((hw.cell (p := ⟨xb, 3, none⟩) hxb).trans cx3) ((hw.cell (p := ⟨xb, 4, none⟩) hxb).trans cx4) ((hw.cell (p := ⟨xb, 5, none⟩) hxb).trans cx5) ((hw.cell (p := ⟨xb, 6, none⟩) hxb).trans cx6)) ?_
  obtain ⟨ac7, hac7⟩ : ∃ x, ac6.put (some 205) (.agg #[.int .u32 e0, .int .u32 e1, .int .i64 e2, .int .u32 e3, .int .i64 e4, .int .u32 e5, .int .u32 e6]) = x := ⟨_, rfl⟩
  rw [hac7]
  have e20_7 : ac7.eval (.tmp 20) = _ := hac7 ▸ ev_put e20_6 (by decide)
  have e21_7 : ac7.eval (.tmp 21) = _ := hac7 ▸ ev_put e21_6 (by decide)
  have e22_7 : ac7.eval (.tmp 22) = _ := hac7 ▸ ev_put e22_6 (by decide)
  have e202_7 : ac7.eval (.tmp 202) = _ := hac7 ▸ ev_put e202_6 (by decide)
  have e204_7 : ac7.eval (.tmp 204) = _ := hac7 ▸ ev_put e204_6 (by decide)
  have e205_7 : ac7.eval (.tmp 205) = _ := hac7 ▸ ev_same (by rw [zz6]; decide)
  have zz7 : ac7.tmps.size = 287 := hac7 ▸ size_put zz6
  obtain ⟨xo7, xi7, xd7, xg7, xp7⟩ := q35_7
  refine qd_call (k := 7) (v := .agg #[.int .u32 e0, .int .u32 e1, .int .i64 e2, .int .u32 e3, .int .i64 e4, .int .u32 e5, .int .u32 e6]) xi7 xd7 (w_some xg7 (by kernel_rfl) e204_7 rfl) (run_cl xp7 e205_7) (fun w hw => (retired_any _ _ _ _ _ _ _ w).mono fun e y h => ⟨h.1, hw.trans (h.2.mono hw.size)⟩) ?_
  obtain ⟨ac8, hac8⟩ : ∃ x, ac7.put (some 206) (.agg #[.int .u32 e0, .int .u32 e1, .int .i64 e2, .int .u32 e3, .int .i64 e4, .int .u32 e5, .int .u32 e6]) = x := ⟨_, rfl⟩
  rw [hac8]
  have e20_8 : ac8.eval (.tmp 20) = _ := hac8 ▸ ev_put e20_7 (by decide)
  have e21_8 : ac8.eval (.tmp 21) = _ := hac8 ▸ ev_put e21_7 (by decide)
  have e22_8 : ac8.eval (.tmp 22) = _ := hac8 ▸ ev_put e22_7 (by decide)
  have e202_8 : ac8.eval (.tmp 202) = _ := hac8 ▸ ev_put e202_7 (by decide)
  have e204_8 : ac8.eval (.tmp 204) = _ := hac8 ▸ ev_put e204_7 (by decide)
  have e206_8 : ac8.eval (.tmp 206) = _ := hac8 ▸ ev_same (by rw [zz7]; decide)
  have zz8 : ac8.tmps.size = 287 := hac8 ▸ size_put zz7
  obtain ⟨xo8, xi8, xd8, xg8, xp8⟩ := q35_8
  refine qd_want (k := 8) (v := .agg #[.int .u32 e0, .int .u32 e1, .int .i64 e2, .int .u32 e3, .int .i64 e4, .int .u32 e5, .int .u32 e6]) xi8 xd8 (w_some xg8 (by kernel_rfl) e204_8 rfl) (fun w hw => run_l44 xp8 e22_8 ((hw.cell (p := ⟨yb, 0, none⟩) hyb).trans cy0) ((hw.cell (p := ⟨yb, 1, none⟩) hyb).trans cy1) ((hw.cell (p := ⟨yb, 2, none⟩) hyb).trans cy2) ((hw.cell (p := ⟨yb, 3, none⟩) hyb).trans cy3) ((hw.cell (p := ⟨yb, 4, none⟩) hyb).trans cy4) ((hw.cell (p := ⟨yb, 5, none⟩) hyb).trans cy5) ((hw.cell (p := ⟨yb, 6, none⟩) hyb).trans cy6)) ?_
  obtain ⟨ac9, hac9⟩ : ∃ x, ac8.put (some 207) (.agg #[.int .u32 e0, .int .u32 e1, .int .i64 e2, .int .u32 e3, .int .i64 e4, .int .u32 e5, .int .u32 e6]) = x := ⟨_, rfl⟩
  rw [hac9]
  have e20_9 : ac9.eval (.tmp 20) = _ := hac9 ▸ ev_put e20_8 (by decide)
  have e21_9 : ac9.eval (.tmp 21) = _ := hac9 ▸ ev_put e21_8 (by decide)
  have e202_9 : ac9.eval (.tmp 202) = _ := hac9 ▸ ev_put e202_8 (by decide)
  have e204_9 : ac9.eval (.tmp 204) = _ := hac9 ▸ ev_put e204_8 (by decide)
  have e206_9 : ac9.eval (.tmp 206) = _ := hac9 ▸ ev_put e206_8 (by decide)
  have e207_9 : ac9.eval (.tmp 207) = _ := hac9 ▸ ev_same (by rw [zz8]; decide)
  have zz9 : ac9.tmps.size = 287 := hac9 ▸ size_put zz8
  obtain ⟨xo9, xi9, xd9, xg9, xp9⟩ := q35_9
  refine qd_want (k := 9) (v := .bool false) xi9 xd9 (w_some xg9 (by kernel_rfl) e204_9 rfl) (fun w _ => run_na44 xp9 e206_9 e207_9 w) ?_
  obtain ⟨ac10, hac10⟩ : ∃ x, ac9.put (some 208) (.bool false) = x := ⟨_, rfl⟩
  rw [hac10]
  have e20_10 : ac10.eval (.tmp 20) = _ := hac10 ▸ ev_put e20_9 (by decide)
  have e21_10 : ac10.eval (.tmp 21) = _ := hac10 ▸ ev_put e21_9 (by decide)
  have e202_10 : ac10.eval (.tmp 202) = _ := hac10 ▸ ev_put e202_9 (by decide)
  have e204_10 : ac10.eval (.tmp 204) = _ := hac10 ▸ ev_put e204_9 (by decide)
  have e208_10 : ac10.eval (.tmp 208) = _ := hac10 ▸ ev_same (by rw [zz9]; decide)
  have zz10 : ac10.tmps.size = 287 := hac10 ▸ size_put zz9
  obtain ⟨xo10, xi10, xd10, xg10, xp10⟩ := q35_10
  refine qd_want (k := 10) (v := .bool false) xi10 xd10 (w_some xg10 (by kernel_rfl) e202_10 rfl) (fun w _ => run_pick xp10 e204_10 (fun _ => e208_10) (fun q => by cases q) w) ?_
  obtain ⟨ac11, hac11⟩ : ∃ x, ac10.put (some 209) (.bool false) = x := ⟨_, rfl⟩
  rw [hac11]
  have e20_11 : ac11.eval (.tmp 20) = _ := hac11 ▸ ev_put e20_10 (by decide)
  have e21_11 : ac11.eval (.tmp 21) = _ := hac11 ▸ ev_put e21_10 (by decide)
  have e202_11 : ac11.eval (.tmp 202) = _ := hac11 ▸ ev_put e202_10 (by decide)
  have e209_11 : ac11.eval (.tmp 209) = _ := hac11 ▸ ev_same (by rw [zz10]; decide)
  have zz11 : ac11.tmps.size = 287 := hac11 ▸ size_put zz10
  obtain ⟨xo11, xi11, xd11, xg11, xp11⟩ := q35_11
  refine qd_want (k := 11) (v := .bool false) xi11 xd11 (w_none xg11) (fun w _ => run_pick xp11 e202_11 (fun q => by cases q) (fun _ => e209_11) w) ?_
  obtain ⟨ac12, hac12⟩ : ∃ x, ac11.put (some 210) (.bool false) = x := ⟨_, rfl⟩
  rw [hac12]
  have e20_12 : ac12.eval (.tmp 20) = _ := hac12 ▸ ev_put e20_11 (by decide)
  have e21_12 : ac12.eval (.tmp 21) = _ := hac12 ▸ ev_put e21_11 (by decide)
  have e210_12 : ac12.eval (.tmp 210) = _ := hac12 ▸ ev_same (by rw [zz11]; decide)
  have zz12 : ac12.tmps.size = 287 := hac12 ▸ size_put zz11
  obtain ⟨xo12, xi12, xd12, xg12, xp12⟩ := q35_12
  refine qd_want (k := 12) (v := .bool false) xi12 xd12 (w_none xg12) (fun w _ => run_move xp12 e210_12 w) ?_
  obtain ⟨ac13, hac13⟩ : ∃ x, ac12.put (some 211) (.bool false) = x := ⟨_, rfl⟩
  rw [hac13]
  have e20_13 : ac13.eval (.tmp 20) = _ := hac13 ▸ ev_put e20_12 (by decide)
  have e21_13 : ac13.eval (.tmp 21) = _ := hac13 ▸ ev_put e21_12 (by decide)
  have e211_13 : ac13.eval (.tmp 211) = _ := hac13 ▸ ev_same (by rw [zz12]; decide)
  have zz13 : ac13.tmps.size = 287 := hac13 ▸ size_put zz12
  obtain ⟨xo13, xi13, xd13, xg13, xp13⟩ := q35_13
  refine qd_want (k := 13) (v := .bool true) xi13 xd13 (w_some xg13 (by kernel_rfl) e211_13 rfl) (fun w _ => run_move xp13 e21_13 w) ?_
  obtain ⟨ac14, hac14⟩ : ∃ x, ac13.put (some 212) (.bool true) = x := ⟨_, rfl⟩
  rw [hac14]
  have e20_14 : ac14.eval (.tmp 20) = _ := hac14 ▸ ev_put e20_13 (by decide)
  have e211_14 : ac14.eval (.tmp 211) = _ := hac14 ▸ ev_put e211_13 (by decide)
  have e212_14 : ac14.eval (.tmp 212) = _ := hac14 ▸ ev_same (by rw [zz13]; decide)
  have zz14 : ac14.tmps.size = 287 := hac14 ▸ size_put zz13
  obtain ⟨xo14, xi14, xd14, xg14, xp14⟩ := q35_14
  refine qd_want (k := 14) (v := .bool false) xi14 xd14 (w_some xg14 (by kernel_rfl) e211_14 rfl) (fun w _ => run_not xp14 e212_14 rfl w) ?_
  obtain ⟨ac15, hac15⟩ : ∃ x, ac14.put (some 213) (.bool false) = x := ⟨_, rfl⟩
  rw [hac15]
  have e20_15 : ac15.eval (.tmp 20) = _ := hac15 ▸ ev_put e20_14 (by decide)
  have e211_15 : ac15.eval (.tmp 211) = _ := hac15 ▸ ev_put e211_14 (by decide)
  have e213_15 : ac15.eval (.tmp 213) = _ := hac15 ▸ ev_same (by rw [zz14]; decide)
  have zz15 : ac15.tmps.size = 287 := hac15 ▸ size_put zz14
  obtain ⟨xo15, xi15, xd15, xg15, xp15⟩ := q35_15
  refine qd_want (k := 15) (v := .bool false) xi15 xd15 (w_some xg15 (by kernel_rfl) e211_15 rfl) (fun w _ => run_move xp15 e213_15 w) ?_
  obtain ⟨ac16, hac16⟩ : ∃ x, ac15.put (some 214) (.bool false) = x := ⟨_, rfl⟩
  rw [hac16]
  have e20_16 : ac16.eval (.tmp 20) = _ := hac16 ▸ ev_put e20_15 (by decide)
  have e211_16 : ac16.eval (.tmp 211) = _ := hac16 ▸ ev_put e211_15 (by decide)
  have e214_16 : ac16.eval (.tmp 214) = _ := hac16 ▸ ev_same (by rw [zz15]; decide)
  have zz16 : ac16.tmps.size = 287 := hac16 ▸ size_put zz15
  obtain ⟨xo16, xi16, xd16, xg16, xp16⟩ := q35_16
  refine qd_skip (k := 16) xi16 xd16 (w_some xg16 (by kernel_rfl) e214_16 rfl) ?_
  obtain ⟨ac17, hac17⟩ : ∃ x, ac16.put (some 215) (undef) = x := ⟨_, rfl⟩
  rw [hac17]
  have e211_17 : ac17.eval (.tmp 211) = _ := hac17 ▸ ev_put e211_16 (by decide)
  have e214_17 : ac17.eval (.tmp 214) = _ := hac17 ▸ ev_put e214_16 (by decide)
  have e215_17 : ac17.eval (.tmp 215) = _ := hac17 ▸ ev_same (by rw [zz16]; decide)
  have zz17 : ac17.tmps.size = 287 := hac17 ▸ size_put zz16
  obtain ⟨xo17, xi17, xd17, xg17, xp17⟩ := q35_17
  refine qd_skip (k := 17) xi17 xd17 (w_some xg17 (by kernel_rfl) e214_17 rfl) ?_
  obtain ⟨ac18, hac18⟩ : ∃ x, ac17.put (some 216) (undef) = x := ⟨_, rfl⟩
  rw [hac18]
  have e211_18 : ac18.eval (.tmp 211) = _ := hac18 ▸ ev_put e211_17 (by decide)
  have e214_18 : ac18.eval (.tmp 214) = _ := hac18 ▸ ev_put e214_17 (by decide)
  have e215_18 : ac18.eval (.tmp 215) = _ := hac18 ▸ ev_put e215_17 (by decide)
  have e216_18 : ac18.eval (.tmp 216) = _ := hac18 ▸ ev_same (by rw [zz17]; decide)
  have zz18 : ac18.tmps.size = 287 := hac18 ▸ size_put zz17
  obtain ⟨xo18, xi18, xd18, xg18, xp18⟩ := q35_18
  refine qd_skip (k := 18) xi18 xd18 (w_some xg18 (by kernel_rfl) e214_18 rfl) ?_
  obtain ⟨ac19, hac19⟩ : ∃ x, ac18.put (some 217) (undef) = x := ⟨_, rfl⟩
  rw [hac19]
  have e211_19 : ac19.eval (.tmp 211) = _ := hac19 ▸ ev_put e211_18 (by decide)
  have e214_19 : ac19.eval (.tmp 214) = _ := hac19 ▸ ev_put e214_18 (by decide)
  have e217_19 : ac19.eval (.tmp 217) = _ := hac19 ▸ ev_same (by rw [zz18]; decide)
  have zz19 : ac19.tmps.size = 287 := hac19 ▸ size_put zz18
  obtain ⟨xo19, xi19, xd19, xg19, xp19⟩ := q35_19
  refine qd_want (k := 19) (v := .bool false) xi19 xd19 (w_some xg19 (by kernel_rfl) e211_19 rfl) (fun w _ => run_pick xp19 e214_19 (fun q => by cases q) (fun _ => rfl) w) ?_
  obtain ⟨ac20, hac20⟩ : ∃ x, ac19.put (some 218) (.bool false) = x := ⟨_, rfl⟩
  rw [hac20]
  have e211_20 : ac20.eval (.tmp 211) = _ := hac20 ▸ ev_put e211_19 (by decide)
  have e218_20 : ac20.eval (.tmp 218) = _ := hac20 ▸ ev_same (by rw [zz19]; decide)
  have zz20 : ac20.tmps.size = 287 := hac20 ▸ size_put zz19
  obtain ⟨xo20, xi20, xd20, xg20, xp20⟩ := q35_20
  refine qd_want (k := 20) (v := .bool false) xi20 xd20 (w_none xg20) (fun w _ => run_pick xp20 e211_20 (fun q => by cases q) (fun _ => e218_20) w) ?_
  obtain ⟨ac21, hac21⟩ : ∃ x, ac20.put (some 219) (.bool false) = x := ⟨_, rfl⟩
  rw [hac21]
  have zz21 : ac21.tmps.size = 287 := hac21 ▸ size_put zz20
  refine qd_end (k := 21) (by kernel_rfl) ?_
  intro w' hw
  subst hac21 hac20 hac19 hac18 hac17 hac16 hac15 hac14 hac13 hac12 hac11 hac10 hac9 hac8 hac7 hac6 hac5 hac4 hac3 hac2 hac1
  exact hk w' hw
set_option maxRecDepth 100000 in
set_option maxHeartbeats 4000000 in
theorem reg35a {u0 u1 u2 u3 u4 u5 u6 u7 u8 u9 u10 u11 u12 u13 u14 u15 u16 u17 u18 u19 u24 u25 u26 u27 u28 u29 u30 u31 u32 u33 u34 u35 u36 u37 u38 u39 u40 u41 u42 u43 u44 u45 u46 u47 u48 u49 u50 u51 u52 u53 u54 u55 u56 u57 u58 u59 u60 u61 u62 u63 u64 u65 u66 u67 u68 u69 u70 u71 u72 u73 u74 u75 u76 u77 u78 u79 u80 u81 u82 u83 u84 u85 u86 u87 u88 u89 u90 u91 u92 u93 u94 u95 u96 u97 u98 u99 u100 u101 u102 u103 u104 u105 u106 u107 u108 u109 u110 u111 u112 u113 u114 u115 u116 u117 u118 u119 u120 u121 u122 u123 u124 u125 u126 u127 u128 u129 u130 u131 u132 u133 u134 u135 u136 u137 u138 u139 u140 u141 u142 u143 u144 u145 u146 u147 u148 u149 u150 u151 u152 u153 u154 u155 u156 u157 u158 u159 u160 u161 u162 u163 u164 u165 u166 u167 u168 u169 u170 u171 u172 u173 u174 u175 u176 u177 u178 u179 u180 u181 u182 u183 u184 u185 u186 u187 u188 u189 u190 u191 u192 u193 u194 u195 u196 u197 u198 u199 u200 u201 u202 u203 u204 u205 u206 u207 u208 u209 u210 u211 u212 u213 u214 u215 u216 u217 u218 u219 u220 u221 u222 u223 u224 u225 u226 u227 u228 u229 u230 u231 u232 u233 u234 u235 u236 u237 u238 u239 u240 u241 u242 u243 u244 u245 u246 u247 u248 u249 u250 u251 u252 u253 u254 u255 u256 u257 u258 u259 u260 u261 u262 u263 u264 u265 u266 u267 u268 u269 u270 u271 u272 u273 u274 u275 u276 u277 u278 u279 u280 u281 u282 u283 u284 u285 u286 : Value} {ds : List Deferred} (xb yb : Nat) (e0 e1 e2 e3 e4 e5 e6 : Int) (W0 : World) (hxb : xb < W0.heap.size) (hyb : yb < W0.heap.size) (cx0 : W0.cell? ⟨xb, 0, none⟩ = some (.int .u32 e0)) (cx1 : W0.cell? ⟨xb, 1, none⟩ = some (.int .u32 e1)) (cx2 : W0.cell? ⟨xb, 2, none⟩ = some (.int .i64 e2)) (cx3 : W0.cell? ⟨xb, 3, none⟩ = some (.int .u32 e3)) (cx4 : W0.cell? ⟨xb, 4, none⟩ = some (.int .i64 e4)) (cx5 : W0.cell? ⟨xb, 5, none⟩ = some (.int .u32 e5)) (cx6 : W0.cell? ⟨xb, 6, none⟩ = some (.int .u32 e6)) (cy0 : W0.cell? ⟨yb, 0, none⟩ = some (.int .u32 e0)) (cy1 : W0.cell? ⟨yb, 1, none⟩ = some (.int .u32 e1)) (cy2 : W0.cell? ⟨yb, 2, none⟩ = some (.int .i64 e2)) (cy3 : W0.cell? ⟨yb, 3, none⟩ = some (.int .u32 e3)) (cy4 : W0.cell? ⟨yb, 4, none⟩ = some (.int .i64 e4)) (cy5 : W0.cell? ⟨yb, 5, none⟩ = some (.int .u32 e5)) (cy6 : W0.cell? ⟨yb, 6, none⟩ = some (.int .u32 e6)) {K : Act → World → Prop} (hk : ∀ (t199 t200 t201 t202 t203 t204 t205 t206 t207 t208 t209 t210 t211 t212 t213 t214 t215 t216 t217 t218 : Value) (y : World), Below W0.heap.size W0 y → K ⟨#[u0, u1, u2, u3, u4, u5, u6, u7, u8, u9, u10, u11, u12, u13, u14, u15, u16, u17, u18, u19, .pointer (some ⟨xb, 0, none⟩), .bool true, .pointer (some ⟨yb, 0, none⟩), .bool true, u24, u25, u26, u27, u28, u29, u30, u31, u32, u33, u34, u35, u36, u37, u38, u39, u40, u41, u42, u43, u44, u45, u46, u47, u48, u49, u50, u51, u52, u53, u54, u55, u56, u57, u58, u59, u60, u61, u62, u63, u64, u65, u66, u67, u68, u69, u70, u71, u72, u73, u74, u75, u76, u77, u78, u79, u80, u81, u82, u83, u84, u85, u86, u87, u88, u89, u90, u91, u92, u93, u94, u95, u96, u97, u98, u99, u100, u101, u102, u103, u104, u105, u106, u107, u108, u109, u110, u111, u112, u113, u114, u115, u116, u117, u118, u119, u120, u121, u122, u123, u124, u125, u126, u127, u128, u129, u130, u131, u132, u133, u134, u135, u136, u137, u138, u139, u140, u141, u142, u143, u144, u145, u146, u147, u148, u149, u150, u151, u152, u153, u154, u155, u156, u157, u158, u159, u160, u161, u162, u163, u164, u165, u166, u167, u168, u169, u170, u171, u172, u173, u174, u175, u176, u177, u178, u179, u180, u181, u182, u183, u184, u185, u186, u187, u188, u189, u190, u191, u192, u193, u194, u195, u196, u197, u198, t199, t200, t201, t202, t203, t204, t205, t206, t207, t208, t209, t210, t211, t212, t213, t214, t215, t216, t217, t218, .bool false, u220, u221, u222, u223, u224, u225, u226, u227, u228, u229, u230, u231, u232, u233, u234, u235, u236, u237, u238, u239, u240, u241, u242, u243, u244, u245, u246, u247, u248, u249, u250, u251, u252, u253, u254, u255, u256, u257, u258, u259, u260, u261, u262, u263, u264, u265, u266, u267, u268, u269, u270, u271, u272, u273, u274, u275, u276, u277, u278, u279, u280, u281, u282, u283, u284, u285, u286], ds⟩ y) : (regIn Tryz.f3.body 35).wp Tryz.prog (Exit.then K NoX) ⟨#[u0, u1, u2, u3, u4, u5, u6, u7, u8, u9, u10, u11, u12, u13, u14, u15, u16, u17, u18, u19, .pointer (some ⟨xb, 0, none⟩), .bool true, .pointer (some ⟨yb, 0, none⟩), .bool true, u24, u25, u26, u27, u28, u29, u30, u31, u32, u33, u34, u35, u36, u37, u38, u39, u40, u41, u42, u43, u44, u45, u46, u47, u48, u49, u50, u51, u52, u53, u54, u55, u56, u57, u58, u59, u60, u61, u62, u63, u64, u65, u66, u67, u68, u69, u70, u71, u72, u73, u74, u75, u76, u77, u78, u79, u80, u81, u82, u83, u84, u85, u86, u87, u88, u89, u90, u91, u92, u93, u94, u95, u96, u97, u98, u99, u100, u101, u102, u103, u104, u105, u106, u107, u108, u109, u110, u111, u112, u113, u114, u115, u116, u117, u118, u119, u120, u121, u122, u123, u124, u125, u126, u127, u128, u129, u130, u131, u132, u133, u134, u135, u136, u137, u138, u139, u140, u141, u142, u143, u144, u145, u146, u147, u148, u149, u150, u151, u152, u153, u154, u155, u156, u157, u158, u159, u160, u161, u162, u163, u164, u165, u166, u167, u168, u169, u170, u171, u172, u173, u174, u175, u176, u177, u178, u179, u180, u181, u182, u183, u184, u185, u186, u187, u188, u189, u190, u191, u192, u193, u194, u195, u196, u197, u198, u199, u200, u201, u202, u203, u204, u205, u206, u207, u208, u209, u210, u211, u212, u213, u214, u215, u216, u217, u218, u219, u220, u221, u222, u223, u224, u225, u226, u227, u228, u229, u230, u231, u232, u233, u234, u235, u236, u237, u238, u239, u240, u241, u242, u243, u244, u245, u246, u247, u248, u249, u250, u251, u252, u253, u254, u255, u256, u257, u258, u259, u260, u261, u262, u263, u264, u265, u266, u267, u268, u269, u270, u271, u272, u273, u274, u275, u276, u277, u278, u279, u280, u281, u282, u283, u284, u285, u286], ds⟩ W0 := by
  refine r35a xb yb e0 e1 e2 e3 e4 e5 e6 W0 _ rfl rfl rfl rfl rfl hxb hyb cx0 cx1 cx2 cx3 cx4 cx5 cx6 cy0 cy1 cy2 cy3 cy4 cy5 cy6 (fun y hy => ?_)
  have h := hk (.bool true) (.bool true) (.bool false) (.bool false) (.bool true) (.bool true) (.agg #[.int .u32 e0, .int .u32 e1, .int .i64 e2, .int .u32 e3, .int .i64 e4, .int .u32 e5, .int .u32 e6]) (.agg #[.int .u32 e0, .int .u32 e1, .int .i64 e2, .int .u32 e3, .int .i64 e4, .int .u32 e5, .int .u32 e6]) (.agg #[.int .u32 e0, .int .u32 e1, .int .i64 e2, .int .u32 e3, .int .i64 e4, .int .u32 e5, .int .u32 e6]) (.bool false) (.bool false) (.bool false) (.bool false) (.bool true) (.bool false) (.bool false) (undef) (undef) (undef) (.bool false) y hy
  exact Eq.mpr (by kernel_rfl) h
set_option maxRecDepth 100000 in
set_option maxHeartbeats 4000000 in
theorem r35b (xb : Nat) (W0 : World) (a : Act) (hs : a.tmps.size = 287) (h20 : a.eval (.tmp 20) = .pointer (some ⟨xb, 0, none⟩)) (h21 : a.eval (.tmp 21) = .bool false) (h23 : a.eval (.tmp 23) = .bool false) (hxb : xb < W0.heap.size) (cx0 : W0.cell? ⟨xb, 0, none⟩ = some (.int .u32 0)) (cx1 : W0.cell? ⟨xb, 1, none⟩ = some (.int .u32 0)) (cx2 : W0.cell? ⟨xb, 2, none⟩ = some (.int .i64 0)) (cx3 : W0.cell? ⟨xb, 3, none⟩ = some (.int .u32 0)) (cx4 : W0.cell? ⟨xb, 4, none⟩ = some (.int .i64 0)) (cx5 : W0.cell? ⟨xb, 5, none⟩ = some (.int .u32 0)) (cx6 : W0.cell? ⟨xb, 6, none⟩ = some (.int .u32 0))  {K : Act → World → Prop} (hk : ∀ y : World, Below W0.heap.size W0 y → K ((((((((((((((((((((((a).put (some 199) (.bool false)).put (some 200) (.bool false)).put (some 201) (.bool false)).put (some 202) (.bool false)).put (some 203) (.bool false)).put (some 204) (.bool false)).put (some 205) (undef)).put (some 206) (undef)).put (some 207) (undef)).put (some 208) (undef)).put (some 209) (.bool false)).put (some 210) (.bool false)).put (some 211) (.bool false)).put (some 212) (.bool false)).put (some 213) (.bool true)).put (some 214) (.bool true)).put (some 215) (.agg #[.int .u32 0, .int .u32 0, .int .i64 0, .int .u32 0, .int .i64 0, .int .u32 0, .int .u32 0])).put (some 216) (.agg #[.int .u32 0, .int .u32 0, .int .i64 0, .int .u32 0, .int .i64 0, .int .u32 0, .int .u32 0])).put (some 217) (.bool false)).put (some 218) (.bool false)).put (some 219) (.bool false)) y) : (regIn Tryz.f3.body 35).wp Tryz.prog (Exit.then K NoX) a W0 := by
  show (Code.region 35 (opsIn (regIn Tryz.f3.body 35)) true).wp _ _ _ _
  refine wp_region_quiet (C := fun w' => Below W0.heap.size W0 w') (by kernel_rfl) (by kernel_rfl) ⟨rfl, rfl, rfl, Nat.le_refl _, fun _ _ => rfl⟩ ?_
  show wpQuiet _ _ _ _ (List.drop 0 _) _
  obtain ⟨xo0, xi0, xd0, xg0, xp0⟩ := q35_0
  refine qd_want (k := 0) (v := .bool false) xi0 xd0 (w_none xg0) (fun w _ => run_move xp0 h21 w) ?_
  obtain ⟨ac1, hac1⟩ : ∃ x, a.put (some 199) (.bool false) = x := ⟨_, rfl⟩
  rw [hac1]
  have e20_1 : ac1.eval (.tmp 20) = _ := hac1 ▸ ev_put h20 (by decide)
  have e21_1 : ac1.eval (.tmp 21) = _ := hac1 ▸ ev_put h21 (by decide)
  have e23_1 : ac1.eval (.tmp 23) = _ := hac1 ▸ ev_put h23 (by decide)
  have e199_1 : ac1.eval (.tmp 199) = _ := hac1 ▸ ev_same (by rw [hs]; decide)
  have zz1 : ac1.tmps.size = 287 := hac1 ▸ size_put hs
  obtain ⟨xo1, xi1, xd1, xg1, xp1⟩ := q35_1
  refine qd_want (k := 1) (v := .bool false) xi1 xd1 (w_none xg1) (fun w _ => run_move xp1 e23_1 w) ?_
  obtain ⟨ac2, hac2⟩ : ∃ x, ac1.put (some 200) (.bool false) = x := ⟨_, rfl⟩
  rw [hac2]
  have e20_2 : ac2.eval (.tmp 20) = _ := hac2 ▸ ev_put e20_1 (by decide)
  have e21_2 : ac2.eval (.tmp 21) = _ := hac2 ▸ ev_put e21_1 (by decide)
  have e199_2 : ac2.eval (.tmp 199) = _ := hac2 ▸ ev_put e199_1 (by decide)
  have e200_2 : ac2.eval (.tmp 200) = _ := hac2 ▸ ev_same (by rw [zz1]; decide)
  have zz2 : ac2.tmps.size = 287 := hac2 ▸ size_put zz1
  obtain ⟨xo2, xi2, xd2, xg2, xp2⟩ := q35_2
  refine qd_want (k := 2) (v := .bool false) xi2 xd2 (w_none xg2) (fun w _ => run_ne4 xp2 e199_2 e200_2 w) ?_
  obtain ⟨ac3, hac3⟩ : ∃ x, ac2.put (some 201) (.bool false) = x := ⟨_, rfl⟩
  rw [hac3]
  have e20_3 : ac3.eval (.tmp 20) = _ := hac3 ▸ ev_put e20_2 (by decide)
  have e21_3 : ac3.eval (.tmp 21) = _ := hac3 ▸ ev_put e21_2 (by decide)
  have e201_3 : ac3.eval (.tmp 201) = _ := hac3 ▸ ev_same (by rw [zz2]; decide)
  have zz3 : ac3.tmps.size = 287 := hac3 ▸ size_put zz2
  obtain ⟨xo3, xi3, xd3, xg3, xp3⟩ := q35_3
  refine qd_want (k := 3) (v := .bool false) xi3 xd3 (w_none xg3) (fun w _ => run_move xp3 e201_3 w) ?_
  obtain ⟨ac4, hac4⟩ : ∃ x, ac3.put (some 202) (.bool false) = x := ⟨_, rfl⟩
  rw [hac4]
  have e20_4 : ac4.eval (.tmp 20) = _ := hac4 ▸ ev_put e20_3 (by decide)
  have e21_4 : ac4.eval (.tmp 21) = _ := hac4 ▸ ev_put e21_3 (by decide)
  have e202_4 : ac4.eval (.tmp 202) = _ := hac4 ▸ ev_same (by rw [zz3]; decide)
  have zz4 : ac4.tmps.size = 287 := hac4 ▸ size_put zz3
  obtain ⟨xo4, xi4, xd4, xg4, xp4⟩ := q35_4
  refine qd_want (k := 4) (v := .bool false) xi4 xd4 (w_some xg4 (by kernel_rfl) e202_4 rfl) (fun w _ => run_move xp4 e21_4 w) ?_
  obtain ⟨ac5, hac5⟩ : ∃ x, ac4.put (some 203) (.bool false) = x := ⟨_, rfl⟩
  rw [hac5]
  have e20_5 : ac5.eval (.tmp 20) = _ := hac5 ▸ ev_put e20_4 (by decide)
  have e21_5 : ac5.eval (.tmp 21) = _ := hac5 ▸ ev_put e21_4 (by decide)
  have e202_5 : ac5.eval (.tmp 202) = _ := hac5 ▸ ev_put e202_4 (by decide)
  have e203_5 : ac5.eval (.tmp 203) = _ := hac5 ▸ ev_same (by rw [zz4]; decide)
  have zz5 : ac5.tmps.size = 287 := hac5 ▸ size_put zz4
  obtain ⟨xo5, xi5, xd5, xg5, xp5⟩ := q35_5
  refine qd_want (k := 5) (v := .bool false) xi5 xd5 (w_some xg5 (by kernel_rfl) e202_5 rfl) (fun w _ => run_move xp5 e203_5 w) ?_
  obtain ⟨ac6, hac6⟩ : ∃ x, ac5.put (some 204) (.bool false) = x := ⟨_, rfl⟩
  rw [hac6]
  have e20_6 : ac6.eval (.tmp 20) = _ := hac6 ▸ ev_put e20_5 (by decide)
  have e21_6 : ac6.eval (.tmp 21) = _ := hac6 ▸ ev_put e21_5 (by decide)
  have e202_6 : ac6.eval (.tmp 202) = _ := hac6 ▸ ev_put e202_5 (by decide)
  have e204_6 : ac6.eval (.tmp 204) = _ := hac6 ▸ ev_same (by rw [zz5]; decide)
  have zz6 : ac6.tmps.size = 287 := hac6 ▸ size_put zz5
  obtain ⟨xo6, xi6, xd6, xg6, xp6⟩ := q35_6
  refine qd_skip (k := 6) xi6 xd6 (w_some xg6 (by kernel_rfl) e204_6 rfl) ?_
  obtain ⟨ac7, hac7⟩ : ∃ x, ac6.put (some 205) (undef) = x := ⟨_, rfl⟩
  rw [hac7]
  have e20_7 : ac7.eval (.tmp 20) = _ := hac7 ▸ ev_put e20_6 (by decide)
  have e21_7 : ac7.eval (.tmp 21) = _ := hac7 ▸ ev_put e21_6 (by decide)
  have e202_7 : ac7.eval (.tmp 202) = _ := hac7 ▸ ev_put e202_6 (by decide)
  have e204_7 : ac7.eval (.tmp 204) = _ := hac7 ▸ ev_put e204_6 (by decide)
  have e205_7 : ac7.eval (.tmp 205) = _ := hac7 ▸ ev_same (by rw [zz6]; decide)
  have zz7 : ac7.tmps.size = 287 := hac7 ▸ size_put zz6
  obtain ⟨xo7, xi7, xd7, xg7, xp7⟩ := q35_7
  refine qd_skip (k := 7) xi7 xd7 (w_some xg7 (by kernel_rfl) e204_7 rfl) ?_
  obtain ⟨ac8, hac8⟩ : ∃ x, ac7.put (some 206) (undef) = x := ⟨_, rfl⟩
  rw [hac8]
  have e20_8 : ac8.eval (.tmp 20) = _ := hac8 ▸ ev_put e20_7 (by decide)
  have e21_8 : ac8.eval (.tmp 21) = _ := hac8 ▸ ev_put e21_7 (by decide)
  have e202_8 : ac8.eval (.tmp 202) = _ := hac8 ▸ ev_put e202_7 (by decide)
  have e204_8 : ac8.eval (.tmp 204) = _ := hac8 ▸ ev_put e204_7 (by decide)
  have e206_8 : ac8.eval (.tmp 206) = _ := hac8 ▸ ev_same (by rw [zz7]; decide)
  have zz8 : ac8.tmps.size = 287 := hac8 ▸ size_put zz7
  obtain ⟨xo8, xi8, xd8, xg8, xp8⟩ := q35_8
  refine qd_skip (k := 8) xi8 xd8 (w_some xg8 (by kernel_rfl) e204_8 rfl) ?_
  obtain ⟨ac9, hac9⟩ : ∃ x, ac8.put (some 207) (undef) = x := ⟨_, rfl⟩
  rw [hac9]
  have e20_9 : ac9.eval (.tmp 20) = _ := hac9 ▸ ev_put e20_8 (by decide)
  have e21_9 : ac9.eval (.tmp 21) = _ := hac9 ▸ ev_put e21_8 (by decide)
  have e202_9 : ac9.eval (.tmp 202) = _ := hac9 ▸ ev_put e202_8 (by decide)
  have e204_9 : ac9.eval (.tmp 204) = _ := hac9 ▸ ev_put e204_8 (by decide)
  have e206_9 : ac9.eval (.tmp 206) = _ := hac9 ▸ ev_put e206_8 (by decide)
  have e207_9 : ac9.eval (.tmp 207) = _ := hac9 ▸ ev_same (by rw [zz8]; decide)
  have zz9 : ac9.tmps.size = 287 := hac9 ▸ size_put zz8
  obtain ⟨xo9, xi9, xd9, xg9, xp9⟩ := q35_9
  refine qd_skip (k := 9) xi9 xd9 (w_some xg9 (by kernel_rfl) e204_9 rfl) ?_
  obtain ⟨ac10, hac10⟩ : ∃ x, ac9.put (some 208) (undef) = x := ⟨_, rfl⟩
  rw [hac10]
  have e20_10 : ac10.eval (.tmp 20) = _ := hac10 ▸ ev_put e20_9 (by decide)
  have e21_10 : ac10.eval (.tmp 21) = _ := hac10 ▸ ev_put e21_9 (by decide)
  have e202_10 : ac10.eval (.tmp 202) = _ := hac10 ▸ ev_put e202_9 (by decide)
  have e204_10 : ac10.eval (.tmp 204) = _ := hac10 ▸ ev_put e204_9 (by decide)
  have e208_10 : ac10.eval (.tmp 208) = _ := hac10 ▸ ev_same (by rw [zz9]; decide)
  have zz10 : ac10.tmps.size = 287 := hac10 ▸ size_put zz9
  obtain ⟨xo10, xi10, xd10, xg10, xp10⟩ := q35_10
  refine qd_want (k := 10) (v := .bool false) xi10 xd10 (w_some xg10 (by kernel_rfl) e202_10 rfl) (fun w _ => run_pick xp10 e204_10 (fun q => by cases q) (fun _ => rfl) w) ?_
  obtain ⟨ac11, hac11⟩ : ∃ x, ac10.put (some 209) (.bool false) = x := ⟨_, rfl⟩
  rw [hac11]
  have e20_11 : ac11.eval (.tmp 20) = _ := hac11 ▸ ev_put e20_10 (by decide)
  have e21_11 : ac11.eval (.tmp 21) = _ := hac11 ▸ ev_put e21_10 (by decide)
  have e202_11 : ac11.eval (.tmp 202) = _ := hac11 ▸ ev_put e202_10 (by decide)
  have e209_11 : ac11.eval (.tmp 209) = _ := hac11 ▸ ev_same (by rw [zz10]; decide)
  have zz11 : ac11.tmps.size = 287 := hac11 ▸ size_put zz10
  obtain ⟨xo11, xi11, xd11, xg11, xp11⟩ := q35_11
  refine qd_want (k := 11) (v := .bool false) xi11 xd11 (w_none xg11) (fun w _ => run_pick xp11 e202_11 (fun q => by cases q) (fun _ => e209_11) w) ?_
  obtain ⟨ac12, hac12⟩ : ∃ x, ac11.put (some 210) (.bool false) = x := ⟨_, rfl⟩
  rw [hac12]
  have e20_12 : ac12.eval (.tmp 20) = _ := hac12 ▸ ev_put e20_11 (by decide)
  have e21_12 : ac12.eval (.tmp 21) = _ := hac12 ▸ ev_put e21_11 (by decide)
  have e210_12 : ac12.eval (.tmp 210) = _ := hac12 ▸ ev_same (by rw [zz11]; decide)
  have zz12 : ac12.tmps.size = 287 := hac12 ▸ size_put zz11
  obtain ⟨xo12, xi12, xd12, xg12, xp12⟩ := q35_12
  refine qd_want (k := 12) (v := .bool false) xi12 xd12 (w_none xg12) (fun w _ => run_move xp12 e210_12 w) ?_
  obtain ⟨ac13, hac13⟩ : ∃ x, ac12.put (some 211) (.bool false) = x := ⟨_, rfl⟩
  rw [hac13]
  have e20_13 : ac13.eval (.tmp 20) = _ := hac13 ▸ ev_put e20_12 (by decide)
  have e21_13 : ac13.eval (.tmp 21) = _ := hac13 ▸ ev_put e21_12 (by decide)
  have e211_13 : ac13.eval (.tmp 211) = _ := hac13 ▸ ev_same (by rw [zz12]; decide)
  have zz13 : ac13.tmps.size = 287 := hac13 ▸ size_put zz12
  obtain ⟨xo13, xi13, xd13, xg13, xp13⟩ := q35_13
  refine qd_want (k := 13) (v := .bool false) xi13 xd13 (w_some xg13 (by kernel_rfl) e211_13 rfl) (fun w _ => run_move xp13 e21_13 w) ?_
  obtain ⟨ac14, hac14⟩ : ∃ x, ac13.put (some 212) (.bool false) = x := ⟨_, rfl⟩
  rw [hac14]
  have e20_14 : ac14.eval (.tmp 20) = _ := hac14 ▸ ev_put e20_13 (by decide)
  have e211_14 : ac14.eval (.tmp 211) = _ := hac14 ▸ ev_put e211_13 (by decide)
  have e212_14 : ac14.eval (.tmp 212) = _ := hac14 ▸ ev_same (by rw [zz13]; decide)
  have zz14 : ac14.tmps.size = 287 := hac14 ▸ size_put zz13
  obtain ⟨xo14, xi14, xd14, xg14, xp14⟩ := q35_14
  refine qd_want (k := 14) (v := .bool true) xi14 xd14 (w_some xg14 (by kernel_rfl) e211_14 rfl) (fun w _ => run_not xp14 e212_14 rfl w) ?_
  obtain ⟨ac15, hac15⟩ : ∃ x, ac14.put (some 213) (.bool true) = x := ⟨_, rfl⟩
  rw [hac15]
  have e20_15 : ac15.eval (.tmp 20) = _ := hac15 ▸ ev_put e20_14 (by decide)
  have e211_15 : ac15.eval (.tmp 211) = _ := hac15 ▸ ev_put e211_14 (by decide)
  have e213_15 : ac15.eval (.tmp 213) = _ := hac15 ▸ ev_same (by rw [zz14]; decide)
  have zz15 : ac15.tmps.size = 287 := hac15 ▸ size_put zz14
  obtain ⟨xo15, xi15, xd15, xg15, xp15⟩ := q35_15
  refine qd_want (k := 15) (v := .bool true) xi15 xd15 (w_some xg15 (by kernel_rfl) e211_15 rfl) (fun w _ => run_move xp15 e213_15 w) ?_
  obtain ⟨ac16, hac16⟩ : ∃ x, ac15.put (some 214) (.bool true) = x := ⟨_, rfl⟩
  rw [hac16]
  have e20_16 : ac16.eval (.tmp 20) = _ := hac16 ▸ ev_put e20_15 (by decide)
  have e211_16 : ac16.eval (.tmp 211) = _ := hac16 ▸ ev_put e211_15 (by decide)
  have e214_16 : ac16.eval (.tmp 214) = _ := hac16 ▸ ev_same (by rw [zz15]; decide)
  have zz16 : ac16.tmps.size = 287 := hac16 ▸ size_put zz15
  obtain ⟨xo16, xi16, xd16, xg16, xp16⟩ := q35_16
  refine qd_want (k := 16) (v := .agg #[.int .u32 0, .int .u32 0, .int .i64 0, .int .u32 0, .int .i64 0, .int .u32 0, .int .u32 0]) xi16 xd16 (w_some xg16 (by kernel_rfl) e214_16 rfl) (fun w hw => run_l41 xp16 e20_16 ((hw.cell (p := ⟨xb, 0, none⟩) hxb).trans cx0) ((hw.cell (p := ⟨xb, 1, none⟩) hxb).trans cx1) ((hw.cell (p := ⟨xb, 2, none⟩) hxb).trans cx2) ((hw.cell (p := ⟨xb, 3, none⟩) hxb).trans cx3) ((hw.cell (p := ⟨xb, 4, none⟩) hxb).trans cx4) ((hw.cell (p := ⟨xb, 5, none⟩) hxb).trans cx5) ((hw.cell (p := ⟨xb, 6, none⟩) hxb).trans cx6)) ?_
  obtain ⟨ac17, hac17⟩ : ∃ x, ac16.put (some 215) (.agg #[.int .u32 0, .int .u32 0, .int .i64 0, .int .u32 0, .int .i64 0, .int .u32 0, .int .u32 0]) = x := ⟨_, rfl⟩
  rw [hac17]
  have e211_17 : ac17.eval (.tmp 211) = _ := hac17 ▸ ev_put e211_16 (by decide)
  have e214_17 : ac17.eval (.tmp 214) = _ := hac17 ▸ ev_put e214_16 (by decide)
  have e215_17 : ac17.eval (.tmp 215) = _ := hac17 ▸ ev_same (by rw [zz16]; decide)
  have zz17 : ac17.tmps.size = 287 := hac17 ▸ size_put zz16
  obtain ⟨xo17, xi17, xd17, xg17, xp17⟩ := q35_17
  refine qd_want (k := 17) (v := .agg #[.int .u32 0, .int .u32 0, .int .i64 0, .int .u32 0, .int .i64 0, .int .u32 0, .int .u32 0]) xi17 xd17 (w_some xg17 (by kernel_rfl) e214_17 rfl) (fun w _ => run_b41 xp17 w) ?_
  obtain ⟨ac18, hac18⟩ : ∃ x, ac17.put (some 216) (.agg #[.int .u32 0, .int .u32 0, .int .i64 0, .int .u32 0, .int .i64 0, .int .u32 0, .int .u32 0]) = x := ⟨_, rfl⟩
  rw [hac18]
  have e211_18 : ac18.eval (.tmp 211) = _ := hac18 ▸ ev_put e211_17 (by decide)
  have e214_18 : ac18.eval (.tmp 214) = _ := hac18 ▸ ev_put e214_17 (by decide)
  have e215_18 : ac18.eval (.tmp 215) = _ := hac18 ▸ ev_put e215_17 (by decide)
  have e216_18 : ac18.eval (.tmp 216) = _ := hac18 ▸ ev_same (by rw [zz17]; decide)
  have zz18 : ac18.tmps.size = 287 := hac18 ▸ size_put zz17
  obtain ⟨xo18, xi18, xd18, xg18, xp18⟩ := q35_18
  refine qd_want (k := 18) (v := .bool false) xi18 xd18 (w_some xg18 (by kernel_rfl) e214_18 rfl) (fun w _ => run_na41 xp18 e215_18 e216_18 w) ?_
  obtain ⟨ac19, hac19⟩ : ∃ x, ac18.put (some 217) (.bool false) = x := ⟨_, rfl⟩
  rw [hac19]
  have e211_19 : ac19.eval (.tmp 211) = _ := hac19 ▸ ev_put e211_18 (by decide)
  have e214_19 : ac19.eval (.tmp 214) = _ := hac19 ▸ ev_put e214_18 (by decide)
  have e217_19 : ac19.eval (.tmp 217) = _ := hac19 ▸ ev_same (by rw [zz18]; decide)
  have zz19 : ac19.tmps.size = 287 := hac19 ▸ size_put zz18
  obtain ⟨xo19, xi19, xd19, xg19, xp19⟩ := q35_19
  refine qd_want (k := 19) (v := .bool false) xi19 xd19 (w_some xg19 (by kernel_rfl) e211_19 rfl) (fun w _ => run_pick xp19 e214_19 (fun _ => e217_19) (fun q => by cases q) w) ?_
  obtain ⟨ac20, hac20⟩ : ∃ x, ac19.put (some 218) (.bool false) = x := ⟨_, rfl⟩
  rw [hac20]
  have e211_20 : ac20.eval (.tmp 211) = _ := hac20 ▸ ev_put e211_19 (by decide)
  have e218_20 : ac20.eval (.tmp 218) = _ := hac20 ▸ ev_same (by rw [zz19]; decide)
  have zz20 : ac20.tmps.size = 287 := hac20 ▸ size_put zz19
  obtain ⟨xo20, xi20, xd20, xg20, xp20⟩ := q35_20
  refine qd_want (k := 20) (v := .bool false) xi20 xd20 (w_none xg20) (fun w _ => run_pick xp20 e211_20 (fun q => by cases q) (fun _ => e218_20) w) ?_
  obtain ⟨ac21, hac21⟩ : ∃ x, ac20.put (some 219) (.bool false) = x := ⟨_, rfl⟩
  rw [hac21]
  have zz21 : ac21.tmps.size = 287 := hac21 ▸ size_put zz20
  refine qd_end (k := 21) (by kernel_rfl) ?_
  intro w' hw
  subst hac21 hac20 hac19 hac18 hac17 hac16 hac15 hac14 hac13 hac12 hac11 hac10 hac9 hac8 hac7 hac6 hac5 hac4 hac3 hac2 hac1
  exact hk w' hw
set_option maxRecDepth 100000 in
set_option maxHeartbeats 4000000 in
theorem reg35b {u0 u1 u2 u3 u4 u5 u6 u7 u8 u9 u10 u11 u12 u13 u14 u15 u16 u17 u18 u19 u22 u24 u25 u26 u27 u28 u29 u30 u31 u32 u33 u34 u35 u36 u37 u38 u39 u40 u41 u42 u43 u44 u45 u46 u47 u48 u49 u50 u51 u52 u53 u54 u55 u56 u57 u58 u59 u60 u61 u62 u63 u64 u65 u66 u67 u68 u69 u70 u71 u72 u73 u74 u75 u76 u77 u78 u79 u80 u81 u82 u83 u84 u85 u86 u87 u88 u89 u90 u91 u92 u93 u94 u95 u96 u97 u98 u99 u100 u101 u102 u103 u104 u105 u106 u107 u108 u109 u110 u111 u112 u113 u114 u115 u116 u117 u118 u119 u120 u121 u122 u123 u124 u125 u126 u127 u128 u129 u130 u131 u132 u133 u134 u135 u136 u137 u138 u139 u140 u141 u142 u143 u144 u145 u146 u147 u148 u149 u150 u151 u152 u153 u154 u155 u156 u157 u158 u159 u160 u161 u162 u163 u164 u165 u166 u167 u168 u169 u170 u171 u172 u173 u174 u175 u176 u177 u178 u179 u180 u181 u182 u183 u184 u185 u186 u187 u188 u189 u190 u191 u192 u193 u194 u195 u196 u197 u198 u199 u200 u201 u202 u203 u204 u205 u206 u207 u208 u209 u210 u211 u212 u213 u214 u215 u216 u217 u218 u219 u220 u221 u222 u223 u224 u225 u226 u227 u228 u229 u230 u231 u232 u233 u234 u235 u236 u237 u238 u239 u240 u241 u242 u243 u244 u245 u246 u247 u248 u249 u250 u251 u252 u253 u254 u255 u256 u257 u258 u259 u260 u261 u262 u263 u264 u265 u266 u267 u268 u269 u270 u271 u272 u273 u274 u275 u276 u277 u278 u279 u280 u281 u282 u283 u284 u285 u286 : Value} {ds : List Deferred} (xb : Nat) (W0 : World) (hxb : xb < W0.heap.size) (cx0 : W0.cell? ⟨xb, 0, none⟩ = some (.int .u32 0)) (cx1 : W0.cell? ⟨xb, 1, none⟩ = some (.int .u32 0)) (cx2 : W0.cell? ⟨xb, 2, none⟩ = some (.int .i64 0)) (cx3 : W0.cell? ⟨xb, 3, none⟩ = some (.int .u32 0)) (cx4 : W0.cell? ⟨xb, 4, none⟩ = some (.int .i64 0)) (cx5 : W0.cell? ⟨xb, 5, none⟩ = some (.int .u32 0)) (cx6 : W0.cell? ⟨xb, 6, none⟩ = some (.int .u32 0))  {K : Act → World → Prop} (hk : ∀ (t199 t200 t201 t202 t203 t204 t205 t206 t207 t208 t209 t210 t211 t212 t213 t214 t215 t216 t217 t218 : Value) (y : World), Below W0.heap.size W0 y → K ⟨#[u0, u1, u2, u3, u4, u5, u6, u7, u8, u9, u10, u11, u12, u13, u14, u15, u16, u17, u18, u19, .pointer (some ⟨xb, 0, none⟩), .bool false, u22, .bool false, u24, u25, u26, u27, u28, u29, u30, u31, u32, u33, u34, u35, u36, u37, u38, u39, u40, u41, u42, u43, u44, u45, u46, u47, u48, u49, u50, u51, u52, u53, u54, u55, u56, u57, u58, u59, u60, u61, u62, u63, u64, u65, u66, u67, u68, u69, u70, u71, u72, u73, u74, u75, u76, u77, u78, u79, u80, u81, u82, u83, u84, u85, u86, u87, u88, u89, u90, u91, u92, u93, u94, u95, u96, u97, u98, u99, u100, u101, u102, u103, u104, u105, u106, u107, u108, u109, u110, u111, u112, u113, u114, u115, u116, u117, u118, u119, u120, u121, u122, u123, u124, u125, u126, u127, u128, u129, u130, u131, u132, u133, u134, u135, u136, u137, u138, u139, u140, u141, u142, u143, u144, u145, u146, u147, u148, u149, u150, u151, u152, u153, u154, u155, u156, u157, u158, u159, u160, u161, u162, u163, u164, u165, u166, u167, u168, u169, u170, u171, u172, u173, u174, u175, u176, u177, u178, u179, u180, u181, u182, u183, u184, u185, u186, u187, u188, u189, u190, u191, u192, u193, u194, u195, u196, u197, u198, t199, t200, t201, t202, t203, t204, t205, t206, t207, t208, t209, t210, t211, t212, t213, t214, t215, t216, t217, t218, .bool false, u220, u221, u222, u223, u224, u225, u226, u227, u228, u229, u230, u231, u232, u233, u234, u235, u236, u237, u238, u239, u240, u241, u242, u243, u244, u245, u246, u247, u248, u249, u250, u251, u252, u253, u254, u255, u256, u257, u258, u259, u260, u261, u262, u263, u264, u265, u266, u267, u268, u269, u270, u271, u272, u273, u274, u275, u276, u277, u278, u279, u280, u281, u282, u283, u284, u285, u286], ds⟩ y) : (regIn Tryz.f3.body 35).wp Tryz.prog (Exit.then K NoX) ⟨#[u0, u1, u2, u3, u4, u5, u6, u7, u8, u9, u10, u11, u12, u13, u14, u15, u16, u17, u18, u19, .pointer (some ⟨xb, 0, none⟩), .bool false, u22, .bool false, u24, u25, u26, u27, u28, u29, u30, u31, u32, u33, u34, u35, u36, u37, u38, u39, u40, u41, u42, u43, u44, u45, u46, u47, u48, u49, u50, u51, u52, u53, u54, u55, u56, u57, u58, u59, u60, u61, u62, u63, u64, u65, u66, u67, u68, u69, u70, u71, u72, u73, u74, u75, u76, u77, u78, u79, u80, u81, u82, u83, u84, u85, u86, u87, u88, u89, u90, u91, u92, u93, u94, u95, u96, u97, u98, u99, u100, u101, u102, u103, u104, u105, u106, u107, u108, u109, u110, u111, u112, u113, u114, u115, u116, u117, u118, u119, u120, u121, u122, u123, u124, u125, u126, u127, u128, u129, u130, u131, u132, u133, u134, u135, u136, u137, u138, u139, u140, u141, u142, u143, u144, u145, u146, u147, u148, u149, u150, u151, u152, u153, u154, u155, u156, u157, u158, u159, u160, u161, u162, u163, u164, u165, u166, u167, u168, u169, u170, u171, u172, u173, u174, u175, u176, u177, u178, u179, u180, u181, u182, u183, u184, u185, u186, u187, u188, u189, u190, u191, u192, u193, u194, u195, u196, u197, u198, u199, u200, u201, u202, u203, u204, u205, u206, u207, u208, u209, u210, u211, u212, u213, u214, u215, u216, u217, u218, u219, u220, u221, u222, u223, u224, u225, u226, u227, u228, u229, u230, u231, u232, u233, u234, u235, u236, u237, u238, u239, u240, u241, u242, u243, u244, u245, u246, u247, u248, u249, u250, u251, u252, u253, u254, u255, u256, u257, u258, u259, u260, u261, u262, u263, u264, u265, u266, u267, u268, u269, u270, u271, u272, u273, u274, u275, u276, u277, u278, u279, u280, u281, u282, u283, u284, u285, u286], ds⟩ W0 := by
  refine r35b xb W0 _ rfl rfl rfl rfl hxb cx0 cx1 cx2 cx3 cx4 cx5 cx6  (fun y hy => ?_)
  have h := hk (.bool false) (.bool false) (.bool false) (.bool false) (.bool false) (.bool false) (undef) (undef) (undef) (undef) (.bool false) (.bool false) (.bool false) (.bool false) (.bool true) (.bool true) (.agg #[.int .u32 0, .int .u32 0, .int .i64 0, .int .u32 0, .int .i64 0, .int .u32 0, .int .u32 0]) (.agg #[.int .u32 0, .int .u32 0, .int .i64 0, .int .u32 0, .int .i64 0, .int .u32 0, .int .u32 0]) (.bool false) (.bool false) y hy
  exact Eq.mpr (by kernel_rfl) h
end Go.Proofs.YtengofkjlgajlaaGreatDoor
