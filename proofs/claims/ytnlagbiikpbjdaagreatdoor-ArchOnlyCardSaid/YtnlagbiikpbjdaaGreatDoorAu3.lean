import Derived.Test.YtnlagbiikpbjdaaGreatDoorAu1
/-
  ArchOnly: its tests, step by step.
-/
namespace Go.Proofs.YtnlagbiikpbjdaaGreatDoor
open Go Go.RowKit
theorem drop_at {ops : Array Oper} {k : Nat} {o : Oper} (hk : ops[k]? = some o) : ops.toList.drop k = o :: ops.toList.drop (k + 1) := by
  obtain ⟨h, e⟩ := Array.getElem?_eq_some_iff.1 hk
  rw [List.drop_eq_getElem_cons (by simpa using h)]
  rw [Array.getElem_toList, e]
section
variable {P : Program} {ops : Array Oper} {a : Act} {k s : Nat} {o : Oper} {v : Value}
theorem w_none (hg : o.guard = none) : Region.wanted o (yielded ops a.tmps) = true := by
  unfold Region.wanted
  rw [hg]
theorem w_some {j t : Nat} {b want r : Bool} (hg : o.guard = some (j, want)) (hj : (ops[j]?).bind (·.dst) = some t) (he : a.eval (.tmp t) = .bool b) (hr : (b == want) = r) : Region.wanted o (yielded ops a.tmps) = r := by
  have h : a.tmps[t]? = some (.bool b) := by
    have he : a.tmps.getD t undef = .bool b := he
    rw [Array.getD_eq_getD_getElem?] at he
    cases hh : a.tmps[t]? with
    | none => rw [hh] at he; cases he
    | some u => rw [hh] at he; exact congrArg some he
  unfold Region.wanted yielded
  rw [hg]
  simp only [hj, Option.bind_some, h]
  rw [← hr]
  cases b <;> cases want <;> rfl
theorem w_undef {j t : Nat} {want : Bool} (hg : o.guard = some (j, want)) (hj : (ops[j]?).bind (·.dst) = some t) (he : a.eval (.tmp t) = undef) : Region.wanted o (yielded ops a.tmps) = false := by
  have he : a.tmps.getD t undef = undef := he
  rw [Array.getD_eq_getD_getElem?] at he
  unfold Region.wanted yielded
  rw [hg]
  simp only [hj, Option.bind_some]
  cases hh : a.tmps[t]? with
  | none => cases want <;> rfl
  | some u =>
    rw [hh] at he
    have he : u = undef := he
    subst he
    cases want <;> rfl
variable {R : Exit → Act → World → Prop} {w w' : World}
theorem pd_want (hk : ops[k]? = some o) (hd : o.dst = some s) (hw : Region.wanted o (yielded ops a.tmps) = true) (hq : (execOp a.eval o).run P w = .ok (.value v) w') (h : wpList P ops R (ops.toList.drop (k + 1)) (a.put (some s) v) w') : wpList P ops R (ops.toList.drop k) a w := by
  rw [drop_at hk]
  unfold wpList
  rw [if_pos hw]
  refine Or.inl ?_
  unfold Oper.wp
  rw [hq]
  simp only [Oper.upon]
  rw [hd]
  exact h
theorem pd_store (hk : ops[k]? = some o) (hd : o.dst = none) (hw : Region.wanted o (yielded ops a.tmps) = true) (hq : (execOp a.eval o).run P w = .ok .skip w') (h : wpList P ops R (ops.toList.drop (k + 1)) a w') : wpList P ops R (ops.toList.drop k) a w := by
  rw [drop_at hk]
  unfold wpList
  rw [if_pos hw]
  refine Or.inl ?_
  unfold Oper.wp
  rw [hq]
  simp only [Oper.upon]
  rw [hd]
  exact h
theorem pd_end (hk : ops.size = k) (h : R .normal a w) : wpList P ops R (ops.toList.drop k) a w := by
  rw [List.drop_eq_nil_of_le (by simp [hk])]
  exact h
theorem pd_skip (hk : ops[k]? = some o) (hd : o.dst = some s) (hw : Region.wanted o (yielded ops a.tmps) = false) (h : wpList P ops R (ops.toList.drop (k + 1)) (a.put (some s) undef) w) : wpList P ops R (ops.toList.drop k) a w := by
  rw [drop_at hk]
  unfold wpList
  rw [if_neg (by rw [hw]; exact Bool.false_ne_true), hd]
  exact h
theorem run_assign {x : Operand} (ho : o.op = .assign x) (hx : a.eval x = v) (w : World) : (execOp a.eval o).run P w = .ok (.value v) w := by
  unfold execOp
  simp only [ho, hx, Sem.run_pure]
theorem run_pick {x y z : Operand} {b : Bool} (ho : o.op = .pick x y z) (hx : a.eval x = .bool b) (hy : b = true → a.eval y = v) (hz : b = false → a.eval z = v) (w : World) : (execOp a.eval o).run P w = .ok (.value v) w := by
  unfold execOp
  simp only [ho, hx]
  cases b
  · obtain rfl := hz rfl
    go_simp
  · obtain rfl := hy rfl
    go_simp
end
section
variable {a : Act} {o : Oper} {x y : Operand}
theorem run_x0 {b : Nat} (ho : o.op = .fieldAddr 41 x 0) (hx : a.eval x = .pointer (some ⟨b, 0, none⟩)) (w : World) : (execOp a.eval o).run Tryz.prog w = .ok (.value (.pointer (some ⟨b, 0, none⟩))) w := by
  unfold execOp
  simp only [ho, hx]
  go_simp
theorem run_x1 {b : Nat} (ho : o.op = .fieldAddr 41 x 1) (hx : a.eval x = .pointer (some ⟨b, 0, none⟩)) (w : World) : (execOp a.eval o).run Tryz.prog w = .ok (.value (.pointer (some ⟨b, 1, none⟩))) w := by
  unfold execOp
  simp only [ho, hx]
  go_simp
theorem run_x2 {b : Nat} (ho : o.op = .fieldAddr 41 x 2) (hx : a.eval x = .pointer (some ⟨b, 0, none⟩)) (w : World) : (execOp a.eval o).run Tryz.prog w = .ok (.value (.pointer (some ⟨b, 2, none⟩))) w := by
  unfold execOp
  simp only [ho, hx]
  go_simp
theorem run_x3 {b : Nat} (ho : o.op = .fieldAddr 41 x 3) (hx : a.eval x = .pointer (some ⟨b, 0, none⟩)) (w : World) : (execOp a.eval o).run Tryz.prog w = .ok (.value (.pointer (some ⟨b, 3, none⟩))) w := by
  unfold execOp
  simp only [ho, hx]
  go_simp
theorem run_x4 {b : Nat} (ho : o.op = .fieldAddr 41 x 4) (hx : a.eval x = .pointer (some ⟨b, 0, none⟩)) (w : World) : (execOp a.eval o).run Tryz.prog w = .ok (.value (.pointer (some ⟨b, 4, none⟩))) w := by
  unfold execOp
  simp only [ho, hx]
  go_simp
theorem run_x6 {b : Nat} (ho : o.op = .fieldAddr 41 x 6) (hx : a.eval x = .pointer (some ⟨b, 0, none⟩)) (w : World) : (execOp a.eval o).run Tryz.prog w = .ok (.value (.pointer (some ⟨b, 6, none⟩))) w := by
  unfold execOp
  simp only [ho, hx]
  go_simp
theorem run_l33 {p : Addr} {i : Int} {w : World} (ho : o.op = .load 33 x) (hx : a.eval x = .pointer (some p)) (hc : w.cell? p = some (.int .u32 i)) : (execOp a.eval o).run Tryz.prog w = .ok (.value (.int .u32 i)) w := by
  unfold execOp
  simp only [ho, hx]
  go_simp
theorem run_l3 {p : Addr} {i : Int} {w : World} (ho : o.op = .load 3 x) (hx : a.eval x = .pointer (some p)) (hc : w.cell? p = some (.int .i64 i)) : (execOp a.eval o).run Tryz.prog w = .ok (.value (.int .i64 i)) w := by
  unfold execOp
  simp only [ho, hx]
  go_simp
theorem run_ix {b i : Nat} (ho : o.op = .indexAddr 56 x y) (hx : a.eval x = .pointer (some ⟨b, 0, none⟩)) (hy : a.eval y = .int .i64 i) (hi : i < 32) (w : World) : (execOp a.eval o).run Tryz.prog w = .ok (.value (.pointer (some ⟨b, i, none⟩))) w := by
  have hi' : (i : Int) < 32 := by omega
  unfold execOp
  simp only [ho, hx, hy]
  go_simp
theorem run_ne33 {p q : Int} {r : Bool} {t2 : TypeId} (ho : o.op = .binOp .neq 33 x y t2) (hx : a.eval x = .int .u32 p) (hy : a.eval y = .int .u32 q) (hr : (p != q) = r) (w : World) : (execOp a.eval o).run Tryz.prog w = .ok (.value (.bool r)) w := by
  subst hr
  unfold execOp
  simp only [ho, hx, hy]
  go_simp
theorem run_eq33 {p q : Int} {r : Bool} {t2 : TypeId} (ho : o.op = .binOp .eql 33 x y t2) (hx : a.eval x = .int .u32 p) (hy : a.eval y = .int .u32 q) (hr : (p == q) = r) (w : World) : (execOp a.eval o).run Tryz.prog w = .ok (.value (.bool r)) w := by
  subst hr
  unfold execOp
  simp only [ho, hx, hy]
  go_simp
theorem run_ne3 {p q : Int} {r : Bool} {t2 : TypeId} (ho : o.op = .binOp .neq 3 x y t2) (hx : a.eval x = .int .i64 p) (hy : a.eval y = .int .i64 q) (hr : (p != q) = r) (w : World) : (execOp a.eval o).run Tryz.prog w = .ok (.value (.bool r)) w := by
  subst hr
  unfold execOp
  simp only [ho, hx, hy]
  go_simp
theorem run_eq3 {p q : Int} {r : Bool} {t2 : TypeId} (ho : o.op = .binOp .eql 3 x y t2) (hx : a.eval x = .int .i64 p) (hy : a.eval y = .int .i64 q) (hr : (p == q) = r) (w : World) : (execOp a.eval o).run Tryz.prog w = .ok (.value (.bool r)) w := by
  subst hr
  unfold execOp
  simp only [ho, hx, hy]
  go_simp
theorem run_add33 {p q r : Int} {t2 : TypeId} (ho : o.op = .binOp .add 33 x y t2) (hx : a.eval x = .int .u32 p) (hy : a.eval y = .int .u32 q) (hr : (p + q) % 4294967296 = r) (w : World) : (execOp a.eval o).run Tryz.prog w = .ok (.value (.int .u32 r)) w := by
  subst hr
  unfold execOp
  simp only [ho, hx, hy]
  go_simp
  try rfl
end
theorem q29_0 : ∃ o, (opsIn (regIn Tryz.f4.body 29))[0]? = some o ∧ o.dst = some 106 ∧ o.guard = none ∧ o.op = .fieldAddr 41 (.tmp 18) 0 := ⟨_, rfl, rfl, rfl, rfl⟩
theorem q29_1 : ∃ o, (opsIn (regIn Tryz.f4.body 29))[1]? = some o ∧ o.dst = some 107 ∧ o.guard = none ∧ o.op = .load 33 (.tmp 106) := ⟨_, rfl, rfl, rfl, rfl⟩
theorem q29_2 : ∃ o, (opsIn (regIn Tryz.f4.body 29))[2]? = some o ∧ o.dst = some 108 ∧ o.guard = none ∧ o.op = .move (.tmp 17) := ⟨_, rfl, rfl, rfl, rfl⟩
theorem q29_3 : ∃ o, (opsIn (regIn Tryz.f4.body 29))[3]? = some o ∧ o.dst = some 109 ∧ o.guard = none ∧ o.op = .binOp .neq 33 (.tmp 107) (.tmp 108) 33 := ⟨_, rfl, rfl, rfl, rfl⟩
theorem q29_4 : ∃ o, (opsIn (regIn Tryz.f4.body 29))[4]? = some o ∧ o.dst = some 110 ∧ o.guard = none ∧ o.op = .move (.tmp 109) := ⟨_, rfl, rfl, rfl, rfl⟩
theorem q29_5 : ∃ o, (opsIn (regIn Tryz.f4.body 29))[5]? = some o ∧ o.dst = some 111 ∧ o.guard = some (4, false) ∧ o.op = .fieldAddr 41 (.tmp 18) 6 := ⟨_, rfl, rfl, rfl, rfl⟩
theorem q29_6 : ∃ o, (opsIn (regIn Tryz.f4.body 29))[6]? = some o ∧ o.dst = some 112 ∧ o.guard = some (4, false) ∧ o.op = .load 33 (.tmp 111) := ⟨_, rfl, rfl, rfl, rfl⟩
theorem q29_7 : ∃ o, (opsIn (regIn Tryz.f4.body 29))[7]? = some o ∧ o.dst = some 113 ∧ o.guard = some (4, false) ∧ o.op = .move (.tmp 20) := ⟨_, rfl, rfl, rfl, rfl⟩
theorem q29_8 : ∃ o, (opsIn (regIn Tryz.f4.body 29))[8]? = some o ∧ o.dst = some 114 ∧ o.guard = some (4, false) ∧ o.op = .binOp .neq 33 (.tmp 112) (.tmp 113) 33 := ⟨_, rfl, rfl, rfl, rfl⟩
theorem q29_9 : ∃ o, (opsIn (regIn Tryz.f4.body 29))[9]? = some o ∧ o.dst = some 115 ∧ o.guard = none ∧ o.op = .pick (.tmp 110) (.const (.bool true)) (.tmp 114) := ⟨_, rfl, rfl, rfl, rfl⟩
theorem q29_10 : ∃ o, (opsIn (regIn Tryz.f4.body 29))[10]? = some o ∧ o.dst = some 116 ∧ o.guard = none ∧ o.op = .move (.tmp 115) := ⟨_, rfl, rfl, rfl, rfl⟩
theorem q29_11 : ∃ o, (opsIn (regIn Tryz.f4.body 29))[11]? = some o ∧ o.dst = some 117 ∧ o.guard = some (10, false) ∧ o.op = .indexAddr 56 (.tmp 15) (.const (.int .i64 0)) := ⟨_, rfl, rfl, rfl, rfl⟩
theorem q29_12 : ∃ o, (opsIn (regIn Tryz.f4.body 29))[12]? = some o ∧ o.dst = some 118 ∧ o.guard = some (10, false) ∧ o.op = .load 33 (.tmp 117) := ⟨_, rfl, rfl, rfl, rfl⟩
theorem q29_13 : ∃ o, (opsIn (regIn Tryz.f4.body 29))[13]? = some o ∧ o.dst = some 119 ∧ o.guard = some (10, false) ∧ o.op = .binOp .neq 33 (.tmp 118) (.const (.int .u32 0)) 33 := ⟨_, rfl, rfl, rfl, rfl⟩
theorem q29_14 : ∃ o, (opsIn (regIn Tryz.f4.body 29))[14]? = some o ∧ o.dst = some 120 ∧ o.guard = none ∧ o.op = .pick (.tmp 116) (.const (.bool true)) (.tmp 119) := ⟨_, rfl, rfl, rfl, rfl⟩
theorem q29_15 : ∃ o, (opsIn (regIn Tryz.f4.body 29))[15]? = some o ∧ o.dst = some 121 ∧ o.guard = none ∧ o.op = .move (.tmp 120) := ⟨_, rfl, rfl, rfl, rfl⟩
theorem q29_16 : ∃ o, (opsIn (regIn Tryz.f4.body 29))[16]? = some o ∧ o.dst = some 122 ∧ o.guard = some (15, false) ∧ o.op = .fieldAddr 41 (.tmp 18) 2 := ⟨_, rfl, rfl, rfl, rfl⟩
theorem q29_17 : ∃ o, (opsIn (regIn Tryz.f4.body 29))[17]? = some o ∧ o.dst = some 123 ∧ o.guard = some (15, false) ∧ o.op = .load 3 (.tmp 122) := ⟨_, rfl, rfl, rfl, rfl⟩
theorem q29_18 : ∃ o, (opsIn (regIn Tryz.f4.body 29))[18]? = some o ∧ o.dst = some 124 ∧ o.guard = some (15, false) ∧ o.op = .binOp .eql 3 (.tmp 123) (.const (.int .i64 0)) 3 := ⟨_, rfl, rfl, rfl, rfl⟩
theorem q29_19 : ∃ o, (opsIn (regIn Tryz.f4.body 29))[19]? = some o ∧ o.dst = some 125 ∧ o.guard = some (15, false) ∧ o.op = .move (.tmp 124) := ⟨_, rfl, rfl, rfl, rfl⟩
theorem q29_20 : ∃ o, (opsIn (regIn Tryz.f4.body 29))[20]? = some o ∧ o.dst = some 126 ∧ o.guard = some (19, true) ∧ o.op = .fieldAddr 41 (.tmp 18) 3 := ⟨_, rfl, rfl, rfl, rfl⟩
theorem q29_21 : ∃ o, (opsIn (regIn Tryz.f4.body 29))[21]? = some o ∧ o.dst = some 127 ∧ o.guard = some (19, true) ∧ o.op = .load 33 (.tmp 126) := ⟨_, rfl, rfl, rfl, rfl⟩
theorem q29_22 : ∃ o, (opsIn (regIn Tryz.f4.body 29))[22]? = some o ∧ o.dst = some 128 ∧ o.guard = some (19, true) ∧ o.op = .binOp .neq 33 (.tmp 127) (.const (.int .u32 0)) 33 := ⟨_, rfl, rfl, rfl, rfl⟩
theorem q29_23 : ∃ o, (opsIn (regIn Tryz.f4.body 29))[23]? = some o ∧ o.dst = some 129 ∧ o.guard = some (15, false) ∧ o.op = .pick (.tmp 125) (.tmp 128) (.const (.bool false)) := ⟨_, rfl, rfl, rfl, rfl⟩
theorem q29_24 : ∃ o, (opsIn (regIn Tryz.f4.body 29))[24]? = some o ∧ o.dst = some 130 ∧ o.guard = none ∧ o.op = .pick (.tmp 121) (.const (.bool true)) (.tmp 129) := ⟨_, rfl, rfl, rfl, rfl⟩
theorem q29_25 : ∃ o, (opsIn (regIn Tryz.f4.body 29))[25]? = some o ∧ o.dst = some 131 ∧ o.guard = none ∧ o.op = .move (.tmp 130) := ⟨_, rfl, rfl, rfl, rfl⟩
theorem q29_26 : ∃ o, (opsIn (regIn Tryz.f4.body 29))[26]? = some o ∧ o.dst = some 132 ∧ o.guard = some (25, false) ∧ o.op = .fieldAddr 41 (.tmp 18) 4 := ⟨_, rfl, rfl, rfl, rfl⟩
theorem q29_27 : ∃ o, (opsIn (regIn Tryz.f4.body 29))[27]? = some o ∧ o.dst = some 133 ∧ o.guard = some (25, false) ∧ o.op = .load 3 (.tmp 132) := ⟨_, rfl, rfl, rfl, rfl⟩
theorem q29_28 : ∃ o, (opsIn (regIn Tryz.f4.body 29))[28]? = some o ∧ o.dst = some 134 ∧ o.guard = some (25, false) ∧ o.op = .binOp .neq 3 (.tmp 133) (.const (.int .i64 (-1))) 3 := ⟨_, rfl, rfl, rfl, rfl⟩
theorem q29_29 : ∃ o, (opsIn (regIn Tryz.f4.body 29))[29]? = some o ∧ o.dst = some 135 ∧ o.guard = some (25, false) ∧ o.op = .move (.tmp 134) := ⟨_, rfl, rfl, rfl, rfl⟩
theorem q29_30 : ∃ o, (opsIn (regIn Tryz.f4.body 29))[30]? = some o ∧ o.dst = some 136 ∧ o.guard = some (29, true) ∧ o.op = .fieldAddr 41 (.tmp 18) 2 := ⟨_, rfl, rfl, rfl, rfl⟩
theorem q29_31 : ∃ o, (opsIn (regIn Tryz.f4.body 29))[31]? = some o ∧ o.dst = some 137 ∧ o.guard = some (29, true) ∧ o.op = .load 3 (.tmp 136) := ⟨_, rfl, rfl, rfl, rfl⟩
theorem q29_32 : ∃ o, (opsIn (regIn Tryz.f4.body 29))[32]? = some o ∧ o.dst = some 138 ∧ o.guard = some (29, true) ∧ o.op = .binOp .neq 3 (.tmp 137) (.const (.int .i64 0)) 3 := ⟨_, rfl, rfl, rfl, rfl⟩
theorem q29_33 : ∃ o, (opsIn (regIn Tryz.f4.body 29))[33]? = some o ∧ o.dst = some 139 ∧ o.guard = some (25, false) ∧ o.op = .pick (.tmp 135) (.tmp 138) (.const (.bool false)) := ⟨_, rfl, rfl, rfl, rfl⟩
theorem q29_34 : ∃ o, (opsIn (regIn Tryz.f4.body 29))[34]? = some o ∧ o.dst = some 140 ∧ o.guard = none ∧ o.op = .pick (.tmp 131) (.const (.bool true)) (.tmp 139) := ⟨_, rfl, rfl, rfl, rfl⟩
theorem q35_0 : ∃ o, (opsIn (regIn Tryz.f4.body 35))[0]? = some o ∧ o.dst = some 148 ∧ o.guard = none ∧ o.op = .move (.tmp 21) := ⟨_, rfl, rfl, rfl, rfl⟩
theorem q35_1 : ∃ o, (opsIn (regIn Tryz.f4.body 35))[1]? = some o ∧ o.dst = some 149 ∧ o.guard = none ∧ o.op = .fieldAddr 41 (.tmp 18) 2 := ⟨_, rfl, rfl, rfl, rfl⟩
theorem q35_2 : ∃ o, (opsIn (regIn Tryz.f4.body 35))[2]? = some o ∧ o.dst = some 150 ∧ o.guard = none ∧ o.op = .load 3 (.tmp 149) := ⟨_, rfl, rfl, rfl, rfl⟩
theorem q35_3 : ∃ o, (opsIn (regIn Tryz.f4.body 35))[3]? = some o ∧ o.dst = some 151 ∧ o.guard = none ∧ o.op = .binOp .eql 3 (.tmp 148) (.tmp 150) 3 := ⟨_, rfl, rfl, rfl, rfl⟩
theorem q35_4 : ∃ o, (opsIn (regIn Tryz.f4.body 35))[4]? = some o ∧ o.dst = some 152 ∧ o.guard = none ∧ o.op = .move (.tmp 151) := ⟨_, rfl, rfl, rfl, rfl⟩
theorem q35_5 : ∃ o, (opsIn (regIn Tryz.f4.body 35))[5]? = some o ∧ o.dst = some 153 ∧ o.guard = some (4, true) ∧ o.op = .move (.tmp 22) := ⟨_, rfl, rfl, rfl, rfl⟩
theorem q35_6 : ∃ o, (opsIn (regIn Tryz.f4.body 35))[6]? = some o ∧ o.dst = some 154 ∧ o.guard = some (4, true) ∧ o.op = .fieldAddr 41 (.tmp 18) 3 := ⟨_, rfl, rfl, rfl, rfl⟩
theorem q35_7 : ∃ o, (opsIn (regIn Tryz.f4.body 35))[7]? = some o ∧ o.dst = some 155 ∧ o.guard = some (4, true) ∧ o.op = .load 33 (.tmp 154) := ⟨_, rfl, rfl, rfl, rfl⟩
theorem q35_8 : ∃ o, (opsIn (regIn Tryz.f4.body 35))[8]? = some o ∧ o.dst = some 156 ∧ o.guard = some (4, true) ∧ o.op = .binOp .neq 33 (.tmp 153) (.tmp 155) 33 := ⟨_, rfl, rfl, rfl, rfl⟩
theorem q35_9 : ∃ o, (opsIn (regIn Tryz.f4.body 35))[9]? = some o ∧ o.dst = some 157 ∧ o.guard = none ∧ o.op = .pick (.tmp 152) (.tmp 156) (.const (.bool false)) := ⟨_, rfl, rfl, rfl, rfl⟩
theorem q35_10 : ∃ o, (opsIn (regIn Tryz.f4.body 35))[10]? = some o ∧ o.dst = some 158 ∧ o.guard = none ∧ o.op = .move (.tmp 157) := ⟨_, rfl, rfl, rfl, rfl⟩
theorem q35_11 : ∃ o, (opsIn (regIn Tryz.f4.body 35))[11]? = some o ∧ o.dst = some 159 ∧ o.guard = some (10, false) ∧ o.op = .move (.tmp 21) := ⟨_, rfl, rfl, rfl, rfl⟩
theorem q35_12 : ∃ o, (opsIn (regIn Tryz.f4.body 35))[12]? = some o ∧ o.dst = some 160 ∧ o.guard = some (10, false) ∧ o.op = .fieldAddr 41 (.tmp 18) 2 := ⟨_, rfl, rfl, rfl, rfl⟩
theorem q35_13 : ∃ o, (opsIn (regIn Tryz.f4.body 35))[13]? = some o ∧ o.dst = some 161 ∧ o.guard = some (10, false) ∧ o.op = .load 3 (.tmp 160) := ⟨_, rfl, rfl, rfl, rfl⟩
theorem q35_14 : ∃ o, (opsIn (regIn Tryz.f4.body 35))[14]? = some o ∧ o.dst = some 162 ∧ o.guard = some (10, false) ∧ o.op = .binOp .neq 3 (.tmp 159) (.tmp 161) 3 := ⟨_, rfl, rfl, rfl, rfl⟩
theorem q35_15 : ∃ o, (opsIn (regIn Tryz.f4.body 35))[15]? = some o ∧ o.dst = some 163 ∧ o.guard = some (10, false) ∧ o.op = .move (.tmp 162) := ⟨_, rfl, rfl, rfl, rfl⟩
theorem q35_16 : ∃ o, (opsIn (regIn Tryz.f4.body 35))[16]? = some o ∧ o.dst = some 164 ∧ o.guard = some (15, true) ∧ o.op = .move (.tmp 22) := ⟨_, rfl, rfl, rfl, rfl⟩
theorem q35_17 : ∃ o, (opsIn (regIn Tryz.f4.body 35))[17]? = some o ∧ o.dst = some 165 ∧ o.guard = some (15, true) ∧ o.op = .move (.tmp 21) := ⟨_, rfl, rfl, rfl, rfl⟩
theorem q35_18 : ∃ o, (opsIn (regIn Tryz.f4.body 35))[18]? = some o ∧ o.dst = some 166 ∧ o.guard = some (15, true) ∧ o.op = .indexAddr 56 (.tmp 15) (.tmp 165) := ⟨_, rfl, rfl, rfl, rfl⟩
theorem q35_19 : ∃ o, (opsIn (regIn Tryz.f4.body 35))[19]? = some o ∧ o.dst = some 167 ∧ o.guard = some (15, true) ∧ o.op = .load 33 (.tmp 166) := ⟨_, rfl, rfl, rfl, rfl⟩
theorem q35_20 : ∃ o, (opsIn (regIn Tryz.f4.body 35))[20]? = some o ∧ o.dst = some 168 ∧ o.guard = some (15, true) ∧ o.op = .binOp .neq 33 (.tmp 164) (.tmp 167) 33 := ⟨_, rfl, rfl, rfl, rfl⟩
theorem q35_21 : ∃ o, (opsIn (regIn Tryz.f4.body 35))[21]? = some o ∧ o.dst = some 169 ∧ o.guard = some (10, false) ∧ o.op = .pick (.tmp 163) (.tmp 168) (.const (.bool false)) := ⟨_, rfl, rfl, rfl, rfl⟩
theorem q35_22 : ∃ o, (opsIn (regIn Tryz.f4.body 35))[22]? = some o ∧ o.dst = some 170 ∧ o.guard = none ∧ o.op = .pick (.tmp 158) (.const (.bool true)) (.tmp 169) := ⟨_, rfl, rfl, rfl, rfl⟩
theorem q38_0 : ∃ o, (opsIn (regIn Tryz.f4.body 38))[0]? = some o ∧ o.dst = some 174 ∧ o.guard = none ∧ o.op = .fieldAddr 41 (.tmp 18) 4 := ⟨_, rfl, rfl, rfl, rfl⟩
theorem q38_1 : ∃ o, (opsIn (regIn Tryz.f4.body 38))[1]? = some o ∧ o.dst = some 175 ∧ o.guard = none ∧ o.op = .load 3 (.tmp 174) := ⟨_, rfl, rfl, rfl, rfl⟩
theorem q38_2 : ∃ o, (opsIn (regIn Tryz.f4.body 38))[2]? = some o ∧ o.dst = some 176 ∧ o.guard = none ∧ o.op = .binOp .eql 3 (.tmp 175) (.const (.int .i64 (-1))) 3 := ⟨_, rfl, rfl, rfl, rfl⟩
theorem q38_3 : ∃ o, (opsIn (regIn Tryz.f4.body 38))[3]? = some o ∧ o.dst = some 177 ∧ o.guard = none ∧ o.op = .move (.tmp 176) := ⟨_, rfl, rfl, rfl, rfl⟩
theorem q38_4 : ∃ o, (opsIn (regIn Tryz.f4.body 38))[4]? = some o ∧ o.dst = some 178 ∧ o.guard = some (3, true) ∧ o.op = .move (.tmp 23) := ⟨_, rfl, rfl, rfl, rfl⟩
theorem q38_5 : ∃ o, (opsIn (regIn Tryz.f4.body 38))[5]? = some o ∧ o.dst = some 179 ∧ o.guard = some (3, true) ∧ o.op = .binOp .neq 33 (.tmp 178) (.const (.int .u32 111)) 33 := ⟨_, rfl, rfl, rfl, rfl⟩
theorem q38_6 : ∃ o, (opsIn (regIn Tryz.f4.body 38))[6]? = some o ∧ o.dst = some 180 ∧ o.guard = none ∧ o.op = .pick (.tmp 177) (.tmp 179) (.const (.bool false)) := ⟨_, rfl, rfl, rfl, rfl⟩
theorem q38_7 : ∃ o, (opsIn (regIn Tryz.f4.body 38))[7]? = some o ∧ o.dst = some 181 ∧ o.guard = none ∧ o.op = .move (.tmp 180) := ⟨_, rfl, rfl, rfl, rfl⟩
theorem q38_8 : ∃ o, (opsIn (regIn Tryz.f4.body 38))[8]? = some o ∧ o.dst = some 182 ∧ o.guard = some (7, true) ∧ o.op = .move (.tmp 23) := ⟨_, rfl, rfl, rfl, rfl⟩
theorem q38_9 : ∃ o, (opsIn (regIn Tryz.f4.body 38))[9]? = some o ∧ o.dst = some 183 ∧ o.guard = some (7, true) ∧ o.op = .binOp .neq 33 (.tmp 182) (.const (.int .u32 103)) 33 := ⟨_, rfl, rfl, rfl, rfl⟩
theorem q38_10 : ∃ o, (opsIn (regIn Tryz.f4.body 38))[10]? = some o ∧ o.dst = some 184 ∧ o.guard = none ∧ o.op = .pick (.tmp 181) (.tmp 183) (.const (.bool false)) := ⟨_, rfl, rfl, rfl, rfl⟩
theorem q38_11 : ∃ o, (opsIn (regIn Tryz.f4.body 38))[11]? = some o ∧ o.dst = some 185 ∧ o.guard = none ∧ o.op = .move (.tmp 184) := ⟨_, rfl, rfl, rfl, rfl⟩
theorem q38_12 : ∃ o, (opsIn (regIn Tryz.f4.body 38))[12]? = some o ∧ o.dst = some 186 ∧ o.guard = some (11, true) ∧ o.op = .move (.tmp 23) := ⟨_, rfl, rfl, rfl, rfl⟩
theorem q38_13 : ∃ o, (opsIn (regIn Tryz.f4.body 38))[13]? = some o ∧ o.dst = some 187 ∧ o.guard = some (11, true) ∧ o.op = .binOp .neq 33 (.tmp 186) (.const (.int .u32 99)) 33 := ⟨_, rfl, rfl, rfl, rfl⟩
theorem q38_14 : ∃ o, (opsIn (regIn Tryz.f4.body 38))[14]? = some o ∧ o.dst = some 188 ∧ o.guard = none ∧ o.op = .pick (.tmp 185) (.tmp 187) (.const (.bool false)) := ⟨_, rfl, rfl, rfl, rfl⟩
theorem q38_15 : ∃ o, (opsIn (regIn Tryz.f4.body 38))[15]? = some o ∧ o.dst = some 189 ∧ o.guard = none ∧ o.op = .move (.tmp 188) := ⟨_, rfl, rfl, rfl, rfl⟩
theorem q38_16 : ∃ o, (opsIn (regIn Tryz.f4.body 38))[16]? = some o ∧ o.dst = some 190 ∧ o.guard = some (15, true) ∧ o.op = .move (.tmp 23) := ⟨_, rfl, rfl, rfl, rfl⟩
theorem q38_17 : ∃ o, (opsIn (regIn Tryz.f4.body 38))[17]? = some o ∧ o.dst = some 191 ∧ o.guard = some (15, true) ∧ o.op = .binOp .neq 33 (.tmp 190) (.const (.int .u32 115)) 33 := ⟨_, rfl, rfl, rfl, rfl⟩
theorem q38_18 : ∃ o, (opsIn (regIn Tryz.f4.body 38))[18]? = some o ∧ o.dst = some 192 ∧ o.guard = none ∧ o.op = .pick (.tmp 189) (.tmp 191) (.const (.bool false)) := ⟨_, rfl, rfl, rfl, rfl⟩
theorem q38_19 : ∃ o, (opsIn (regIn Tryz.f4.body 38))[19]? = some o ∧ o.dst = some 193 ∧ o.guard = none ∧ o.op = .move (.tmp 192) := ⟨_, rfl, rfl, rfl, rfl⟩
theorem q38_20 : ∃ o, (opsIn (regIn Tryz.f4.body 38))[20]? = some o ∧ o.dst = some 194 ∧ o.guard = some (19, true) ∧ o.op = .move (.tmp 20) := ⟨_, rfl, rfl, rfl, rfl⟩
theorem q38_21 : ∃ o, (opsIn (regIn Tryz.f4.body 38))[21]? = some o ∧ o.dst = some 195 ∧ o.guard = some (19, true) ∧ o.op = .move (.tmp 17) := ⟨_, rfl, rfl, rfl, rfl⟩
theorem q38_22 : ∃ o, (opsIn (regIn Tryz.f4.body 38))[22]? = some o ∧ o.dst = some 196 ∧ o.guard = some (19, true) ∧ o.op = .binOp .add 33 (.tmp 195) (.const (.int .u32 4)) 33 := ⟨_, rfl, rfl, rfl, rfl⟩
theorem q38_23 : ∃ o, (opsIn (regIn Tryz.f4.body 38))[23]? = some o ∧ o.dst = some 197 ∧ o.guard = some (19, true) ∧ o.op = .binOp .neq 33 (.tmp 194) (.tmp 196) 33 := ⟨_, rfl, rfl, rfl, rfl⟩
theorem q38_24 : ∃ o, (opsIn (regIn Tryz.f4.body 38))[24]? = some o ∧ o.dst = some 198 ∧ o.guard = none ∧ o.op = .pick (.tmp 193) (.tmp 197) (.const (.bool false)) := ⟨_, rfl, rfl, rfl, rfl⟩
end Go.Proofs.YtnlagbiikpbjdaaGreatDoor
/-
  ArchOnly: its tests, way by way.
-/
namespace Go.Proofs.YtnlagbiikpbjdaaGreatDoor
open Go Go.RowKit
set_option maxRecDepth 100000 in
set_option maxHeartbeats 4000000 in
theorem r29a (pc val cause next : Int) (r xb nb : Nat) (W0 : World) (a : Act) (hs : a.tmps.size = 200) (h17 : a.eval (.tmp 17) = .int .u32 pc) (h20 : a.eval (.tmp 20) = .int .u32 next) (h15 : a.eval (.tmp 15) = .pointer (some ⟨nb, 0, none⟩)) (h18 : a.eval (.tmp 18) = .pointer (some ⟨xb, 0, none⟩)) (c0 : W0.cell? ⟨xb, 0, none⟩ = some (.int .u32 pc)) (c2 : W0.cell? ⟨xb, 2, none⟩ = some (.int .i64 r)) (c3 : W0.cell? ⟨xb, 3, none⟩ = some (.int .u32 val)) (c4 : W0.cell? ⟨xb, 4, none⟩ = some (.int .i64 cause)) (c6 : W0.cell? ⟨xb, 6, none⟩ = some (.int .u32 next)) (d0 : W0.cell? ⟨nb, 0, none⟩ = some (.int .u32 0)) (hr : ((r : Int) == 0) = true) (hv : (val != 0) = false) (hc : (cause != -1) = false) {K : Act → World → Prop} (hk : K ((((((((((((((((((((((((((((((((((((a).put (some 106) (.pointer (some ⟨xb, 0, none⟩))).put (some 107) (.int .u32 pc)).put (some 108) (.int .u32 pc)).put (some 109) (.bool false)).put (some 110) (.bool false)).put (some 111) (.pointer (some ⟨xb, 6, none⟩))).put (some 112) (.int .u32 next)).put (some 113) (.int .u32 next)).put (some 114) (.bool false)).put (some 115) (.bool false)).put (some 116) (.bool false)).put (some 117) (.pointer (some ⟨nb, 0, none⟩))).put (some 118) (.int .u32 0)).put (some 119) (.bool false)).put (some 120) (.bool false)).put (some 121) (.bool false)).put (some 122) (.pointer (some ⟨xb, 2, none⟩))).put (some 123) (.int .i64 r)).put (some 124) (.bool true)).put (some 125) (.bool true)).put (some 126) (.pointer (some ⟨xb, 3, none⟩))).put (some 127) (.int .u32 val)).put (some 128) (.bool false)).put (some 129) (.bool false)).put (some 130) (.bool false)).put (some 131) (.bool false)).put (some 132) (.pointer (some ⟨xb, 4, none⟩))).put (some 133) (.int .i64 cause)).put (some 134) (.bool false)).put (some 135) (.bool false)).put (some 136) (undef)).put (some 137) (undef)).put (some 138) (undef)).put (some 139) (.bool false)).put (some 140) (.bool false)) W0) : (regIn Tryz.f4.body 29).wp Tryz.prog (Exit.then K NoX) a W0 := by
  show (Code.region 29 (opsIn (regIn Tryz.f4.body 29)) false).wp _ _ _ _
  refine wp_region_list ?_
  show wpList _ _ _ (List.drop 0 _) _ _
  obtain ⟨xo0, xi0, xd0, xg0, xp0⟩ := q29_0
  refine pd_want (k := 0) (v := .pointer (some ⟨xb, 0, none⟩)) xi0 xd0 (w_none xg0) (run_x0 xp0 h18 _) ?_
  obtain ⟨ac1, hac1⟩ : ∃ x, a.put (some 106) (.pointer (some ⟨xb, 0, none⟩)) = x := ⟨_, rfl⟩
  rw [hac1]
  have e17_1 : ac1.eval (.tmp 17) = _ := hac1 ▸ ev_put h17 (by decide)
  have e20_1 : ac1.eval (.tmp 20) = _ := hac1 ▸ ev_put h20 (by decide)
  have e15_1 : ac1.eval (.tmp 15) = _ := hac1 ▸ ev_put h15 (by decide)
  have e18_1 : ac1.eval (.tmp 18) = _ := hac1 ▸ ev_put h18 (by decide)
  have e106_1 : ac1.eval (.tmp 106) = _ := hac1 ▸ ev_same (by rw [hs]; decide)
  have zz1 : ac1.tmps.size = 200 := hac1 ▸ size_put hs
  obtain ⟨xo1, xi1, xd1, xg1, xp1⟩ := q29_1
  refine pd_want (k := 1) (v := .int .u32 pc) xi1 xd1 (w_none xg1) (run_l33 xp1 e106_1 c0) ?_
  obtain ⟨ac2, hac2⟩ : ∃ x, ac1.put (some 107) (.int .u32 pc) = x := ⟨_, rfl⟩
  rw [hac2]
  have e17_2 : ac2.eval (.tmp 17) = _ := hac2 ▸ ev_put e17_1 (by decide)
  have e20_2 : ac2.eval (.tmp 20) = _ := hac2 ▸ ev_put e20_1 (by decide)
  have e15_2 : ac2.eval (.tmp 15) = _ := hac2 ▸ ev_put e15_1 (by decide)
  have e18_2 : ac2.eval (.tmp 18) = _ := hac2 ▸ ev_put e18_1 (by decide)
  have e107_2 : ac2.eval (.tmp 107) = _ := hac2 ▸ ev_same (by rw [zz1]; decide)
  have zz2 : ac2.tmps.size = 200 := hac2 ▸ size_put zz1
  obtain ⟨xo2, xi2, xd2, xg2, xp2⟩ := q29_2
  refine pd_want (k := 2) (v := .int .u32 pc) xi2 xd2 (w_none xg2) (run_move xp2 e17_2 _) ?_
  obtain ⟨ac3, hac3⟩ : ∃ x, ac2.put (some 108) (.int .u32 pc) = x := ⟨_, rfl⟩
  rw [hac3]
  have e20_3 : ac3.eval (.tmp 20) = _ := hac3 ▸ ev_put e20_2 (by decide)
  have e15_3 : ac3.eval (.tmp 15) = _ := hac3 ▸ ev_put e15_2 (by decide)
  have e18_3 : ac3.eval (.tmp 18) = _ := hac3 ▸ ev_put e18_2 (by decide)
  have e107_3 : ac3.eval (.tmp 107) = _ := hac3 ▸ ev_put e107_2 (by decide)
  have e108_3 : ac3.eval (.tmp 108) = _ := hac3 ▸ ev_same (by rw [zz2]; decide)
  have zz3 : ac3.tmps.size = 200 := hac3 ▸ size_put zz2
  obtain ⟨xo3, xi3, xd3, xg3, xp3⟩ := q29_3
  refine pd_want (k := 3) (v := .bool false) xi3 xd3 (w_none xg3) (run_ne33 xp3 e107_3 e108_3 (by simp) _) ?_
  obtain ⟨ac4, hac4⟩ : ∃ x, ac3.put (some 109) (.bool false) = x := ⟨_, rfl⟩
  rw [hac4]
  have e20_4 : ac4.eval (.tmp 20) = _ := hac4 ▸ ev_put e20_3 (by decide)
  have e15_4 : ac4.eval (.tmp 15) = _ := hac4 ▸ ev_put e15_3 (by decide)
  have e18_4 : ac4.eval (.tmp 18) = _ := hac4 ▸ ev_put e18_3 (by decide)
  have e109_4 : ac4.eval (.tmp 109) = _ := hac4 ▸ ev_same (by rw [zz3]; decide)
  have zz4 : ac4.tmps.size = 200 := hac4 ▸ size_put zz3
  obtain ⟨xo4, xi4, xd4, xg4, xp4⟩ := q29_4
  refine pd_want (k := 4) (v := .bool false) xi4 xd4 (w_none xg4) (run_move xp4 e109_4 _) ?_
  obtain ⟨ac5, hac5⟩ : ∃ x, ac4.put (some 110) (.bool false) = x := ⟨_, rfl⟩
  rw [hac5]
  have e20_5 : ac5.eval (.tmp 20) = _ := hac5 ▸ ev_put e20_4 (by decide)
  have e15_5 : ac5.eval (.tmp 15) = _ := hac5 ▸ ev_put e15_4 (by decide)
  have e18_5 : ac5.eval (.tmp 18) = _ := hac5 ▸ ev_put e18_4 (by decide)
  have e110_5 : ac5.eval (.tmp 110) = _ := hac5 ▸ ev_same (by rw [zz4]; decide)
  have zz5 : ac5.tmps.size = 200 := hac5 ▸ size_put zz4
  obtain ⟨xo5, xi5, xd5, xg5, xp5⟩ := q29_5
  refine pd_want (k := 5) (v := .pointer (some ⟨xb, 6, none⟩)) xi5 xd5 (w_some xg5 (by kernel_rfl) e110_5 rfl) (run_x6 xp5 e18_5 _) ?_
  obtain ⟨ac6, hac6⟩ : ∃ x, ac5.put (some 111) (.pointer (some ⟨xb, 6, none⟩)) = x := ⟨_, rfl⟩
  rw [hac6]
  have e20_6 : ac6.eval (.tmp 20) = _ := hac6 ▸ ev_put e20_5 (by decide)
  have e15_6 : ac6.eval (.tmp 15) = _ := hac6 ▸ ev_put e15_5 (by decide)
  have e18_6 : ac6.eval (.tmp 18) = _ := hac6 ▸ ev_put e18_5 (by decide)
  have e110_6 : ac6.eval (.tmp 110) = _ := hac6 ▸ ev_put e110_5 (by decide)
  have e111_6 : ac6.eval (.tmp 111) = _ := hac6 ▸ ev_same (by rw [zz5]; decide)
  have zz6 : ac6.tmps.size = 200 := hac6 ▸ size_put zz5
  obtain ⟨xo6, xi6, xd6, xg6, xp6⟩ := q29_6
  refine pd_want (k := 6) (v := .int .u32 next) xi6 xd6 (w_some xg6 (by kernel_rfl) e110_6 rfl) (run_l33 xp6 e111_6 c6) ?_
  obtain ⟨ac7, hac7⟩ : ∃ x, ac6.put (some 112) (.int .u32 next) = x := ⟨_, rfl⟩
  rw [hac7]
  have e20_7 : ac7.eval (.tmp 20) = _ := hac7 ▸ ev_put e20_6 (by decide)
  have e15_7 : ac7.eval (.tmp 15) = _ := hac7 ▸ ev_put e15_6 (by decide)
  have e18_7 : ac7.eval (.tmp 18) = _ := hac7 ▸ ev_put e18_6 (by decide)
  have e110_7 : ac7.eval (.tmp 110) = _ := hac7 ▸ ev_put e110_6 (by decide)
  have e112_7 : ac7.eval (.tmp 112) = _ := hac7 ▸ ev_same (by rw [zz6]; decide)
  have zz7 : ac7.tmps.size = 200 := hac7 ▸ size_put zz6
  obtain ⟨xo7, xi7, xd7, xg7, xp7⟩ := q29_7
  refine pd_want (k := 7) (v := .int .u32 next) xi7 xd7 (w_some xg7 (by kernel_rfl) e110_7 rfl) (run_move xp7 e20_7 _) ?_
  obtain ⟨ac8, hac8⟩ : ∃ x, ac7.put (some 113) (.int .u32 next) = x := ⟨_, rfl⟩
  rw [hac8]
  have e15_8 : ac8.eval (.tmp 15) = _ := hac8 ▸ ev_put e15_7 (by decide)
  have e18_8 : ac8.eval (.tmp 18) = _ := hac8 ▸ ev_put e18_7 (by decide)
  have e110_8 : ac8.eval (.tmp 110) = _ := hac8 ▸ ev_put e110_7 (by decide)
  have e112_8 : ac8.eval (.tmp 112) = _ := hac8 ▸ ev_put e112_7 (by decide)
  have e113_8 : ac8.eval (.tmp 113) = _ := hac8 ▸ ev_same (by rw [zz7]; decide)
  have zz8 : ac8.tmps.size = 200 := hac8 ▸ size_put zz7
  obtain ⟨xo8, xi8, xd8, xg8, xp8⟩ := q29_8
  refine pd_want (k := 8) (v := .bool false) xi8 xd8 (w_some xg8 (by kernel_rfl) e110_8 rfl) (run_ne33 xp8 e112_8 e113_8 (by simp) _) ?_
  obtain ⟨ac9, hac9⟩ : ∃ x, ac8.put (some 114) (.bool false) = x := ⟨_, rfl⟩
  rw [hac9]
  have e15_9 : ac9.eval (.tmp 15) = _ := hac9 ▸ ev_put e15_8 (by decide)
  have e18_9 : ac9.eval (.tmp 18) = _ := hac9 ▸ ev_put e18_8 (by decide)
  have e110_9 : ac9.eval (.tmp 110) = _ := hac9 ▸ ev_put e110_8 (by decide)
  have e114_9 : ac9.eval (.tmp 114) = _ := hac9 ▸ ev_same (by rw [zz8]; decide)
  have zz9 : ac9.tmps.size = 200 := hac9 ▸ size_put zz8
  obtain ⟨xo9, xi9, xd9, xg9, xp9⟩ := q29_9
  refine pd_want (k := 9) (v := .bool false) xi9 xd9 (w_none xg9) (run_pick xp9 e110_9 (fun q => by cases q) (fun _ => e114_9) _) ?_
  obtain ⟨ac10, hac10⟩ : ∃ x, ac9.put (some 115) (.bool false) = x := ⟨_, rfl⟩
  rw [hac10]
  have e15_10 : ac10.eval (.tmp 15) = _ := hac10 ▸ ev_put e15_9 (by decide)
  have e18_10 : ac10.eval (.tmp 18) = _ := hac10 ▸ ev_put e18_9 (by decide)
  have e115_10 : ac10.eval (.tmp 115) = _ := hac10 ▸ ev_same (by rw [zz9]; decide)
  have zz10 : ac10.tmps.size = 200 := hac10 ▸ size_put zz9
  obtain ⟨xo10, xi10, xd10, xg10, xp10⟩ := q29_10
  refine pd_want (k := 10) (v := .bool false) xi10 xd10 (w_none xg10) (run_move xp10 e115_10 _) ?_
  obtain ⟨ac11, hac11⟩ : ∃ x, ac10.put (some 116) (.bool false) = x := ⟨_, rfl⟩
  rw [hac11]
  have e15_11 : ac11.eval (.tmp 15) = _ := hac11 ▸ ev_put e15_10 (by decide)
  have e18_11 : ac11.eval (.tmp 18) = _ := hac11 ▸ ev_put e18_10 (by decide)
  have e116_11 : ac11.eval (.tmp 116) = _ := hac11 ▸ ev_same (by rw [zz10]; decide)
  have zz11 : ac11.tmps.size = 200 := hac11 ▸ size_put zz10
  obtain ⟨xo11, xi11, xd11, xg11, xp11⟩ := q29_11
  refine pd_want (k := 11) (v := .pointer (some ⟨nb, 0, none⟩)) xi11 xd11 (w_some xg11 (by kernel_rfl) e116_11 rfl) (run_ix xp11 e15_11 (show _ = Value.int .i64 ((0 : Nat) : Int) from rfl) (by decide) _) ?_
  obtain ⟨ac12, hac12⟩ : ∃ x, ac11.put (some 117) (.pointer (some ⟨nb, 0, none⟩)) = x := ⟨_, rfl⟩
  rw [hac12]
  have e18_12 : ac12.eval (.tmp 18) = _ := hac12 ▸ ev_put e18_11 (by decide)
  have e116_12 : ac12.eval (.tmp 116) = _ := hac12 ▸ ev_put e116_11 (by decide)
  have e117_12 : ac12.eval (.tmp 117) = _ := hac12 ▸ ev_same (by rw [zz11]; decide)
  have zz12 : ac12.tmps.size = 200 := hac12 ▸ size_put zz11
  obtain ⟨xo12, xi12, xd12, xg12, xp12⟩ := q29_12
  refine pd_want (k := 12) (v := .int .u32 0) xi12 xd12 (w_some xg12 (by kernel_rfl) e116_12 rfl) (run_l33 xp12 e117_12 d0) ?_
  obtain ⟨ac13, hac13⟩ : ∃ x, ac12.put (some 118) (.int .u32 0) = x := ⟨_, rfl⟩
  rw [hac13]
  have e18_13 : ac13.eval (.tmp 18) = _ := hac13 ▸ ev_put e18_12 (by decide)
  have e116_13 : ac13.eval (.tmp 116) = _ := hac13 ▸ ev_put e116_12 (by decide)
  have e118_13 : ac13.eval (.tmp 118) = _ := hac13 ▸ ev_same (by rw [zz12]; decide)
  have zz13 : ac13.tmps.size = 200 := hac13 ▸ size_put zz12
  obtain ⟨xo13, xi13, xd13, xg13, xp13⟩ := q29_13
  refine pd_want (k := 13) (v := .bool false) xi13 xd13 (w_some xg13 (by kernel_rfl) e116_13 rfl) (run_ne33 xp13 e118_13 rfl (by decide) _) ?_
  obtain ⟨ac14, hac14⟩ : ∃ x, ac13.put (some 119) (.bool false) = x := ⟨_, rfl⟩
  rw [hac14]
  have e18_14 : ac14.eval (.tmp 18) = _ := hac14 ▸ ev_put e18_13 (by decide)
  have e116_14 : ac14.eval (.tmp 116) = _ := hac14 ▸ ev_put e116_13 (by decide)
  have e119_14 : ac14.eval (.tmp 119) = _ := hac14 ▸ ev_same (by rw [zz13]; decide)
  have zz14 : ac14.tmps.size = 200 := hac14 ▸ size_put zz13
  obtain ⟨xo14, xi14, xd14, xg14, xp14⟩ := q29_14
  refine pd_want (k := 14) (v := .bool false) xi14 xd14 (w_none xg14) (run_pick xp14 e116_14 (fun q => by cases q) (fun _ => e119_14) _) ?_
  obtain ⟨ac15, hac15⟩ : ∃ x, ac14.put (some 120) (.bool false) = x := ⟨_, rfl⟩
  rw [hac15]
  have e18_15 : ac15.eval (.tmp 18) = _ := hac15 ▸ ev_put e18_14 (by decide)
  have e120_15 : ac15.eval (.tmp 120) = _ := hac15 ▸ ev_same (by rw [zz14]; decide)
  have zz15 : ac15.tmps.size = 200 := hac15 ▸ size_put zz14
  obtain ⟨xo15, xi15, xd15, xg15, xp15⟩ := q29_15
  refine pd_want (k := 15) (v := .bool false) xi15 xd15 (w_none xg15) (run_move xp15 e120_15 _) ?_
  obtain ⟨ac16, hac16⟩ : ∃ x, ac15.put (some 121) (.bool false) = x := ⟨_, rfl⟩
  rw [hac16]
  have e18_16 : ac16.eval (.tmp 18) = _ := hac16 ▸ ev_put e18_15 (by decide)
  have e121_16 : ac16.eval (.tmp 121) = _ := hac16 ▸ ev_same (by rw [zz15]; decide)
  have zz16 : ac16.tmps.size = 200 := hac16 ▸ size_put zz15
  obtain ⟨xo16, xi16, xd16, xg16, xp16⟩ := q29_16
  refine pd_want (k := 16) (v := .pointer (some ⟨xb, 2, none⟩)) xi16 xd16 (w_some xg16 (by kernel_rfl) e121_16 rfl) (run_x2 xp16 e18_16 _) ?_
  obtain ⟨ac17, hac17⟩ : ∃ x, ac16.put (some 122) (.pointer (some ⟨xb, 2, none⟩)) = x := ⟨_, rfl⟩
  rw [hac17]
  have e18_17 : ac17.eval (.tmp 18) = _ := hac17 ▸ ev_put e18_16 (by decide)
  have e121_17 : ac17.eval (.tmp 121) = _ := hac17 ▸ ev_put e121_16 (by decide)
  have e122_17 : ac17.eval (.tmp 122) = _ := hac17 ▸ ev_same (by rw [zz16]; decide)
  have zz17 : ac17.tmps.size = 200 := hac17 ▸ size_put zz16
  obtain ⟨xo17, xi17, xd17, xg17, xp17⟩ := q29_17
  refine pd_want (k := 17) (v := .int .i64 r) xi17 xd17 (w_some xg17 (by kernel_rfl) e121_17 rfl) (run_l3 xp17 e122_17 c2) ?_
  obtain ⟨ac18, hac18⟩ : ∃ x, ac17.put (some 123) (.int .i64 r) = x := ⟨_, rfl⟩
  rw [hac18]
  have e18_18 : ac18.eval (.tmp 18) = _ := hac18 ▸ ev_put e18_17 (by decide)
  have e121_18 : ac18.eval (.tmp 121) = _ := hac18 ▸ ev_put e121_17 (by decide)
  have e123_18 : ac18.eval (.tmp 123) = _ := hac18 ▸ ev_same (by rw [zz17]; decide)
  have zz18 : ac18.tmps.size = 200 := hac18 ▸ size_put zz17
  obtain ⟨xo18, xi18, xd18, xg18, xp18⟩ := q29_18
  refine pd_want (k := 18) (v := .bool true) xi18 xd18 (w_some xg18 (by kernel_rfl) e121_18 rfl) (run_eq3 xp18 e123_18 rfl hr _) ?_
  obtain ⟨ac19, hac19⟩ : ∃ x, ac18.put (some 124) (.bool true) = x := ⟨_, rfl⟩
  rw [hac19]
  have e18_19 : ac19.eval (.tmp 18) = _ := hac19 ▸ ev_put e18_18 (by decide)
  have e121_19 : ac19.eval (.tmp 121) = _ := hac19 ▸ ev_put e121_18 (by decide)
  have e124_19 : ac19.eval (.tmp 124) = _ := hac19 ▸ ev_same (by rw [zz18]; decide)
  have zz19 : ac19.tmps.size = 200 := hac19 ▸ size_put zz18
  obtain ⟨xo19, xi19, xd19, xg19, xp19⟩ := q29_19
  refine pd_want (k := 19) (v := .bool true) xi19 xd19 (w_some xg19 (by kernel_rfl) e121_19 rfl) (run_move xp19 e124_19 _) ?_
  obtain ⟨ac20, hac20⟩ : ∃ x, ac19.put (some 125) (.bool true) = x := ⟨_, rfl⟩
  rw [hac20]
  have e18_20 : ac20.eval (.tmp 18) = _ := hac20 ▸ ev_put e18_19 (by decide)
  have e121_20 : ac20.eval (.tmp 121) = _ := hac20 ▸ ev_put e121_19 (by decide)
  have e125_20 : ac20.eval (.tmp 125) = _ := hac20 ▸ ev_same (by rw [zz19]; decide)
  have zz20 : ac20.tmps.size = 200 := hac20 ▸ size_put zz19
  obtain ⟨xo20, xi20, xd20, xg20, xp20⟩ := q29_20
  refine pd_want (k := 20) (v := .pointer (some ⟨xb, 3, none⟩)) xi20 xd20 (w_some xg20 (by kernel_rfl) e125_20 rfl) (run_x3 xp20 e18_20 _) ?_
  obtain ⟨ac21, hac21⟩ : ∃ x, ac20.put (some 126) (.pointer (some ⟨xb, 3, none⟩)) = x := ⟨_, rfl⟩
  rw [hac21]
  have e18_21 : ac21.eval (.tmp 18) = _ := hac21 ▸ ev_put e18_20 (by decide)
  have e121_21 : ac21.eval (.tmp 121) = _ := hac21 ▸ ev_put e121_20 (by decide)
  have e125_21 : ac21.eval (.tmp 125) = _ := hac21 ▸ ev_put e125_20 (by decide)
  have e126_21 : ac21.eval (.tmp 126) = _ := hac21 ▸ ev_same (by rw [zz20]; decide)
  have zz21 : ac21.tmps.size = 200 := hac21 ▸ size_put zz20
  obtain ⟨xo21, xi21, xd21, xg21, xp21⟩ := q29_21
  refine pd_want (k := 21) (v := .int .u32 val) xi21 xd21 (w_some xg21 (by kernel_rfl) e125_21 rfl) (run_l33 xp21 e126_21 c3) ?_
  obtain ⟨ac22, hac22⟩ : ∃ x, ac21.put (some 127) (.int .u32 val) = x := ⟨_, rfl⟩
  rw [hac22]
  have e18_22 : ac22.eval (.tmp 18) = _ := hac22 ▸ ev_put e18_21 (by decide)
  have e121_22 : ac22.eval (.tmp 121) = _ := hac22 ▸ ev_put e121_21 (by decide)
  have e125_22 : ac22.eval (.tmp 125) = _ := hac22 ▸ ev_put e125_21 (by decide)
  have e127_22 : ac22.eval (.tmp 127) = _ := hac22 ▸ ev_same (by rw [zz21]; decide)
  have zz22 : ac22.tmps.size = 200 := hac22 ▸ size_put zz21
  obtain ⟨xo22, xi22, xd22, xg22, xp22⟩ := q29_22
  refine pd_want (k := 22) (v := .bool false) xi22 xd22 (w_some xg22 (by kernel_rfl) e125_22 rfl) (run_ne33 xp22 e127_22 rfl hv _) ?_
  obtain ⟨ac23, hac23⟩ : ∃ x, ac22.put (some 128) (.bool false) = x := ⟨_, rfl⟩
  rw [hac23]
  have e18_23 : ac23.eval (.tmp 18) = _ := hac23 ▸ ev_put e18_22 (by decide)
  have e121_23 : ac23.eval (.tmp 121) = _ := hac23 ▸ ev_put e121_22 (by decide)
  have e125_23 : ac23.eval (.tmp 125) = _ := hac23 ▸ ev_put e125_22 (by decide)
  have e128_23 : ac23.eval (.tmp 128) = _ := hac23 ▸ ev_same (by rw [zz22]; decide)
  have zz23 : ac23.tmps.size = 200 := hac23 ▸ size_put zz22
  obtain ⟨xo23, xi23, xd23, xg23, xp23⟩ := q29_23
  refine pd_want (k := 23) (v := .bool false) xi23 xd23 (w_some xg23 (by kernel_rfl) e121_23 rfl) (run_pick xp23 e125_23 (fun _ => e128_23) (fun q => by cases q) _) ?_
  obtain ⟨ac24, hac24⟩ : ∃ x, ac23.put (some 129) (.bool false) = x := ⟨_, rfl⟩
  rw [hac24]
  have e18_24 : ac24.eval (.tmp 18) = _ := hac24 ▸ ev_put e18_23 (by decide)
  have e121_24 : ac24.eval (.tmp 121) = _ := hac24 ▸ ev_put e121_23 (by decide)
  have e129_24 : ac24.eval (.tmp 129) = _ := hac24 ▸ ev_same (by rw [zz23]; decide)
  have zz24 : ac24.tmps.size = 200 := hac24 ▸ size_put zz23
  obtain ⟨xo24, xi24, xd24, xg24, xp24⟩ := q29_24
  refine pd_want (k := 24) (v := .bool false) xi24 xd24 (w_none xg24) (run_pick xp24 e121_24 (fun q => by cases q) (fun _ => e129_24) _) ?_
  obtain ⟨ac25, hac25⟩ : ∃ x, ac24.put (some 130) (.bool false) = x := ⟨_, rfl⟩
  rw [hac25]
  have e18_25 : ac25.eval (.tmp 18) = _ := hac25 ▸ ev_put e18_24 (by decide)
  have e130_25 : ac25.eval (.tmp 130) = _ := hac25 ▸ ev_same (by rw [zz24]; decide)
  have zz25 : ac25.tmps.size = 200 := hac25 ▸ size_put zz24
  obtain ⟨xo25, xi25, xd25, xg25, xp25⟩ := q29_25
  refine pd_want (k := 25) (v := .bool false) xi25 xd25 (w_none xg25) (run_move xp25 e130_25 _) ?_
  obtain ⟨ac26, hac26⟩ : ∃ x, ac25.put (some 131) (.bool false) = x := ⟨_, rfl⟩
  rw [hac26]
  have e18_26 : ac26.eval (.tmp 18) = _ := hac26 ▸ ev_put e18_25 (by decide)
  have e131_26 : ac26.eval (.tmp 131) = _ := hac26 ▸ ev_same (by rw [zz25]; decide)
  have zz26 : ac26.tmps.size = 200 := hac26 ▸ size_put zz25
  obtain ⟨xo26, xi26, xd26, xg26, xp26⟩ := q29_26
  refine pd_want (k := 26) (v := .pointer (some ⟨xb, 4, none⟩)) xi26 xd26 (w_some xg26 (by kernel_rfl) e131_26 rfl) (run_x4 xp26 e18_26 _) ?_
  obtain ⟨ac27, hac27⟩ : ∃ x, ac26.put (some 132) (.pointer (some ⟨xb, 4, none⟩)) = x := ⟨_, rfl⟩
  rw [hac27]
  have e18_27 : ac27.eval (.tmp 18) = _ := hac27 ▸ ev_put e18_26 (by decide)
  have e131_27 : ac27.eval (.tmp 131) = _ := hac27 ▸ ev_put e131_26 (by decide)
  have e132_27 : ac27.eval (.tmp 132) = _ := hac27 ▸ ev_same (by rw [zz26]; decide)
  have zz27 : ac27.tmps.size = 200 := hac27 ▸ size_put zz26
  obtain ⟨xo27, xi27, xd27, xg27, xp27⟩ := q29_27
  refine pd_want (k := 27) (v := .int .i64 cause) xi27 xd27 (w_some xg27 (by kernel_rfl) e131_27 rfl) (run_l3 xp27 e132_27 c4) ?_
  obtain ⟨ac28, hac28⟩ : ∃ x, ac27.put (some 133) (.int .i64 cause) = x := ⟨_, rfl⟩
  rw [hac28]
  have e18_28 : ac28.eval (.tmp 18) = _ := hac28 ▸ ev_put e18_27 (by decide)
  have e131_28 : ac28.eval (.tmp 131) = _ := hac28 ▸ ev_put e131_27 (by decide)
  have e133_28 : ac28.eval (.tmp 133) = _ := hac28 ▸ ev_same (by rw [zz27]; decide)
  have zz28 : ac28.tmps.size = 200 := hac28 ▸ size_put zz27
  obtain ⟨xo28, xi28, xd28, xg28, xp28⟩ := q29_28
  refine pd_want (k := 28) (v := .bool false) xi28 xd28 (w_some xg28 (by kernel_rfl) e131_28 rfl) (run_ne3 xp28 e133_28 rfl hc _) ?_
  obtain ⟨ac29, hac29⟩ : ∃ x, ac28.put (some 134) (.bool false) = x := ⟨_, rfl⟩
  rw [hac29]
  have e18_29 : ac29.eval (.tmp 18) = _ := hac29 ▸ ev_put e18_28 (by decide)
  have e131_29 : ac29.eval (.tmp 131) = _ := hac29 ▸ ev_put e131_28 (by decide)
  have e134_29 : ac29.eval (.tmp 134) = _ := hac29 ▸ ev_same (by rw [zz28]; decide)
  have zz29 : ac29.tmps.size = 200 := hac29 ▸ size_put zz28
  obtain ⟨xo29, xi29, xd29, xg29, xp29⟩ := q29_29
  refine pd_want (k := 29) (v := .bool false) xi29 xd29 (w_some xg29 (by kernel_rfl) e131_29 rfl) (run_move xp29 e134_29 _) ?_
  obtain ⟨ac30, hac30⟩ : ∃ x, ac29.put (some 135) (.bool false) = x := ⟨_, rfl⟩
  rw [hac30]
  have e18_30 : ac30.eval (.tmp 18) = _ := hac30 ▸ ev_put e18_29 (by decide)
  have e131_30 : ac30.eval (.tmp 131) = _ := hac30 ▸ ev_put e131_29 (by decide)
  have e135_30 : ac30.eval (.tmp 135) = _ := hac30 ▸ ev_same (by rw [zz29]; decide)
  have zz30 : ac30.tmps.size = 200 := hac30 ▸ size_put zz29
  obtain ⟨xo30, xi30, xd30, xg30, xp30⟩ := q29_30
  refine pd_skip (k := 30) xi30 xd30 (w_some xg30 (by kernel_rfl) e135_30 rfl) ?_
  obtain ⟨ac31, hac31⟩ : ∃ x, ac30.put (some 136) (undef) = x := ⟨_, rfl⟩
  rw [hac31]
  have e131_31 : ac31.eval (.tmp 131) = _ := hac31 ▸ ev_put e131_30 (by decide)
  have e135_31 : ac31.eval (.tmp 135) = _ := hac31 ▸ ev_put e135_30 (by decide)
  have e136_31 : ac31.eval (.tmp 136) = _ := hac31 ▸ ev_same (by rw [zz30]; decide)
  have zz31 : ac31.tmps.size = 200 := hac31 ▸ size_put zz30
  obtain ⟨xo31, xi31, xd31, xg31, xp31⟩ := q29_31
  refine pd_skip (k := 31) xi31 xd31 (w_some xg31 (by kernel_rfl) e135_31 rfl) ?_
  obtain ⟨ac32, hac32⟩ : ∃ x, ac31.put (some 137) (undef) = x := ⟨_, rfl⟩
  rw [hac32]
  have e131_32 : ac32.eval (.tmp 131) = _ := hac32 ▸ ev_put e131_31 (by decide)
  have e135_32 : ac32.eval (.tmp 135) = _ := hac32 ▸ ev_put e135_31 (by decide)
  have e137_32 : ac32.eval (.tmp 137) = _ := hac32 ▸ ev_same (by rw [zz31]; decide)
  have zz32 : ac32.tmps.size = 200 := hac32 ▸ size_put zz31
  obtain ⟨xo32, xi32, xd32, xg32, xp32⟩ := q29_32
  refine pd_skip (k := 32) xi32 xd32 (w_some xg32 (by kernel_rfl) e135_32 rfl) ?_
  obtain ⟨ac33, hac33⟩ : ∃ x, ac32.put (some 138) (undef) = x := ⟨_, rfl⟩
  rw [hac33]
  have e131_33 : ac33.eval (.tmp 131) = _ := hac33 ▸ ev_put e131_32 (by decide)
  have e135_33 : ac33.eval (.tmp 135) = _ := hac33 ▸ ev_put e135_32 (by decide)
  have e138_33 : ac33.eval (.tmp 138) = _ := hac33 ▸ ev_same (by rw [zz32]; decide)
  have zz33 : ac33.tmps.size = 200 := hac33 ▸ size_put zz32
  obtain ⟨xo33, xi33, xd33, xg33, xp33⟩ := q29_33
  refine pd_want (k := 33) (v := .bool false) xi33 xd33 (w_some xg33 (by kernel_rfl) e131_33 rfl) (run_pick xp33 e135_33 (fun q => by cases q) (fun _ => rfl) _) ?_
  obtain ⟨ac34, hac34⟩ : ∃ x, ac33.put (some 139) (.bool false) = x := ⟨_, rfl⟩
  rw [hac34]
  have e131_34 : ac34.eval (.tmp 131) = _ := hac34 ▸ ev_put e131_33 (by decide)
  have e139_34 : ac34.eval (.tmp 139) = _ := hac34 ▸ ev_same (by rw [zz33]; decide)
  have zz34 : ac34.tmps.size = 200 := hac34 ▸ size_put zz33
  obtain ⟨xo34, xi34, xd34, xg34, xp34⟩ := q29_34
  refine pd_want (k := 34) (v := .bool false) xi34 xd34 (w_none xg34) (run_pick xp34 e131_34 (fun q => by cases q) (fun _ => e139_34) _) ?_
  obtain ⟨ac35, hac35⟩ : ∃ x, ac34.put (some 140) (.bool false) = x := ⟨_, rfl⟩
  rw [hac35]
  have zz35 : ac35.tmps.size = 200 := hac35 ▸ size_put zz34
  refine pd_end (k := 35) (by kernel_rfl) ?_
  subst hac35 hac34 hac33 hac32 hac31 hac30 hac29 hac28 hac27 hac26 hac25 hac24 hac23 hac22 hac21 hac20 hac19 hac18 hac17 hac16 hac15 hac14 hac13 hac12 hac11 hac10 hac9 hac8 hac7 hac6 hac5 hac4 hac3 hac2 hac1
  exact hk
set_option maxRecDepth 100000 in
set_option maxHeartbeats 4000000 in
theorem r29b (pc cause next : Int) (r xb nb : Nat) (W0 : World) (a : Act) (hs : a.tmps.size = 200) (h17 : a.eval (.tmp 17) = .int .u32 pc) (h20 : a.eval (.tmp 20) = .int .u32 next) (h15 : a.eval (.tmp 15) = .pointer (some ⟨nb, 0, none⟩)) (h18 : a.eval (.tmp 18) = .pointer (some ⟨xb, 0, none⟩)) (c0 : W0.cell? ⟨xb, 0, none⟩ = some (.int .u32 pc)) (c2 : W0.cell? ⟨xb, 2, none⟩ = some (.int .i64 r)) (c4 : W0.cell? ⟨xb, 4, none⟩ = some (.int .i64 cause)) (c6 : W0.cell? ⟨xb, 6, none⟩ = some (.int .u32 next)) (d0 : W0.cell? ⟨nb, 0, none⟩ = some (.int .u32 0)) (hr : ((r : Int) == 0) = false) (hc : (cause != -1) = false) {K : Act → World → Prop} (hk : K ((((((((((((((((((((((((((((((((((((a).put (some 106) (.pointer (some ⟨xb, 0, none⟩))).put (some 107) (.int .u32 pc)).put (some 108) (.int .u32 pc)).put (some 109) (.bool false)).put (some 110) (.bool false)).put (some 111) (.pointer (some ⟨xb, 6, none⟩))).put (some 112) (.int .u32 next)).put (some 113) (.int .u32 next)).put (some 114) (.bool false)).put (some 115) (.bool false)).put (some 116) (.bool false)).put (some 117) (.pointer (some ⟨nb, 0, none⟩))).put (some 118) (.int .u32 0)).put (some 119) (.bool false)).put (some 120) (.bool false)).put (some 121) (.bool false)).put (some 122) (.pointer (some ⟨xb, 2, none⟩))).put (some 123) (.int .i64 r)).put (some 124) (.bool false)).put (some 125) (.bool false)).put (some 126) (undef)).put (some 127) (undef)).put (some 128) (undef)).put (some 129) (.bool false)).put (some 130) (.bool false)).put (some 131) (.bool false)).put (some 132) (.pointer (some ⟨xb, 4, none⟩))).put (some 133) (.int .i64 cause)).put (some 134) (.bool false)).put (some 135) (.bool false)).put (some 136) (undef)).put (some 137) (undef)).put (some 138) (undef)).put (some 139) (.bool false)).put (some 140) (.bool false)) W0) : (regIn Tryz.f4.body 29).wp Tryz.prog (Exit.then K NoX) a W0 := by
  show (Code.region 29 (opsIn (regIn Tryz.f4.body 29)) false).wp _ _ _ _
  refine wp_region_list ?_
  show wpList _ _ _ (List.drop 0 _) _ _
  obtain ⟨xo0, xi0, xd0, xg0, xp0⟩ := q29_0
  refine pd_want (k := 0) (v := .pointer (some ⟨xb, 0, none⟩)) xi0 xd0 (w_none xg0) (run_x0 xp0 h18 _) ?_
  obtain ⟨ac1, hac1⟩ : ∃ x, a.put (some 106) (.pointer (some ⟨xb, 0, none⟩)) = x := ⟨_, rfl⟩
  rw [hac1]
  have e17_1 : ac1.eval (.tmp 17) = _ := hac1 ▸ ev_put h17 (by decide)
  have e20_1 : ac1.eval (.tmp 20) = _ := hac1 ▸ ev_put h20 (by decide)
  have e15_1 : ac1.eval (.tmp 15) = _ := hac1 ▸ ev_put h15 (by decide)
  have e18_1 : ac1.eval (.tmp 18) = _ := hac1 ▸ ev_put h18 (by decide)
  have e106_1 : ac1.eval (.tmp 106) = _ := hac1 ▸ ev_same (by rw [hs]; decide)
  have zz1 : ac1.tmps.size = 200 := hac1 ▸ size_put hs
  obtain ⟨xo1, xi1, xd1, xg1, xp1⟩ := q29_1
  refine pd_want (k := 1) (v := .int .u32 pc) xi1 xd1 (w_none xg1) (run_l33 xp1 e106_1 c0) ?_
  obtain ⟨ac2, hac2⟩ : ∃ x, ac1.put (some 107) (.int .u32 pc) = x := ⟨_, rfl⟩
  rw [hac2]
  have e17_2 : ac2.eval (.tmp 17) = _ := hac2 ▸ ev_put e17_1 (by decide)
  have e20_2 : ac2.eval (.tmp 20) = _ := hac2 ▸ ev_put e20_1 (by decide)
  have e15_2 : ac2.eval (.tmp 15) = _ := hac2 ▸ ev_put e15_1 (by decide)
  have e18_2 : ac2.eval (.tmp 18) = _ := hac2 ▸ ev_put e18_1 (by decide)
  have e107_2 : ac2.eval (.tmp 107) = _ := hac2 ▸ ev_same (by rw [zz1]; decide)
  have zz2 : ac2.tmps.size = 200 := hac2 ▸ size_put zz1
  obtain ⟨xo2, xi2, xd2, xg2, xp2⟩ := q29_2
  refine pd_want (k := 2) (v := .int .u32 pc) xi2 xd2 (w_none xg2) (run_move xp2 e17_2 _) ?_
  obtain ⟨ac3, hac3⟩ : ∃ x, ac2.put (some 108) (.int .u32 pc) = x := ⟨_, rfl⟩
  rw [hac3]
  have e20_3 : ac3.eval (.tmp 20) = _ := hac3 ▸ ev_put e20_2 (by decide)
  have e15_3 : ac3.eval (.tmp 15) = _ := hac3 ▸ ev_put e15_2 (by decide)
  have e18_3 : ac3.eval (.tmp 18) = _ := hac3 ▸ ev_put e18_2 (by decide)
  have e107_3 : ac3.eval (.tmp 107) = _ := hac3 ▸ ev_put e107_2 (by decide)
  have e108_3 : ac3.eval (.tmp 108) = _ := hac3 ▸ ev_same (by rw [zz2]; decide)
  have zz3 : ac3.tmps.size = 200 := hac3 ▸ size_put zz2
  obtain ⟨xo3, xi3, xd3, xg3, xp3⟩ := q29_3
  refine pd_want (k := 3) (v := .bool false) xi3 xd3 (w_none xg3) (run_ne33 xp3 e107_3 e108_3 (by simp) _) ?_
  obtain ⟨ac4, hac4⟩ : ∃ x, ac3.put (some 109) (.bool false) = x := ⟨_, rfl⟩
  rw [hac4]
  have e20_4 : ac4.eval (.tmp 20) = _ := hac4 ▸ ev_put e20_3 (by decide)
  have e15_4 : ac4.eval (.tmp 15) = _ := hac4 ▸ ev_put e15_3 (by decide)
  have e18_4 : ac4.eval (.tmp 18) = _ := hac4 ▸ ev_put e18_3 (by decide)
  have e109_4 : ac4.eval (.tmp 109) = _ := hac4 ▸ ev_same (by rw [zz3]; decide)
  have zz4 : ac4.tmps.size = 200 := hac4 ▸ size_put zz3
  obtain ⟨xo4, xi4, xd4, xg4, xp4⟩ := q29_4
  refine pd_want (k := 4) (v := .bool false) xi4 xd4 (w_none xg4) (run_move xp4 e109_4 _) ?_
  obtain ⟨ac5, hac5⟩ : ∃ x, ac4.put (some 110) (.bool false) = x := ⟨_, rfl⟩
  rw [hac5]
  have e20_5 : ac5.eval (.tmp 20) = _ := hac5 ▸ ev_put e20_4 (by decide)
  have e15_5 : ac5.eval (.tmp 15) = _ := hac5 ▸ ev_put e15_4 (by decide)
  have e18_5 : ac5.eval (.tmp 18) = _ := hac5 ▸ ev_put e18_4 (by decide)
  have e110_5 : ac5.eval (.tmp 110) = _ := hac5 ▸ ev_same (by rw [zz4]; decide)
  have zz5 : ac5.tmps.size = 200 := hac5 ▸ size_put zz4
  obtain ⟨xo5, xi5, xd5, xg5, xp5⟩ := q29_5
  refine pd_want (k := 5) (v := .pointer (some ⟨xb, 6, none⟩)) xi5 xd5 (w_some xg5 (by kernel_rfl) e110_5 rfl) (run_x6 xp5 e18_5 _) ?_
  obtain ⟨ac6, hac6⟩ : ∃ x, ac5.put (some 111) (.pointer (some ⟨xb, 6, none⟩)) = x := ⟨_, rfl⟩
  rw [hac6]
  have e20_6 : ac6.eval (.tmp 20) = _ := hac6 ▸ ev_put e20_5 (by decide)
  have e15_6 : ac6.eval (.tmp 15) = _ := hac6 ▸ ev_put e15_5 (by decide)
  have e18_6 : ac6.eval (.tmp 18) = _ := hac6 ▸ ev_put e18_5 (by decide)
  have e110_6 : ac6.eval (.tmp 110) = _ := hac6 ▸ ev_put e110_5 (by decide)
  have e111_6 : ac6.eval (.tmp 111) = _ := hac6 ▸ ev_same (by rw [zz5]; decide)
  have zz6 : ac6.tmps.size = 200 := hac6 ▸ size_put zz5
  obtain ⟨xo6, xi6, xd6, xg6, xp6⟩ := q29_6
  refine pd_want (k := 6) (v := .int .u32 next) xi6 xd6 (w_some xg6 (by kernel_rfl) e110_6 rfl) (run_l33 xp6 e111_6 c6) ?_
  obtain ⟨ac7, hac7⟩ : ∃ x, ac6.put (some 112) (.int .u32 next) = x := ⟨_, rfl⟩
  rw [hac7]
  have e20_7 : ac7.eval (.tmp 20) = _ := hac7 ▸ ev_put e20_6 (by decide)
  have e15_7 : ac7.eval (.tmp 15) = _ := hac7 ▸ ev_put e15_6 (by decide)
  have e18_7 : ac7.eval (.tmp 18) = _ := hac7 ▸ ev_put e18_6 (by decide)
  have e110_7 : ac7.eval (.tmp 110) = _ := hac7 ▸ ev_put e110_6 (by decide)
  have e112_7 : ac7.eval (.tmp 112) = _ := hac7 ▸ ev_same (by rw [zz6]; decide)
  have zz7 : ac7.tmps.size = 200 := hac7 ▸ size_put zz6
  obtain ⟨xo7, xi7, xd7, xg7, xp7⟩ := q29_7
  refine pd_want (k := 7) (v := .int .u32 next) xi7 xd7 (w_some xg7 (by kernel_rfl) e110_7 rfl) (run_move xp7 e20_7 _) ?_
  obtain ⟨ac8, hac8⟩ : ∃ x, ac7.put (some 113) (.int .u32 next) = x := ⟨_, rfl⟩
  rw [hac8]
  have e15_8 : ac8.eval (.tmp 15) = _ := hac8 ▸ ev_put e15_7 (by decide)
  have e18_8 : ac8.eval (.tmp 18) = _ := hac8 ▸ ev_put e18_7 (by decide)
  have e110_8 : ac8.eval (.tmp 110) = _ := hac8 ▸ ev_put e110_7 (by decide)
  have e112_8 : ac8.eval (.tmp 112) = _ := hac8 ▸ ev_put e112_7 (by decide)
  have e113_8 : ac8.eval (.tmp 113) = _ := hac8 ▸ ev_same (by rw [zz7]; decide)
  have zz8 : ac8.tmps.size = 200 := hac8 ▸ size_put zz7
  obtain ⟨xo8, xi8, xd8, xg8, xp8⟩ := q29_8
  refine pd_want (k := 8) (v := .bool false) xi8 xd8 (w_some xg8 (by kernel_rfl) e110_8 rfl) (run_ne33 xp8 e112_8 e113_8 (by simp) _) ?_
  obtain ⟨ac9, hac9⟩ : ∃ x, ac8.put (some 114) (.bool false) = x := ⟨_, rfl⟩
  rw [hac9]
  have e15_9 : ac9.eval (.tmp 15) = _ := hac9 ▸ ev_put e15_8 (by decide)
  have e18_9 : ac9.eval (.tmp 18) = _ := hac9 ▸ ev_put e18_8 (by decide)
  have e110_9 : ac9.eval (.tmp 110) = _ := hac9 ▸ ev_put e110_8 (by decide)
  have e114_9 : ac9.eval (.tmp 114) = _ := hac9 ▸ ev_same (by rw [zz8]; decide)
  have zz9 : ac9.tmps.size = 200 := hac9 ▸ size_put zz8
  obtain ⟨xo9, xi9, xd9, xg9, xp9⟩ := q29_9
  refine pd_want (k := 9) (v := .bool false) xi9 xd9 (w_none xg9) (run_pick xp9 e110_9 (fun q => by cases q) (fun _ => e114_9) _) ?_
  obtain ⟨ac10, hac10⟩ : ∃ x, ac9.put (some 115) (.bool false) = x := ⟨_, rfl⟩
  rw [hac10]
  have e15_10 : ac10.eval (.tmp 15) = _ := hac10 ▸ ev_put e15_9 (by decide)
  have e18_10 : ac10.eval (.tmp 18) = _ := hac10 ▸ ev_put e18_9 (by decide)
  have e115_10 : ac10.eval (.tmp 115) = _ := hac10 ▸ ev_same (by rw [zz9]; decide)
  have zz10 : ac10.tmps.size = 200 := hac10 ▸ size_put zz9
  obtain ⟨xo10, xi10, xd10, xg10, xp10⟩ := q29_10
  refine pd_want (k := 10) (v := .bool false) xi10 xd10 (w_none xg10) (run_move xp10 e115_10 _) ?_
  obtain ⟨ac11, hac11⟩ : ∃ x, ac10.put (some 116) (.bool false) = x := ⟨_, rfl⟩
  rw [hac11]
  have e15_11 : ac11.eval (.tmp 15) = _ := hac11 ▸ ev_put e15_10 (by decide)
  have e18_11 : ac11.eval (.tmp 18) = _ := hac11 ▸ ev_put e18_10 (by decide)
  have e116_11 : ac11.eval (.tmp 116) = _ := hac11 ▸ ev_same (by rw [zz10]; decide)
  have zz11 : ac11.tmps.size = 200 := hac11 ▸ size_put zz10
  obtain ⟨xo11, xi11, xd11, xg11, xp11⟩ := q29_11
  refine pd_want (k := 11) (v := .pointer (some ⟨nb, 0, none⟩)) xi11 xd11 (w_some xg11 (by kernel_rfl) e116_11 rfl) (run_ix xp11 e15_11 (show _ = Value.int .i64 ((0 : Nat) : Int) from rfl) (by decide) _) ?_
  obtain ⟨ac12, hac12⟩ : ∃ x, ac11.put (some 117) (.pointer (some ⟨nb, 0, none⟩)) = x := ⟨_, rfl⟩
  rw [hac12]
  have e18_12 : ac12.eval (.tmp 18) = _ := hac12 ▸ ev_put e18_11 (by decide)
  have e116_12 : ac12.eval (.tmp 116) = _ := hac12 ▸ ev_put e116_11 (by decide)
  have e117_12 : ac12.eval (.tmp 117) = _ := hac12 ▸ ev_same (by rw [zz11]; decide)
  have zz12 : ac12.tmps.size = 200 := hac12 ▸ size_put zz11
  obtain ⟨xo12, xi12, xd12, xg12, xp12⟩ := q29_12
  refine pd_want (k := 12) (v := .int .u32 0) xi12 xd12 (w_some xg12 (by kernel_rfl) e116_12 rfl) (run_l33 xp12 e117_12 d0) ?_
  obtain ⟨ac13, hac13⟩ : ∃ x, ac12.put (some 118) (.int .u32 0) = x := ⟨_, rfl⟩
  rw [hac13]
  have e18_13 : ac13.eval (.tmp 18) = _ := hac13 ▸ ev_put e18_12 (by decide)
  have e116_13 : ac13.eval (.tmp 116) = _ := hac13 ▸ ev_put e116_12 (by decide)
  have e118_13 : ac13.eval (.tmp 118) = _ := hac13 ▸ ev_same (by rw [zz12]; decide)
  have zz13 : ac13.tmps.size = 200 := hac13 ▸ size_put zz12
  obtain ⟨xo13, xi13, xd13, xg13, xp13⟩ := q29_13
  refine pd_want (k := 13) (v := .bool false) xi13 xd13 (w_some xg13 (by kernel_rfl) e116_13 rfl) (run_ne33 xp13 e118_13 rfl (by decide) _) ?_
  obtain ⟨ac14, hac14⟩ : ∃ x, ac13.put (some 119) (.bool false) = x := ⟨_, rfl⟩
  rw [hac14]
  have e18_14 : ac14.eval (.tmp 18) = _ := hac14 ▸ ev_put e18_13 (by decide)
  have e116_14 : ac14.eval (.tmp 116) = _ := hac14 ▸ ev_put e116_13 (by decide)
  have e119_14 : ac14.eval (.tmp 119) = _ := hac14 ▸ ev_same (by rw [zz13]; decide)
  have zz14 : ac14.tmps.size = 200 := hac14 ▸ size_put zz13
  obtain ⟨xo14, xi14, xd14, xg14, xp14⟩ := q29_14
  refine pd_want (k := 14) (v := .bool false) xi14 xd14 (w_none xg14) (run_pick xp14 e116_14 (fun q => by cases q) (fun _ => e119_14) _) ?_
  obtain ⟨ac15, hac15⟩ : ∃ x, ac14.put (some 120) (.bool false) = x := ⟨_, rfl⟩
  rw [hac15]
  have e18_15 : ac15.eval (.tmp 18) = _ := hac15 ▸ ev_put e18_14 (by decide)
  have e120_15 : ac15.eval (.tmp 120) = _ := hac15 ▸ ev_same (by rw [zz14]; decide)
  have zz15 : ac15.tmps.size = 200 := hac15 ▸ size_put zz14
  obtain ⟨xo15, xi15, xd15, xg15, xp15⟩ := q29_15
  refine pd_want (k := 15) (v := .bool false) xi15 xd15 (w_none xg15) (run_move xp15 e120_15 _) ?_
  obtain ⟨ac16, hac16⟩ : ∃ x, ac15.put (some 121) (.bool false) = x := ⟨_, rfl⟩
  rw [hac16]
  have e18_16 : ac16.eval (.tmp 18) = _ := hac16 ▸ ev_put e18_15 (by decide)
  have e121_16 : ac16.eval (.tmp 121) = _ := hac16 ▸ ev_same (by rw [zz15]; decide)
  have zz16 : ac16.tmps.size = 200 := hac16 ▸ size_put zz15
  obtain ⟨xo16, xi16, xd16, xg16, xp16⟩ := q29_16
  refine pd_want (k := 16) (v := .pointer (some ⟨xb, 2, none⟩)) xi16 xd16 (w_some xg16 (by kernel_rfl) e121_16 rfl) (run_x2 xp16 e18_16 _) ?_
  obtain ⟨ac17, hac17⟩ : ∃ x, ac16.put (some 122) (.pointer (some ⟨xb, 2, none⟩)) = x := ⟨_, rfl⟩
  rw [hac17]
  have e18_17 : ac17.eval (.tmp 18) = _ := hac17 ▸ ev_put e18_16 (by decide)
  have e121_17 : ac17.eval (.tmp 121) = _ := hac17 ▸ ev_put e121_16 (by decide)
  have e122_17 : ac17.eval (.tmp 122) = _ := hac17 ▸ ev_same (by rw [zz16]; decide)
  have zz17 : ac17.tmps.size = 200 := hac17 ▸ size_put zz16
  obtain ⟨xo17, xi17, xd17, xg17, xp17⟩ := q29_17
  refine pd_want (k := 17) (v := .int .i64 r) xi17 xd17 (w_some xg17 (by kernel_rfl) e121_17 rfl) (run_l3 xp17 e122_17 c2) ?_
  obtain ⟨ac18, hac18⟩ : ∃ x, ac17.put (some 123) (.int .i64 r) = x := ⟨_, rfl⟩
  rw [hac18]
  have e18_18 : ac18.eval (.tmp 18) = _ := hac18 ▸ ev_put e18_17 (by decide)
  have e121_18 : ac18.eval (.tmp 121) = _ := hac18 ▸ ev_put e121_17 (by decide)
  have e123_18 : ac18.eval (.tmp 123) = _ := hac18 ▸ ev_same (by rw [zz17]; decide)
  have zz18 : ac18.tmps.size = 200 := hac18 ▸ size_put zz17
  obtain ⟨xo18, xi18, xd18, xg18, xp18⟩ := q29_18
  refine pd_want (k := 18) (v := .bool false) xi18 xd18 (w_some xg18 (by kernel_rfl) e121_18 rfl) (run_eq3 xp18 e123_18 rfl hr _) ?_
  obtain ⟨ac19, hac19⟩ : ∃ x, ac18.put (some 124) (.bool false) = x := ⟨_, rfl⟩
  rw [hac19]
  have e18_19 : ac19.eval (.tmp 18) = _ := hac19 ▸ ev_put e18_18 (by decide)
  have e121_19 : ac19.eval (.tmp 121) = _ := hac19 ▸ ev_put e121_18 (by decide)
  have e124_19 : ac19.eval (.tmp 124) = _ := hac19 ▸ ev_same (by rw [zz18]; decide)
  have zz19 : ac19.tmps.size = 200 := hac19 ▸ size_put zz18
  obtain ⟨xo19, xi19, xd19, xg19, xp19⟩ := q29_19
  refine pd_want (k := 19) (v := .bool false) xi19 xd19 (w_some xg19 (by kernel_rfl) e121_19 rfl) (run_move xp19 e124_19 _) ?_
  obtain ⟨ac20, hac20⟩ : ∃ x, ac19.put (some 125) (.bool false) = x := ⟨_, rfl⟩
  rw [hac20]
  have e18_20 : ac20.eval (.tmp 18) = _ := hac20 ▸ ev_put e18_19 (by decide)
  have e121_20 : ac20.eval (.tmp 121) = _ := hac20 ▸ ev_put e121_19 (by decide)
  have e125_20 : ac20.eval (.tmp 125) = _ := hac20 ▸ ev_same (by rw [zz19]; decide)
  have zz20 : ac20.tmps.size = 200 := hac20 ▸ size_put zz19
  obtain ⟨xo20, xi20, xd20, xg20, xp20⟩ := q29_20
  refine pd_skip (k := 20) xi20 xd20 (w_some xg20 (by kernel_rfl) e125_20 rfl) ?_
  obtain ⟨ac21, hac21⟩ : ∃ x, ac20.put (some 126) (undef) = x := ⟨_, rfl⟩
  rw [hac21]
  have e18_21 : ac21.eval (.tmp 18) = _ := hac21 ▸ ev_put e18_20 (by decide)
  have e121_21 : ac21.eval (.tmp 121) = _ := hac21 ▸ ev_put e121_20 (by decide)
  have e125_21 : ac21.eval (.tmp 125) = _ := hac21 ▸ ev_put e125_20 (by decide)
  have e126_21 : ac21.eval (.tmp 126) = _ := hac21 ▸ ev_same (by rw [zz20]; decide)
  have zz21 : ac21.tmps.size = 200 := hac21 ▸ size_put zz20
  obtain ⟨xo21, xi21, xd21, xg21, xp21⟩ := q29_21
  refine pd_skip (k := 21) xi21 xd21 (w_some xg21 (by kernel_rfl) e125_21 rfl) ?_
  obtain ⟨ac22, hac22⟩ : ∃ x, ac21.put (some 127) (undef) = x := ⟨_, rfl⟩
  rw [hac22]
  have e18_22 : ac22.eval (.tmp 18) = _ := hac22 ▸ ev_put e18_21 (by decide)
  have e121_22 : ac22.eval (.tmp 121) = _ := hac22 ▸ ev_put e121_21 (by decide)
  have e125_22 : ac22.eval (.tmp 125) = _ := hac22 ▸ ev_put e125_21 (by decide)
  have e127_22 : ac22.eval (.tmp 127) = _ := hac22 ▸ ev_same (by rw [zz21]; decide)
  have zz22 : ac22.tmps.size = 200 := hac22 ▸ size_put zz21
  obtain ⟨xo22, xi22, xd22, xg22, xp22⟩ := q29_22
  refine pd_skip (k := 22) xi22 xd22 (w_some xg22 (by kernel_rfl) e125_22 rfl) ?_
  obtain ⟨ac23, hac23⟩ : ∃ x, ac22.put (some 128) (undef) = x := ⟨_, rfl⟩
  rw [hac23]
  have e18_23 : ac23.eval (.tmp 18) = _ := hac23 ▸ ev_put e18_22 (by decide)
  have e121_23 : ac23.eval (.tmp 121) = _ := hac23 ▸ ev_put e121_22 (by decide)
  have e125_23 : ac23.eval (.tmp 125) = _ := hac23 ▸ ev_put e125_22 (by decide)
  have e128_23 : ac23.eval (.tmp 128) = _ := hac23 ▸ ev_same (by rw [zz22]; decide)
  have zz23 : ac23.tmps.size = 200 := hac23 ▸ size_put zz22
  obtain ⟨xo23, xi23, xd23, xg23, xp23⟩ := q29_23
  refine pd_want (k := 23) (v := .bool false) xi23 xd23 (w_some xg23 (by kernel_rfl) e121_23 rfl) (run_pick xp23 e125_23 (fun q => by cases q) (fun _ => rfl) _) ?_
  obtain ⟨ac24, hac24⟩ : ∃ x, ac23.put (some 129) (.bool false) = x := ⟨_, rfl⟩
  rw [hac24]
  have e18_24 : ac24.eval (.tmp 18) = _ := hac24 ▸ ev_put e18_23 (by decide)
  have e121_24 : ac24.eval (.tmp 121) = _ := hac24 ▸ ev_put e121_23 (by decide)
  have e129_24 : ac24.eval (.tmp 129) = _ := hac24 ▸ ev_same (by rw [zz23]; decide)
  have zz24 : ac24.tmps.size = 200 := hac24 ▸ size_put zz23
  obtain ⟨xo24, xi24, xd24, xg24, xp24⟩ := q29_24
  refine pd_want (k := 24) (v := .bool false) xi24 xd24 (w_none xg24) (run_pick xp24 e121_24 (fun q => by cases q) (fun _ => e129_24) _) ?_
  obtain ⟨ac25, hac25⟩ : ∃ x, ac24.put (some 130) (.bool false) = x := ⟨_, rfl⟩
  rw [hac25]
  have e18_25 : ac25.eval (.tmp 18) = _ := hac25 ▸ ev_put e18_24 (by decide)
  have e130_25 : ac25.eval (.tmp 130) = _ := hac25 ▸ ev_same (by rw [zz24]; decide)
  have zz25 : ac25.tmps.size = 200 := hac25 ▸ size_put zz24
  obtain ⟨xo25, xi25, xd25, xg25, xp25⟩ := q29_25
  refine pd_want (k := 25) (v := .bool false) xi25 xd25 (w_none xg25) (run_move xp25 e130_25 _) ?_
  obtain ⟨ac26, hac26⟩ : ∃ x, ac25.put (some 131) (.bool false) = x := ⟨_, rfl⟩
  rw [hac26]
  have e18_26 : ac26.eval (.tmp 18) = _ := hac26 ▸ ev_put e18_25 (by decide)
  have e131_26 : ac26.eval (.tmp 131) = _ := hac26 ▸ ev_same (by rw [zz25]; decide)
  have zz26 : ac26.tmps.size = 200 := hac26 ▸ size_put zz25
  obtain ⟨xo26, xi26, xd26, xg26, xp26⟩ := q29_26
  refine pd_want (k := 26) (v := .pointer (some ⟨xb, 4, none⟩)) xi26 xd26 (w_some xg26 (by kernel_rfl) e131_26 rfl) (run_x4 xp26 e18_26 _) ?_
  obtain ⟨ac27, hac27⟩ : ∃ x, ac26.put (some 132) (.pointer (some ⟨xb, 4, none⟩)) = x := ⟨_, rfl⟩
  rw [hac27]
  have e18_27 : ac27.eval (.tmp 18) = _ := hac27 ▸ ev_put e18_26 (by decide)
  have e131_27 : ac27.eval (.tmp 131) = _ := hac27 ▸ ev_put e131_26 (by decide)
  have e132_27 : ac27.eval (.tmp 132) = _ := hac27 ▸ ev_same (by rw [zz26]; decide)
  have zz27 : ac27.tmps.size = 200 := hac27 ▸ size_put zz26
  obtain ⟨xo27, xi27, xd27, xg27, xp27⟩ := q29_27
  refine pd_want (k := 27) (v := .int .i64 cause) xi27 xd27 (w_some xg27 (by kernel_rfl) e131_27 rfl) (run_l3 xp27 e132_27 c4) ?_
  obtain ⟨ac28, hac28⟩ : ∃ x, ac27.put (some 133) (.int .i64 cause) = x := ⟨_, rfl⟩
  rw [hac28]
  have e18_28 : ac28.eval (.tmp 18) = _ := hac28 ▸ ev_put e18_27 (by decide)
  have e131_28 : ac28.eval (.tmp 131) = _ := hac28 ▸ ev_put e131_27 (by decide)
  have e133_28 : ac28.eval (.tmp 133) = _ := hac28 ▸ ev_same (by rw [zz27]; decide)
  have zz28 : ac28.tmps.size = 200 := hac28 ▸ size_put zz27
  obtain ⟨xo28, xi28, xd28, xg28, xp28⟩ := q29_28
  refine pd_want (k := 28) (v := .bool false) xi28 xd28 (w_some xg28 (by kernel_rfl) e131_28 rfl) (run_ne3 xp28 e133_28 rfl hc _) ?_
  obtain ⟨ac29, hac29⟩ : ∃ x, ac28.put (some 134) (.bool false) = x := ⟨_, rfl⟩
  rw [hac29]
  have e18_29 : ac29.eval (.tmp 18) = _ := hac29 ▸ ev_put e18_28 (by decide)
  have e131_29 : ac29.eval (.tmp 131) = _ := hac29 ▸ ev_put e131_28 (by decide)
  have e134_29 : ac29.eval (.tmp 134) = _ := hac29 ▸ ev_same (by rw [zz28]; decide)
  have zz29 : ac29.tmps.size = 200 := hac29 ▸ size_put zz28
  obtain ⟨xo29, xi29, xd29, xg29, xp29⟩ := q29_29
  refine pd_want (k := 29) (v := .bool false) xi29 xd29 (w_some xg29 (by kernel_rfl) e131_29 rfl) (run_move xp29 e134_29 _) ?_
  obtain ⟨ac30, hac30⟩ : ∃ x, ac29.put (some 135) (.bool false) = x := ⟨_, rfl⟩
  rw [hac30]
  have e18_30 : ac30.eval (.tmp 18) = _ := hac30 ▸ ev_put e18_29 (by decide)
  have e131_30 : ac30.eval (.tmp 131) = _ := hac30 ▸ ev_put e131_29 (by decide)
  have e135_30 : ac30.eval (.tmp 135) = _ := hac30 ▸ ev_same (by rw [zz29]; decide)
  have zz30 : ac30.tmps.size = 200 := hac30 ▸ size_put zz29
  obtain ⟨xo30, xi30, xd30, xg30, xp30⟩ := q29_30
  refine pd_skip (k := 30) xi30 xd30 (w_some xg30 (by kernel_rfl) e135_30 rfl) ?_
  obtain ⟨ac31, hac31⟩ : ∃ x, ac30.put (some 136) (undef) = x := ⟨_, rfl⟩
  rw [hac31]
  have e131_31 : ac31.eval (.tmp 131) = _ := hac31 ▸ ev_put e131_30 (by decide)
  have e135_31 : ac31.eval (.tmp 135) = _ := hac31 ▸ ev_put e135_30 (by decide)
  have e136_31 : ac31.eval (.tmp 136) = _ := hac31 ▸ ev_same (by rw [zz30]; decide)
  have zz31 : ac31.tmps.size = 200 := hac31 ▸ size_put zz30
  obtain ⟨xo31, xi31, xd31, xg31, xp31⟩ := q29_31
  refine pd_skip (k := 31) xi31 xd31 (w_some xg31 (by kernel_rfl) e135_31 rfl) ?_
  obtain ⟨ac32, hac32⟩ : ∃ x, ac31.put (some 137) (undef) = x := ⟨_, rfl⟩
  rw [hac32]
  have e131_32 : ac32.eval (.tmp 131) = _ := hac32 ▸ ev_put e131_31 (by decide)
  have e135_32 : ac32.eval (.tmp 135) = _ := hac32 ▸ ev_put e135_31 (by decide)
  have e137_32 : ac32.eval (.tmp 137) = _ := hac32 ▸ ev_same (by rw [zz31]; decide)
  have zz32 : ac32.tmps.size = 200 := hac32 ▸ size_put zz31
  obtain ⟨xo32, xi32, xd32, xg32, xp32⟩ := q29_32
  refine pd_skip (k := 32) xi32 xd32 (w_some xg32 (by kernel_rfl) e135_32 rfl) ?_
  obtain ⟨ac33, hac33⟩ : ∃ x, ac32.put (some 138) (undef) = x := ⟨_, rfl⟩
  rw [hac33]
  have e131_33 : ac33.eval (.tmp 131) = _ := hac33 ▸ ev_put e131_32 (by decide)
  have e135_33 : ac33.eval (.tmp 135) = _ := hac33 ▸ ev_put e135_32 (by decide)
  have e138_33 : ac33.eval (.tmp 138) = _ := hac33 ▸ ev_same (by rw [zz32]; decide)
  have zz33 : ac33.tmps.size = 200 := hac33 ▸ size_put zz32
  obtain ⟨xo33, xi33, xd33, xg33, xp33⟩ := q29_33
  refine pd_want (k := 33) (v := .bool false) xi33 xd33 (w_some xg33 (by kernel_rfl) e131_33 rfl) (run_pick xp33 e135_33 (fun q => by cases q) (fun _ => rfl) _) ?_
  obtain ⟨ac34, hac34⟩ : ∃ x, ac33.put (some 139) (.bool false) = x := ⟨_, rfl⟩
  rw [hac34]
  have e131_34 : ac34.eval (.tmp 131) = _ := hac34 ▸ ev_put e131_33 (by decide)
  have e139_34 : ac34.eval (.tmp 139) = _ := hac34 ▸ ev_same (by rw [zz33]; decide)
  have zz34 : ac34.tmps.size = 200 := hac34 ▸ size_put zz33
  obtain ⟨xo34, xi34, xd34, xg34, xp34⟩ := q29_34
  refine pd_want (k := 34) (v := .bool false) xi34 xd34 (w_none xg34) (run_pick xp34 e131_34 (fun q => by cases q) (fun _ => e139_34) _) ?_
  obtain ⟨ac35, hac35⟩ : ∃ x, ac34.put (some 140) (.bool false) = x := ⟨_, rfl⟩
  rw [hac35]
  have zz35 : ac35.tmps.size = 200 := hac35 ▸ size_put zz34
  refine pd_end (k := 35) (by kernel_rfl) ?_
  subst hac35 hac34 hac33 hac32 hac31 hac30 hac29 hac28 hac27 hac26 hac25 hac24 hac23 hac22 hac21 hac20 hac19 hac18 hac17 hac16 hac15 hac14 hac13 hac12 hac11 hac10 hac9 hac8 hac7 hac6 hac5 hac4 hac3 hac2 hac1
  exact hk
set_option maxRecDepth 100000 in
set_option maxHeartbeats 4000000 in
theorem r29c (pc val cause next : Int) (r xb nb : Nat) (W0 : World) (a : Act) (hs : a.tmps.size = 200) (h17 : a.eval (.tmp 17) = .int .u32 pc) (h20 : a.eval (.tmp 20) = .int .u32 next) (h15 : a.eval (.tmp 15) = .pointer (some ⟨nb, 0, none⟩)) (h18 : a.eval (.tmp 18) = .pointer (some ⟨xb, 0, none⟩)) (c0 : W0.cell? ⟨xb, 0, none⟩ = some (.int .u32 pc)) (c2 : W0.cell? ⟨xb, 2, none⟩ = some (.int .i64 r)) (c3 : W0.cell? ⟨xb, 3, none⟩ = some (.int .u32 val)) (c4 : W0.cell? ⟨xb, 4, none⟩ = some (.int .i64 cause)) (c6 : W0.cell? ⟨xb, 6, none⟩ = some (.int .u32 next)) (d0 : W0.cell? ⟨nb, 0, none⟩ = some (.int .u32 0)) (hr : ((r : Int) == 0) = true) (hv : (val != 0) = false) (hc : (cause != -1) = true) (hr2 : ((r : Int) != 0) = false) {K : Act → World → Prop} (hk : K ((((((((((((((((((((((((((((((((((((a).put (some 106) (.pointer (some ⟨xb, 0, none⟩))).put (some 107) (.int .u32 pc)).put (some 108) (.int .u32 pc)).put (some 109) (.bool false)).put (some 110) (.bool false)).put (some 111) (.pointer (some ⟨xb, 6, none⟩))).put (some 112) (.int .u32 next)).put (some 113) (.int .u32 next)).put (some 114) (.bool false)).put (some 115) (.bool false)).put (some 116) (.bool false)).put (some 117) (.pointer (some ⟨nb, 0, none⟩))).put (some 118) (.int .u32 0)).put (some 119) (.bool false)).put (some 120) (.bool false)).put (some 121) (.bool false)).put (some 122) (.pointer (some ⟨xb, 2, none⟩))).put (some 123) (.int .i64 r)).put (some 124) (.bool true)).put (some 125) (.bool true)).put (some 126) (.pointer (some ⟨xb, 3, none⟩))).put (some 127) (.int .u32 val)).put (some 128) (.bool false)).put (some 129) (.bool false)).put (some 130) (.bool false)).put (some 131) (.bool false)).put (some 132) (.pointer (some ⟨xb, 4, none⟩))).put (some 133) (.int .i64 cause)).put (some 134) (.bool true)).put (some 135) (.bool true)).put (some 136) (.pointer (some ⟨xb, 2, none⟩))).put (some 137) (.int .i64 r)).put (some 138) (.bool false)).put (some 139) (.bool false)).put (some 140) (.bool false)) W0) : (regIn Tryz.f4.body 29).wp Tryz.prog (Exit.then K NoX) a W0 := by
  show (Code.region 29 (opsIn (regIn Tryz.f4.body 29)) false).wp _ _ _ _
  refine wp_region_list ?_
  show wpList _ _ _ (List.drop 0 _) _ _
  obtain ⟨xo0, xi0, xd0, xg0, xp0⟩ := q29_0
  refine pd_want (k := 0) (v := .pointer (some ⟨xb, 0, none⟩)) xi0 xd0 (w_none xg0) (run_x0 xp0 h18 _) ?_
  obtain ⟨ac1, hac1⟩ : ∃ x, a.put (some 106) (.pointer (some ⟨xb, 0, none⟩)) = x := ⟨_, rfl⟩
  rw [hac1]
  have e17_1 : ac1.eval (.tmp 17) = _ := hac1 ▸ ev_put h17 (by decide)
  have e20_1 : ac1.eval (.tmp 20) = _ := hac1 ▸ ev_put h20 (by decide)
  have e15_1 : ac1.eval (.tmp 15) = _ := hac1 ▸ ev_put h15 (by decide)
  have e18_1 : ac1.eval (.tmp 18) = _ := hac1 ▸ ev_put h18 (by decide)
  have e106_1 : ac1.eval (.tmp 106) = _ := hac1 ▸ ev_same (by rw [hs]; decide)
  have zz1 : ac1.tmps.size = 200 := hac1 ▸ size_put hs
  obtain ⟨xo1, xi1, xd1, xg1, xp1⟩ := q29_1
  refine pd_want (k := 1) (v := .int .u32 pc) xi1 xd1 (w_none xg1) (run_l33 xp1 e106_1 c0) ?_
  obtain ⟨ac2, hac2⟩ : ∃ x, ac1.put (some 107) (.int .u32 pc) = x := ⟨_, rfl⟩
  rw [hac2]
  have e17_2 : ac2.eval (.tmp 17) = _ := hac2 ▸ ev_put e17_1 (by decide)
  have e20_2 : ac2.eval (.tmp 20) = _ := hac2 ▸ ev_put e20_1 (by decide)
  have e15_2 : ac2.eval (.tmp 15) = _ := hac2 ▸ ev_put e15_1 (by decide)
  have e18_2 : ac2.eval (.tmp 18) = _ := hac2 ▸ ev_put e18_1 (by decide)
  have e107_2 : ac2.eval (.tmp 107) = _ := hac2 ▸ ev_same (by rw [zz1]; decide)
  have zz2 : ac2.tmps.size = 200 := hac2 ▸ size_put zz1
  obtain ⟨xo2, xi2, xd2, xg2, xp2⟩ := q29_2
  refine pd_want (k := 2) (v := .int .u32 pc) xi2 xd2 (w_none xg2) (run_move xp2 e17_2 _) ?_
  obtain ⟨ac3, hac3⟩ : ∃ x, ac2.put (some 108) (.int .u32 pc) = x := ⟨_, rfl⟩
  rw [hac3]
  have e20_3 : ac3.eval (.tmp 20) = _ := hac3 ▸ ev_put e20_2 (by decide)
  have e15_3 : ac3.eval (.tmp 15) = _ := hac3 ▸ ev_put e15_2 (by decide)
  have e18_3 : ac3.eval (.tmp 18) = _ := hac3 ▸ ev_put e18_2 (by decide)
  have e107_3 : ac3.eval (.tmp 107) = _ := hac3 ▸ ev_put e107_2 (by decide)
  have e108_3 : ac3.eval (.tmp 108) = _ := hac3 ▸ ev_same (by rw [zz2]; decide)
  have zz3 : ac3.tmps.size = 200 := hac3 ▸ size_put zz2
  obtain ⟨xo3, xi3, xd3, xg3, xp3⟩ := q29_3
  refine pd_want (k := 3) (v := .bool false) xi3 xd3 (w_none xg3) (run_ne33 xp3 e107_3 e108_3 (by simp) _) ?_
  obtain ⟨ac4, hac4⟩ : ∃ x, ac3.put (some 109) (.bool false) = x := ⟨_, rfl⟩
  rw [hac4]
  have e20_4 : ac4.eval (.tmp 20) = _ := hac4 ▸ ev_put e20_3 (by decide)
  have e15_4 : ac4.eval (.tmp 15) = _ := hac4 ▸ ev_put e15_3 (by decide)
  have e18_4 : ac4.eval (.tmp 18) = _ := hac4 ▸ ev_put e18_3 (by decide)
  have e109_4 : ac4.eval (.tmp 109) = _ := hac4 ▸ ev_same (by rw [zz3]; decide)
  have zz4 : ac4.tmps.size = 200 := hac4 ▸ size_put zz3
  obtain ⟨xo4, xi4, xd4, xg4, xp4⟩ := q29_4
  refine pd_want (k := 4) (v := .bool false) xi4 xd4 (w_none xg4) (run_move xp4 e109_4 _) ?_
  obtain ⟨ac5, hac5⟩ : ∃ x, ac4.put (some 110) (.bool false) = x := ⟨_, rfl⟩
  rw [hac5]
  have e20_5 : ac5.eval (.tmp 20) = _ := hac5 ▸ ev_put e20_4 (by decide)
  have e15_5 : ac5.eval (.tmp 15) = _ := hac5 ▸ ev_put e15_4 (by decide)
  have e18_5 : ac5.eval (.tmp 18) = _ := hac5 ▸ ev_put e18_4 (by decide)
  have e110_5 : ac5.eval (.tmp 110) = _ := hac5 ▸ ev_same (by rw [zz4]; decide)
  have zz5 : ac5.tmps.size = 200 := hac5 ▸ size_put zz4
  obtain ⟨xo5, xi5, xd5, xg5, xp5⟩ := q29_5
  refine pd_want (k := 5) (v := .pointer (some ⟨xb, 6, none⟩)) xi5 xd5 (w_some xg5 (by kernel_rfl) e110_5 rfl) (run_x6 xp5 e18_5 _) ?_
  obtain ⟨ac6, hac6⟩ : ∃ x, ac5.put (some 111) (.pointer (some ⟨xb, 6, none⟩)) = x := ⟨_, rfl⟩
  rw [hac6]
  have e20_6 : ac6.eval (.tmp 20) = _ := hac6 ▸ ev_put e20_5 (by decide)
  have e15_6 : ac6.eval (.tmp 15) = _ := hac6 ▸ ev_put e15_5 (by decide)
  have e18_6 : ac6.eval (.tmp 18) = _ := hac6 ▸ ev_put e18_5 (by decide)
  have e110_6 : ac6.eval (.tmp 110) = _ := hac6 ▸ ev_put e110_5 (by decide)
  have e111_6 : ac6.eval (.tmp 111) = _ := hac6 ▸ ev_same (by rw [zz5]; decide)
  have zz6 : ac6.tmps.size = 200 := hac6 ▸ size_put zz5
  obtain ⟨xo6, xi6, xd6, xg6, xp6⟩ := q29_6
  refine pd_want (k := 6) (v := .int .u32 next) xi6 xd6 (w_some xg6 (by kernel_rfl) e110_6 rfl) (run_l33 xp6 e111_6 c6) ?_
  obtain ⟨ac7, hac7⟩ : ∃ x, ac6.put (some 112) (.int .u32 next) = x := ⟨_, rfl⟩
  rw [hac7]
  have e20_7 : ac7.eval (.tmp 20) = _ := hac7 ▸ ev_put e20_6 (by decide)
  have e15_7 : ac7.eval (.tmp 15) = _ := hac7 ▸ ev_put e15_6 (by decide)
  have e18_7 : ac7.eval (.tmp 18) = _ := hac7 ▸ ev_put e18_6 (by decide)
  have e110_7 : ac7.eval (.tmp 110) = _ := hac7 ▸ ev_put e110_6 (by decide)
  have e112_7 : ac7.eval (.tmp 112) = _ := hac7 ▸ ev_same (by rw [zz6]; decide)
  have zz7 : ac7.tmps.size = 200 := hac7 ▸ size_put zz6
  obtain ⟨xo7, xi7, xd7, xg7, xp7⟩ := q29_7
  refine pd_want (k := 7) (v := .int .u32 next) xi7 xd7 (w_some xg7 (by kernel_rfl) e110_7 rfl) (run_move xp7 e20_7 _) ?_
  obtain ⟨ac8, hac8⟩ : ∃ x, ac7.put (some 113) (.int .u32 next) = x := ⟨_, rfl⟩
  rw [hac8]
  have e15_8 : ac8.eval (.tmp 15) = _ := hac8 ▸ ev_put e15_7 (by decide)
  have e18_8 : ac8.eval (.tmp 18) = _ := hac8 ▸ ev_put e18_7 (by decide)
  have e110_8 : ac8.eval (.tmp 110) = _ := hac8 ▸ ev_put e110_7 (by decide)
  have e112_8 : ac8.eval (.tmp 112) = _ := hac8 ▸ ev_put e112_7 (by decide)
  have e113_8 : ac8.eval (.tmp 113) = _ := hac8 ▸ ev_same (by rw [zz7]; decide)
  have zz8 : ac8.tmps.size = 200 := hac8 ▸ size_put zz7
  obtain ⟨xo8, xi8, xd8, xg8, xp8⟩ := q29_8
  refine pd_want (k := 8) (v := .bool false) xi8 xd8 (w_some xg8 (by kernel_rfl) e110_8 rfl) (run_ne33 xp8 e112_8 e113_8 (by simp) _) ?_
  obtain ⟨ac9, hac9⟩ : ∃ x, ac8.put (some 114) (.bool false) = x := ⟨_, rfl⟩
  rw [hac9]
  have e15_9 : ac9.eval (.tmp 15) = _ := hac9 ▸ ev_put e15_8 (by decide)
  have e18_9 : ac9.eval (.tmp 18) = _ := hac9 ▸ ev_put e18_8 (by decide)
  have e110_9 : ac9.eval (.tmp 110) = _ := hac9 ▸ ev_put e110_8 (by decide)
  have e114_9 : ac9.eval (.tmp 114) = _ := hac9 ▸ ev_same (by rw [zz8]; decide)
  have zz9 : ac9.tmps.size = 200 := hac9 ▸ size_put zz8
  obtain ⟨xo9, xi9, xd9, xg9, xp9⟩ := q29_9
  refine pd_want (k := 9) (v := .bool false) xi9 xd9 (w_none xg9) (run_pick xp9 e110_9 (fun q => by cases q) (fun _ => e114_9) _) ?_
  obtain ⟨ac10, hac10⟩ : ∃ x, ac9.put (some 115) (.bool false) = x := ⟨_, rfl⟩
  rw [hac10]
  have e15_10 : ac10.eval (.tmp 15) = _ := hac10 ▸ ev_put e15_9 (by decide)
  have e18_10 : ac10.eval (.tmp 18) = _ := hac10 ▸ ev_put e18_9 (by decide)
  have e115_10 : ac10.eval (.tmp 115) = _ := hac10 ▸ ev_same (by rw [zz9]; decide)
  have zz10 : ac10.tmps.size = 200 := hac10 ▸ size_put zz9
  obtain ⟨xo10, xi10, xd10, xg10, xp10⟩ := q29_10
  refine pd_want (k := 10) (v := .bool false) xi10 xd10 (w_none xg10) (run_move xp10 e115_10 _) ?_
  obtain ⟨ac11, hac11⟩ : ∃ x, ac10.put (some 116) (.bool false) = x := ⟨_, rfl⟩
  rw [hac11]
  have e15_11 : ac11.eval (.tmp 15) = _ := hac11 ▸ ev_put e15_10 (by decide)
  have e18_11 : ac11.eval (.tmp 18) = _ := hac11 ▸ ev_put e18_10 (by decide)
  have e116_11 : ac11.eval (.tmp 116) = _ := hac11 ▸ ev_same (by rw [zz10]; decide)
  have zz11 : ac11.tmps.size = 200 := hac11 ▸ size_put zz10
  obtain ⟨xo11, xi11, xd11, xg11, xp11⟩ := q29_11
  refine pd_want (k := 11) (v := .pointer (some ⟨nb, 0, none⟩)) xi11 xd11 (w_some xg11 (by kernel_rfl) e116_11 rfl) (run_ix xp11 e15_11 (show _ = Value.int .i64 ((0 : Nat) : Int) from rfl) (by decide) _) ?_
  obtain ⟨ac12, hac12⟩ : ∃ x, ac11.put (some 117) (.pointer (some ⟨nb, 0, none⟩)) = x := ⟨_, rfl⟩
  rw [hac12]
  have e18_12 : ac12.eval (.tmp 18) = _ := hac12 ▸ ev_put e18_11 (by decide)
  have e116_12 : ac12.eval (.tmp 116) = _ := hac12 ▸ ev_put e116_11 (by decide)
  have e117_12 : ac12.eval (.tmp 117) = _ := hac12 ▸ ev_same (by rw [zz11]; decide)
  have zz12 : ac12.tmps.size = 200 := hac12 ▸ size_put zz11
  obtain ⟨xo12, xi12, xd12, xg12, xp12⟩ := q29_12
  refine pd_want (k := 12) (v := .int .u32 0) xi12 xd12 (w_some xg12 (by kernel_rfl) e116_12 rfl) (run_l33 xp12 e117_12 d0) ?_
  obtain ⟨ac13, hac13⟩ : ∃ x, ac12.put (some 118) (.int .u32 0) = x := ⟨_, rfl⟩
  rw [hac13]
  have e18_13 : ac13.eval (.tmp 18) = _ := hac13 ▸ ev_put e18_12 (by decide)
  have e116_13 : ac13.eval (.tmp 116) = _ := hac13 ▸ ev_put e116_12 (by decide)
  have e118_13 : ac13.eval (.tmp 118) = _ := hac13 ▸ ev_same (by rw [zz12]; decide)
  have zz13 : ac13.tmps.size = 200 := hac13 ▸ size_put zz12
  obtain ⟨xo13, xi13, xd13, xg13, xp13⟩ := q29_13
  refine pd_want (k := 13) (v := .bool false) xi13 xd13 (w_some xg13 (by kernel_rfl) e116_13 rfl) (run_ne33 xp13 e118_13 rfl (by decide) _) ?_
  obtain ⟨ac14, hac14⟩ : ∃ x, ac13.put (some 119) (.bool false) = x := ⟨_, rfl⟩
  rw [hac14]
  have e18_14 : ac14.eval (.tmp 18) = _ := hac14 ▸ ev_put e18_13 (by decide)
  have e116_14 : ac14.eval (.tmp 116) = _ := hac14 ▸ ev_put e116_13 (by decide)
  have e119_14 : ac14.eval (.tmp 119) = _ := hac14 ▸ ev_same (by rw [zz13]; decide)
  have zz14 : ac14.tmps.size = 200 := hac14 ▸ size_put zz13
  obtain ⟨xo14, xi14, xd14, xg14, xp14⟩ := q29_14
  refine pd_want (k := 14) (v := .bool false) xi14 xd14 (w_none xg14) (run_pick xp14 e116_14 (fun q => by cases q) (fun _ => e119_14) _) ?_
  obtain ⟨ac15, hac15⟩ : ∃ x, ac14.put (some 120) (.bool false) = x := ⟨_, rfl⟩
  rw [hac15]
  have e18_15 : ac15.eval (.tmp 18) = _ := hac15 ▸ ev_put e18_14 (by decide)
  have e120_15 : ac15.eval (.tmp 120) = _ := hac15 ▸ ev_same (by rw [zz14]; decide)
  have zz15 : ac15.tmps.size = 200 := hac15 ▸ size_put zz14
  obtain ⟨xo15, xi15, xd15, xg15, xp15⟩ := q29_15
  refine pd_want (k := 15) (v := .bool false) xi15 xd15 (w_none xg15) (run_move xp15 e120_15 _) ?_
  obtain ⟨ac16, hac16⟩ : ∃ x, ac15.put (some 121) (.bool false) = x := ⟨_, rfl⟩
  rw [hac16]
  have e18_16 : ac16.eval (.tmp 18) = _ := hac16 ▸ ev_put e18_15 (by decide)
  have e121_16 : ac16.eval (.tmp 121) = _ := hac16 ▸ ev_same (by rw [zz15]; decide)
  have zz16 : ac16.tmps.size = 200 := hac16 ▸ size_put zz15
  obtain ⟨xo16, xi16, xd16, xg16, xp16⟩ := q29_16
  refine pd_want (k := 16) (v := .pointer (some ⟨xb, 2, none⟩)) xi16 xd16 (w_some xg16 (by kernel_rfl) e121_16 rfl) (run_x2 xp16 e18_16 _) ?_
  obtain ⟨ac17, hac17⟩ : ∃ x, ac16.put (some 122) (.pointer (some ⟨xb, 2, none⟩)) = x := ⟨_, rfl⟩
  rw [hac17]
  have e18_17 : ac17.eval (.tmp 18) = _ := hac17 ▸ ev_put e18_16 (by decide)
  have e121_17 : ac17.eval (.tmp 121) = _ := hac17 ▸ ev_put e121_16 (by decide)
  have e122_17 : ac17.eval (.tmp 122) = _ := hac17 ▸ ev_same (by rw [zz16]; decide)
  have zz17 : ac17.tmps.size = 200 := hac17 ▸ size_put zz16
  obtain ⟨xo17, xi17, xd17, xg17, xp17⟩ := q29_17
  refine pd_want (k := 17) (v := .int .i64 r) xi17 xd17 (w_some xg17 (by kernel_rfl) e121_17 rfl) (run_l3 xp17 e122_17 c2) ?_
  obtain ⟨ac18, hac18⟩ : ∃ x, ac17.put (some 123) (.int .i64 r) = x := ⟨_, rfl⟩
  rw [hac18]
  have e18_18 : ac18.eval (.tmp 18) = _ := hac18 ▸ ev_put e18_17 (by decide)
  have e121_18 : ac18.eval (.tmp 121) = _ := hac18 ▸ ev_put e121_17 (by decide)
  have e123_18 : ac18.eval (.tmp 123) = _ := hac18 ▸ ev_same (by rw [zz17]; decide)
  have zz18 : ac18.tmps.size = 200 := hac18 ▸ size_put zz17
  obtain ⟨xo18, xi18, xd18, xg18, xp18⟩ := q29_18
  refine pd_want (k := 18) (v := .bool true) xi18 xd18 (w_some xg18 (by kernel_rfl) e121_18 rfl) (run_eq3 xp18 e123_18 rfl hr _) ?_
  obtain ⟨ac19, hac19⟩ : ∃ x, ac18.put (some 124) (.bool true) = x := ⟨_, rfl⟩
  rw [hac19]
  have e18_19 : ac19.eval (.tmp 18) = _ := hac19 ▸ ev_put e18_18 (by decide)
  have e121_19 : ac19.eval (.tmp 121) = _ := hac19 ▸ ev_put e121_18 (by decide)
  have e124_19 : ac19.eval (.tmp 124) = _ := hac19 ▸ ev_same (by rw [zz18]; decide)
  have zz19 : ac19.tmps.size = 200 := hac19 ▸ size_put zz18
  obtain ⟨xo19, xi19, xd19, xg19, xp19⟩ := q29_19
  refine pd_want (k := 19) (v := .bool true) xi19 xd19 (w_some xg19 (by kernel_rfl) e121_19 rfl) (run_move xp19 e124_19 _) ?_
  obtain ⟨ac20, hac20⟩ : ∃ x, ac19.put (some 125) (.bool true) = x := ⟨_, rfl⟩
  rw [hac20]
  have e18_20 : ac20.eval (.tmp 18) = _ := hac20 ▸ ev_put e18_19 (by decide)
  have e121_20 : ac20.eval (.tmp 121) = _ := hac20 ▸ ev_put e121_19 (by decide)
  have e125_20 : ac20.eval (.tmp 125) = _ := hac20 ▸ ev_same (by rw [zz19]; decide)
  have zz20 : ac20.tmps.size = 200 := hac20 ▸ size_put zz19
  obtain ⟨xo20, xi20, xd20, xg20, xp20⟩ := q29_20
  refine pd_want (k := 20) (v := .pointer (some ⟨xb, 3, none⟩)) xi20 xd20 (w_some xg20 (by kernel_rfl) e125_20 rfl) (run_x3 xp20 e18_20 _) ?_
  obtain ⟨ac21, hac21⟩ : ∃ x, ac20.put (some 126) (.pointer (some ⟨xb, 3, none⟩)) = x := ⟨_, rfl⟩
  rw [hac21]
  have e18_21 : ac21.eval (.tmp 18) = _ := hac21 ▸ ev_put e18_20 (by decide)
  have e121_21 : ac21.eval (.tmp 121) = _ := hac21 ▸ ev_put e121_20 (by decide)
  have e125_21 : ac21.eval (.tmp 125) = _ := hac21 ▸ ev_put e125_20 (by decide)
  have e126_21 : ac21.eval (.tmp 126) = _ := hac21 ▸ ev_same (by rw [zz20]; decide)
  have zz21 : ac21.tmps.size = 200 := hac21 ▸ size_put zz20
  obtain ⟨xo21, xi21, xd21, xg21, xp21⟩ := q29_21
  refine pd_want (k := 21) (v := .int .u32 val) xi21 xd21 (w_some xg21 (by kernel_rfl) e125_21 rfl) (run_l33 xp21 e126_21 c3) ?_
  obtain ⟨ac22, hac22⟩ : ∃ x, ac21.put (some 127) (.int .u32 val) = x := ⟨_, rfl⟩
  rw [hac22]
  have e18_22 : ac22.eval (.tmp 18) = _ := hac22 ▸ ev_put e18_21 (by decide)
  have e121_22 : ac22.eval (.tmp 121) = _ := hac22 ▸ ev_put e121_21 (by decide)
  have e125_22 : ac22.eval (.tmp 125) = _ := hac22 ▸ ev_put e125_21 (by decide)
  have e127_22 : ac22.eval (.tmp 127) = _ := hac22 ▸ ev_same (by rw [zz21]; decide)
  have zz22 : ac22.tmps.size = 200 := hac22 ▸ size_put zz21
  obtain ⟨xo22, xi22, xd22, xg22, xp22⟩ := q29_22
  refine pd_want (k := 22) (v := .bool false) xi22 xd22 (w_some xg22 (by kernel_rfl) e125_22 rfl) (run_ne33 xp22 e127_22 rfl hv _) ?_
  obtain ⟨ac23, hac23⟩ : ∃ x, ac22.put (some 128) (.bool false) = x := ⟨_, rfl⟩
  rw [hac23]
  have e18_23 : ac23.eval (.tmp 18) = _ := hac23 ▸ ev_put e18_22 (by decide)
  have e121_23 : ac23.eval (.tmp 121) = _ := hac23 ▸ ev_put e121_22 (by decide)
  have e125_23 : ac23.eval (.tmp 125) = _ := hac23 ▸ ev_put e125_22 (by decide)
  have e128_23 : ac23.eval (.tmp 128) = _ := hac23 ▸ ev_same (by rw [zz22]; decide)
  have zz23 : ac23.tmps.size = 200 := hac23 ▸ size_put zz22
  obtain ⟨xo23, xi23, xd23, xg23, xp23⟩ := q29_23
  refine pd_want (k := 23) (v := .bool false) xi23 xd23 (w_some xg23 (by kernel_rfl) e121_23 rfl) (run_pick xp23 e125_23 (fun _ => e128_23) (fun q => by cases q) _) ?_
  obtain ⟨ac24, hac24⟩ : ∃ x, ac23.put (some 129) (.bool false) = x := ⟨_, rfl⟩
  rw [hac24]
  have e18_24 : ac24.eval (.tmp 18) = _ := hac24 ▸ ev_put e18_23 (by decide)
  have e121_24 : ac24.eval (.tmp 121) = _ := hac24 ▸ ev_put e121_23 (by decide)
  have e129_24 : ac24.eval (.tmp 129) = _ := hac24 ▸ ev_same (by rw [zz23]; decide)
  have zz24 : ac24.tmps.size = 200 := hac24 ▸ size_put zz23
  obtain ⟨xo24, xi24, xd24, xg24, xp24⟩ := q29_24
  refine pd_want (k := 24) (v := .bool false) xi24 xd24 (w_none xg24) (run_pick xp24 e121_24 (fun q => by cases q) (fun _ => e129_24) _) ?_
  obtain ⟨ac25, hac25⟩ : ∃ x, ac24.put (some 130) (.bool false) = x := ⟨_, rfl⟩
  rw [hac25]
  have e18_25 : ac25.eval (.tmp 18) = _ := hac25 ▸ ev_put e18_24 (by decide)
  have e130_25 : ac25.eval (.tmp 130) = _ := hac25 ▸ ev_same (by rw [zz24]; decide)
  have zz25 : ac25.tmps.size = 200 := hac25 ▸ size_put zz24
  obtain ⟨xo25, xi25, xd25, xg25, xp25⟩ := q29_25
  refine pd_want (k := 25) (v := .bool false) xi25 xd25 (w_none xg25) (run_move xp25 e130_25 _) ?_
  obtain ⟨ac26, hac26⟩ : ∃ x, ac25.put (some 131) (.bool false) = x := ⟨_, rfl⟩
  rw [hac26]
  have e18_26 : ac26.eval (.tmp 18) = _ := hac26 ▸ ev_put e18_25 (by decide)
  have e131_26 : ac26.eval (.tmp 131) = _ := hac26 ▸ ev_same (by rw [zz25]; decide)
  have zz26 : ac26.tmps.size = 200 := hac26 ▸ size_put zz25
  obtain ⟨xo26, xi26, xd26, xg26, xp26⟩ := q29_26
  refine pd_want (k := 26) (v := .pointer (some ⟨xb, 4, none⟩)) xi26 xd26 (w_some xg26 (by kernel_rfl) e131_26 rfl) (run_x4 xp26 e18_26 _) ?_
  obtain ⟨ac27, hac27⟩ : ∃ x, ac26.put (some 132) (.pointer (some ⟨xb, 4, none⟩)) = x := ⟨_, rfl⟩
  rw [hac27]
  have e18_27 : ac27.eval (.tmp 18) = _ := hac27 ▸ ev_put e18_26 (by decide)
  have e131_27 : ac27.eval (.tmp 131) = _ := hac27 ▸ ev_put e131_26 (by decide)
  have e132_27 : ac27.eval (.tmp 132) = _ := hac27 ▸ ev_same (by rw [zz26]; decide)
  have zz27 : ac27.tmps.size = 200 := hac27 ▸ size_put zz26
  obtain ⟨xo27, xi27, xd27, xg27, xp27⟩ := q29_27
  refine pd_want (k := 27) (v := .int .i64 cause) xi27 xd27 (w_some xg27 (by kernel_rfl) e131_27 rfl) (run_l3 xp27 e132_27 c4) ?_
  obtain ⟨ac28, hac28⟩ : ∃ x, ac27.put (some 133) (.int .i64 cause) = x := ⟨_, rfl⟩
  rw [hac28]
  have e18_28 : ac28.eval (.tmp 18) = _ := hac28 ▸ ev_put e18_27 (by decide)
  have e131_28 : ac28.eval (.tmp 131) = _ := hac28 ▸ ev_put e131_27 (by decide)
  have e133_28 : ac28.eval (.tmp 133) = _ := hac28 ▸ ev_same (by rw [zz27]; decide)
  have zz28 : ac28.tmps.size = 200 := hac28 ▸ size_put zz27
  obtain ⟨xo28, xi28, xd28, xg28, xp28⟩ := q29_28
  refine pd_want (k := 28) (v := .bool true) xi28 xd28 (w_some xg28 (by kernel_rfl) e131_28 rfl) (run_ne3 xp28 e133_28 rfl hc _) ?_
  obtain ⟨ac29, hac29⟩ : ∃ x, ac28.put (some 134) (.bool true) = x := ⟨_, rfl⟩
  rw [hac29]
  have e18_29 : ac29.eval (.tmp 18) = _ := hac29 ▸ ev_put e18_28 (by decide)
  have e131_29 : ac29.eval (.tmp 131) = _ := hac29 ▸ ev_put e131_28 (by decide)
  have e134_29 : ac29.eval (.tmp 134) = _ := hac29 ▸ ev_same (by rw [zz28]; decide)
  have zz29 : ac29.tmps.size = 200 := hac29 ▸ size_put zz28
  obtain ⟨xo29, xi29, xd29, xg29, xp29⟩ := q29_29
  refine pd_want (k := 29) (v := .bool true) xi29 xd29 (w_some xg29 (by kernel_rfl) e131_29 rfl) (run_move xp29 e134_29 _) ?_
  obtain ⟨ac30, hac30⟩ : ∃ x, ac29.put (some 135) (.bool true) = x := ⟨_, rfl⟩
  rw [hac30]
  have e18_30 : ac30.eval (.tmp 18) = _ := hac30 ▸ ev_put e18_29 (by decide)
  have e131_30 : ac30.eval (.tmp 131) = _ := hac30 ▸ ev_put e131_29 (by decide)
  have e135_30 : ac30.eval (.tmp 135) = _ := hac30 ▸ ev_same (by rw [zz29]; decide)
  have zz30 : ac30.tmps.size = 200 := hac30 ▸ size_put zz29
  obtain ⟨xo30, xi30, xd30, xg30, xp30⟩ := q29_30
  refine pd_want (k := 30) (v := .pointer (some ⟨xb, 2, none⟩)) xi30 xd30 (w_some xg30 (by kernel_rfl) e135_30 rfl) (run_x2 xp30 e18_30 _) ?_
  obtain ⟨ac31, hac31⟩ : ∃ x, ac30.put (some 136) (.pointer (some ⟨xb, 2, none⟩)) = x := ⟨_, rfl⟩
  rw [hac31]
  have e131_31 : ac31.eval (.tmp 131) = _ := hac31 ▸ ev_put e131_30 (by decide)
  have e135_31 : ac31.eval (.tmp 135) = _ := hac31 ▸ ev_put e135_30 (by decide)
  have e136_31 : ac31.eval (.tmp 136) = _ := hac31 ▸ ev_same (by rw [zz30]; decide)
  have zz31 : ac31.tmps.size = 200 := hac31 ▸ size_put zz30
  obtain ⟨xo31, xi31, xd31, xg31, xp31⟩ := q29_31
  refine pd_want (k := 31) (v := .int .i64 r) xi31 xd31 (w_some xg31 (by kernel_rfl) e135_31 rfl) (run_l3 xp31 e136_31 c2) ?_
  obtain ⟨ac32, hac32⟩ : ∃ x, ac31.put (some 137) (.int .i64 r) = x := ⟨_, rfl⟩
  rw [hac32]
  have e131_32 : ac32.eval (.tmp 131) = _ := hac32 ▸ ev_put e131_31 (by decide)
  have e135_32 : ac32.eval (.tmp 135) = _ := hac32 ▸ ev_put e135_31 (by decide)
  have e137_32 : ac32.eval (.tmp 137) = _ := hac32 ▸ ev_same (by rw [zz31]; decide)
  have zz32 : ac32.tmps.size = 200 := hac32 ▸ size_put zz31
  obtain ⟨xo32, xi32, xd32, xg32, xp32⟩ := q29_32
  refine pd_want (k := 32) (v := .bool false) xi32 xd32 (w_some xg32 (by kernel_rfl) e135_32 rfl) (run_ne3 xp32 e137_32 rfl hr2 _) ?_
  obtain ⟨ac33, hac33⟩ : ∃ x, ac32.put (some 138) (.bool false) = x := ⟨_, rfl⟩
  rw [hac33]
  have e131_33 : ac33.eval (.tmp 131) = _ := hac33 ▸ ev_put e131_32 (by decide)
  have e135_33 : ac33.eval (.tmp 135) = _ := hac33 ▸ ev_put e135_32 (by decide)
  have e138_33 : ac33.eval (.tmp 138) = _ := hac33 ▸ ev_same (by rw [zz32]; decide)
  have zz33 : ac33.tmps.size = 200 := hac33 ▸ size_put zz32
  obtain ⟨xo33, xi33, xd33, xg33, xp33⟩ := q29_33
  refine pd_want (k := 33) (v := .bool false) xi33 xd33 (w_some xg33 (by kernel_rfl) e131_33 rfl) (run_pick xp33 e135_33 (fun _ => e138_33) (fun q => by cases q) _) ?_
  obtain ⟨ac34, hac34⟩ : ∃ x, ac33.put (some 139) (.bool false) = x := ⟨_, rfl⟩
  rw [hac34]
  have e131_34 : ac34.eval (.tmp 131) = _ := hac34 ▸ ev_put e131_33 (by decide)
  have e139_34 : ac34.eval (.tmp 139) = _ := hac34 ▸ ev_same (by rw [zz33]; decide)
  have zz34 : ac34.tmps.size = 200 := hac34 ▸ size_put zz33
  obtain ⟨xo34, xi34, xd34, xg34, xp34⟩ := q29_34
  refine pd_want (k := 34) (v := .bool false) xi34 xd34 (w_none xg34) (run_pick xp34 e131_34 (fun q => by cases q) (fun _ => e139_34) _) ?_
  obtain ⟨ac35, hac35⟩ : ∃ x, ac34.put (some 140) (.bool false) = x := ⟨_, rfl⟩
  rw [hac35]
  have zz35 : ac35.tmps.size = 200 := hac35 ▸ size_put zz34
  refine pd_end (k := 35) (by kernel_rfl) ?_
  subst hac35 hac34 hac33 hac32 hac31 hac30 hac29 hac28 hac27 hac26 hac25 hac24 hac23 hac22 hac21 hac20 hac19 hac18 hac17 hac16 hac15 hac14 hac13 hac12 hac11 hac10 hac9 hac8 hac7 hac6 hac5 hac4 hac3 hac2 hac1
  exact hk
set_option maxRecDepth 100000 in
set_option maxHeartbeats 4000000 in
theorem reg29 {u0 u1 u2 u3 u4 u5 u6 u7 u8 u9 u10 u11 u12 u13 u14 u16 u19 u21 u22 u23 u24 u25 u26 u27 u28 u29 u30 u31 u32 u33 u34 u35 u36 u37 u38 u39 u40 u41 u42 u43 u44 u45 u46 u47 u48 u49 u50 u51 u52 u53 u54 u55 u56 u57 u58 u59 u60 u61 u62 u63 u64 u65 u66 u67 u68 u69 u70 u71 u72 u73 u74 u75 u76 u77 u78 u79 u80 u81 u82 u83 u84 u85 u86 u87 u88 u89 u90 u91 u92 u93 u94 u95 u96 u97 u98 u99 u100 u101 u102 u103 u104 u105 u106 u107 u108 u109 u110 u111 u112 u113 u114 u115 u116 u117 u118 u119 u120 u121 u122 u123 u124 u125 u126 u127 u128 u129 u130 u131 u132 u133 u134 u135 u136 u137 u138 u139 u140 u141 u142 u143 u144 u145 u146 u147 u148 u149 u150 u151 u152 u153 u154 u155 u156 u157 u158 u159 u160 u161 u162 u163 u164 u165 u166 u167 u168 u169 u170 u171 u172 u173 u174 u175 u176 u177 u178 u179 u180 u181 u182 u183 u184 u185 u186 u187 u188 u189 u190 u191 u192 u193 u194 u195 u196 u197 u198 u199 : Value} {ds : List Deferred} (pc val cause next : Int) (r xb nb : Nat) (W0 : World) (c0 : W0.cell? ⟨xb, 0, none⟩ = some (.int .u32 pc)) (c2 : W0.cell? ⟨xb, 2, none⟩ = some (.int .i64 r)) (c3 : W0.cell? ⟨xb, 3, none⟩ = some (.int .u32 val)) (c4 : W0.cell? ⟨xb, 4, none⟩ = some (.int .i64 cause)) (c6 : W0.cell? ⟨xb, 6, none⟩ = some (.int .u32 next)) (d0 : W0.cell? ⟨nb, 0, none⟩ = some (.int .u32 0)) (g1 : r = 0 → val = 0) (g2 : cause ≠ -1 → r = 0) {K : Act → World → Prop} (hk : ∀ (t106 t107 t108 t109 t110 t111 t112 t113 t114 t115 t116 t117 t118 t119 t120 t121 t122 t123 t124 t125 t126 t127 t128 t129 t130 t131 t132 t133 t134 t135 t136 t137 t138 t139 : Value), K ⟨#[u0, u1, u2, u3, u4, u5, u6, u7, u8, u9, u10, u11, u12, u13, u14, .pointer (some ⟨nb, 0, none⟩), u16, .int .u32 pc, .pointer (some ⟨xb, 0, none⟩), u19, .int .u32 next, u21, u22, u23, u24, u25, u26, u27, u28, u29, u30, u31, u32, u33, u34, u35, u36, u37, u38, u39, u40, u41, u42, u43, u44, u45, u46, u47, u48, u49, u50, u51, u52, u53, u54, u55, u56, u57, u58, u59, u60, u61, u62, u63, u64, u65, u66, u67, u68, u69, u70, u71, u72, u73, u74, u75, u76, u77, u78, u79, u80, u81, u82, u83, u84, u85, u86, u87, u88, u89, u90, u91, u92, u93, u94, u95, u96, u97, u98, u99, u100, u101, u102, u103, u104, u105, t106, t107, t108, t109, t110, t111, t112, t113, t114, t115, t116, t117, t118, t119, t120, t121, t122, t123, t124, t125, t126, t127, t128, t129, t130, t131, t132, t133, t134, t135, t136, t137, t138, t139, .bool false, u141, u142, u143, u144, u145, u146, u147, u148, u149, u150, u151, u152, u153, u154, u155, u156, u157, u158, u159, u160, u161, u162, u163, u164, u165, u166, u167, u168, u169, u170, u171, u172, u173, u174, u175, u176, u177, u178, u179, u180, u181, u182, u183, u184, u185, u186, u187, u188, u189, u190, u191, u192, u193, u194, u195, u196, u197, u198, u199], ds⟩ W0) : (regIn Tryz.f4.body 29).wp Tryz.prog (Exit.then K NoX) ⟨#[u0, u1, u2, u3, u4, u5, u6, u7, u8, u9, u10, u11, u12, u13, u14, .pointer (some ⟨nb, 0, none⟩), u16, .int .u32 pc, .pointer (some ⟨xb, 0, none⟩), u19, .int .u32 next, u21, u22, u23, u24, u25, u26, u27, u28, u29, u30, u31, u32, u33, u34, u35, u36, u37, u38, u39, u40, u41, u42, u43, u44, u45, u46, u47, u48, u49, u50, u51, u52, u53, u54, u55, u56, u57, u58, u59, u60, u61, u62, u63, u64, u65, u66, u67, u68, u69, u70, u71, u72, u73, u74, u75, u76, u77, u78, u79, u80, u81, u82, u83, u84, u85, u86, u87, u88, u89, u90, u91, u92, u93, u94, u95, u96, u97, u98, u99, u100, u101, u102, u103, u104, u105, u106, u107, u108, u109, u110, u111, u112, u113, u114, u115, u116, u117, u118, u119, u120, u121, u122, u123, u124, u125, u126, u127, u128, u129, u130, u131, u132, u133, u134, u135, u136, u137, u138, u139, u140, u141, u142, u143, u144, u145, u146, u147, u148, u149, u150, u151, u152, u153, u154, u155, u156, u157, u158, u159, u160, u161, u162, u163, u164, u165, u166, u167, u168, u169, u170, u171, u172, u173, u174, u175, u176, u177, u178, u179, u180, u181, u182, u183, u184, u185, u186, u187, u188, u189, u190, u191, u192, u193, u194, u195, u196, u197, u198, u199], ds⟩ W0 := by
  by_cases q1 : r = 0
  · have hr : ((r : Int) == 0) = true := by simp; exact q1
    have hr2 : ((r : Int) != 0) = false := by simp; exact q1
    have hv : (val != 0) = false := by simp; exact g1 q1
    by_cases q2 : cause = -1
    · have hc : (cause != -1) = false := by simp; exact q2
      refine r29a pc val cause next r xb nb W0 _ rfl rfl rfl rfl rfl c0 c2 c3 c4 c6 d0 hr hv hc ?_
      have h := hk (.pointer (some ⟨xb, 0, none⟩)) (.int .u32 pc) (.int .u32 pc) (.bool false) (.bool false) (.pointer (some ⟨xb, 6, none⟩)) (.int .u32 next) (.int .u32 next) (.bool false) (.bool false) (.bool false) (.pointer (some ⟨nb, 0, none⟩)) (.int .u32 0) (.bool false) (.bool false) (.bool false) (.pointer (some ⟨xb, 2, none⟩)) (.int .i64 r) (.bool true) (.bool true) (.pointer (some ⟨xb, 3, none⟩)) (.int .u32 val) (.bool false) (.bool false) (.bool false) (.bool false) (.pointer (some ⟨xb, 4, none⟩)) (.int .i64 cause) (.bool false) (.bool false) (undef) (undef) (undef) (.bool false)
      exact Eq.mpr (by kernel_rfl) h
    · have hc : (cause != -1) = true := by simp; exact q2
      refine r29c pc val cause next r xb nb W0 _ rfl rfl rfl rfl rfl c0 c2 c3 c4 c6 d0 hr hv hc hr2 ?_
      have h := hk (.pointer (some ⟨xb, 0, none⟩)) (.int .u32 pc) (.int .u32 pc) (.bool false) (.bool false) (.pointer (some ⟨xb, 6, none⟩)) (.int .u32 next) (.int .u32 next) (.bool false) (.bool false) (.bool false) (.pointer (some ⟨nb, 0, none⟩)) (.int .u32 0) (.bool false) (.bool false) (.bool false) (.pointer (some ⟨xb, 2, none⟩)) (.int .i64 r) (.bool true) (.bool true) (.pointer (some ⟨xb, 3, none⟩)) (.int .u32 val) (.bool false) (.bool false) (.bool false) (.bool false) (.pointer (some ⟨xb, 4, none⟩)) (.int .i64 cause) (.bool true) (.bool true) (.pointer (some ⟨xb, 2, none⟩)) (.int .i64 r) (.bool false) (.bool false)
      exact Eq.mpr (by kernel_rfl) h
  · have hr : ((r : Int) == 0) = false := by simp; exact q1
    have hc : (cause != -1) = false := by
      simp
      exact Classical.byContradiction fun q => q1 (g2 q)
    refine r29b pc cause next r xb nb W0 _ rfl rfl rfl rfl rfl c0 c2 c4 c6 d0 hr hc ?_
    have h := hk (.pointer (some ⟨xb, 0, none⟩)) (.int .u32 pc) (.int .u32 pc) (.bool false) (.bool false) (.pointer (some ⟨xb, 6, none⟩)) (.int .u32 next) (.int .u32 next) (.bool false) (.bool false) (.bool false) (.pointer (some ⟨nb, 0, none⟩)) (.int .u32 0) (.bool false) (.bool false) (.bool false) (.pointer (some ⟨xb, 2, none⟩)) (.int .i64 r) (.bool false) (.bool false) (undef) (undef) (undef) (.bool false) (.bool false) (.bool false) (.pointer (some ⟨xb, 4, none⟩)) (.int .i64 cause) (.bool false) (.bool false) (undef) (undef) (undef) (.bool false)
    exact Eq.mpr (by kernel_rfl) h
end Go.Proofs.YtnlagbiikpbjdaaGreatDoor
/-
  ArchOnly: its tests, way by way.
-/
namespace Go.Proofs.YtnlagbiikpbjdaaGreatDoor
open Go Go.RowKit
set_option maxRecDepth 100000 in
set_option maxHeartbeats 4000000 in
theorem r35a (v val : Int) (i r xb nb : Nat) (W0 : World) (a : Act) (hs : a.tmps.size = 200) (h21 : a.eval (.tmp 21) = .int .i64 i) (h22 : a.eval (.tmp 22) = .int .u32 v) (h15 : a.eval (.tmp 15) = .pointer (some ⟨nb, 0, none⟩)) (h18 : a.eval (.tmp 18) = .pointer (some ⟨xb, 0, none⟩)) (c2 : W0.cell? ⟨xb, 2, none⟩ = some (.int .i64 r)) (c3 : W0.cell? ⟨xb, 3, none⟩ = some (.int .u32 val)) (he : ((i : Int) == (r : Int)) = true) (he2 : ((i : Int) != (r : Int)) = false) (hv : (v != val) = false) {K : Act → World → Prop} (hk : K ((((((((((((((((((((((((a).put (some 148) (.int .i64 i)).put (some 149) (.pointer (some ⟨xb, 2, none⟩))).put (some 150) (.int .i64 r)).put (some 151) (.bool true)).put (some 152) (.bool true)).put (some 153) (.int .u32 v)).put (some 154) (.pointer (some ⟨xb, 3, none⟩))).put (some 155) (.int .u32 val)).put (some 156) (.bool false)).put (some 157) (.bool false)).put (some 158) (.bool false)).put (some 159) (.int .i64 i)).put (some 160) (.pointer (some ⟨xb, 2, none⟩))).put (some 161) (.int .i64 r)).put (some 162) (.bool false)).put (some 163) (.bool false)).put (some 164) (undef)).put (some 165) (undef)).put (some 166) (undef)).put (some 167) (undef)).put (some 168) (undef)).put (some 169) (.bool false)).put (some 170) (.bool false)) W0) : (regIn Tryz.f4.body 35).wp Tryz.prog (Exit.then K NoX) a W0 := by
  show (Code.region 35 (opsIn (regIn Tryz.f4.body 35)) false).wp _ _ _ _
  refine wp_region_list ?_
  show wpList _ _ _ (List.drop 0 _) _ _
  obtain ⟨xo0, xi0, xd0, xg0, xp0⟩ := q35_0
  refine pd_want (k := 0) (v := .int .i64 i) xi0 xd0 (w_none xg0) (run_move xp0 h21 _) ?_
  obtain ⟨ac1, hac1⟩ : ∃ x, a.put (some 148) (.int .i64 i) = x := ⟨_, rfl⟩
  rw [hac1]
  have e21_1 : ac1.eval (.tmp 21) = _ := hac1 ▸ ev_put h21 (by decide)
  have e22_1 : ac1.eval (.tmp 22) = _ := hac1 ▸ ev_put h22 (by decide)
  have e15_1 : ac1.eval (.tmp 15) = _ := hac1 ▸ ev_put h15 (by decide)
  have e18_1 : ac1.eval (.tmp 18) = _ := hac1 ▸ ev_put h18 (by decide)
  have e148_1 : ac1.eval (.tmp 148) = _ := hac1 ▸ ev_same (by rw [hs]; decide)
  have zz1 : ac1.tmps.size = 200 := hac1 ▸ size_put hs
  obtain ⟨xo1, xi1, xd1, xg1, xp1⟩ := q35_1
  refine pd_want (k := 1) (v := .pointer (some ⟨xb, 2, none⟩)) xi1 xd1 (w_none xg1) (run_x2 xp1 e18_1 _) ?_
  obtain ⟨ac2, hac2⟩ : ∃ x, ac1.put (some 149) (.pointer (some ⟨xb, 2, none⟩)) = x := ⟨_, rfl⟩
  rw [hac2]
  have e21_2 : ac2.eval (.tmp 21) = _ := hac2 ▸ ev_put e21_1 (by decide)
  have e22_2 : ac2.eval (.tmp 22) = _ := hac2 ▸ ev_put e22_1 (by decide)
  have e15_2 : ac2.eval (.tmp 15) = _ := hac2 ▸ ev_put e15_1 (by decide)
  have e18_2 : ac2.eval (.tmp 18) = _ := hac2 ▸ ev_put e18_1 (by decide)
  have e148_2 : ac2.eval (.tmp 148) = _ := hac2 ▸ ev_put e148_1 (by decide)
  have e149_2 : ac2.eval (.tmp 149) = _ := hac2 ▸ ev_same (by rw [zz1]; decide)
  have zz2 : ac2.tmps.size = 200 := hac2 ▸ size_put zz1
  obtain ⟨xo2, xi2, xd2, xg2, xp2⟩ := q35_2
  refine pd_want (k := 2) (v := .int .i64 r) xi2 xd2 (w_none xg2) (run_l3 xp2 e149_2 c2) ?_
  obtain ⟨ac3, hac3⟩ : ∃ x, ac2.put (some 150) (.int .i64 r) = x := ⟨_, rfl⟩
  rw [hac3]
  have e21_3 : ac3.eval (.tmp 21) = _ := hac3 ▸ ev_put e21_2 (by decide)
  have e22_3 : ac3.eval (.tmp 22) = _ := hac3 ▸ ev_put e22_2 (by decide)
  have e15_3 : ac3.eval (.tmp 15) = _ := hac3 ▸ ev_put e15_2 (by decide)
  have e18_3 : ac3.eval (.tmp 18) = _ := hac3 ▸ ev_put e18_2 (by decide)
  have e148_3 : ac3.eval (.tmp 148) = _ := hac3 ▸ ev_put e148_2 (by decide)
  have e150_3 : ac3.eval (.tmp 150) = _ := hac3 ▸ ev_same (by rw [zz2]; decide)
  have zz3 : ac3.tmps.size = 200 := hac3 ▸ size_put zz2
  obtain ⟨xo3, xi3, xd3, xg3, xp3⟩ := q35_3
  refine pd_want (k := 3) (v := .bool true) xi3 xd3 (w_none xg3) (run_eq3 xp3 e148_3 e150_3 he _) ?_
  obtain ⟨ac4, hac4⟩ : ∃ x, ac3.put (some 151) (.bool true) = x := ⟨_, rfl⟩
  rw [hac4]
  have e21_4 : ac4.eval (.tmp 21) = _ := hac4 ▸ ev_put e21_3 (by decide)
  have e22_4 : ac4.eval (.tmp 22) = _ := hac4 ▸ ev_put e22_3 (by decide)
  have e15_4 : ac4.eval (.tmp 15) = _ := hac4 ▸ ev_put e15_3 (by decide)
  have e18_4 : ac4.eval (.tmp 18) = _ := hac4 ▸ ev_put e18_3 (by decide)
  have e151_4 : ac4.eval (.tmp 151) = _ := hac4 ▸ ev_same (by rw [zz3]; decide)
  have zz4 : ac4.tmps.size = 200 := hac4 ▸ size_put zz3
  obtain ⟨xo4, xi4, xd4, xg4, xp4⟩ := q35_4
  refine pd_want (k := 4) (v := .bool true) xi4 xd4 (w_none xg4) (run_move xp4 e151_4 _) ?_
  obtain ⟨ac5, hac5⟩ : ∃ x, ac4.put (some 152) (.bool true) = x := ⟨_, rfl⟩
  rw [hac5]
  have e21_5 : ac5.eval (.tmp 21) = _ := hac5 ▸ ev_put e21_4 (by decide)
  have e22_5 : ac5.eval (.tmp 22) = _ := hac5 ▸ ev_put e22_4 (by decide)
  have e15_5 : ac5.eval (.tmp 15) = _ := hac5 ▸ ev_put e15_4 (by decide)
  have e18_5 : ac5.eval (.tmp 18) = _ := hac5 ▸ ev_put e18_4 (by decide)
  have e152_5 : ac5.eval (.tmp 152) = _ := hac5 ▸ ev_same (by rw [zz4]; decide)
  have zz5 : ac5.tmps.size = 200 := hac5 ▸ size_put zz4
  obtain ⟨xo5, xi5, xd5, xg5, xp5⟩ := q35_5
  refine pd_want (k := 5) (v := .int .u32 v) xi5 xd5 (w_some xg5 (by kernel_rfl) e152_5 rfl) (run_move xp5 e22_5 _) ?_
  obtain ⟨ac6, hac6⟩ : ∃ x, ac5.put (some 153) (.int .u32 v) = x := ⟨_, rfl⟩
  rw [hac6]
  have e21_6 : ac6.eval (.tmp 21) = _ := hac6 ▸ ev_put e21_5 (by decide)
  have e22_6 : ac6.eval (.tmp 22) = _ := hac6 ▸ ev_put e22_5 (by decide)
  have e15_6 : ac6.eval (.tmp 15) = _ := hac6 ▸ ev_put e15_5 (by decide)
  have e18_6 : ac6.eval (.tmp 18) = _ := hac6 ▸ ev_put e18_5 (by decide)
  have e152_6 : ac6.eval (.tmp 152) = _ := hac6 ▸ ev_put e152_5 (by decide)
  have e153_6 : ac6.eval (.tmp 153) = _ := hac6 ▸ ev_same (by rw [zz5]; decide)
  have zz6 : ac6.tmps.size = 200 := hac6 ▸ size_put zz5
  obtain ⟨xo6, xi6, xd6, xg6, xp6⟩ := q35_6
  refine pd_want (k := 6) (v := .pointer (some ⟨xb, 3, none⟩)) xi6 xd6 (w_some xg6 (by kernel_rfl) e152_6 rfl) (run_x3 xp6 e18_6 _) ?_
  obtain ⟨ac7, hac7⟩ : ∃ x, ac6.put (some 154) (.pointer (some ⟨xb, 3, none⟩)) = x := ⟨_, rfl⟩
  rw [hac7]
  have e21_7 : ac7.eval (.tmp 21) = _ := hac7 ▸ ev_put e21_6 (by decide)
  have e22_7 : ac7.eval (.tmp 22) = _ := hac7 ▸ ev_put e22_6 (by decide)
  have e15_7 : ac7.eval (.tmp 15) = _ := hac7 ▸ ev_put e15_6 (by decide)
  have e18_7 : ac7.eval (.tmp 18) = _ := hac7 ▸ ev_put e18_6 (by decide)
  have e152_7 : ac7.eval (.tmp 152) = _ := hac7 ▸ ev_put e152_6 (by decide)
  have e153_7 : ac7.eval (.tmp 153) = _ := hac7 ▸ ev_put e153_6 (by decide)
  have e154_7 : ac7.eval (.tmp 154) = _ := hac7 ▸ ev_same (by rw [zz6]; decide)
  have zz7 : ac7.tmps.size = 200 := hac7 ▸ size_put zz6
  obtain ⟨xo7, xi7, xd7, xg7, xp7⟩ := q35_7
  refine pd_want (k := 7) (v := .int .u32 val) xi7 xd7 (w_some xg7 (by kernel_rfl) e152_7 rfl) (run_l33 xp7 e154_7 c3) ?_
  obtain ⟨ac8, hac8⟩ : ∃ x, ac7.put (some 155) (.int .u32 val) = x := ⟨_, rfl⟩
  rw [hac8]
  have e21_8 : ac8.eval (.tmp 21) = _ := hac8 ▸ ev_put e21_7 (by decide)
  have e22_8 : ac8.eval (.tmp 22) = _ := hac8 ▸ ev_put e22_7 (by decide)
  have e15_8 : ac8.eval (.tmp 15) = _ := hac8 ▸ ev_put e15_7 (by decide)
  have e18_8 : ac8.eval (.tmp 18) = _ := hac8 ▸ ev_put e18_7 (by decide)
  have e152_8 : ac8.eval (.tmp 152) = _ := hac8 ▸ ev_put e152_7 (by decide)
  have e153_8 : ac8.eval (.tmp 153) = _ := hac8 ▸ ev_put e153_7 (by decide)
  have e155_8 : ac8.eval (.tmp 155) = _ := hac8 ▸ ev_same (by rw [zz7]; decide)
  have zz8 : ac8.tmps.size = 200 := hac8 ▸ size_put zz7
  obtain ⟨xo8, xi8, xd8, xg8, xp8⟩ := q35_8
  refine pd_want (k := 8) (v := .bool false) xi8 xd8 (w_some xg8 (by kernel_rfl) e152_8 rfl) (run_ne33 xp8 e153_8 e155_8 hv _) ?_
  obtain ⟨ac9, hac9⟩ : ∃ x, ac8.put (some 156) (.bool false) = x := ⟨_, rfl⟩
  rw [hac9]
  have e21_9 : ac9.eval (.tmp 21) = _ := hac9 ▸ ev_put e21_8 (by decide)
  have e22_9 : ac9.eval (.tmp 22) = _ := hac9 ▸ ev_put e22_8 (by decide)
  have e15_9 : ac9.eval (.tmp 15) = _ := hac9 ▸ ev_put e15_8 (by decide)
  have e18_9 : ac9.eval (.tmp 18) = _ := hac9 ▸ ev_put e18_8 (by decide)
  have e152_9 : ac9.eval (.tmp 152) = _ := hac9 ▸ ev_put e152_8 (by decide)
  have e156_9 : ac9.eval (.tmp 156) = _ := hac9 ▸ ev_same (by rw [zz8]; decide)
  have zz9 : ac9.tmps.size = 200 := hac9 ▸ size_put zz8
  obtain ⟨xo9, xi9, xd9, xg9, xp9⟩ := q35_9
  refine pd_want (k := 9) (v := .bool false) xi9 xd9 (w_none xg9) (run_pick xp9 e152_9 (fun _ => e156_9) (fun q => by cases q) _) ?_
  obtain ⟨ac10, hac10⟩ : ∃ x, ac9.put (some 157) (.bool false) = x := ⟨_, rfl⟩
  rw [hac10]
  have e21_10 : ac10.eval (.tmp 21) = _ := hac10 ▸ ev_put e21_9 (by decide)
  have e22_10 : ac10.eval (.tmp 22) = _ := hac10 ▸ ev_put e22_9 (by decide)
  have e15_10 : ac10.eval (.tmp 15) = _ := hac10 ▸ ev_put e15_9 (by decide)
  have e18_10 : ac10.eval (.tmp 18) = _ := hac10 ▸ ev_put e18_9 (by decide)
  have e157_10 : ac10.eval (.tmp 157) = _ := hac10 ▸ ev_same (by rw [zz9]; decide)
  have zz10 : ac10.tmps.size = 200 := hac10 ▸ size_put zz9
  obtain ⟨xo10, xi10, xd10, xg10, xp10⟩ := q35_10
  refine pd_want (k := 10) (v := .bool false) xi10 xd10 (w_none xg10) (run_move xp10 e157_10 _) ?_
  obtain ⟨ac11, hac11⟩ : ∃ x, ac10.put (some 158) (.bool false) = x := ⟨_, rfl⟩
  rw [hac11]
  have e21_11 : ac11.eval (.tmp 21) = _ := hac11 ▸ ev_put e21_10 (by decide)
  have e22_11 : ac11.eval (.tmp 22) = _ := hac11 ▸ ev_put e22_10 (by decide)
  have e15_11 : ac11.eval (.tmp 15) = _ := hac11 ▸ ev_put e15_10 (by decide)
  have e18_11 : ac11.eval (.tmp 18) = _ := hac11 ▸ ev_put e18_10 (by decide)
  have e158_11 : ac11.eval (.tmp 158) = _ := hac11 ▸ ev_same (by rw [zz10]; decide)
  have zz11 : ac11.tmps.size = 200 := hac11 ▸ size_put zz10
  obtain ⟨xo11, xi11, xd11, xg11, xp11⟩ := q35_11
  refine pd_want (k := 11) (v := .int .i64 i) xi11 xd11 (w_some xg11 (by kernel_rfl) e158_11 rfl) (run_move xp11 e21_11 _) ?_
  obtain ⟨ac12, hac12⟩ : ∃ x, ac11.put (some 159) (.int .i64 i) = x := ⟨_, rfl⟩
  rw [hac12]
  have e21_12 : ac12.eval (.tmp 21) = _ := hac12 ▸ ev_put e21_11 (by decide)
  have e22_12 : ac12.eval (.tmp 22) = _ := hac12 ▸ ev_put e22_11 (by decide)
  have e15_12 : ac12.eval (.tmp 15) = _ := hac12 ▸ ev_put e15_11 (by decide)
  have e18_12 : ac12.eval (.tmp 18) = _ := hac12 ▸ ev_put e18_11 (by decide)
  have e158_12 : ac12.eval (.tmp 158) = _ := hac12 ▸ ev_put e158_11 (by decide)
  have e159_12 : ac12.eval (.tmp 159) = _ := hac12 ▸ ev_same (by rw [zz11]; decide)
  have zz12 : ac12.tmps.size = 200 := hac12 ▸ size_put zz11
  obtain ⟨xo12, xi12, xd12, xg12, xp12⟩ := q35_12
  refine pd_want (k := 12) (v := .pointer (some ⟨xb, 2, none⟩)) xi12 xd12 (w_some xg12 (by kernel_rfl) e158_12 rfl) (run_x2 xp12 e18_12 _) ?_
  obtain ⟨ac13, hac13⟩ : ∃ x, ac12.put (some 160) (.pointer (some ⟨xb, 2, none⟩)) = x := ⟨_, rfl⟩
  rw [hac13]
  have e21_13 : ac13.eval (.tmp 21) = _ := hac13 ▸ ev_put e21_12 (by decide)
  have e22_13 : ac13.eval (.tmp 22) = _ := hac13 ▸ ev_put e22_12 (by decide)
  have e15_13 : ac13.eval (.tmp 15) = _ := hac13 ▸ ev_put e15_12 (by decide)
  have e158_13 : ac13.eval (.tmp 158) = _ := hac13 ▸ ev_put e158_12 (by decide)
  have e159_13 : ac13.eval (.tmp 159) = _ := hac13 ▸ ev_put e159_12 (by decide)
  have e160_13 : ac13.eval (.tmp 160) = _ := hac13 ▸ ev_same (by rw [zz12]; decide)
  have zz13 : ac13.tmps.size = 200 := hac13 ▸ size_put zz12
  obtain ⟨xo13, xi13, xd13, xg13, xp13⟩ := q35_13
  refine pd_want (k := 13) (v := .int .i64 r) xi13 xd13 (w_some xg13 (by kernel_rfl) e158_13 rfl) (run_l3 xp13 e160_13 c2) ?_
  obtain ⟨ac14, hac14⟩ : ∃ x, ac13.put (some 161) (.int .i64 r) = x := ⟨_, rfl⟩
  rw [hac14]
  have e21_14 : ac14.eval (.tmp 21) = _ := hac14 ▸ ev_put e21_13 (by decide)
  have e22_14 : ac14.eval (.tmp 22) = _ := hac14 ▸ ev_put e22_13 (by decide)
  have e15_14 : ac14.eval (.tmp 15) = _ := hac14 ▸ ev_put e15_13 (by decide)
  have e158_14 : ac14.eval (.tmp 158) = _ := hac14 ▸ ev_put e158_13 (by decide)
  have e159_14 : ac14.eval (.tmp 159) = _ := hac14 ▸ ev_put e159_13 (by decide)
  have e161_14 : ac14.eval (.tmp 161) = _ := hac14 ▸ ev_same (by rw [zz13]; decide)
  have zz14 : ac14.tmps.size = 200 := hac14 ▸ size_put zz13
  obtain ⟨xo14, xi14, xd14, xg14, xp14⟩ := q35_14
  refine pd_want (k := 14) (v := .bool false) xi14 xd14 (w_some xg14 (by kernel_rfl) e158_14 rfl) (run_ne3 xp14 e159_14 e161_14 he2 _) ?_
  obtain ⟨ac15, hac15⟩ : ∃ x, ac14.put (some 162) (.bool false) = x := ⟨_, rfl⟩
  rw [hac15]
  have e21_15 : ac15.eval (.tmp 21) = _ := hac15 ▸ ev_put e21_14 (by decide)
  have e22_15 : ac15.eval (.tmp 22) = _ := hac15 ▸ ev_put e22_14 (by decide)
  have e15_15 : ac15.eval (.tmp 15) = _ := hac15 ▸ ev_put e15_14 (by decide)
  have e158_15 : ac15.eval (.tmp 158) = _ := hac15 ▸ ev_put e158_14 (by decide)
  have e162_15 : ac15.eval (.tmp 162) = _ := hac15 ▸ ev_same (by rw [zz14]; decide)
  have zz15 : ac15.tmps.size = 200 := hac15 ▸ size_put zz14
  obtain ⟨xo15, xi15, xd15, xg15, xp15⟩ := q35_15
  refine pd_want (k := 15) (v := .bool false) xi15 xd15 (w_some xg15 (by kernel_rfl) e158_15 rfl) (run_move xp15 e162_15 _) ?_
  obtain ⟨ac16, hac16⟩ : ∃ x, ac15.put (some 163) (.bool false) = x := ⟨_, rfl⟩
  rw [hac16]
  have e21_16 : ac16.eval (.tmp 21) = _ := hac16 ▸ ev_put e21_15 (by decide)
  have e22_16 : ac16.eval (.tmp 22) = _ := hac16 ▸ ev_put e22_15 (by decide)
  have e15_16 : ac16.eval (.tmp 15) = _ := hac16 ▸ ev_put e15_15 (by decide)
  have e158_16 : ac16.eval (.tmp 158) = _ := hac16 ▸ ev_put e158_15 (by decide)
  have e163_16 : ac16.eval (.tmp 163) = _ := hac16 ▸ ev_same (by rw [zz15]; decide)
  have zz16 : ac16.tmps.size = 200 := hac16 ▸ size_put zz15
  obtain ⟨xo16, xi16, xd16, xg16, xp16⟩ := q35_16
  refine pd_skip (k := 16) xi16 xd16 (w_some xg16 (by kernel_rfl) e163_16 rfl) ?_
  obtain ⟨ac17, hac17⟩ : ∃ x, ac16.put (some 164) (undef) = x := ⟨_, rfl⟩
  rw [hac17]
  have e21_17 : ac17.eval (.tmp 21) = _ := hac17 ▸ ev_put e21_16 (by decide)
  have e15_17 : ac17.eval (.tmp 15) = _ := hac17 ▸ ev_put e15_16 (by decide)
  have e158_17 : ac17.eval (.tmp 158) = _ := hac17 ▸ ev_put e158_16 (by decide)
  have e163_17 : ac17.eval (.tmp 163) = _ := hac17 ▸ ev_put e163_16 (by decide)
  have e164_17 : ac17.eval (.tmp 164) = _ := hac17 ▸ ev_same (by rw [zz16]; decide)
  have zz17 : ac17.tmps.size = 200 := hac17 ▸ size_put zz16
  obtain ⟨xo17, xi17, xd17, xg17, xp17⟩ := q35_17
  refine pd_skip (k := 17) xi17 xd17 (w_some xg17 (by kernel_rfl) e163_17 rfl) ?_
  obtain ⟨ac18, hac18⟩ : ∃ x, ac17.put (some 165) (undef) = x := ⟨_, rfl⟩
  rw [hac18]
  have e15_18 : ac18.eval (.tmp 15) = _ := hac18 ▸ ev_put e15_17 (by decide)
  have e158_18 : ac18.eval (.tmp 158) = _ := hac18 ▸ ev_put e158_17 (by decide)
  have e163_18 : ac18.eval (.tmp 163) = _ := hac18 ▸ ev_put e163_17 (by decide)
  have e164_18 : ac18.eval (.tmp 164) = _ := hac18 ▸ ev_put e164_17 (by decide)
  have e165_18 : ac18.eval (.tmp 165) = _ := hac18 ▸ ev_same (by rw [zz17]; decide)
  have zz18 : ac18.tmps.size = 200 := hac18 ▸ size_put zz17
  obtain ⟨xo18, xi18, xd18, xg18, xp18⟩ := q35_18
  refine pd_skip (k := 18) xi18 xd18 (w_some xg18 (by kernel_rfl) e163_18 rfl) ?_
  obtain ⟨ac19, hac19⟩ : ∃ x, ac18.put (some 166) (undef) = x := ⟨_, rfl⟩
  rw [hac19]
  have e158_19 : ac19.eval (.tmp 158) = _ := hac19 ▸ ev_put e158_18 (by decide)
  have e163_19 : ac19.eval (.tmp 163) = _ := hac19 ▸ ev_put e163_18 (by decide)
  have e164_19 : ac19.eval (.tmp 164) = _ := hac19 ▸ ev_put e164_18 (by decide)
  have e166_19 : ac19.eval (.tmp 166) = _ := hac19 ▸ ev_same (by rw [zz18]; decide)
  have zz19 : ac19.tmps.size = 200 := hac19 ▸ size_put zz18
  obtain ⟨xo19, xi19, xd19, xg19, xp19⟩ := q35_19
  refine pd_skip (k := 19) xi19 xd19 (w_some xg19 (by kernel_rfl) e163_19 rfl) ?_
  obtain ⟨ac20, hac20⟩ : ∃ x, ac19.put (some 167) (undef) = x := ⟨_, rfl⟩
  rw [hac20]
  have e158_20 : ac20.eval (.tmp 158) = _ := hac20 ▸ ev_put e158_19 (by decide)
  have e163_20 : ac20.eval (.tmp 163) = _ := hac20 ▸ ev_put e163_19 (by decide)
  have e164_20 : ac20.eval (.tmp 164) = _ := hac20 ▸ ev_put e164_19 (by decide)
  have e167_20 : ac20.eval (.tmp 167) = _ := hac20 ▸ ev_same (by rw [zz19]; decide)
  have zz20 : ac20.tmps.size = 200 := hac20 ▸ size_put zz19
  obtain ⟨xo20, xi20, xd20, xg20, xp20⟩ := q35_20
  refine pd_skip (k := 20) xi20 xd20 (w_some xg20 (by kernel_rfl) e163_20 rfl) ?_
  obtain ⟨ac21, hac21⟩ : ∃ x, ac20.put (some 168) (undef) = x := ⟨_, rfl⟩
  rw [hac21]
  have e158_21 : ac21.eval (.tmp 158) = _ := hac21 ▸ ev_put e158_20 (by decide)
  have e163_21 : ac21.eval (.tmp 163) = _ := hac21 ▸ ev_put e163_20 (by decide)
  have e168_21 : ac21.eval (.tmp 168) = _ := hac21 ▸ ev_same (by rw [zz20]; decide)
  have zz21 : ac21.tmps.size = 200 := hac21 ▸ size_put zz20
  obtain ⟨xo21, xi21, xd21, xg21, xp21⟩ := q35_21
  refine pd_want (k := 21) (v := .bool false) xi21 xd21 (w_some xg21 (by kernel_rfl) e158_21 rfl) (run_pick xp21 e163_21 (fun q => by cases q) (fun _ => rfl) _) ?_
  obtain ⟨ac22, hac22⟩ : ∃ x, ac21.put (some 169) (.bool false) = x := ⟨_, rfl⟩
  rw [hac22]
  have e158_22 : ac22.eval (.tmp 158) = _ := hac22 ▸ ev_put e158_21 (by decide)
  have e169_22 : ac22.eval (.tmp 169) = _ := hac22 ▸ ev_same (by rw [zz21]; decide)
  have zz22 : ac22.tmps.size = 200 := hac22 ▸ size_put zz21
  obtain ⟨xo22, xi22, xd22, xg22, xp22⟩ := q35_22
  refine pd_want (k := 22) (v := .bool false) xi22 xd22 (w_none xg22) (run_pick xp22 e158_22 (fun q => by cases q) (fun _ => e169_22) _) ?_
  obtain ⟨ac23, hac23⟩ : ∃ x, ac22.put (some 170) (.bool false) = x := ⟨_, rfl⟩
  rw [hac23]
  have zz23 : ac23.tmps.size = 200 := hac23 ▸ size_put zz22
  refine pd_end (k := 23) (by kernel_rfl) ?_
  subst hac23 hac22 hac21 hac20 hac19 hac18 hac17 hac16 hac15 hac14 hac13 hac12 hac11 hac10 hac9 hac8 hac7 hac6 hac5 hac4 hac3 hac2 hac1
  exact hk
set_option maxRecDepth 100000 in
set_option maxHeartbeats 4000000 in
theorem r35b (v bi : Int) (i r xb nb : Nat) (W0 : World) (a : Act) (hs : a.tmps.size = 200) (h21 : a.eval (.tmp 21) = .int .i64 i) (h22 : a.eval (.tmp 22) = .int .u32 v) (h15 : a.eval (.tmp 15) = .pointer (some ⟨nb, 0, none⟩)) (h18 : a.eval (.tmp 18) = .pointer (some ⟨xb, 0, none⟩)) (c2 : W0.cell? ⟨xb, 2, none⟩ = some (.int .i64 r)) (di : W0.cell? ⟨nb, i, none⟩ = some (.int .u32 bi)) (hi : i < 32) (he : ((i : Int) == (r : Int)) = false) (he2 : ((i : Int) != (r : Int)) = true) (hv : (v != bi) = false) {K : Act → World → Prop} (hk : K ((((((((((((((((((((((((a).put (some 148) (.int .i64 i)).put (some 149) (.pointer (some ⟨xb, 2, none⟩))).put (some 150) (.int .i64 r)).put (some 151) (.bool false)).put (some 152) (.bool false)).put (some 153) (undef)).put (some 154) (undef)).put (some 155) (undef)).put (some 156) (undef)).put (some 157) (.bool false)).put (some 158) (.bool false)).put (some 159) (.int .i64 i)).put (some 160) (.pointer (some ⟨xb, 2, none⟩))).put (some 161) (.int .i64 r)).put (some 162) (.bool true)).put (some 163) (.bool true)).put (some 164) (.int .u32 v)).put (some 165) (.int .i64 i)).put (some 166) (.pointer (some ⟨nb, i, none⟩))).put (some 167) (.int .u32 bi)).put (some 168) (.bool false)).put (some 169) (.bool false)).put (some 170) (.bool false)) W0) : (regIn Tryz.f4.body 35).wp Tryz.prog (Exit.then K NoX) a W0 := by
  show (Code.region 35 (opsIn (regIn Tryz.f4.body 35)) false).wp _ _ _ _
  refine wp_region_list ?_
  show wpList _ _ _ (List.drop 0 _) _ _
  obtain ⟨xo0, xi0, xd0, xg0, xp0⟩ := q35_0
  refine pd_want (k := 0) (v := .int .i64 i) xi0 xd0 (w_none xg0) (run_move xp0 h21 _) ?_
  obtain ⟨ac1, hac1⟩ : ∃ x, a.put (some 148) (.int .i64 i) = x := ⟨_, rfl⟩
  rw [hac1]
  have e21_1 : ac1.eval (.tmp 21) = _ := hac1 ▸ ev_put h21 (by decide)
  have e22_1 : ac1.eval (.tmp 22) = _ := hac1 ▸ ev_put h22 (by decide)
  have e15_1 : ac1.eval (.tmp 15) = _ := hac1 ▸ ev_put h15 (by decide)
  have e18_1 : ac1.eval (.tmp 18) = _ := hac1 ▸ ev_put h18 (by decide)
  have e148_1 : ac1.eval (.tmp 148) = _ := hac1 ▸ ev_same (by rw [hs]; decide)
  have zz1 : ac1.tmps.size = 200 := hac1 ▸ size_put hs
  obtain ⟨xo1, xi1, xd1, xg1, xp1⟩ := q35_1
  refine pd_want (k := 1) (v := .pointer (some ⟨xb, 2, none⟩)) xi1 xd1 (w_none xg1) (run_x2 xp1 e18_1 _) ?_
  obtain ⟨ac2, hac2⟩ : ∃ x, ac1.put (some 149) (.pointer (some ⟨xb, 2, none⟩)) = x := ⟨_, rfl⟩
  rw [hac2]
  have e21_2 : ac2.eval (.tmp 21) = _ := hac2 ▸ ev_put e21_1 (by decide)
  have e22_2 : ac2.eval (.tmp 22) = _ := hac2 ▸ ev_put e22_1 (by decide)
  have e15_2 : ac2.eval (.tmp 15) = _ := hac2 ▸ ev_put e15_1 (by decide)
  have e18_2 : ac2.eval (.tmp 18) = _ := hac2 ▸ ev_put e18_1 (by decide)
  have e148_2 : ac2.eval (.tmp 148) = _ := hac2 ▸ ev_put e148_1 (by decide)
  have e149_2 : ac2.eval (.tmp 149) = _ := hac2 ▸ ev_same (by rw [zz1]; decide)
  have zz2 : ac2.tmps.size = 200 := hac2 ▸ size_put zz1
  obtain ⟨xo2, xi2, xd2, xg2, xp2⟩ := q35_2
  refine pd_want (k := 2) (v := .int .i64 r) xi2 xd2 (w_none xg2) (run_l3 xp2 e149_2 c2) ?_
  obtain ⟨ac3, hac3⟩ : ∃ x, ac2.put (some 150) (.int .i64 r) = x := ⟨_, rfl⟩
  rw [hac3]
  have e21_3 : ac3.eval (.tmp 21) = _ := hac3 ▸ ev_put e21_2 (by decide)
  have e22_3 : ac3.eval (.tmp 22) = _ := hac3 ▸ ev_put e22_2 (by decide)
  have e15_3 : ac3.eval (.tmp 15) = _ := hac3 ▸ ev_put e15_2 (by decide)
  have e18_3 : ac3.eval (.tmp 18) = _ := hac3 ▸ ev_put e18_2 (by decide)
  have e148_3 : ac3.eval (.tmp 148) = _ := hac3 ▸ ev_put e148_2 (by decide)
  have e150_3 : ac3.eval (.tmp 150) = _ := hac3 ▸ ev_same (by rw [zz2]; decide)
  have zz3 : ac3.tmps.size = 200 := hac3 ▸ size_put zz2
  obtain ⟨xo3, xi3, xd3, xg3, xp3⟩ := q35_3
  refine pd_want (k := 3) (v := .bool false) xi3 xd3 (w_none xg3) (run_eq3 xp3 e148_3 e150_3 he _) ?_
  obtain ⟨ac4, hac4⟩ : ∃ x, ac3.put (some 151) (.bool false) = x := ⟨_, rfl⟩
  rw [hac4]
  have e21_4 : ac4.eval (.tmp 21) = _ := hac4 ▸ ev_put e21_3 (by decide)
  have e22_4 : ac4.eval (.tmp 22) = _ := hac4 ▸ ev_put e22_3 (by decide)
  have e15_4 : ac4.eval (.tmp 15) = _ := hac4 ▸ ev_put e15_3 (by decide)
  have e18_4 : ac4.eval (.tmp 18) = _ := hac4 ▸ ev_put e18_3 (by decide)
  have e151_4 : ac4.eval (.tmp 151) = _ := hac4 ▸ ev_same (by rw [zz3]; decide)
  have zz4 : ac4.tmps.size = 200 := hac4 ▸ size_put zz3
  obtain ⟨xo4, xi4, xd4, xg4, xp4⟩ := q35_4
  refine pd_want (k := 4) (v := .bool false) xi4 xd4 (w_none xg4) (run_move xp4 e151_4 _) ?_
  obtain ⟨ac5, hac5⟩ : ∃ x, ac4.put (some 152) (.bool false) = x := ⟨_, rfl⟩
  rw [hac5]
  have e21_5 : ac5.eval (.tmp 21) = _ := hac5 ▸ ev_put e21_4 (by decide)
  have e22_5 : ac5.eval (.tmp 22) = _ := hac5 ▸ ev_put e22_4 (by decide)
  have e15_5 : ac5.eval (.tmp 15) = _ := hac5 ▸ ev_put e15_4 (by decide)
  have e18_5 : ac5.eval (.tmp 18) = _ := hac5 ▸ ev_put e18_4 (by decide)
  have e152_5 : ac5.eval (.tmp 152) = _ := hac5 ▸ ev_same (by rw [zz4]; decide)
  have zz5 : ac5.tmps.size = 200 := hac5 ▸ size_put zz4
  obtain ⟨xo5, xi5, xd5, xg5, xp5⟩ := q35_5
  refine pd_skip (k := 5) xi5 xd5 (w_some xg5 (by kernel_rfl) e152_5 rfl) ?_
  obtain ⟨ac6, hac6⟩ : ∃ x, ac5.put (some 153) (undef) = x := ⟨_, rfl⟩
  rw [hac6]
  have e21_6 : ac6.eval (.tmp 21) = _ := hac6 ▸ ev_put e21_5 (by decide)
  have e22_6 : ac6.eval (.tmp 22) = _ := hac6 ▸ ev_put e22_5 (by decide)
  have e15_6 : ac6.eval (.tmp 15) = _ := hac6 ▸ ev_put e15_5 (by decide)
  have e18_6 : ac6.eval (.tmp 18) = _ := hac6 ▸ ev_put e18_5 (by decide)
  have e152_6 : ac6.eval (.tmp 152) = _ := hac6 ▸ ev_put e152_5 (by decide)
  have e153_6 : ac6.eval (.tmp 153) = _ := hac6 ▸ ev_same (by rw [zz5]; decide)
  have zz6 : ac6.tmps.size = 200 := hac6 ▸ size_put zz5
  obtain ⟨xo6, xi6, xd6, xg6, xp6⟩ := q35_6
  refine pd_skip (k := 6) xi6 xd6 (w_some xg6 (by kernel_rfl) e152_6 rfl) ?_
  obtain ⟨ac7, hac7⟩ : ∃ x, ac6.put (some 154) (undef) = x := ⟨_, rfl⟩
  rw [hac7]
  have e21_7 : ac7.eval (.tmp 21) = _ := hac7 ▸ ev_put e21_6 (by decide)
  have e22_7 : ac7.eval (.tmp 22) = _ := hac7 ▸ ev_put e22_6 (by decide)
  have e15_7 : ac7.eval (.tmp 15) = _ := hac7 ▸ ev_put e15_6 (by decide)
  have e18_7 : ac7.eval (.tmp 18) = _ := hac7 ▸ ev_put e18_6 (by decide)
  have e152_7 : ac7.eval (.tmp 152) = _ := hac7 ▸ ev_put e152_6 (by decide)
  have e153_7 : ac7.eval (.tmp 153) = _ := hac7 ▸ ev_put e153_6 (by decide)
  have e154_7 : ac7.eval (.tmp 154) = _ := hac7 ▸ ev_same (by rw [zz6]; decide)
  have zz7 : ac7.tmps.size = 200 := hac7 ▸ size_put zz6
  obtain ⟨xo7, xi7, xd7, xg7, xp7⟩ := q35_7
  refine pd_skip (k := 7) xi7 xd7 (w_some xg7 (by kernel_rfl) e152_7 rfl) ?_
  obtain ⟨ac8, hac8⟩ : ∃ x, ac7.put (some 155) (undef) = x := ⟨_, rfl⟩
  rw [hac8]
  have e21_8 : ac8.eval (.tmp 21) = _ := hac8 ▸ ev_put e21_7 (by decide)
  have e22_8 : ac8.eval (.tmp 22) = _ := hac8 ▸ ev_put e22_7 (by decide)
  have e15_8 : ac8.eval (.tmp 15) = _ := hac8 ▸ ev_put e15_7 (by decide)
  have e18_8 : ac8.eval (.tmp 18) = _ := hac8 ▸ ev_put e18_7 (by decide)
  have e152_8 : ac8.eval (.tmp 152) = _ := hac8 ▸ ev_put e152_7 (by decide)
  have e153_8 : ac8.eval (.tmp 153) = _ := hac8 ▸ ev_put e153_7 (by decide)
  have e155_8 : ac8.eval (.tmp 155) = _ := hac8 ▸ ev_same (by rw [zz7]; decide)
  have zz8 : ac8.tmps.size = 200 := hac8 ▸ size_put zz7
  obtain ⟨xo8, xi8, xd8, xg8, xp8⟩ := q35_8
  refine pd_skip (k := 8) xi8 xd8 (w_some xg8 (by kernel_rfl) e152_8 rfl) ?_
  obtain ⟨ac9, hac9⟩ : ∃ x, ac8.put (some 156) (undef) = x := ⟨_, rfl⟩
  rw [hac9]
  have e21_9 : ac9.eval (.tmp 21) = _ := hac9 ▸ ev_put e21_8 (by decide)
  have e22_9 : ac9.eval (.tmp 22) = _ := hac9 ▸ ev_put e22_8 (by decide)
  have e15_9 : ac9.eval (.tmp 15) = _ := hac9 ▸ ev_put e15_8 (by decide)
  have e18_9 : ac9.eval (.tmp 18) = _ := hac9 ▸ ev_put e18_8 (by decide)
  have e152_9 : ac9.eval (.tmp 152) = _ := hac9 ▸ ev_put e152_8 (by decide)
  have e156_9 : ac9.eval (.tmp 156) = _ := hac9 ▸ ev_same (by rw [zz8]; decide)
  have zz9 : ac9.tmps.size = 200 := hac9 ▸ size_put zz8
  obtain ⟨xo9, xi9, xd9, xg9, xp9⟩ := q35_9
  refine pd_want (k := 9) (v := .bool false) xi9 xd9 (w_none xg9) (run_pick xp9 e152_9 (fun q => by cases q) (fun _ => rfl) _) ?_
  obtain ⟨ac10, hac10⟩ : ∃ x, ac9.put (some 157) (.bool false) = x := ⟨_, rfl⟩
  rw [hac10]
  have e21_10 : ac10.eval (.tmp 21) = _ := hac10 ▸ ev_put e21_9 (by decide)
  have e22_10 : ac10.eval (.tmp 22) = _ := hac10 ▸ ev_put e22_9 (by decide)
  have e15_10 : ac10.eval (.tmp 15) = _ := hac10 ▸ ev_put e15_9 (by decide)
  have e18_10 : ac10.eval (.tmp 18) = _ := hac10 ▸ ev_put e18_9 (by decide)
  have e157_10 : ac10.eval (.tmp 157) = _ := hac10 ▸ ev_same (by rw [zz9]; decide)
  have zz10 : ac10.tmps.size = 200 := hac10 ▸ size_put zz9
  obtain ⟨xo10, xi10, xd10, xg10, xp10⟩ := q35_10
  refine pd_want (k := 10) (v := .bool false) xi10 xd10 (w_none xg10) (run_move xp10 e157_10 _) ?_
  obtain ⟨ac11, hac11⟩ : ∃ x, ac10.put (some 158) (.bool false) = x := ⟨_, rfl⟩
  rw [hac11]
  have e21_11 : ac11.eval (.tmp 21) = _ := hac11 ▸ ev_put e21_10 (by decide)
  have e22_11 : ac11.eval (.tmp 22) = _ := hac11 ▸ ev_put e22_10 (by decide)
  have e15_11 : ac11.eval (.tmp 15) = _ := hac11 ▸ ev_put e15_10 (by decide)
  have e18_11 : ac11.eval (.tmp 18) = _ := hac11 ▸ ev_put e18_10 (by decide)
  have e158_11 : ac11.eval (.tmp 158) = _ := hac11 ▸ ev_same (by rw [zz10]; decide)
  have zz11 : ac11.tmps.size = 200 := hac11 ▸ size_put zz10
  obtain ⟨xo11, xi11, xd11, xg11, xp11⟩ := q35_11
  refine pd_want (k := 11) (v := .int .i64 i) xi11 xd11 (w_some xg11 (by kernel_rfl) e158_11 rfl) (run_move xp11 e21_11 _) ?_
  obtain ⟨ac12, hac12⟩ : ∃ x, ac11.put (some 159) (.int .i64 i) = x := ⟨_, rfl⟩
  rw [hac12]
  have e21_12 : ac12.eval (.tmp 21) = _ := hac12 ▸ ev_put e21_11 (by decide)
  have e22_12 : ac12.eval (.tmp 22) = _ := hac12 ▸ ev_put e22_11 (by decide)
  have e15_12 : ac12.eval (.tmp 15) = _ := hac12 ▸ ev_put e15_11 (by decide)
  have e18_12 : ac12.eval (.tmp 18) = _ := hac12 ▸ ev_put e18_11 (by decide)
  have e158_12 : ac12.eval (.tmp 158) = _ := hac12 ▸ ev_put e158_11 (by decide)
  have e159_12 : ac12.eval (.tmp 159) = _ := hac12 ▸ ev_same (by rw [zz11]; decide)
  have zz12 : ac12.tmps.size = 200 := hac12 ▸ size_put zz11
  obtain ⟨xo12, xi12, xd12, xg12, xp12⟩ := q35_12
  refine pd_want (k := 12) (v := .pointer (some ⟨xb, 2, none⟩)) xi12 xd12 (w_some xg12 (by kernel_rfl) e158_12 rfl) (run_x2 xp12 e18_12 _) ?_
  obtain ⟨ac13, hac13⟩ : ∃ x, ac12.put (some 160) (.pointer (some ⟨xb, 2, none⟩)) = x := ⟨_, rfl⟩
  rw [hac13]
  have e21_13 : ac13.eval (.tmp 21) = _ := hac13 ▸ ev_put e21_12 (by decide)
  have e22_13 : ac13.eval (.tmp 22) = _ := hac13 ▸ ev_put e22_12 (by decide)
  have e15_13 : ac13.eval (.tmp 15) = _ := hac13 ▸ ev_put e15_12 (by decide)
  have e158_13 : ac13.eval (.tmp 158) = _ := hac13 ▸ ev_put e158_12 (by decide)
  have e159_13 : ac13.eval (.tmp 159) = _ := hac13 ▸ ev_put e159_12 (by decide)
  have e160_13 : ac13.eval (.tmp 160) = _ := hac13 ▸ ev_same (by rw [zz12]; decide)
  have zz13 : ac13.tmps.size = 200 := hac13 ▸ size_put zz12
  obtain ⟨xo13, xi13, xd13, xg13, xp13⟩ := q35_13
  refine pd_want (k := 13) (v := .int .i64 r) xi13 xd13 (w_some xg13 (by kernel_rfl) e158_13 rfl) (run_l3 xp13 e160_13 c2) ?_
  obtain ⟨ac14, hac14⟩ : ∃ x, ac13.put (some 161) (.int .i64 r) = x := ⟨_, rfl⟩
  rw [hac14]
  have e21_14 : ac14.eval (.tmp 21) = _ := hac14 ▸ ev_put e21_13 (by decide)
  have e22_14 : ac14.eval (.tmp 22) = _ := hac14 ▸ ev_put e22_13 (by decide)
  have e15_14 : ac14.eval (.tmp 15) = _ := hac14 ▸ ev_put e15_13 (by decide)
  have e158_14 : ac14.eval (.tmp 158) = _ := hac14 ▸ ev_put e158_13 (by decide)
  have e159_14 : ac14.eval (.tmp 159) = _ := hac14 ▸ ev_put e159_13 (by decide)
  have e161_14 : ac14.eval (.tmp 161) = _ := hac14 ▸ ev_same (by rw [zz13]; decide)
  have zz14 : ac14.tmps.size = 200 := hac14 ▸ size_put zz13
  obtain ⟨xo14, xi14, xd14, xg14, xp14⟩ := q35_14
  refine pd_want (k := 14) (v := .bool true) xi14 xd14 (w_some xg14 (by kernel_rfl) e158_14 rfl) (run_ne3 xp14 e159_14 e161_14 he2 _) ?_
  obtain ⟨ac15, hac15⟩ : ∃ x, ac14.put (some 162) (.bool true) = x := ⟨_, rfl⟩
  rw [hac15]
  have e21_15 : ac15.eval (.tmp 21) = _ := hac15 ▸ ev_put e21_14 (by decide)
  have e22_15 : ac15.eval (.tmp 22) = _ := hac15 ▸ ev_put e22_14 (by decide)
  have e15_15 : ac15.eval (.tmp 15) = _ := hac15 ▸ ev_put e15_14 (by decide)
  have e158_15 : ac15.eval (.tmp 158) = _ := hac15 ▸ ev_put e158_14 (by decide)
  have e162_15 : ac15.eval (.tmp 162) = _ := hac15 ▸ ev_same (by rw [zz14]; decide)
  have zz15 : ac15.tmps.size = 200 := hac15 ▸ size_put zz14
  obtain ⟨xo15, xi15, xd15, xg15, xp15⟩ := q35_15
  refine pd_want (k := 15) (v := .bool true) xi15 xd15 (w_some xg15 (by kernel_rfl) e158_15 rfl) (run_move xp15 e162_15 _) ?_
  obtain ⟨ac16, hac16⟩ : ∃ x, ac15.put (some 163) (.bool true) = x := ⟨_, rfl⟩
  rw [hac16]
  have e21_16 : ac16.eval (.tmp 21) = _ := hac16 ▸ ev_put e21_15 (by decide)
  have e22_16 : ac16.eval (.tmp 22) = _ := hac16 ▸ ev_put e22_15 (by decide)
  have e15_16 : ac16.eval (.tmp 15) = _ := hac16 ▸ ev_put e15_15 (by decide)
  have e158_16 : ac16.eval (.tmp 158) = _ := hac16 ▸ ev_put e158_15 (by decide)
  have e163_16 : ac16.eval (.tmp 163) = _ := hac16 ▸ ev_same (by rw [zz15]; decide)
  have zz16 : ac16.tmps.size = 200 := hac16 ▸ size_put zz15
  obtain ⟨xo16, xi16, xd16, xg16, xp16⟩ := q35_16
  refine pd_want (k := 16) (v := .int .u32 v) xi16 xd16 (w_some xg16 (by kernel_rfl) e163_16 rfl) (run_move xp16 e22_16 _) ?_
  obtain ⟨ac17, hac17⟩ : ∃ x, ac16.put (some 164) (.int .u32 v) = x := ⟨_, rfl⟩
  rw [hac17]
  have e21_17 : ac17.eval (.tmp 21) = _ := hac17 ▸ ev_put e21_16 (by decide)
  have e15_17 : ac17.eval (.tmp 15) = _ := hac17 ▸ ev_put e15_16 (by decide)
  have e158_17 : ac17.eval (.tmp 158) = _ := hac17 ▸ ev_put e158_16 (by decide)
  have e163_17 : ac17.eval (.tmp 163) = _ := hac17 ▸ ev_put e163_16 (by decide)
  have e164_17 : ac17.eval (.tmp 164) = _ := hac17 ▸ ev_same (by rw [zz16]; decide)
  have zz17 : ac17.tmps.size = 200 := hac17 ▸ size_put zz16
  obtain ⟨xo17, xi17, xd17, xg17, xp17⟩ := q35_17
  refine pd_want (k := 17) (v := .int .i64 i) xi17 xd17 (w_some xg17 (by kernel_rfl) e163_17 rfl) (run_move xp17 e21_17 _) ?_
  obtain ⟨ac18, hac18⟩ : ∃ x, ac17.put (some 165) (.int .i64 i) = x := ⟨_, rfl⟩
  rw [hac18]
  have e15_18 : ac18.eval (.tmp 15) = _ := hac18 ▸ ev_put e15_17 (by decide)
  have e158_18 : ac18.eval (.tmp 158) = _ := hac18 ▸ ev_put e158_17 (by decide)
  have e163_18 : ac18.eval (.tmp 163) = _ := hac18 ▸ ev_put e163_17 (by decide)
  have e164_18 : ac18.eval (.tmp 164) = _ := hac18 ▸ ev_put e164_17 (by decide)
  have e165_18 : ac18.eval (.tmp 165) = _ := hac18 ▸ ev_same (by rw [zz17]; decide)
  have zz18 : ac18.tmps.size = 200 := hac18 ▸ size_put zz17
  obtain ⟨xo18, xi18, xd18, xg18, xp18⟩ := q35_18
  refine pd_want (k := 18) (v := .pointer (some ⟨nb, i, none⟩)) xi18 xd18 (w_some xg18 (by kernel_rfl) e163_18 rfl) (run_ix xp18 e15_18 e165_18 hi _) ?_
  obtain ⟨ac19, hac19⟩ : ∃ x, ac18.put (some 166) (.pointer (some ⟨nb, i, none⟩)) = x := ⟨_, rfl⟩
  rw [hac19]
  have e158_19 : ac19.eval (.tmp 158) = _ := hac19 ▸ ev_put e158_18 (by decide)
  have e163_19 : ac19.eval (.tmp 163) = _ := hac19 ▸ ev_put e163_18 (by decide)
  have e164_19 : ac19.eval (.tmp 164) = _ := hac19 ▸ ev_put e164_18 (by decide)
  have e166_19 : ac19.eval (.tmp 166) = _ := hac19 ▸ ev_same (by rw [zz18]; decide)
  have zz19 : ac19.tmps.size = 200 := hac19 ▸ size_put zz18
  obtain ⟨xo19, xi19, xd19, xg19, xp19⟩ := q35_19
  refine pd_want (k := 19) (v := .int .u32 bi) xi19 xd19 (w_some xg19 (by kernel_rfl) e163_19 rfl) (run_l33 xp19 e166_19 di) ?_
  obtain ⟨ac20, hac20⟩ : ∃ x, ac19.put (some 167) (.int .u32 bi) = x := ⟨_, rfl⟩
  rw [hac20]
  have e158_20 : ac20.eval (.tmp 158) = _ := hac20 ▸ ev_put e158_19 (by decide)
  have e163_20 : ac20.eval (.tmp 163) = _ := hac20 ▸ ev_put e163_19 (by decide)
  have e164_20 : ac20.eval (.tmp 164) = _ := hac20 ▸ ev_put e164_19 (by decide)
  have e167_20 : ac20.eval (.tmp 167) = _ := hac20 ▸ ev_same (by rw [zz19]; decide)
  have zz20 : ac20.tmps.size = 200 := hac20 ▸ size_put zz19
  obtain ⟨xo20, xi20, xd20, xg20, xp20⟩ := q35_20
  refine pd_want (k := 20) (v := .bool false) xi20 xd20 (w_some xg20 (by kernel_rfl) e163_20 rfl) (run_ne33 xp20 e164_20 e167_20 hv _) ?_
  obtain ⟨ac21, hac21⟩ : ∃ x, ac20.put (some 168) (.bool false) = x := ⟨_, rfl⟩
  rw [hac21]
  have e158_21 : ac21.eval (.tmp 158) = _ := hac21 ▸ ev_put e158_20 (by decide)
  have e163_21 : ac21.eval (.tmp 163) = _ := hac21 ▸ ev_put e163_20 (by decide)
  have e168_21 : ac21.eval (.tmp 168) = _ := hac21 ▸ ev_same (by rw [zz20]; decide)
  have zz21 : ac21.tmps.size = 200 := hac21 ▸ size_put zz20
  obtain ⟨xo21, xi21, xd21, xg21, xp21⟩ := q35_21
  refine pd_want (k := 21) (v := .bool false) xi21 xd21 (w_some xg21 (by kernel_rfl) e158_21 rfl) (run_pick xp21 e163_21 (fun _ => e168_21) (fun q => by cases q) _) ?_
  obtain ⟨ac22, hac22⟩ : ∃ x, ac21.put (some 169) (.bool false) = x := ⟨_, rfl⟩
  rw [hac22]
  have e158_22 : ac22.eval (.tmp 158) = _ := hac22 ▸ ev_put e158_21 (by decide)
  have e169_22 : ac22.eval (.tmp 169) = _ := hac22 ▸ ev_same (by rw [zz21]; decide)
  have zz22 : ac22.tmps.size = 200 := hac22 ▸ size_put zz21
  obtain ⟨xo22, xi22, xd22, xg22, xp22⟩ := q35_22
  refine pd_want (k := 22) (v := .bool false) xi22 xd22 (w_none xg22) (run_pick xp22 e158_22 (fun q => by cases q) (fun _ => e169_22) _) ?_
  obtain ⟨ac23, hac23⟩ : ∃ x, ac22.put (some 170) (.bool false) = x := ⟨_, rfl⟩
  rw [hac23]
  have zz23 : ac23.tmps.size = 200 := hac23 ▸ size_put zz22
  refine pd_end (k := 23) (by kernel_rfl) ?_
  subst hac23 hac22 hac21 hac20 hac19 hac18 hac17 hac16 hac15 hac14 hac13 hac12 hac11 hac10 hac9 hac8 hac7 hac6 hac5 hac4 hac3 hac2 hac1
  exact hk
set_option maxRecDepth 100000 in
set_option maxHeartbeats 4000000 in
theorem reg35 {u0 u1 u2 u3 u4 u5 u6 u7 u8 u9 u10 u11 u12 u13 u14 u16 u17 u19 u20 u23 u24 u25 u26 u27 u28 u29 u30 u31 u32 u33 u34 u35 u36 u37 u38 u39 u40 u41 u42 u43 u44 u45 u46 u47 u48 u49 u50 u51 u52 u53 u54 u55 u56 u57 u58 u59 u60 u61 u62 u63 u64 u65 u66 u67 u68 u69 u70 u71 u72 u73 u74 u75 u76 u77 u78 u79 u80 u81 u82 u83 u84 u85 u86 u87 u88 u89 u90 u91 u92 u93 u94 u95 u96 u97 u98 u99 u100 u101 u102 u103 u104 u105 u106 u107 u108 u109 u110 u111 u112 u113 u114 u115 u116 u117 u118 u119 u120 u121 u122 u123 u124 u125 u126 u127 u128 u129 u130 u131 u132 u133 u134 u135 u136 u137 u138 u139 u140 u141 u142 u143 u144 u145 u146 u147 u148 u149 u150 u151 u152 u153 u154 u155 u156 u157 u158 u159 u160 u161 u162 u163 u164 u165 u166 u167 u168 u169 u170 u171 u172 u173 u174 u175 u176 u177 u178 u179 u180 u181 u182 u183 u184 u185 u186 u187 u188 u189 u190 u191 u192 u193 u194 u195 u196 u197 u198 u199 : Value} {ds : List Deferred} (v val bi : Int) (i r xb nb : Nat) (W0 : World) (c2 : W0.cell? ⟨xb, 2, none⟩ = some (.int .i64 r)) (c3 : W0.cell? ⟨xb, 3, none⟩ = some (.int .u32 val)) (di : W0.cell? ⟨nb, i, none⟩ = some (.int .u32 bi)) (hi : i < 32) (gv : v = if i = r then val else bi) {K : Act → World → Prop} (hk : ∀ (t148 t149 t150 t151 t152 t153 t154 t155 t156 t157 t158 t159 t160 t161 t162 t163 t164 t165 t166 t167 t168 t169 : Value), K ⟨#[u0, u1, u2, u3, u4, u5, u6, u7, u8, u9, u10, u11, u12, u13, u14, .pointer (some ⟨nb, 0, none⟩), u16, u17, .pointer (some ⟨xb, 0, none⟩), u19, u20, .int .i64 i, .int .u32 v, u23, u24, u25, u26, u27, u28, u29, u30, u31, u32, u33, u34, u35, u36, u37, u38, u39, u40, u41, u42, u43, u44, u45, u46, u47, u48, u49, u50, u51, u52, u53, u54, u55, u56, u57, u58, u59, u60, u61, u62, u63, u64, u65, u66, u67, u68, u69, u70, u71, u72, u73, u74, u75, u76, u77, u78, u79, u80, u81, u82, u83, u84, u85, u86, u87, u88, u89, u90, u91, u92, u93, u94, u95, u96, u97, u98, u99, u100, u101, u102, u103, u104, u105, u106, u107, u108, u109, u110, u111, u112, u113, u114, u115, u116, u117, u118, u119, u120, u121, u122, u123, u124, u125, u126, u127, u128, u129, u130, u131, u132, u133, u134, u135, u136, u137, u138, u139, u140, u141, u142, u143, u144, u145, u146, u147, t148, t149, t150, t151, t152, t153, t154, t155, t156, t157, t158, t159, t160, t161, t162, t163, t164, t165, t166, t167, t168, t169, .bool false, u171, u172, u173, u174, u175, u176, u177, u178, u179, u180, u181, u182, u183, u184, u185, u186, u187, u188, u189, u190, u191, u192, u193, u194, u195, u196, u197, u198, u199], ds⟩ W0) : (regIn Tryz.f4.body 35).wp Tryz.prog (Exit.then K NoX) ⟨#[u0, u1, u2, u3, u4, u5, u6, u7, u8, u9, u10, u11, u12, u13, u14, .pointer (some ⟨nb, 0, none⟩), u16, u17, .pointer (some ⟨xb, 0, none⟩), u19, u20, .int .i64 i, .int .u32 v, u23, u24, u25, u26, u27, u28, u29, u30, u31, u32, u33, u34, u35, u36, u37, u38, u39, u40, u41, u42, u43, u44, u45, u46, u47, u48, u49, u50, u51, u52, u53, u54, u55, u56, u57, u58, u59, u60, u61, u62, u63, u64, u65, u66, u67, u68, u69, u70, u71, u72, u73, u74, u75, u76, u77, u78, u79, u80, u81, u82, u83, u84, u85, u86, u87, u88, u89, u90, u91, u92, u93, u94, u95, u96, u97, u98, u99, u100, u101, u102, u103, u104, u105, u106, u107, u108, u109, u110, u111, u112, u113, u114, u115, u116, u117, u118, u119, u120, u121, u122, u123, u124, u125, u126, u127, u128, u129, u130, u131, u132, u133, u134, u135, u136, u137, u138, u139, u140, u141, u142, u143, u144, u145, u146, u147, u148, u149, u150, u151, u152, u153, u154, u155, u156, u157, u158, u159, u160, u161, u162, u163, u164, u165, u166, u167, u168, u169, u170, u171, u172, u173, u174, u175, u176, u177, u178, u179, u180, u181, u182, u183, u184, u185, u186, u187, u188, u189, u190, u191, u192, u193, u194, u195, u196, u197, u198, u199], ds⟩ W0 := by
  by_cases q1 : i = r
  · have he : ((i : Int) == (r : Int)) = true := by simp; omega
    have he2 : ((i : Int) != (r : Int)) = false := by simp; omega
    have hv : (v != val) = false := by simp; rw [gv, if_pos q1]
    refine r35a v val i r xb nb W0 _ rfl rfl rfl rfl rfl c2 c3 he he2 hv ?_
    have h := hk (.int .i64 i) (.pointer (some ⟨xb, 2, none⟩)) (.int .i64 r) (.bool true) (.bool true) (.int .u32 v) (.pointer (some ⟨xb, 3, none⟩)) (.int .u32 val) (.bool false) (.bool false) (.bool false) (.int .i64 i) (.pointer (some ⟨xb, 2, none⟩)) (.int .i64 r) (.bool false) (.bool false) (undef) (undef) (undef) (undef) (undef) (.bool false)
    exact Eq.mpr (by kernel_rfl) h
  · have he : ((i : Int) == (r : Int)) = false := by simp; omega
    have he2 : ((i : Int) != (r : Int)) = true := by simp; omega
    have hv : (v != bi) = false := by simp; rw [gv, if_neg q1]
    refine r35b v bi i r xb nb W0 _ rfl rfl rfl rfl rfl c2 di hi he he2 hv ?_
    have h := hk (.int .i64 i) (.pointer (some ⟨xb, 2, none⟩)) (.int .i64 r) (.bool false) (.bool false) (undef) (undef) (undef) (undef) (.bool false) (.bool false) (.int .i64 i) (.pointer (some ⟨xb, 2, none⟩)) (.int .i64 r) (.bool true) (.bool true) (.int .u32 v) (.int .i64 i) (.pointer (some ⟨nb, i, none⟩)) (.int .u32 bi) (.bool false) (.bool false)
    exact Eq.mpr (by kernel_rfl) h
end Go.Proofs.YtnlagbiikpbjdaaGreatDoor
/-
  ArchOnly: its tests, way by way.
-/
namespace Go.Proofs.YtnlagbiikpbjdaaGreatDoor
open Go Go.RowKit
set_option maxRecDepth 100000 in
set_option maxHeartbeats 4000000 in
theorem r38z (pc next cause o7 : Int) (xb : Nat) (W0 : World) (a : Act) (hs : a.tmps.size = 200)  (h23 : a.eval (.tmp 23) = .int .u32 o7) (h20 : a.eval (.tmp 20) = .int .u32 next) (h17 : a.eval (.tmp 17) = .int .u32 pc) (h18 : a.eval (.tmp 18) = .pointer (some ⟨xb, 0, none⟩)) (c4 : W0.cell? ⟨xb, 4, none⟩ = some (.int .i64 cause)) (hc : (cause == -1) = false) {K : Act → World → Prop} (hk : K ((((((((((((((((((((((((((a).put (some 174) (.pointer (some ⟨xb, 4, none⟩))).put (some 175) (.int .i64 cause)).put (some 176) (.bool false)).put (some 177) (.bool false)).put (some 178) (undef)).put (some 179) (undef)).put (some 180) (.bool false)).put (some 181) (.bool false)).put (some 182) (undef)).put (some 183) (undef)).put (some 184) (.bool false)).put (some 185) (.bool false)).put (some 186) (undef)).put (some 187) (undef)).put (some 188) (.bool false)).put (some 189) (.bool false)).put (some 190) (undef)).put (some 191) (undef)).put (some 192) (.bool false)).put (some 193) (.bool false)).put (some 194) (undef)).put (some 195) (undef)).put (some 196) (undef)).put (some 197) (undef)).put (some 198) (.bool false)) W0) : (regIn Tryz.f4.body 38).wp Tryz.prog (Exit.then K NoX) a W0 := by
  show (Code.region 38 (opsIn (regIn Tryz.f4.body 38)) false).wp _ _ _ _
  refine wp_region_list ?_
  show wpList _ _ _ (List.drop 0 _) _ _
  obtain ⟨xo0, xi0, xd0, xg0, xp0⟩ := q38_0
  refine pd_want (k := 0) (v := .pointer (some ⟨xb, 4, none⟩)) xi0 xd0 (w_none xg0) (run_x4 xp0 h18 _) ?_
  obtain ⟨ac1, hac1⟩ : ∃ x, a.put (some 174) (.pointer (some ⟨xb, 4, none⟩)) = x := ⟨_, rfl⟩
  rw [hac1]
  have e23_1 : ac1.eval (.tmp 23) = _ := hac1 ▸ ev_put h23 (by decide)
  have e20_1 : ac1.eval (.tmp 20) = _ := hac1 ▸ ev_put h20 (by decide)
  have e17_1 : ac1.eval (.tmp 17) = _ := hac1 ▸ ev_put h17 (by decide)
  have e174_1 : ac1.eval (.tmp 174) = _ := hac1 ▸ ev_same (by rw [hs]; decide)
  have zz1 : ac1.tmps.size = 200 := hac1 ▸ size_put hs
  obtain ⟨xo1, xi1, xd1, xg1, xp1⟩ := q38_1
  refine pd_want (k := 1) (v := .int .i64 cause) xi1 xd1 (w_none xg1) (run_l3 xp1 e174_1 c4) ?_
  obtain ⟨ac2, hac2⟩ : ∃ x, ac1.put (some 175) (.int .i64 cause) = x := ⟨_, rfl⟩
  rw [hac2]
  have e23_2 : ac2.eval (.tmp 23) = _ := hac2 ▸ ev_put e23_1 (by decide)
  have e20_2 : ac2.eval (.tmp 20) = _ := hac2 ▸ ev_put e20_1 (by decide)
  have e17_2 : ac2.eval (.tmp 17) = _ := hac2 ▸ ev_put e17_1 (by decide)
  have e175_2 : ac2.eval (.tmp 175) = _ := hac2 ▸ ev_same (by rw [zz1]; decide)
  have zz2 : ac2.tmps.size = 200 := hac2 ▸ size_put zz1
  obtain ⟨xo2, xi2, xd2, xg2, xp2⟩ := q38_2
  refine pd_want (k := 2) (v := .bool false) xi2 xd2 (w_none xg2) (run_eq3 xp2 e175_2 rfl hc _) ?_
  obtain ⟨ac3, hac3⟩ : ∃ x, ac2.put (some 176) (.bool false) = x := ⟨_, rfl⟩
  rw [hac3]
  have e23_3 : ac3.eval (.tmp 23) = _ := hac3 ▸ ev_put e23_2 (by decide)
  have e20_3 : ac3.eval (.tmp 20) = _ := hac3 ▸ ev_put e20_2 (by decide)
  have e17_3 : ac3.eval (.tmp 17) = _ := hac3 ▸ ev_put e17_2 (by decide)
  have e176_3 : ac3.eval (.tmp 176) = _ := hac3 ▸ ev_same (by rw [zz2]; decide)
  have zz3 : ac3.tmps.size = 200 := hac3 ▸ size_put zz2
  obtain ⟨xo3, xi3, xd3, xg3, xp3⟩ := q38_3
  refine pd_want (k := 3) (v := .bool false) xi3 xd3 (w_none xg3) (run_move xp3 e176_3 _) ?_
  obtain ⟨ac4, hac4⟩ : ∃ x, ac3.put (some 177) (.bool false) = x := ⟨_, rfl⟩
  rw [hac4]
  have e23_4 : ac4.eval (.tmp 23) = _ := hac4 ▸ ev_put e23_3 (by decide)
  have e20_4 : ac4.eval (.tmp 20) = _ := hac4 ▸ ev_put e20_3 (by decide)
  have e17_4 : ac4.eval (.tmp 17) = _ := hac4 ▸ ev_put e17_3 (by decide)
  have e177_4 : ac4.eval (.tmp 177) = _ := hac4 ▸ ev_same (by rw [zz3]; decide)
  have zz4 : ac4.tmps.size = 200 := hac4 ▸ size_put zz3
  obtain ⟨xo4, xi4, xd4, xg4, xp4⟩ := q38_4
  refine pd_skip (k := 4) xi4 xd4 (w_some xg4 (by kernel_rfl) e177_4 rfl) ?_
  obtain ⟨ac5, hac5⟩ : ∃ x, ac4.put (some 178) (undef) = x := ⟨_, rfl⟩
  rw [hac5]
  have e23_5 : ac5.eval (.tmp 23) = _ := hac5 ▸ ev_put e23_4 (by decide)
  have e20_5 : ac5.eval (.tmp 20) = _ := hac5 ▸ ev_put e20_4 (by decide)
  have e17_5 : ac5.eval (.tmp 17) = _ := hac5 ▸ ev_put e17_4 (by decide)
  have e177_5 : ac5.eval (.tmp 177) = _ := hac5 ▸ ev_put e177_4 (by decide)
  have e178_5 : ac5.eval (.tmp 178) = _ := hac5 ▸ ev_same (by rw [zz4]; decide)
  have zz5 : ac5.tmps.size = 200 := hac5 ▸ size_put zz4
  obtain ⟨xo5, xi5, xd5, xg5, xp5⟩ := q38_5
  refine pd_skip (k := 5) xi5 xd5 (w_some xg5 (by kernel_rfl) e177_5 rfl) ?_
  obtain ⟨ac6, hac6⟩ : ∃ x, ac5.put (some 179) (undef) = x := ⟨_, rfl⟩
  rw [hac6]
  have e23_6 : ac6.eval (.tmp 23) = _ := hac6 ▸ ev_put e23_5 (by decide)
  have e20_6 : ac6.eval (.tmp 20) = _ := hac6 ▸ ev_put e20_5 (by decide)
  have e17_6 : ac6.eval (.tmp 17) = _ := hac6 ▸ ev_put e17_5 (by decide)
  have e177_6 : ac6.eval (.tmp 177) = _ := hac6 ▸ ev_put e177_5 (by decide)
  have e179_6 : ac6.eval (.tmp 179) = _ := hac6 ▸ ev_same (by rw [zz5]; decide)
  have zz6 : ac6.tmps.size = 200 := hac6 ▸ size_put zz5
  obtain ⟨xo6, xi6, xd6, xg6, xp6⟩ := q38_6
  refine pd_want (k := 6) (v := .bool false) xi6 xd6 (w_none xg6) (run_pick xp6 e177_6 (fun q => by cases q) (fun _ => rfl) _) ?_
  obtain ⟨ac7, hac7⟩ : ∃ x, ac6.put (some 180) (.bool false) = x := ⟨_, rfl⟩
  rw [hac7]
  have e23_7 : ac7.eval (.tmp 23) = _ := hac7 ▸ ev_put e23_6 (by decide)
  have e20_7 : ac7.eval (.tmp 20) = _ := hac7 ▸ ev_put e20_6 (by decide)
  have e17_7 : ac7.eval (.tmp 17) = _ := hac7 ▸ ev_put e17_6 (by decide)
  have e180_7 : ac7.eval (.tmp 180) = _ := hac7 ▸ ev_same (by rw [zz6]; decide)
  have zz7 : ac7.tmps.size = 200 := hac7 ▸ size_put zz6
  obtain ⟨xo7, xi7, xd7, xg7, xp7⟩ := q38_7
  refine pd_want (k := 7) (v := .bool false) xi7 xd7 (w_none xg7) (run_move xp7 e180_7 _) ?_
  obtain ⟨ac8, hac8⟩ : ∃ x, ac7.put (some 181) (.bool false) = x := ⟨_, rfl⟩
  rw [hac8]
  have e23_8 : ac8.eval (.tmp 23) = _ := hac8 ▸ ev_put e23_7 (by decide)
  have e20_8 : ac8.eval (.tmp 20) = _ := hac8 ▸ ev_put e20_7 (by decide)
  have e17_8 : ac8.eval (.tmp 17) = _ := hac8 ▸ ev_put e17_7 (by decide)
  have e181_8 : ac8.eval (.tmp 181) = _ := hac8 ▸ ev_same (by rw [zz7]; decide)
  have zz8 : ac8.tmps.size = 200 := hac8 ▸ size_put zz7
  obtain ⟨xo8, xi8, xd8, xg8, xp8⟩ := q38_8
  refine pd_skip (k := 8) xi8 xd8 (w_some xg8 (by kernel_rfl) e181_8 rfl) ?_
  obtain ⟨ac9, hac9⟩ : ∃ x, ac8.put (some 182) (undef) = x := ⟨_, rfl⟩
  rw [hac9]
  have e23_9 : ac9.eval (.tmp 23) = _ := hac9 ▸ ev_put e23_8 (by decide)
  have e20_9 : ac9.eval (.tmp 20) = _ := hac9 ▸ ev_put e20_8 (by decide)
  have e17_9 : ac9.eval (.tmp 17) = _ := hac9 ▸ ev_put e17_8 (by decide)
  have e181_9 : ac9.eval (.tmp 181) = _ := hac9 ▸ ev_put e181_8 (by decide)
  have e182_9 : ac9.eval (.tmp 182) = _ := hac9 ▸ ev_same (by rw [zz8]; decide)
  have zz9 : ac9.tmps.size = 200 := hac9 ▸ size_put zz8
  obtain ⟨xo9, xi9, xd9, xg9, xp9⟩ := q38_9
  refine pd_skip (k := 9) xi9 xd9 (w_some xg9 (by kernel_rfl) e181_9 rfl) ?_
  obtain ⟨ac10, hac10⟩ : ∃ x, ac9.put (some 183) (undef) = x := ⟨_, rfl⟩
  rw [hac10]
  have e23_10 : ac10.eval (.tmp 23) = _ := hac10 ▸ ev_put e23_9 (by decide)
  have e20_10 : ac10.eval (.tmp 20) = _ := hac10 ▸ ev_put e20_9 (by decide)
  have e17_10 : ac10.eval (.tmp 17) = _ := hac10 ▸ ev_put e17_9 (by decide)
  have e181_10 : ac10.eval (.tmp 181) = _ := hac10 ▸ ev_put e181_9 (by decide)
  have e183_10 : ac10.eval (.tmp 183) = _ := hac10 ▸ ev_same (by rw [zz9]; decide)
  have zz10 : ac10.tmps.size = 200 := hac10 ▸ size_put zz9
  obtain ⟨xo10, xi10, xd10, xg10, xp10⟩ := q38_10
  refine pd_want (k := 10) (v := .bool false) xi10 xd10 (w_none xg10) (run_pick xp10 e181_10 (fun q => by cases q) (fun _ => rfl) _) ?_
  obtain ⟨ac11, hac11⟩ : ∃ x, ac10.put (some 184) (.bool false) = x := ⟨_, rfl⟩
  rw [hac11]
  have e23_11 : ac11.eval (.tmp 23) = _ := hac11 ▸ ev_put e23_10 (by decide)
  have e20_11 : ac11.eval (.tmp 20) = _ := hac11 ▸ ev_put e20_10 (by decide)
  have e17_11 : ac11.eval (.tmp 17) = _ := hac11 ▸ ev_put e17_10 (by decide)
  have e184_11 : ac11.eval (.tmp 184) = _ := hac11 ▸ ev_same (by rw [zz10]; decide)
  have zz11 : ac11.tmps.size = 200 := hac11 ▸ size_put zz10
  obtain ⟨xo11, xi11, xd11, xg11, xp11⟩ := q38_11
  refine pd_want (k := 11) (v := .bool false) xi11 xd11 (w_none xg11) (run_move xp11 e184_11 _) ?_
  obtain ⟨ac12, hac12⟩ : ∃ x, ac11.put (some 185) (.bool false) = x := ⟨_, rfl⟩
  rw [hac12]
  have e23_12 : ac12.eval (.tmp 23) = _ := hac12 ▸ ev_put e23_11 (by decide)
  have e20_12 : ac12.eval (.tmp 20) = _ := hac12 ▸ ev_put e20_11 (by decide)
  have e17_12 : ac12.eval (.tmp 17) = _ := hac12 ▸ ev_put e17_11 (by decide)
  have e185_12 : ac12.eval (.tmp 185) = _ := hac12 ▸ ev_same (by rw [zz11]; decide)
  have zz12 : ac12.tmps.size = 200 := hac12 ▸ size_put zz11
  obtain ⟨xo12, xi12, xd12, xg12, xp12⟩ := q38_12
  refine pd_skip (k := 12) xi12 xd12 (w_some xg12 (by kernel_rfl) e185_12 rfl) ?_
  obtain ⟨ac13, hac13⟩ : ∃ x, ac12.put (some 186) (undef) = x := ⟨_, rfl⟩
  rw [hac13]
  have e23_13 : ac13.eval (.tmp 23) = _ := hac13 ▸ ev_put e23_12 (by decide)
  have e20_13 : ac13.eval (.tmp 20) = _ := hac13 ▸ ev_put e20_12 (by decide)
  have e17_13 : ac13.eval (.tmp 17) = _ := hac13 ▸ ev_put e17_12 (by decide)
  have e185_13 : ac13.eval (.tmp 185) = _ := hac13 ▸ ev_put e185_12 (by decide)
  have e186_13 : ac13.eval (.tmp 186) = _ := hac13 ▸ ev_same (by rw [zz12]; decide)
  have zz13 : ac13.tmps.size = 200 := hac13 ▸ size_put zz12
  obtain ⟨xo13, xi13, xd13, xg13, xp13⟩ := q38_13
  refine pd_skip (k := 13) xi13 xd13 (w_some xg13 (by kernel_rfl) e185_13 rfl) ?_
  obtain ⟨ac14, hac14⟩ : ∃ x, ac13.put (some 187) (undef) = x := ⟨_, rfl⟩
  rw [hac14]
  have e23_14 : ac14.eval (.tmp 23) = _ := hac14 ▸ ev_put e23_13 (by decide)
  have e20_14 : ac14.eval (.tmp 20) = _ := hac14 ▸ ev_put e20_13 (by decide)
  have e17_14 : ac14.eval (.tmp 17) = _ := hac14 ▸ ev_put e17_13 (by decide)
  have e185_14 : ac14.eval (.tmp 185) = _ := hac14 ▸ ev_put e185_13 (by decide)
  have e187_14 : ac14.eval (.tmp 187) = _ := hac14 ▸ ev_same (by rw [zz13]; decide)
  have zz14 : ac14.tmps.size = 200 := hac14 ▸ size_put zz13
  obtain ⟨xo14, xi14, xd14, xg14, xp14⟩ := q38_14
  refine pd_want (k := 14) (v := .bool false) xi14 xd14 (w_none xg14) (run_pick xp14 e185_14 (fun q => by cases q) (fun _ => rfl) _) ?_
  obtain ⟨ac15, hac15⟩ : ∃ x, ac14.put (some 188) (.bool false) = x := ⟨_, rfl⟩
  rw [hac15]
  have e23_15 : ac15.eval (.tmp 23) = _ := hac15 ▸ ev_put e23_14 (by decide)
  have e20_15 : ac15.eval (.tmp 20) = _ := hac15 ▸ ev_put e20_14 (by decide)
  have e17_15 : ac15.eval (.tmp 17) = _ := hac15 ▸ ev_put e17_14 (by decide)
  have e188_15 : ac15.eval (.tmp 188) = _ := hac15 ▸ ev_same (by rw [zz14]; decide)
  have zz15 : ac15.tmps.size = 200 := hac15 ▸ size_put zz14
  obtain ⟨xo15, xi15, xd15, xg15, xp15⟩ := q38_15
  refine pd_want (k := 15) (v := .bool false) xi15 xd15 (w_none xg15) (run_move xp15 e188_15 _) ?_
  obtain ⟨ac16, hac16⟩ : ∃ x, ac15.put (some 189) (.bool false) = x := ⟨_, rfl⟩
  rw [hac16]
  have e23_16 : ac16.eval (.tmp 23) = _ := hac16 ▸ ev_put e23_15 (by decide)
  have e20_16 : ac16.eval (.tmp 20) = _ := hac16 ▸ ev_put e20_15 (by decide)
  have e17_16 : ac16.eval (.tmp 17) = _ := hac16 ▸ ev_put e17_15 (by decide)
  have e189_16 : ac16.eval (.tmp 189) = _ := hac16 ▸ ev_same (by rw [zz15]; decide)
  have zz16 : ac16.tmps.size = 200 := hac16 ▸ size_put zz15
  obtain ⟨xo16, xi16, xd16, xg16, xp16⟩ := q38_16
  refine pd_skip (k := 16) xi16 xd16 (w_some xg16 (by kernel_rfl) e189_16 rfl) ?_
  obtain ⟨ac17, hac17⟩ : ∃ x, ac16.put (some 190) (undef) = x := ⟨_, rfl⟩
  rw [hac17]
  have e20_17 : ac17.eval (.tmp 20) = _ := hac17 ▸ ev_put e20_16 (by decide)
  have e17_17 : ac17.eval (.tmp 17) = _ := hac17 ▸ ev_put e17_16 (by decide)
  have e189_17 : ac17.eval (.tmp 189) = _ := hac17 ▸ ev_put e189_16 (by decide)
  have e190_17 : ac17.eval (.tmp 190) = _ := hac17 ▸ ev_same (by rw [zz16]; decide)
  have zz17 : ac17.tmps.size = 200 := hac17 ▸ size_put zz16
  obtain ⟨xo17, xi17, xd17, xg17, xp17⟩ := q38_17
  refine pd_skip (k := 17) xi17 xd17 (w_some xg17 (by kernel_rfl) e189_17 rfl) ?_
  obtain ⟨ac18, hac18⟩ : ∃ x, ac17.put (some 191) (undef) = x := ⟨_, rfl⟩
  rw [hac18]
  have e20_18 : ac18.eval (.tmp 20) = _ := hac18 ▸ ev_put e20_17 (by decide)
  have e17_18 : ac18.eval (.tmp 17) = _ := hac18 ▸ ev_put e17_17 (by decide)
  have e189_18 : ac18.eval (.tmp 189) = _ := hac18 ▸ ev_put e189_17 (by decide)
  have e191_18 : ac18.eval (.tmp 191) = _ := hac18 ▸ ev_same (by rw [zz17]; decide)
  have zz18 : ac18.tmps.size = 200 := hac18 ▸ size_put zz17
  obtain ⟨xo18, xi18, xd18, xg18, xp18⟩ := q38_18
  refine pd_want (k := 18) (v := .bool false) xi18 xd18 (w_none xg18) (run_pick xp18 e189_18 (fun q => by cases q) (fun _ => rfl) _) ?_
  obtain ⟨ac19, hac19⟩ : ∃ x, ac18.put (some 192) (.bool false) = x := ⟨_, rfl⟩
  rw [hac19]
  have e20_19 : ac19.eval (.tmp 20) = _ := hac19 ▸ ev_put e20_18 (by decide)
  have e17_19 : ac19.eval (.tmp 17) = _ := hac19 ▸ ev_put e17_18 (by decide)
  have e192_19 : ac19.eval (.tmp 192) = _ := hac19 ▸ ev_same (by rw [zz18]; decide)
  have zz19 : ac19.tmps.size = 200 := hac19 ▸ size_put zz18
  obtain ⟨xo19, xi19, xd19, xg19, xp19⟩ := q38_19
  refine pd_want (k := 19) (v := .bool false) xi19 xd19 (w_none xg19) (run_move xp19 e192_19 _) ?_
  obtain ⟨ac20, hac20⟩ : ∃ x, ac19.put (some 193) (.bool false) = x := ⟨_, rfl⟩
  rw [hac20]
  have e20_20 : ac20.eval (.tmp 20) = _ := hac20 ▸ ev_put e20_19 (by decide)
  have e17_20 : ac20.eval (.tmp 17) = _ := hac20 ▸ ev_put e17_19 (by decide)
  have e193_20 : ac20.eval (.tmp 193) = _ := hac20 ▸ ev_same (by rw [zz19]; decide)
  have zz20 : ac20.tmps.size = 200 := hac20 ▸ size_put zz19
  obtain ⟨xo20, xi20, xd20, xg20, xp20⟩ := q38_20
  refine pd_skip (k := 20) xi20 xd20 (w_some xg20 (by kernel_rfl) e193_20 rfl) ?_
  obtain ⟨ac21, hac21⟩ : ∃ x, ac20.put (some 194) (undef) = x := ⟨_, rfl⟩
  rw [hac21]
  have e17_21 : ac21.eval (.tmp 17) = _ := hac21 ▸ ev_put e17_20 (by decide)
  have e193_21 : ac21.eval (.tmp 193) = _ := hac21 ▸ ev_put e193_20 (by decide)
  have e194_21 : ac21.eval (.tmp 194) = _ := hac21 ▸ ev_same (by rw [zz20]; decide)
  have zz21 : ac21.tmps.size = 200 := hac21 ▸ size_put zz20
  obtain ⟨xo21, xi21, xd21, xg21, xp21⟩ := q38_21
  refine pd_skip (k := 21) xi21 xd21 (w_some xg21 (by kernel_rfl) e193_21 rfl) ?_
  obtain ⟨ac22, hac22⟩ : ∃ x, ac21.put (some 195) (undef) = x := ⟨_, rfl⟩
  rw [hac22]
  have e193_22 : ac22.eval (.tmp 193) = _ := hac22 ▸ ev_put e193_21 (by decide)
  have e194_22 : ac22.eval (.tmp 194) = _ := hac22 ▸ ev_put e194_21 (by decide)
  have e195_22 : ac22.eval (.tmp 195) = _ := hac22 ▸ ev_same (by rw [zz21]; decide)
  have zz22 : ac22.tmps.size = 200 := hac22 ▸ size_put zz21
  obtain ⟨xo22, xi22, xd22, xg22, xp22⟩ := q38_22
  refine pd_skip (k := 22) xi22 xd22 (w_some xg22 (by kernel_rfl) e193_22 rfl) ?_
  obtain ⟨ac23, hac23⟩ : ∃ x, ac22.put (some 196) (undef) = x := ⟨_, rfl⟩
  rw [hac23]
  have e193_23 : ac23.eval (.tmp 193) = _ := hac23 ▸ ev_put e193_22 (by decide)
  have e194_23 : ac23.eval (.tmp 194) = _ := hac23 ▸ ev_put e194_22 (by decide)
  have e196_23 : ac23.eval (.tmp 196) = _ := hac23 ▸ ev_same (by rw [zz22]; decide)
  have zz23 : ac23.tmps.size = 200 := hac23 ▸ size_put zz22
  obtain ⟨xo23, xi23, xd23, xg23, xp23⟩ := q38_23
  refine pd_skip (k := 23) xi23 xd23 (w_some xg23 (by kernel_rfl) e193_23 rfl) ?_
  obtain ⟨ac24, hac24⟩ : ∃ x, ac23.put (some 197) (undef) = x := ⟨_, rfl⟩
  rw [hac24]
  have e193_24 : ac24.eval (.tmp 193) = _ := hac24 ▸ ev_put e193_23 (by decide)
  have e197_24 : ac24.eval (.tmp 197) = _ := hac24 ▸ ev_same (by rw [zz23]; decide)
  have zz24 : ac24.tmps.size = 200 := hac24 ▸ size_put zz23
  obtain ⟨xo24, xi24, xd24, xg24, xp24⟩ := q38_24
  refine pd_want (k := 24) (v := .bool false) xi24 xd24 (w_none xg24) (run_pick xp24 e193_24 (fun q => by cases q) (fun _ => rfl) _) ?_
  obtain ⟨ac25, hac25⟩ : ∃ x, ac24.put (some 198) (.bool false) = x := ⟨_, rfl⟩
  rw [hac25]
  have zz25 : ac25.tmps.size = 200 := hac25 ▸ size_put zz24
  refine pd_end (k := 25) (by kernel_rfl) ?_
  subst hac25 hac24 hac23 hac22 hac21 hac20 hac19 hac18 hac17 hac16 hac15 hac14 hac13 hac12 hac11 hac10 hac9 hac8 hac7 hac6 hac5 hac4 hac3 hac2 hac1
  exact hk
set_option maxRecDepth 100000 in
set_option maxHeartbeats 4000000 in
theorem r38a (pc next cause o7 : Int) (xb : Nat) (W0 : World) (a : Act) (hs : a.tmps.size = 200)  (h23 : a.eval (.tmp 23) = .int .u32 o7) (h20 : a.eval (.tmp 20) = .int .u32 next) (h17 : a.eval (.tmp 17) = .int .u32 pc) (h18 : a.eval (.tmp 18) = .pointer (some ⟨xb, 0, none⟩)) (c4 : W0.cell? ⟨xb, 4, none⟩ = some (.int .i64 cause)) (hc : (cause == -1) = true) (h111 : (o7 != 111) = false) {K : Act → World → Prop} (hk : K ((((((((((((((((((((((((((a).put (some 174) (.pointer (some ⟨xb, 4, none⟩))).put (some 175) (.int .i64 cause)).put (some 176) (.bool true)).put (some 177) (.bool true)).put (some 178) (.int .u32 o7)).put (some 179) (.bool false)).put (some 180) (.bool false)).put (some 181) (.bool false)).put (some 182) (undef)).put (some 183) (undef)).put (some 184) (.bool false)).put (some 185) (.bool false)).put (some 186) (undef)).put (some 187) (undef)).put (some 188) (.bool false)).put (some 189) (.bool false)).put (some 190) (undef)).put (some 191) (undef)).put (some 192) (.bool false)).put (some 193) (.bool false)).put (some 194) (undef)).put (some 195) (undef)).put (some 196) (undef)).put (some 197) (undef)).put (some 198) (.bool false)) W0) : (regIn Tryz.f4.body 38).wp Tryz.prog (Exit.then K NoX) a W0 := by
  show (Code.region 38 (opsIn (regIn Tryz.f4.body 38)) false).wp _ _ _ _
  refine wp_region_list ?_
  show wpList _ _ _ (List.drop 0 _) _ _
  obtain ⟨xo0, xi0, xd0, xg0, xp0⟩ := q38_0
  refine pd_want (k := 0) (v := .pointer (some ⟨xb, 4, none⟩)) xi0 xd0 (w_none xg0) (run_x4 xp0 h18 _) ?_
  obtain ⟨ac1, hac1⟩ : ∃ x, a.put (some 174) (.pointer (some ⟨xb, 4, none⟩)) = x := ⟨_, rfl⟩
  rw [hac1]
  have e23_1 : ac1.eval (.tmp 23) = _ := hac1 ▸ ev_put h23 (by decide)
  have e20_1 : ac1.eval (.tmp 20) = _ := hac1 ▸ ev_put h20 (by decide)
  have e17_1 : ac1.eval (.tmp 17) = _ := hac1 ▸ ev_put h17 (by decide)
  have e174_1 : ac1.eval (.tmp 174) = _ := hac1 ▸ ev_same (by rw [hs]; decide)
  have zz1 : ac1.tmps.size = 200 := hac1 ▸ size_put hs
  obtain ⟨xo1, xi1, xd1, xg1, xp1⟩ := q38_1
  refine pd_want (k := 1) (v := .int .i64 cause) xi1 xd1 (w_none xg1) (run_l3 xp1 e174_1 c4) ?_
  obtain ⟨ac2, hac2⟩ : ∃ x, ac1.put (some 175) (.int .i64 cause) = x := ⟨_, rfl⟩
  rw [hac2]
  have e23_2 : ac2.eval (.tmp 23) = _ := hac2 ▸ ev_put e23_1 (by decide)
  have e20_2 : ac2.eval (.tmp 20) = _ := hac2 ▸ ev_put e20_1 (by decide)
  have e17_2 : ac2.eval (.tmp 17) = _ := hac2 ▸ ev_put e17_1 (by decide)
  have e175_2 : ac2.eval (.tmp 175) = _ := hac2 ▸ ev_same (by rw [zz1]; decide)
  have zz2 : ac2.tmps.size = 200 := hac2 ▸ size_put zz1
  obtain ⟨xo2, xi2, xd2, xg2, xp2⟩ := q38_2
  refine pd_want (k := 2) (v := .bool true) xi2 xd2 (w_none xg2) (run_eq3 xp2 e175_2 rfl hc _) ?_
  obtain ⟨ac3, hac3⟩ : ∃ x, ac2.put (some 176) (.bool true) = x := ⟨_, rfl⟩
  rw [hac3]
  have e23_3 : ac3.eval (.tmp 23) = _ := hac3 ▸ ev_put e23_2 (by decide)
  have e20_3 : ac3.eval (.tmp 20) = _ := hac3 ▸ ev_put e20_2 (by decide)
  have e17_3 : ac3.eval (.tmp 17) = _ := hac3 ▸ ev_put e17_2 (by decide)
  have e176_3 : ac3.eval (.tmp 176) = _ := hac3 ▸ ev_same (by rw [zz2]; decide)
  have zz3 : ac3.tmps.size = 200 := hac3 ▸ size_put zz2
  obtain ⟨xo3, xi3, xd3, xg3, xp3⟩ := q38_3
  refine pd_want (k := 3) (v := .bool true) xi3 xd3 (w_none xg3) (run_move xp3 e176_3 _) ?_
  obtain ⟨ac4, hac4⟩ : ∃ x, ac3.put (some 177) (.bool true) = x := ⟨_, rfl⟩
  rw [hac4]
  have e23_4 : ac4.eval (.tmp 23) = _ := hac4 ▸ ev_put e23_3 (by decide)
  have e20_4 : ac4.eval (.tmp 20) = _ := hac4 ▸ ev_put e20_3 (by decide)
  have e17_4 : ac4.eval (.tmp 17) = _ := hac4 ▸ ev_put e17_3 (by decide)
  have e177_4 : ac4.eval (.tmp 177) = _ := hac4 ▸ ev_same (by rw [zz3]; decide)
  have zz4 : ac4.tmps.size = 200 := hac4 ▸ size_put zz3
  obtain ⟨xo4, xi4, xd4, xg4, xp4⟩ := q38_4
  refine pd_want (k := 4) (v := .int .u32 o7) xi4 xd4 (w_some xg4 (by kernel_rfl) e177_4 rfl) (run_move xp4 e23_4 _) ?_
  obtain ⟨ac5, hac5⟩ : ∃ x, ac4.put (some 178) (.int .u32 o7) = x := ⟨_, rfl⟩
  rw [hac5]
  have e23_5 : ac5.eval (.tmp 23) = _ := hac5 ▸ ev_put e23_4 (by decide)
  have e20_5 : ac5.eval (.tmp 20) = _ := hac5 ▸ ev_put e20_4 (by decide)
  have e17_5 : ac5.eval (.tmp 17) = _ := hac5 ▸ ev_put e17_4 (by decide)
  have e177_5 : ac5.eval (.tmp 177) = _ := hac5 ▸ ev_put e177_4 (by decide)
  have e178_5 : ac5.eval (.tmp 178) = _ := hac5 ▸ ev_same (by rw [zz4]; decide)
  have zz5 : ac5.tmps.size = 200 := hac5 ▸ size_put zz4
  obtain ⟨xo5, xi5, xd5, xg5, xp5⟩ := q38_5
  refine pd_want (k := 5) (v := .bool false) xi5 xd5 (w_some xg5 (by kernel_rfl) e177_5 rfl) (run_ne33 xp5 e178_5 rfl h111 _) ?_
  obtain ⟨ac6, hac6⟩ : ∃ x, ac5.put (some 179) (.bool false) = x := ⟨_, rfl⟩
  rw [hac6]
  have e23_6 : ac6.eval (.tmp 23) = _ := hac6 ▸ ev_put e23_5 (by decide)
  have e20_6 : ac6.eval (.tmp 20) = _ := hac6 ▸ ev_put e20_5 (by decide)
  have e17_6 : ac6.eval (.tmp 17) = _ := hac6 ▸ ev_put e17_5 (by decide)
  have e177_6 : ac6.eval (.tmp 177) = _ := hac6 ▸ ev_put e177_5 (by decide)
  have e179_6 : ac6.eval (.tmp 179) = _ := hac6 ▸ ev_same (by rw [zz5]; decide)
  have zz6 : ac6.tmps.size = 200 := hac6 ▸ size_put zz5
  obtain ⟨xo6, xi6, xd6, xg6, xp6⟩ := q38_6
  refine pd_want (k := 6) (v := .bool false) xi6 xd6 (w_none xg6) (run_pick xp6 e177_6 (fun _ => e179_6) (fun q => by cases q) _) ?_
  obtain ⟨ac7, hac7⟩ : ∃ x, ac6.put (some 180) (.bool false) = x := ⟨_, rfl⟩
  rw [hac7]
  have e23_7 : ac7.eval (.tmp 23) = _ := hac7 ▸ ev_put e23_6 (by decide)
  have e20_7 : ac7.eval (.tmp 20) = _ := hac7 ▸ ev_put e20_6 (by decide)
  have e17_7 : ac7.eval (.tmp 17) = _ := hac7 ▸ ev_put e17_6 (by decide)
  have e180_7 : ac7.eval (.tmp 180) = _ := hac7 ▸ ev_same (by rw [zz6]; decide)
  have zz7 : ac7.tmps.size = 200 := hac7 ▸ size_put zz6
  obtain ⟨xo7, xi7, xd7, xg7, xp7⟩ := q38_7
  refine pd_want (k := 7) (v := .bool false) xi7 xd7 (w_none xg7) (run_move xp7 e180_7 _) ?_
  obtain ⟨ac8, hac8⟩ : ∃ x, ac7.put (some 181) (.bool false) = x := ⟨_, rfl⟩
  rw [hac8]
  have e23_8 : ac8.eval (.tmp 23) = _ := hac8 ▸ ev_put e23_7 (by decide)
  have e20_8 : ac8.eval (.tmp 20) = _ := hac8 ▸ ev_put e20_7 (by decide)
  have e17_8 : ac8.eval (.tmp 17) = _ := hac8 ▸ ev_put e17_7 (by decide)
  have e181_8 : ac8.eval (.tmp 181) = _ := hac8 ▸ ev_same (by rw [zz7]; decide)
  have zz8 : ac8.tmps.size = 200 := hac8 ▸ size_put zz7
  obtain ⟨xo8, xi8, xd8, xg8, xp8⟩ := q38_8
  refine pd_skip (k := 8) xi8 xd8 (w_some xg8 (by kernel_rfl) e181_8 rfl) ?_
  obtain ⟨ac9, hac9⟩ : ∃ x, ac8.put (some 182) (undef) = x := ⟨_, rfl⟩
  rw [hac9]
  have e23_9 : ac9.eval (.tmp 23) = _ := hac9 ▸ ev_put e23_8 (by decide)
  have e20_9 : ac9.eval (.tmp 20) = _ := hac9 ▸ ev_put e20_8 (by decide)
  have e17_9 : ac9.eval (.tmp 17) = _ := hac9 ▸ ev_put e17_8 (by decide)
  have e181_9 : ac9.eval (.tmp 181) = _ := hac9 ▸ ev_put e181_8 (by decide)
  have e182_9 : ac9.eval (.tmp 182) = _ := hac9 ▸ ev_same (by rw [zz8]; decide)
  have zz9 : ac9.tmps.size = 200 := hac9 ▸ size_put zz8
  obtain ⟨xo9, xi9, xd9, xg9, xp9⟩ := q38_9
  refine pd_skip (k := 9) xi9 xd9 (w_some xg9 (by kernel_rfl) e181_9 rfl) ?_
  obtain ⟨ac10, hac10⟩ : ∃ x, ac9.put (some 183) (undef) = x := ⟨_, rfl⟩
  rw [hac10]
  have e23_10 : ac10.eval (.tmp 23) = _ := hac10 ▸ ev_put e23_9 (by decide)
  have e20_10 : ac10.eval (.tmp 20) = _ := hac10 ▸ ev_put e20_9 (by decide)
  have e17_10 : ac10.eval (.tmp 17) = _ := hac10 ▸ ev_put e17_9 (by decide)
  have e181_10 : ac10.eval (.tmp 181) = _ := hac10 ▸ ev_put e181_9 (by decide)
  have e183_10 : ac10.eval (.tmp 183) = _ := hac10 ▸ ev_same (by rw [zz9]; decide)
  have zz10 : ac10.tmps.size = 200 := hac10 ▸ size_put zz9
  obtain ⟨xo10, xi10, xd10, xg10, xp10⟩ := q38_10
  refine pd_want (k := 10) (v := .bool false) xi10 xd10 (w_none xg10) (run_pick xp10 e181_10 (fun q => by cases q) (fun _ => rfl) _) ?_
  obtain ⟨ac11, hac11⟩ : ∃ x, ac10.put (some 184) (.bool false) = x := ⟨_, rfl⟩
  rw [hac11]
  have e23_11 : ac11.eval (.tmp 23) = _ := hac11 ▸ ev_put e23_10 (by decide)
  have e20_11 : ac11.eval (.tmp 20) = _ := hac11 ▸ ev_put e20_10 (by decide)
  have e17_11 : ac11.eval (.tmp 17) = _ := hac11 ▸ ev_put e17_10 (by decide)
  have e184_11 : ac11.eval (.tmp 184) = _ := hac11 ▸ ev_same (by rw [zz10]; decide)
  have zz11 : ac11.tmps.size = 200 := hac11 ▸ size_put zz10
  obtain ⟨xo11, xi11, xd11, xg11, xp11⟩ := q38_11
  refine pd_want (k := 11) (v := .bool false) xi11 xd11 (w_none xg11) (run_move xp11 e184_11 _) ?_
  obtain ⟨ac12, hac12⟩ : ∃ x, ac11.put (some 185) (.bool false) = x := ⟨_, rfl⟩
  rw [hac12]
  have e23_12 : ac12.eval (.tmp 23) = _ := hac12 ▸ ev_put e23_11 (by decide)
  have e20_12 : ac12.eval (.tmp 20) = _ := hac12 ▸ ev_put e20_11 (by decide)
  have e17_12 : ac12.eval (.tmp 17) = _ := hac12 ▸ ev_put e17_11 (by decide)
  have e185_12 : ac12.eval (.tmp 185) = _ := hac12 ▸ ev_same (by rw [zz11]; decide)
  have zz12 : ac12.tmps.size = 200 := hac12 ▸ size_put zz11
  obtain ⟨xo12, xi12, xd12, xg12, xp12⟩ := q38_12
  refine pd_skip (k := 12) xi12 xd12 (w_some xg12 (by kernel_rfl) e185_12 rfl) ?_
  obtain ⟨ac13, hac13⟩ : ∃ x, ac12.put (some 186) (undef) = x := ⟨_, rfl⟩
  rw [hac13]
  have e23_13 : ac13.eval (.tmp 23) = _ := hac13 ▸ ev_put e23_12 (by decide)
  have e20_13 : ac13.eval (.tmp 20) = _ := hac13 ▸ ev_put e20_12 (by decide)
  have e17_13 : ac13.eval (.tmp 17) = _ := hac13 ▸ ev_put e17_12 (by decide)
  have e185_13 : ac13.eval (.tmp 185) = _ := hac13 ▸ ev_put e185_12 (by decide)
  have e186_13 : ac13.eval (.tmp 186) = _ := hac13 ▸ ev_same (by rw [zz12]; decide)
  have zz13 : ac13.tmps.size = 200 := hac13 ▸ size_put zz12
  obtain ⟨xo13, xi13, xd13, xg13, xp13⟩ := q38_13
  refine pd_skip (k := 13) xi13 xd13 (w_some xg13 (by kernel_rfl) e185_13 rfl) ?_
  obtain ⟨ac14, hac14⟩ : ∃ x, ac13.put (some 187) (undef) = x := ⟨_, rfl⟩
  rw [hac14]
  have e23_14 : ac14.eval (.tmp 23) = _ := hac14 ▸ ev_put e23_13 (by decide)
  have e20_14 : ac14.eval (.tmp 20) = _ := hac14 ▸ ev_put e20_13 (by decide)
  have e17_14 : ac14.eval (.tmp 17) = _ := hac14 ▸ ev_put e17_13 (by decide)
  have e185_14 : ac14.eval (.tmp 185) = _ := hac14 ▸ ev_put e185_13 (by decide)
  have e187_14 : ac14.eval (.tmp 187) = _ := hac14 ▸ ev_same (by rw [zz13]; decide)
  have zz14 : ac14.tmps.size = 200 := hac14 ▸ size_put zz13
  obtain ⟨xo14, xi14, xd14, xg14, xp14⟩ := q38_14
  refine pd_want (k := 14) (v := .bool false) xi14 xd14 (w_none xg14) (run_pick xp14 e185_14 (fun q => by cases q) (fun _ => rfl) _) ?_
  obtain ⟨ac15, hac15⟩ : ∃ x, ac14.put (some 188) (.bool false) = x := ⟨_, rfl⟩
  rw [hac15]
  have e23_15 : ac15.eval (.tmp 23) = _ := hac15 ▸ ev_put e23_14 (by decide)
  have e20_15 : ac15.eval (.tmp 20) = _ := hac15 ▸ ev_put e20_14 (by decide)
  have e17_15 : ac15.eval (.tmp 17) = _ := hac15 ▸ ev_put e17_14 (by decide)
  have e188_15 : ac15.eval (.tmp 188) = _ := hac15 ▸ ev_same (by rw [zz14]; decide)
  have zz15 : ac15.tmps.size = 200 := hac15 ▸ size_put zz14
  obtain ⟨xo15, xi15, xd15, xg15, xp15⟩ := q38_15
  refine pd_want (k := 15) (v := .bool false) xi15 xd15 (w_none xg15) (run_move xp15 e188_15 _) ?_
  obtain ⟨ac16, hac16⟩ : ∃ x, ac15.put (some 189) (.bool false) = x := ⟨_, rfl⟩
  rw [hac16]
  have e23_16 : ac16.eval (.tmp 23) = _ := hac16 ▸ ev_put e23_15 (by decide)
  have e20_16 : ac16.eval (.tmp 20) = _ := hac16 ▸ ev_put e20_15 (by decide)
  have e17_16 : ac16.eval (.tmp 17) = _ := hac16 ▸ ev_put e17_15 (by decide)
  have e189_16 : ac16.eval (.tmp 189) = _ := hac16 ▸ ev_same (by rw [zz15]; decide)
  have zz16 : ac16.tmps.size = 200 := hac16 ▸ size_put zz15
  obtain ⟨xo16, xi16, xd16, xg16, xp16⟩ := q38_16
  refine pd_skip (k := 16) xi16 xd16 (w_some xg16 (by kernel_rfl) e189_16 rfl) ?_
  obtain ⟨ac17, hac17⟩ : ∃ x, ac16.put (some 190) (undef) = x := ⟨_, rfl⟩
  rw [hac17]
  have e20_17 : ac17.eval (.tmp 20) = _ := hac17 ▸ ev_put e20_16 (by decide)
  have e17_17 : ac17.eval (.tmp 17) = _ := hac17 ▸ ev_put e17_16 (by decide)
  have e189_17 : ac17.eval (.tmp 189) = _ := hac17 ▸ ev_put e189_16 (by decide)
  have e190_17 : ac17.eval (.tmp 190) = _ := hac17 ▸ ev_same (by rw [zz16]; decide)
  have zz17 : ac17.tmps.size = 200 := hac17 ▸ size_put zz16
  obtain ⟨xo17, xi17, xd17, xg17, xp17⟩ := q38_17
  refine pd_skip (k := 17) xi17 xd17 (w_some xg17 (by kernel_rfl) e189_17 rfl) ?_
  obtain ⟨ac18, hac18⟩ : ∃ x, ac17.put (some 191) (undef) = x := ⟨_, rfl⟩
  rw [hac18]
  have e20_18 : ac18.eval (.tmp 20) = _ := hac18 ▸ ev_put e20_17 (by decide)
  have e17_18 : ac18.eval (.tmp 17) = _ := hac18 ▸ ev_put e17_17 (by decide)
  have e189_18 : ac18.eval (.tmp 189) = _ := hac18 ▸ ev_put e189_17 (by decide)
  have e191_18 : ac18.eval (.tmp 191) = _ := hac18 ▸ ev_same (by rw [zz17]; decide)
  have zz18 : ac18.tmps.size = 200 := hac18 ▸ size_put zz17
  obtain ⟨xo18, xi18, xd18, xg18, xp18⟩ := q38_18
  refine pd_want (k := 18) (v := .bool false) xi18 xd18 (w_none xg18) (run_pick xp18 e189_18 (fun q => by cases q) (fun _ => rfl) _) ?_
  obtain ⟨ac19, hac19⟩ : ∃ x, ac18.put (some 192) (.bool false) = x := ⟨_, rfl⟩
  rw [hac19]
  have e20_19 : ac19.eval (.tmp 20) = _ := hac19 ▸ ev_put e20_18 (by decide)
  have e17_19 : ac19.eval (.tmp 17) = _ := hac19 ▸ ev_put e17_18 (by decide)
  have e192_19 : ac19.eval (.tmp 192) = _ := hac19 ▸ ev_same (by rw [zz18]; decide)
  have zz19 : ac19.tmps.size = 200 := hac19 ▸ size_put zz18
  obtain ⟨xo19, xi19, xd19, xg19, xp19⟩ := q38_19
  refine pd_want (k := 19) (v := .bool false) xi19 xd19 (w_none xg19) (run_move xp19 e192_19 _) ?_
  obtain ⟨ac20, hac20⟩ : ∃ x, ac19.put (some 193) (.bool false) = x := ⟨_, rfl⟩
  rw [hac20]
  have e20_20 : ac20.eval (.tmp 20) = _ := hac20 ▸ ev_put e20_19 (by decide)
  have e17_20 : ac20.eval (.tmp 17) = _ := hac20 ▸ ev_put e17_19 (by decide)
  have e193_20 : ac20.eval (.tmp 193) = _ := hac20 ▸ ev_same (by rw [zz19]; decide)
  have zz20 : ac20.tmps.size = 200 := hac20 ▸ size_put zz19
  obtain ⟨xo20, xi20, xd20, xg20, xp20⟩ := q38_20
  refine pd_skip (k := 20) xi20 xd20 (w_some xg20 (by kernel_rfl) e193_20 rfl) ?_
  obtain ⟨ac21, hac21⟩ : ∃ x, ac20.put (some 194) (undef) = x := ⟨_, rfl⟩
  rw [hac21]
  have e17_21 : ac21.eval (.tmp 17) = _ := hac21 ▸ ev_put e17_20 (by decide)
  have e193_21 : ac21.eval (.tmp 193) = _ := hac21 ▸ ev_put e193_20 (by decide)
  have e194_21 : ac21.eval (.tmp 194) = _ := hac21 ▸ ev_same (by rw [zz20]; decide)
  have zz21 : ac21.tmps.size = 200 := hac21 ▸ size_put zz20
  obtain ⟨xo21, xi21, xd21, xg21, xp21⟩ := q38_21
  refine pd_skip (k := 21) xi21 xd21 (w_some xg21 (by kernel_rfl) e193_21 rfl) ?_
  obtain ⟨ac22, hac22⟩ : ∃ x, ac21.put (some 195) (undef) = x := ⟨_, rfl⟩
  rw [hac22]
  have e193_22 : ac22.eval (.tmp 193) = _ := hac22 ▸ ev_put e193_21 (by decide)
  have e194_22 : ac22.eval (.tmp 194) = _ := hac22 ▸ ev_put e194_21 (by decide)
  have e195_22 : ac22.eval (.tmp 195) = _ := hac22 ▸ ev_same (by rw [zz21]; decide)
  have zz22 : ac22.tmps.size = 200 := hac22 ▸ size_put zz21
  obtain ⟨xo22, xi22, xd22, xg22, xp22⟩ := q38_22
  refine pd_skip (k := 22) xi22 xd22 (w_some xg22 (by kernel_rfl) e193_22 rfl) ?_
  obtain ⟨ac23, hac23⟩ : ∃ x, ac22.put (some 196) (undef) = x := ⟨_, rfl⟩
  rw [hac23]
  have e193_23 : ac23.eval (.tmp 193) = _ := hac23 ▸ ev_put e193_22 (by decide)
  have e194_23 : ac23.eval (.tmp 194) = _ := hac23 ▸ ev_put e194_22 (by decide)
  have e196_23 : ac23.eval (.tmp 196) = _ := hac23 ▸ ev_same (by rw [zz22]; decide)
  have zz23 : ac23.tmps.size = 200 := hac23 ▸ size_put zz22
  obtain ⟨xo23, xi23, xd23, xg23, xp23⟩ := q38_23
  refine pd_skip (k := 23) xi23 xd23 (w_some xg23 (by kernel_rfl) e193_23 rfl) ?_
  obtain ⟨ac24, hac24⟩ : ∃ x, ac23.put (some 197) (undef) = x := ⟨_, rfl⟩
  rw [hac24]
  have e193_24 : ac24.eval (.tmp 193) = _ := hac24 ▸ ev_put e193_23 (by decide)
  have e197_24 : ac24.eval (.tmp 197) = _ := hac24 ▸ ev_same (by rw [zz23]; decide)
  have zz24 : ac24.tmps.size = 200 := hac24 ▸ size_put zz23
  obtain ⟨xo24, xi24, xd24, xg24, xp24⟩ := q38_24
  refine pd_want (k := 24) (v := .bool false) xi24 xd24 (w_none xg24) (run_pick xp24 e193_24 (fun q => by cases q) (fun _ => rfl) _) ?_
  obtain ⟨ac25, hac25⟩ : ∃ x, ac24.put (some 198) (.bool false) = x := ⟨_, rfl⟩
  rw [hac25]
  have zz25 : ac25.tmps.size = 200 := hac25 ▸ size_put zz24
  refine pd_end (k := 25) (by kernel_rfl) ?_
  subst hac25 hac24 hac23 hac22 hac21 hac20 hac19 hac18 hac17 hac16 hac15 hac14 hac13 hac12 hac11 hac10 hac9 hac8 hac7 hac6 hac5 hac4 hac3 hac2 hac1
  exact hk
set_option maxRecDepth 100000 in
set_option maxHeartbeats 4000000 in
theorem r38b (pc next cause o7 : Int) (xb : Nat) (W0 : World) (a : Act) (hs : a.tmps.size = 200)  (h23 : a.eval (.tmp 23) = .int .u32 o7) (h20 : a.eval (.tmp 20) = .int .u32 next) (h17 : a.eval (.tmp 17) = .int .u32 pc) (h18 : a.eval (.tmp 18) = .pointer (some ⟨xb, 0, none⟩)) (c4 : W0.cell? ⟨xb, 4, none⟩ = some (.int .i64 cause)) (hc : (cause == -1) = true) (h111 : (o7 != 111) = true) (h103 : (o7 != 103) = false) {K : Act → World → Prop} (hk : K ((((((((((((((((((((((((((a).put (some 174) (.pointer (some ⟨xb, 4, none⟩))).put (some 175) (.int .i64 cause)).put (some 176) (.bool true)).put (some 177) (.bool true)).put (some 178) (.int .u32 o7)).put (some 179) (.bool true)).put (some 180) (.bool true)).put (some 181) (.bool true)).put (some 182) (.int .u32 o7)).put (some 183) (.bool false)).put (some 184) (.bool false)).put (some 185) (.bool false)).put (some 186) (undef)).put (some 187) (undef)).put (some 188) (.bool false)).put (some 189) (.bool false)).put (some 190) (undef)).put (some 191) (undef)).put (some 192) (.bool false)).put (some 193) (.bool false)).put (some 194) (undef)).put (some 195) (undef)).put (some 196) (undef)).put (some 197) (undef)).put (some 198) (.bool false)) W0) : (regIn Tryz.f4.body 38).wp Tryz.prog (Exit.then K NoX) a W0 := by
  show (Code.region 38 (opsIn (regIn Tryz.f4.body 38)) false).wp _ _ _ _
  refine wp_region_list ?_
  show wpList _ _ _ (List.drop 0 _) _ _
  obtain ⟨xo0, xi0, xd0, xg0, xp0⟩ := q38_0
  refine pd_want (k := 0) (v := .pointer (some ⟨xb, 4, none⟩)) xi0 xd0 (w_none xg0) (run_x4 xp0 h18 _) ?_
  obtain ⟨ac1, hac1⟩ : ∃ x, a.put (some 174) (.pointer (some ⟨xb, 4, none⟩)) = x := ⟨_, rfl⟩
  rw [hac1]
  have e23_1 : ac1.eval (.tmp 23) = _ := hac1 ▸ ev_put h23 (by decide)
  have e20_1 : ac1.eval (.tmp 20) = _ := hac1 ▸ ev_put h20 (by decide)
  have e17_1 : ac1.eval (.tmp 17) = _ := hac1 ▸ ev_put h17 (by decide)
  have e174_1 : ac1.eval (.tmp 174) = _ := hac1 ▸ ev_same (by rw [hs]; decide)
  have zz1 : ac1.tmps.size = 200 := hac1 ▸ size_put hs
  obtain ⟨xo1, xi1, xd1, xg1, xp1⟩ := q38_1
  refine pd_want (k := 1) (v := .int .i64 cause) xi1 xd1 (w_none xg1) (run_l3 xp1 e174_1 c4) ?_
  obtain ⟨ac2, hac2⟩ : ∃ x, ac1.put (some 175) (.int .i64 cause) = x := ⟨_, rfl⟩
  rw [hac2]
  have e23_2 : ac2.eval (.tmp 23) = _ := hac2 ▸ ev_put e23_1 (by decide)
  have e20_2 : ac2.eval (.tmp 20) = _ := hac2 ▸ ev_put e20_1 (by decide)
  have e17_2 : ac2.eval (.tmp 17) = _ := hac2 ▸ ev_put e17_1 (by decide)
  have e175_2 : ac2.eval (.tmp 175) = _ := hac2 ▸ ev_same (by rw [zz1]; decide)
  have zz2 : ac2.tmps.size = 200 := hac2 ▸ size_put zz1
  obtain ⟨xo2, xi2, xd2, xg2, xp2⟩ := q38_2
  refine pd_want (k := 2) (v := .bool true) xi2 xd2 (w_none xg2) (run_eq3 xp2 e175_2 rfl hc _) ?_
  obtain ⟨ac3, hac3⟩ : ∃ x, ac2.put (some 176) (.bool true) = x := ⟨_, rfl⟩
  rw [hac3]
  have e23_3 : ac3.eval (.tmp 23) = _ := hac3 ▸ ev_put e23_2 (by decide)
  have e20_3 : ac3.eval (.tmp 20) = _ := hac3 ▸ ev_put e20_2 (by decide)
  have e17_3 : ac3.eval (.tmp 17) = _ := hac3 ▸ ev_put e17_2 (by decide)
  have e176_3 : ac3.eval (.tmp 176) = _ := hac3 ▸ ev_same (by rw [zz2]; decide)
  have zz3 : ac3.tmps.size = 200 := hac3 ▸ size_put zz2
  obtain ⟨xo3, xi3, xd3, xg3, xp3⟩ := q38_3
  refine pd_want (k := 3) (v := .bool true) xi3 xd3 (w_none xg3) (run_move xp3 e176_3 _) ?_
  obtain ⟨ac4, hac4⟩ : ∃ x, ac3.put (some 177) (.bool true) = x := ⟨_, rfl⟩
  rw [hac4]
  have e23_4 : ac4.eval (.tmp 23) = _ := hac4 ▸ ev_put e23_3 (by decide)
  have e20_4 : ac4.eval (.tmp 20) = _ := hac4 ▸ ev_put e20_3 (by decide)
  have e17_4 : ac4.eval (.tmp 17) = _ := hac4 ▸ ev_put e17_3 (by decide)
  have e177_4 : ac4.eval (.tmp 177) = _ := hac4 ▸ ev_same (by rw [zz3]; decide)
  have zz4 : ac4.tmps.size = 200 := hac4 ▸ size_put zz3
  obtain ⟨xo4, xi4, xd4, xg4, xp4⟩ := q38_4
  refine pd_want (k := 4) (v := .int .u32 o7) xi4 xd4 (w_some xg4 (by kernel_rfl) e177_4 rfl) (run_move xp4 e23_4 _) ?_
  obtain ⟨ac5, hac5⟩ : ∃ x, ac4.put (some 178) (.int .u32 o7) = x := ⟨_, rfl⟩
  rw [hac5]
  have e23_5 : ac5.eval (.tmp 23) = _ := hac5 ▸ ev_put e23_4 (by decide)
  have e20_5 : ac5.eval (.tmp 20) = _ := hac5 ▸ ev_put e20_4 (by decide)
  have e17_5 : ac5.eval (.tmp 17) = _ := hac5 ▸ ev_put e17_4 (by decide)
  have e177_5 : ac5.eval (.tmp 177) = _ := hac5 ▸ ev_put e177_4 (by decide)
  have e178_5 : ac5.eval (.tmp 178) = _ := hac5 ▸ ev_same (by rw [zz4]; decide)
  have zz5 : ac5.tmps.size = 200 := hac5 ▸ size_put zz4
  obtain ⟨xo5, xi5, xd5, xg5, xp5⟩ := q38_5
  refine pd_want (k := 5) (v := .bool true) xi5 xd5 (w_some xg5 (by kernel_rfl) e177_5 rfl) (run_ne33 xp5 e178_5 rfl h111 _) ?_
  obtain ⟨ac6, hac6⟩ : ∃ x, ac5.put (some 179) (.bool true) = x := ⟨_, rfl⟩
  rw [hac6]
  have e23_6 : ac6.eval (.tmp 23) = _ := hac6 ▸ ev_put e23_5 (by decide)
  have e20_6 : ac6.eval (.tmp 20) = _ := hac6 ▸ ev_put e20_5 (by decide)
  have e17_6 : ac6.eval (.tmp 17) = _ := hac6 ▸ ev_put e17_5 (by decide)
  have e177_6 : ac6.eval (.tmp 177) = _ := hac6 ▸ ev_put e177_5 (by decide)
  have e179_6 : ac6.eval (.tmp 179) = _ := hac6 ▸ ev_same (by rw [zz5]; decide)
  have zz6 : ac6.tmps.size = 200 := hac6 ▸ size_put zz5
  obtain ⟨xo6, xi6, xd6, xg6, xp6⟩ := q38_6
  refine pd_want (k := 6) (v := .bool true) xi6 xd6 (w_none xg6) (run_pick xp6 e177_6 (fun _ => e179_6) (fun q => by cases q) _) ?_
  obtain ⟨ac7, hac7⟩ : ∃ x, ac6.put (some 180) (.bool true) = x := ⟨_, rfl⟩
  rw [hac7]
  have e23_7 : ac7.eval (.tmp 23) = _ := hac7 ▸ ev_put e23_6 (by decide)
  have e20_7 : ac7.eval (.tmp 20) = _ := hac7 ▸ ev_put e20_6 (by decide)
  have e17_7 : ac7.eval (.tmp 17) = _ := hac7 ▸ ev_put e17_6 (by decide)
  have e180_7 : ac7.eval (.tmp 180) = _ := hac7 ▸ ev_same (by rw [zz6]; decide)
  have zz7 : ac7.tmps.size = 200 := hac7 ▸ size_put zz6
  obtain ⟨xo7, xi7, xd7, xg7, xp7⟩ := q38_7
  refine pd_want (k := 7) (v := .bool true) xi7 xd7 (w_none xg7) (run_move xp7 e180_7 _) ?_
  obtain ⟨ac8, hac8⟩ : ∃ x, ac7.put (some 181) (.bool true) = x := ⟨_, rfl⟩
  rw [hac8]
  have e23_8 : ac8.eval (.tmp 23) = _ := hac8 ▸ ev_put e23_7 (by decide)
  have e20_8 : ac8.eval (.tmp 20) = _ := hac8 ▸ ev_put e20_7 (by decide)
  have e17_8 : ac8.eval (.tmp 17) = _ := hac8 ▸ ev_put e17_7 (by decide)
  have e181_8 : ac8.eval (.tmp 181) = _ := hac8 ▸ ev_same (by rw [zz7]; decide)
  have zz8 : ac8.tmps.size = 200 := hac8 ▸ size_put zz7
  obtain ⟨xo8, xi8, xd8, xg8, xp8⟩ := q38_8
  refine pd_want (k := 8) (v := .int .u32 o7) xi8 xd8 (w_some xg8 (by kernel_rfl) e181_8 rfl) (run_move xp8 e23_8 _) ?_
  obtain ⟨ac9, hac9⟩ : ∃ x, ac8.put (some 182) (.int .u32 o7) = x := ⟨_, rfl⟩
  rw [hac9]
  have e23_9 : ac9.eval (.tmp 23) = _ := hac9 ▸ ev_put e23_8 (by decide)
  have e20_9 : ac9.eval (.tmp 20) = _ := hac9 ▸ ev_put e20_8 (by decide)
  have e17_9 : ac9.eval (.tmp 17) = _ := hac9 ▸ ev_put e17_8 (by decide)
  have e181_9 : ac9.eval (.tmp 181) = _ := hac9 ▸ ev_put e181_8 (by decide)
  have e182_9 : ac9.eval (.tmp 182) = _ := hac9 ▸ ev_same (by rw [zz8]; decide)
  have zz9 : ac9.tmps.size = 200 := hac9 ▸ size_put zz8
  obtain ⟨xo9, xi9, xd9, xg9, xp9⟩ := q38_9
  refine pd_want (k := 9) (v := .bool false) xi9 xd9 (w_some xg9 (by kernel_rfl) e181_9 rfl) (run_ne33 xp9 e182_9 rfl h103 _) ?_
  obtain ⟨ac10, hac10⟩ : ∃ x, ac9.put (some 183) (.bool false) = x := ⟨_, rfl⟩
  rw [hac10]
  have e23_10 : ac10.eval (.tmp 23) = _ := hac10 ▸ ev_put e23_9 (by decide)
  have e20_10 : ac10.eval (.tmp 20) = _ := hac10 ▸ ev_put e20_9 (by decide)
  have e17_10 : ac10.eval (.tmp 17) = _ := hac10 ▸ ev_put e17_9 (by decide)
  have e181_10 : ac10.eval (.tmp 181) = _ := hac10 ▸ ev_put e181_9 (by decide)
  have e183_10 : ac10.eval (.tmp 183) = _ := hac10 ▸ ev_same (by rw [zz9]; decide)
  have zz10 : ac10.tmps.size = 200 := hac10 ▸ size_put zz9
  obtain ⟨xo10, xi10, xd10, xg10, xp10⟩ := q38_10
  refine pd_want (k := 10) (v := .bool false) xi10 xd10 (w_none xg10) (run_pick xp10 e181_10 (fun _ => e183_10) (fun q => by cases q) _) ?_
  obtain ⟨ac11, hac11⟩ : ∃ x, ac10.put (some 184) (.bool false) = x := ⟨_, rfl⟩
  rw [hac11]
  have e23_11 : ac11.eval (.tmp 23) = _ := hac11 ▸ ev_put e23_10 (by decide)
  have e20_11 : ac11.eval (.tmp 20) = _ := hac11 ▸ ev_put e20_10 (by decide)
  have e17_11 : ac11.eval (.tmp 17) = _ := hac11 ▸ ev_put e17_10 (by decide)
  have e184_11 : ac11.eval (.tmp 184) = _ := hac11 ▸ ev_same (by rw [zz10]; decide)
  have zz11 : ac11.tmps.size = 200 := hac11 ▸ size_put zz10
  obtain ⟨xo11, xi11, xd11, xg11, xp11⟩ := q38_11
  refine pd_want (k := 11) (v := .bool false) xi11 xd11 (w_none xg11) (run_move xp11 e184_11 _) ?_
  obtain ⟨ac12, hac12⟩ : ∃ x, ac11.put (some 185) (.bool false) = x := ⟨_, rfl⟩
  rw [hac12]
  have e23_12 : ac12.eval (.tmp 23) = _ := hac12 ▸ ev_put e23_11 (by decide)
  have e20_12 : ac12.eval (.tmp 20) = _ := hac12 ▸ ev_put e20_11 (by decide)
  have e17_12 : ac12.eval (.tmp 17) = _ := hac12 ▸ ev_put e17_11 (by decide)
  have e185_12 : ac12.eval (.tmp 185) = _ := hac12 ▸ ev_same (by rw [zz11]; decide)
  have zz12 : ac12.tmps.size = 200 := hac12 ▸ size_put zz11
  obtain ⟨xo12, xi12, xd12, xg12, xp12⟩ := q38_12
  refine pd_skip (k := 12) xi12 xd12 (w_some xg12 (by kernel_rfl) e185_12 rfl) ?_
  obtain ⟨ac13, hac13⟩ : ∃ x, ac12.put (some 186) (undef) = x := ⟨_, rfl⟩
  rw [hac13]
  have e23_13 : ac13.eval (.tmp 23) = _ := hac13 ▸ ev_put e23_12 (by decide)
  have e20_13 : ac13.eval (.tmp 20) = _ := hac13 ▸ ev_put e20_12 (by decide)
  have e17_13 : ac13.eval (.tmp 17) = _ := hac13 ▸ ev_put e17_12 (by decide)
  have e185_13 : ac13.eval (.tmp 185) = _ := hac13 ▸ ev_put e185_12 (by decide)
  have e186_13 : ac13.eval (.tmp 186) = _ := hac13 ▸ ev_same (by rw [zz12]; decide)
  have zz13 : ac13.tmps.size = 200 := hac13 ▸ size_put zz12
  obtain ⟨xo13, xi13, xd13, xg13, xp13⟩ := q38_13
  refine pd_skip (k := 13) xi13 xd13 (w_some xg13 (by kernel_rfl) e185_13 rfl) ?_
  obtain ⟨ac14, hac14⟩ : ∃ x, ac13.put (some 187) (undef) = x := ⟨_, rfl⟩
  rw [hac14]
  have e23_14 : ac14.eval (.tmp 23) = _ := hac14 ▸ ev_put e23_13 (by decide)
  have e20_14 : ac14.eval (.tmp 20) = _ := hac14 ▸ ev_put e20_13 (by decide)
  have e17_14 : ac14.eval (.tmp 17) = _ := hac14 ▸ ev_put e17_13 (by decide)
  have e185_14 : ac14.eval (.tmp 185) = _ := hac14 ▸ ev_put e185_13 (by decide)
  have e187_14 : ac14.eval (.tmp 187) = _ := hac14 ▸ ev_same (by rw [zz13]; decide)
  have zz14 : ac14.tmps.size = 200 := hac14 ▸ size_put zz13
  obtain ⟨xo14, xi14, xd14, xg14, xp14⟩ := q38_14
  refine pd_want (k := 14) (v := .bool false) xi14 xd14 (w_none xg14) (run_pick xp14 e185_14 (fun q => by cases q) (fun _ => rfl) _) ?_
  obtain ⟨ac15, hac15⟩ : ∃ x, ac14.put (some 188) (.bool false) = x := ⟨_, rfl⟩
  rw [hac15]
  have e23_15 : ac15.eval (.tmp 23) = _ := hac15 ▸ ev_put e23_14 (by decide)
  have e20_15 : ac15.eval (.tmp 20) = _ := hac15 ▸ ev_put e20_14 (by decide)
  have e17_15 : ac15.eval (.tmp 17) = _ := hac15 ▸ ev_put e17_14 (by decide)
  have e188_15 : ac15.eval (.tmp 188) = _ := hac15 ▸ ev_same (by rw [zz14]; decide)
  have zz15 : ac15.tmps.size = 200 := hac15 ▸ size_put zz14
  obtain ⟨xo15, xi15, xd15, xg15, xp15⟩ := q38_15
  refine pd_want (k := 15) (v := .bool false) xi15 xd15 (w_none xg15) (run_move xp15 e188_15 _) ?_
  obtain ⟨ac16, hac16⟩ : ∃ x, ac15.put (some 189) (.bool false) = x := ⟨_, rfl⟩
  rw [hac16]
  have e23_16 : ac16.eval (.tmp 23) = _ := hac16 ▸ ev_put e23_15 (by decide)
  have e20_16 : ac16.eval (.tmp 20) = _ := hac16 ▸ ev_put e20_15 (by decide)
  have e17_16 : ac16.eval (.tmp 17) = _ := hac16 ▸ ev_put e17_15 (by decide)
  have e189_16 : ac16.eval (.tmp 189) = _ := hac16 ▸ ev_same (by rw [zz15]; decide)
  have zz16 : ac16.tmps.size = 200 := hac16 ▸ size_put zz15
  obtain ⟨xo16, xi16, xd16, xg16, xp16⟩ := q38_16
  refine pd_skip (k := 16) xi16 xd16 (w_some xg16 (by kernel_rfl) e189_16 rfl) ?_
  obtain ⟨ac17, hac17⟩ : ∃ x, ac16.put (some 190) (undef) = x := ⟨_, rfl⟩
  rw [hac17]
  have e20_17 : ac17.eval (.tmp 20) = _ := hac17 ▸ ev_put e20_16 (by decide)
  have e17_17 : ac17.eval (.tmp 17) = _ := hac17 ▸ ev_put e17_16 (by decide)
  have e189_17 : ac17.eval (.tmp 189) = _ := hac17 ▸ ev_put e189_16 (by decide)
  have e190_17 : ac17.eval (.tmp 190) = _ := hac17 ▸ ev_same (by rw [zz16]; decide)
  have zz17 : ac17.tmps.size = 200 := hac17 ▸ size_put zz16
  obtain ⟨xo17, xi17, xd17, xg17, xp17⟩ := q38_17
  refine pd_skip (k := 17) xi17 xd17 (w_some xg17 (by kernel_rfl) e189_17 rfl) ?_
  obtain ⟨ac18, hac18⟩ : ∃ x, ac17.put (some 191) (undef) = x := ⟨_, rfl⟩
  rw [hac18]
  have e20_18 : ac18.eval (.tmp 20) = _ := hac18 ▸ ev_put e20_17 (by decide)
  have e17_18 : ac18.eval (.tmp 17) = _ := hac18 ▸ ev_put e17_17 (by decide)
  have e189_18 : ac18.eval (.tmp 189) = _ := hac18 ▸ ev_put e189_17 (by decide)
  have e191_18 : ac18.eval (.tmp 191) = _ := hac18 ▸ ev_same (by rw [zz17]; decide)
  have zz18 : ac18.tmps.size = 200 := hac18 ▸ size_put zz17
  obtain ⟨xo18, xi18, xd18, xg18, xp18⟩ := q38_18
  refine pd_want (k := 18) (v := .bool false) xi18 xd18 (w_none xg18) (run_pick xp18 e189_18 (fun q => by cases q) (fun _ => rfl) _) ?_
  obtain ⟨ac19, hac19⟩ : ∃ x, ac18.put (some 192) (.bool false) = x := ⟨_, rfl⟩
  rw [hac19]
  have e20_19 : ac19.eval (.tmp 20) = _ := hac19 ▸ ev_put e20_18 (by decide)
  have e17_19 : ac19.eval (.tmp 17) = _ := hac19 ▸ ev_put e17_18 (by decide)
  have e192_19 : ac19.eval (.tmp 192) = _ := hac19 ▸ ev_same (by rw [zz18]; decide)
  have zz19 : ac19.tmps.size = 200 := hac19 ▸ size_put zz18
  obtain ⟨xo19, xi19, xd19, xg19, xp19⟩ := q38_19
  refine pd_want (k := 19) (v := .bool false) xi19 xd19 (w_none xg19) (run_move xp19 e192_19 _) ?_
  obtain ⟨ac20, hac20⟩ : ∃ x, ac19.put (some 193) (.bool false) = x := ⟨_, rfl⟩
  rw [hac20]
  have e20_20 : ac20.eval (.tmp 20) = _ := hac20 ▸ ev_put e20_19 (by decide)
  have e17_20 : ac20.eval (.tmp 17) = _ := hac20 ▸ ev_put e17_19 (by decide)
  have e193_20 : ac20.eval (.tmp 193) = _ := hac20 ▸ ev_same (by rw [zz19]; decide)
  have zz20 : ac20.tmps.size = 200 := hac20 ▸ size_put zz19
  obtain ⟨xo20, xi20, xd20, xg20, xp20⟩ := q38_20
  refine pd_skip (k := 20) xi20 xd20 (w_some xg20 (by kernel_rfl) e193_20 rfl) ?_
  obtain ⟨ac21, hac21⟩ : ∃ x, ac20.put (some 194) (undef) = x := ⟨_, rfl⟩
  rw [hac21]
  have e17_21 : ac21.eval (.tmp 17) = _ := hac21 ▸ ev_put e17_20 (by decide)
  have e193_21 : ac21.eval (.tmp 193) = _ := hac21 ▸ ev_put e193_20 (by decide)
  have e194_21 : ac21.eval (.tmp 194) = _ := hac21 ▸ ev_same (by rw [zz20]; decide)
  have zz21 : ac21.tmps.size = 200 := hac21 ▸ size_put zz20
  obtain ⟨xo21, xi21, xd21, xg21, xp21⟩ := q38_21
  refine pd_skip (k := 21) xi21 xd21 (w_some xg21 (by kernel_rfl) e193_21 rfl) ?_
  obtain ⟨ac22, hac22⟩ : ∃ x, ac21.put (some 195) (undef) = x := ⟨_, rfl⟩
  rw [hac22]
  have e193_22 : ac22.eval (.tmp 193) = _ := hac22 ▸ ev_put e193_21 (by decide)
  have e194_22 : ac22.eval (.tmp 194) = _ := hac22 ▸ ev_put e194_21 (by decide)
  have e195_22 : ac22.eval (.tmp 195) = _ := hac22 ▸ ev_same (by rw [zz21]; decide)
  have zz22 : ac22.tmps.size = 200 := hac22 ▸ size_put zz21
  obtain ⟨xo22, xi22, xd22, xg22, xp22⟩ := q38_22
  refine pd_skip (k := 22) xi22 xd22 (w_some xg22 (by kernel_rfl) e193_22 rfl) ?_
  obtain ⟨ac23, hac23⟩ : ∃ x, ac22.put (some 196) (undef) = x := ⟨_, rfl⟩
  rw [hac23]
  have e193_23 : ac23.eval (.tmp 193) = _ := hac23 ▸ ev_put e193_22 (by decide)
  have e194_23 : ac23.eval (.tmp 194) = _ := hac23 ▸ ev_put e194_22 (by decide)
  have e196_23 : ac23.eval (.tmp 196) = _ := hac23 ▸ ev_same (by rw [zz22]; decide)
  have zz23 : ac23.tmps.size = 200 := hac23 ▸ size_put zz22
  obtain ⟨xo23, xi23, xd23, xg23, xp23⟩ := q38_23
  refine pd_skip (k := 23) xi23 xd23 (w_some xg23 (by kernel_rfl) e193_23 rfl) ?_
  obtain ⟨ac24, hac24⟩ : ∃ x, ac23.put (some 197) (undef) = x := ⟨_, rfl⟩
  rw [hac24]
  have e193_24 : ac24.eval (.tmp 193) = _ := hac24 ▸ ev_put e193_23 (by decide)
  have e197_24 : ac24.eval (.tmp 197) = _ := hac24 ▸ ev_same (by rw [zz23]; decide)
  have zz24 : ac24.tmps.size = 200 := hac24 ▸ size_put zz23
  obtain ⟨xo24, xi24, xd24, xg24, xp24⟩ := q38_24
  refine pd_want (k := 24) (v := .bool false) xi24 xd24 (w_none xg24) (run_pick xp24 e193_24 (fun q => by cases q) (fun _ => rfl) _) ?_
  obtain ⟨ac25, hac25⟩ : ∃ x, ac24.put (some 198) (.bool false) = x := ⟨_, rfl⟩
  rw [hac25]
  have zz25 : ac25.tmps.size = 200 := hac25 ▸ size_put zz24
  refine pd_end (k := 25) (by kernel_rfl) ?_
  subst hac25 hac24 hac23 hac22 hac21 hac20 hac19 hac18 hac17 hac16 hac15 hac14 hac13 hac12 hac11 hac10 hac9 hac8 hac7 hac6 hac5 hac4 hac3 hac2 hac1
  exact hk
set_option maxRecDepth 100000 in
set_option maxHeartbeats 4000000 in
theorem r38c (pc next cause o7 : Int) (xb : Nat) (W0 : World) (a : Act) (hs : a.tmps.size = 200)  (h23 : a.eval (.tmp 23) = .int .u32 o7) (h20 : a.eval (.tmp 20) = .int .u32 next) (h17 : a.eval (.tmp 17) = .int .u32 pc) (h18 : a.eval (.tmp 18) = .pointer (some ⟨xb, 0, none⟩)) (c4 : W0.cell? ⟨xb, 4, none⟩ = some (.int .i64 cause)) (hc : (cause == -1) = true) (h111 : (o7 != 111) = true) (h103 : (o7 != 103) = true) (h99 : (o7 != 99) = false) {K : Act → World → Prop} (hk : K ((((((((((((((((((((((((((a).put (some 174) (.pointer (some ⟨xb, 4, none⟩))).put (some 175) (.int .i64 cause)).put (some 176) (.bool true)).put (some 177) (.bool true)).put (some 178) (.int .u32 o7)).put (some 179) (.bool true)).put (some 180) (.bool true)).put (some 181) (.bool true)).put (some 182) (.int .u32 o7)).put (some 183) (.bool true)).put (some 184) (.bool true)).put (some 185) (.bool true)).put (some 186) (.int .u32 o7)).put (some 187) (.bool false)).put (some 188) (.bool false)).put (some 189) (.bool false)).put (some 190) (undef)).put (some 191) (undef)).put (some 192) (.bool false)).put (some 193) (.bool false)).put (some 194) (undef)).put (some 195) (undef)).put (some 196) (undef)).put (some 197) (undef)).put (some 198) (.bool false)) W0) : (regIn Tryz.f4.body 38).wp Tryz.prog (Exit.then K NoX) a W0 := by
  show (Code.region 38 (opsIn (regIn Tryz.f4.body 38)) false).wp _ _ _ _
  refine wp_region_list ?_
  show wpList _ _ _ (List.drop 0 _) _ _
  obtain ⟨xo0, xi0, xd0, xg0, xp0⟩ := q38_0
  refine pd_want (k := 0) (v := .pointer (some ⟨xb, 4, none⟩)) xi0 xd0 (w_none xg0) (run_x4 xp0 h18 _) ?_
  obtain ⟨ac1, hac1⟩ : ∃ x, a.put (some 174) (.pointer (some ⟨xb, 4, none⟩)) = x := ⟨_, rfl⟩
  rw [hac1]
  have e23_1 : ac1.eval (.tmp 23) = _ := hac1 ▸ ev_put h23 (by decide)
  have e20_1 : ac1.eval (.tmp 20) = _ := hac1 ▸ ev_put h20 (by decide)
  have e17_1 : ac1.eval (.tmp 17) = _ := hac1 ▸ ev_put h17 (by decide)
  have e174_1 : ac1.eval (.tmp 174) = _ := hac1 ▸ ev_same (by rw [hs]; decide)
  have zz1 : ac1.tmps.size = 200 := hac1 ▸ size_put hs
  obtain ⟨xo1, xi1, xd1, xg1, xp1⟩ := q38_1
  refine pd_want (k := 1) (v := .int .i64 cause) xi1 xd1 (w_none xg1) (run_l3 xp1 e174_1 c4) ?_
  obtain ⟨ac2, hac2⟩ : ∃ x, ac1.put (some 175) (.int .i64 cause) = x := ⟨_, rfl⟩
  rw [hac2]
  have e23_2 : ac2.eval (.tmp 23) = _ := hac2 ▸ ev_put e23_1 (by decide)
  have e20_2 : ac2.eval (.tmp 20) = _ := hac2 ▸ ev_put e20_1 (by decide)
  have e17_2 : ac2.eval (.tmp 17) = _ := hac2 ▸ ev_put e17_1 (by decide)
  have e175_2 : ac2.eval (.tmp 175) = _ := hac2 ▸ ev_same (by rw [zz1]; decide)
  have zz2 : ac2.tmps.size = 200 := hac2 ▸ size_put zz1
  obtain ⟨xo2, xi2, xd2, xg2, xp2⟩ := q38_2
  refine pd_want (k := 2) (v := .bool true) xi2 xd2 (w_none xg2) (run_eq3 xp2 e175_2 rfl hc _) ?_
  obtain ⟨ac3, hac3⟩ : ∃ x, ac2.put (some 176) (.bool true) = x := ⟨_, rfl⟩
  rw [hac3]
  have e23_3 : ac3.eval (.tmp 23) = _ := hac3 ▸ ev_put e23_2 (by decide)
  have e20_3 : ac3.eval (.tmp 20) = _ := hac3 ▸ ev_put e20_2 (by decide)
  have e17_3 : ac3.eval (.tmp 17) = _ := hac3 ▸ ev_put e17_2 (by decide)
  have e176_3 : ac3.eval (.tmp 176) = _ := hac3 ▸ ev_same (by rw [zz2]; decide)
  have zz3 : ac3.tmps.size = 200 := hac3 ▸ size_put zz2
  obtain ⟨xo3, xi3, xd3, xg3, xp3⟩ := q38_3
  refine pd_want (k := 3) (v := .bool true) xi3 xd3 (w_none xg3) (run_move xp3 e176_3 _) ?_
  obtain ⟨ac4, hac4⟩ : ∃ x, ac3.put (some 177) (.bool true) = x := ⟨_, rfl⟩
  rw [hac4]
  have e23_4 : ac4.eval (.tmp 23) = _ := hac4 ▸ ev_put e23_3 (by decide)
  have e20_4 : ac4.eval (.tmp 20) = _ := hac4 ▸ ev_put e20_3 (by decide)
  have e17_4 : ac4.eval (.tmp 17) = _ := hac4 ▸ ev_put e17_3 (by decide)
  have e177_4 : ac4.eval (.tmp 177) = _ := hac4 ▸ ev_same (by rw [zz3]; decide)
  have zz4 : ac4.tmps.size = 200 := hac4 ▸ size_put zz3
  obtain ⟨xo4, xi4, xd4, xg4, xp4⟩ := q38_4
  refine pd_want (k := 4) (v := .int .u32 o7) xi4 xd4 (w_some xg4 (by kernel_rfl) e177_4 rfl) (run_move xp4 e23_4 _) ?_
  obtain ⟨ac5, hac5⟩ : ∃ x, ac4.put (some 178) (.int .u32 o7) = x := ⟨_, rfl⟩
  rw [hac5]
  have e23_5 : ac5.eval (.tmp 23) = _ := hac5 ▸ ev_put e23_4 (by decide)
  have e20_5 : ac5.eval (.tmp 20) = _ := hac5 ▸ ev_put e20_4 (by decide)
  have e17_5 : ac5.eval (.tmp 17) = _ := hac5 ▸ ev_put e17_4 (by decide)
  have e177_5 : ac5.eval (.tmp 177) = _ := hac5 ▸ ev_put e177_4 (by decide)
  have e178_5 : ac5.eval (.tmp 178) = _ := hac5 ▸ ev_same (by rw [zz4]; decide)
  have zz5 : ac5.tmps.size = 200 := hac5 ▸ size_put zz4
  obtain ⟨xo5, xi5, xd5, xg5, xp5⟩ := q38_5
  refine pd_want (k := 5) (v := .bool true) xi5 xd5 (w_some xg5 (by kernel_rfl) e177_5 rfl) (run_ne33 xp5 e178_5 rfl h111 _) ?_
  obtain ⟨ac6, hac6⟩ : ∃ x, ac5.put (some 179) (.bool true) = x := ⟨_, rfl⟩
  rw [hac6]
  have e23_6 : ac6.eval (.tmp 23) = _ := hac6 ▸ ev_put e23_5 (by decide)
  have e20_6 : ac6.eval (.tmp 20) = _ := hac6 ▸ ev_put e20_5 (by decide)
  have e17_6 : ac6.eval (.tmp 17) = _ := hac6 ▸ ev_put e17_5 (by decide)
  have e177_6 : ac6.eval (.tmp 177) = _ := hac6 ▸ ev_put e177_5 (by decide)
  have e179_6 : ac6.eval (.tmp 179) = _ := hac6 ▸ ev_same (by rw [zz5]; decide)
  have zz6 : ac6.tmps.size = 200 := hac6 ▸ size_put zz5
  obtain ⟨xo6, xi6, xd6, xg6, xp6⟩ := q38_6
  refine pd_want (k := 6) (v := .bool true) xi6 xd6 (w_none xg6) (run_pick xp6 e177_6 (fun _ => e179_6) (fun q => by cases q) _) ?_
  obtain ⟨ac7, hac7⟩ : ∃ x, ac6.put (some 180) (.bool true) = x := ⟨_, rfl⟩
  rw [hac7]
  have e23_7 : ac7.eval (.tmp 23) = _ := hac7 ▸ ev_put e23_6 (by decide)
  have e20_7 : ac7.eval (.tmp 20) = _ := hac7 ▸ ev_put e20_6 (by decide)
  have e17_7 : ac7.eval (.tmp 17) = _ := hac7 ▸ ev_put e17_6 (by decide)
  have e180_7 : ac7.eval (.tmp 180) = _ := hac7 ▸ ev_same (by rw [zz6]; decide)
  have zz7 : ac7.tmps.size = 200 := hac7 ▸ size_put zz6
  obtain ⟨xo7, xi7, xd7, xg7, xp7⟩ := q38_7
  refine pd_want (k := 7) (v := .bool true) xi7 xd7 (w_none xg7) (run_move xp7 e180_7 _) ?_
  obtain ⟨ac8, hac8⟩ : ∃ x, ac7.put (some 181) (.bool true) = x := ⟨_, rfl⟩
  rw [hac8]
  have e23_8 : ac8.eval (.tmp 23) = _ := hac8 ▸ ev_put e23_7 (by decide)
  have e20_8 : ac8.eval (.tmp 20) = _ := hac8 ▸ ev_put e20_7 (by decide)
  have e17_8 : ac8.eval (.tmp 17) = _ := hac8 ▸ ev_put e17_7 (by decide)
  have e181_8 : ac8.eval (.tmp 181) = _ := hac8 ▸ ev_same (by rw [zz7]; decide)
  have zz8 : ac8.tmps.size = 200 := hac8 ▸ size_put zz7
  obtain ⟨xo8, xi8, xd8, xg8, xp8⟩ := q38_8
  refine pd_want (k := 8) (v := .int .u32 o7) xi8 xd8 (w_some xg8 (by kernel_rfl) e181_8 rfl) (run_move xp8 e23_8 _) ?_
  obtain ⟨ac9, hac9⟩ : ∃ x, ac8.put (some 182) (.int .u32 o7) = x := ⟨_, rfl⟩
  rw [hac9]
  have e23_9 : ac9.eval (.tmp 23) = _ := hac9 ▸ ev_put e23_8 (by decide)
  have e20_9 : ac9.eval (.tmp 20) = _ := hac9 ▸ ev_put e20_8 (by decide)
  have e17_9 : ac9.eval (.tmp 17) = _ := hac9 ▸ ev_put e17_8 (by decide)
  have e181_9 : ac9.eval (.tmp 181) = _ := hac9 ▸ ev_put e181_8 (by decide)
  have e182_9 : ac9.eval (.tmp 182) = _ := hac9 ▸ ev_same (by rw [zz8]; decide)
  have zz9 : ac9.tmps.size = 200 := hac9 ▸ size_put zz8
  obtain ⟨xo9, xi9, xd9, xg9, xp9⟩ := q38_9
  refine pd_want (k := 9) (v := .bool true) xi9 xd9 (w_some xg9 (by kernel_rfl) e181_9 rfl) (run_ne33 xp9 e182_9 rfl h103 _) ?_
  obtain ⟨ac10, hac10⟩ : ∃ x, ac9.put (some 183) (.bool true) = x := ⟨_, rfl⟩
  rw [hac10]
  have e23_10 : ac10.eval (.tmp 23) = _ := hac10 ▸ ev_put e23_9 (by decide)
  have e20_10 : ac10.eval (.tmp 20) = _ := hac10 ▸ ev_put e20_9 (by decide)
  have e17_10 : ac10.eval (.tmp 17) = _ := hac10 ▸ ev_put e17_9 (by decide)
  have e181_10 : ac10.eval (.tmp 181) = _ := hac10 ▸ ev_put e181_9 (by decide)
  have e183_10 : ac10.eval (.tmp 183) = _ := hac10 ▸ ev_same (by rw [zz9]; decide)
  have zz10 : ac10.tmps.size = 200 := hac10 ▸ size_put zz9
  obtain ⟨xo10, xi10, xd10, xg10, xp10⟩ := q38_10
  refine pd_want (k := 10) (v := .bool true) xi10 xd10 (w_none xg10) (run_pick xp10 e181_10 (fun _ => e183_10) (fun q => by cases q) _) ?_
  obtain ⟨ac11, hac11⟩ : ∃ x, ac10.put (some 184) (.bool true) = x := ⟨_, rfl⟩
  rw [hac11]
  have e23_11 : ac11.eval (.tmp 23) = _ := hac11 ▸ ev_put e23_10 (by decide)
  have e20_11 : ac11.eval (.tmp 20) = _ := hac11 ▸ ev_put e20_10 (by decide)
  have e17_11 : ac11.eval (.tmp 17) = _ := hac11 ▸ ev_put e17_10 (by decide)
  have e184_11 : ac11.eval (.tmp 184) = _ := hac11 ▸ ev_same (by rw [zz10]; decide)
  have zz11 : ac11.tmps.size = 200 := hac11 ▸ size_put zz10
  obtain ⟨xo11, xi11, xd11, xg11, xp11⟩ := q38_11
  refine pd_want (k := 11) (v := .bool true) xi11 xd11 (w_none xg11) (run_move xp11 e184_11 _) ?_
  obtain ⟨ac12, hac12⟩ : ∃ x, ac11.put (some 185) (.bool true) = x := ⟨_, rfl⟩
  rw [hac12]
  have e23_12 : ac12.eval (.tmp 23) = _ := hac12 ▸ ev_put e23_11 (by decide)
  have e20_12 : ac12.eval (.tmp 20) = _ := hac12 ▸ ev_put e20_11 (by decide)
  have e17_12 : ac12.eval (.tmp 17) = _ := hac12 ▸ ev_put e17_11 (by decide)
  have e185_12 : ac12.eval (.tmp 185) = _ := hac12 ▸ ev_same (by rw [zz11]; decide)
  have zz12 : ac12.tmps.size = 200 := hac12 ▸ size_put zz11
  obtain ⟨xo12, xi12, xd12, xg12, xp12⟩ := q38_12
  refine pd_want (k := 12) (v := .int .u32 o7) xi12 xd12 (w_some xg12 (by kernel_rfl) e185_12 rfl) (run_move xp12 e23_12 _) ?_
  obtain ⟨ac13, hac13⟩ : ∃ x, ac12.put (some 186) (.int .u32 o7) = x := ⟨_, rfl⟩
  rw [hac13]
  have e23_13 : ac13.eval (.tmp 23) = _ := hac13 ▸ ev_put e23_12 (by decide)
  have e20_13 : ac13.eval (.tmp 20) = _ := hac13 ▸ ev_put e20_12 (by decide)
  have e17_13 : ac13.eval (.tmp 17) = _ := hac13 ▸ ev_put e17_12 (by decide)
  have e185_13 : ac13.eval (.tmp 185) = _ := hac13 ▸ ev_put e185_12 (by decide)
  have e186_13 : ac13.eval (.tmp 186) = _ := hac13 ▸ ev_same (by rw [zz12]; decide)
  have zz13 : ac13.tmps.size = 200 := hac13 ▸ size_put zz12
  obtain ⟨xo13, xi13, xd13, xg13, xp13⟩ := q38_13
  refine pd_want (k := 13) (v := .bool false) xi13 xd13 (w_some xg13 (by kernel_rfl) e185_13 rfl) (run_ne33 xp13 e186_13 rfl h99 _) ?_
  obtain ⟨ac14, hac14⟩ : ∃ x, ac13.put (some 187) (.bool false) = x := ⟨_, rfl⟩
  rw [hac14]
  have e23_14 : ac14.eval (.tmp 23) = _ := hac14 ▸ ev_put e23_13 (by decide)
  have e20_14 : ac14.eval (.tmp 20) = _ := hac14 ▸ ev_put e20_13 (by decide)
  have e17_14 : ac14.eval (.tmp 17) = _ := hac14 ▸ ev_put e17_13 (by decide)
  have e185_14 : ac14.eval (.tmp 185) = _ := hac14 ▸ ev_put e185_13 (by decide)
  have e187_14 : ac14.eval (.tmp 187) = _ := hac14 ▸ ev_same (by rw [zz13]; decide)
  have zz14 : ac14.tmps.size = 200 := hac14 ▸ size_put zz13
  obtain ⟨xo14, xi14, xd14, xg14, xp14⟩ := q38_14
  refine pd_want (k := 14) (v := .bool false) xi14 xd14 (w_none xg14) (run_pick xp14 e185_14 (fun _ => e187_14) (fun q => by cases q) _) ?_
  obtain ⟨ac15, hac15⟩ : ∃ x, ac14.put (some 188) (.bool false) = x := ⟨_, rfl⟩
  rw [hac15]
  have e23_15 : ac15.eval (.tmp 23) = _ := hac15 ▸ ev_put e23_14 (by decide)
  have e20_15 : ac15.eval (.tmp 20) = _ := hac15 ▸ ev_put e20_14 (by decide)
  have e17_15 : ac15.eval (.tmp 17) = _ := hac15 ▸ ev_put e17_14 (by decide)
  have e188_15 : ac15.eval (.tmp 188) = _ := hac15 ▸ ev_same (by rw [zz14]; decide)
  have zz15 : ac15.tmps.size = 200 := hac15 ▸ size_put zz14
  obtain ⟨xo15, xi15, xd15, xg15, xp15⟩ := q38_15
  refine pd_want (k := 15) (v := .bool false) xi15 xd15 (w_none xg15) (run_move xp15 e188_15 _) ?_
  obtain ⟨ac16, hac16⟩ : ∃ x, ac15.put (some 189) (.bool false) = x := ⟨_, rfl⟩
  rw [hac16]
  have e23_16 : ac16.eval (.tmp 23) = _ := hac16 ▸ ev_put e23_15 (by decide)
  have e20_16 : ac16.eval (.tmp 20) = _ := hac16 ▸ ev_put e20_15 (by decide)
  have e17_16 : ac16.eval (.tmp 17) = _ := hac16 ▸ ev_put e17_15 (by decide)
  have e189_16 : ac16.eval (.tmp 189) = _ := hac16 ▸ ev_same (by rw [zz15]; decide)
  have zz16 : ac16.tmps.size = 200 := hac16 ▸ size_put zz15
  obtain ⟨xo16, xi16, xd16, xg16, xp16⟩ := q38_16
  refine pd_skip (k := 16) xi16 xd16 (w_some xg16 (by kernel_rfl) e189_16 rfl) ?_
  obtain ⟨ac17, hac17⟩ : ∃ x, ac16.put (some 190) (undef) = x := ⟨_, rfl⟩
  rw [hac17]
  have e20_17 : ac17.eval (.tmp 20) = _ := hac17 ▸ ev_put e20_16 (by decide)
  have e17_17 : ac17.eval (.tmp 17) = _ := hac17 ▸ ev_put e17_16 (by decide)
  have e189_17 : ac17.eval (.tmp 189) = _ := hac17 ▸ ev_put e189_16 (by decide)
  have e190_17 : ac17.eval (.tmp 190) = _ := hac17 ▸ ev_same (by rw [zz16]; decide)
  have zz17 : ac17.tmps.size = 200 := hac17 ▸ size_put zz16
  obtain ⟨xo17, xi17, xd17, xg17, xp17⟩ := q38_17
  refine pd_skip (k := 17) xi17 xd17 (w_some xg17 (by kernel_rfl) e189_17 rfl) ?_
  obtain ⟨ac18, hac18⟩ : ∃ x, ac17.put (some 191) (undef) = x := ⟨_, rfl⟩
  rw [hac18]
  have e20_18 : ac18.eval (.tmp 20) = _ := hac18 ▸ ev_put e20_17 (by decide)
  have e17_18 : ac18.eval (.tmp 17) = _ := hac18 ▸ ev_put e17_17 (by decide)
  have e189_18 : ac18.eval (.tmp 189) = _ := hac18 ▸ ev_put e189_17 (by decide)
  have e191_18 : ac18.eval (.tmp 191) = _ := hac18 ▸ ev_same (by rw [zz17]; decide)
  have zz18 : ac18.tmps.size = 200 := hac18 ▸ size_put zz17
  obtain ⟨xo18, xi18, xd18, xg18, xp18⟩ := q38_18
  refine pd_want (k := 18) (v := .bool false) xi18 xd18 (w_none xg18) (run_pick xp18 e189_18 (fun q => by cases q) (fun _ => rfl) _) ?_
  obtain ⟨ac19, hac19⟩ : ∃ x, ac18.put (some 192) (.bool false) = x := ⟨_, rfl⟩
  rw [hac19]
  have e20_19 : ac19.eval (.tmp 20) = _ := hac19 ▸ ev_put e20_18 (by decide)
  have e17_19 : ac19.eval (.tmp 17) = _ := hac19 ▸ ev_put e17_18 (by decide)
  have e192_19 : ac19.eval (.tmp 192) = _ := hac19 ▸ ev_same (by rw [zz18]; decide)
  have zz19 : ac19.tmps.size = 200 := hac19 ▸ size_put zz18
  obtain ⟨xo19, xi19, xd19, xg19, xp19⟩ := q38_19
  refine pd_want (k := 19) (v := .bool false) xi19 xd19 (w_none xg19) (run_move xp19 e192_19 _) ?_
  obtain ⟨ac20, hac20⟩ : ∃ x, ac19.put (some 193) (.bool false) = x := ⟨_, rfl⟩
  rw [hac20]
  have e20_20 : ac20.eval (.tmp 20) = _ := hac20 ▸ ev_put e20_19 (by decide)
  have e17_20 : ac20.eval (.tmp 17) = _ := hac20 ▸ ev_put e17_19 (by decide)
  have e193_20 : ac20.eval (.tmp 193) = _ := hac20 ▸ ev_same (by rw [zz19]; decide)
  have zz20 : ac20.tmps.size = 200 := hac20 ▸ size_put zz19
  obtain ⟨xo20, xi20, xd20, xg20, xp20⟩ := q38_20
  refine pd_skip (k := 20) xi20 xd20 (w_some xg20 (by kernel_rfl) e193_20 rfl) ?_
  obtain ⟨ac21, hac21⟩ : ∃ x, ac20.put (some 194) (undef) = x := ⟨_, rfl⟩
  rw [hac21]
  have e17_21 : ac21.eval (.tmp 17) = _ := hac21 ▸ ev_put e17_20 (by decide)
  have e193_21 : ac21.eval (.tmp 193) = _ := hac21 ▸ ev_put e193_20 (by decide)
  have e194_21 : ac21.eval (.tmp 194) = _ := hac21 ▸ ev_same (by rw [zz20]; decide)
  have zz21 : ac21.tmps.size = 200 := hac21 ▸ size_put zz20
  obtain ⟨xo21, xi21, xd21, xg21, xp21⟩ := q38_21
  refine pd_skip (k := 21) xi21 xd21 (w_some xg21 (by kernel_rfl) e193_21 rfl) ?_
  obtain ⟨ac22, hac22⟩ : ∃ x, ac21.put (some 195) (undef) = x := ⟨_, rfl⟩
  rw [hac22]
  have e193_22 : ac22.eval (.tmp 193) = _ := hac22 ▸ ev_put e193_21 (by decide)
  have e194_22 : ac22.eval (.tmp 194) = _ := hac22 ▸ ev_put e194_21 (by decide)
  have e195_22 : ac22.eval (.tmp 195) = _ := hac22 ▸ ev_same (by rw [zz21]; decide)
  have zz22 : ac22.tmps.size = 200 := hac22 ▸ size_put zz21
  obtain ⟨xo22, xi22, xd22, xg22, xp22⟩ := q38_22
  refine pd_skip (k := 22) xi22 xd22 (w_some xg22 (by kernel_rfl) e193_22 rfl) ?_
  obtain ⟨ac23, hac23⟩ : ∃ x, ac22.put (some 196) (undef) = x := ⟨_, rfl⟩
  rw [hac23]
  have e193_23 : ac23.eval (.tmp 193) = _ := hac23 ▸ ev_put e193_22 (by decide)
  have e194_23 : ac23.eval (.tmp 194) = _ := hac23 ▸ ev_put e194_22 (by decide)
  have e196_23 : ac23.eval (.tmp 196) = _ := hac23 ▸ ev_same (by rw [zz22]; decide)
  have zz23 : ac23.tmps.size = 200 := hac23 ▸ size_put zz22
  obtain ⟨xo23, xi23, xd23, xg23, xp23⟩ := q38_23
  refine pd_skip (k := 23) xi23 xd23 (w_some xg23 (by kernel_rfl) e193_23 rfl) ?_
  obtain ⟨ac24, hac24⟩ : ∃ x, ac23.put (some 197) (undef) = x := ⟨_, rfl⟩
  rw [hac24]
  have e193_24 : ac24.eval (.tmp 193) = _ := hac24 ▸ ev_put e193_23 (by decide)
  have e197_24 : ac24.eval (.tmp 197) = _ := hac24 ▸ ev_same (by rw [zz23]; decide)
  have zz24 : ac24.tmps.size = 200 := hac24 ▸ size_put zz23
  obtain ⟨xo24, xi24, xd24, xg24, xp24⟩ := q38_24
  refine pd_want (k := 24) (v := .bool false) xi24 xd24 (w_none xg24) (run_pick xp24 e193_24 (fun q => by cases q) (fun _ => rfl) _) ?_
  obtain ⟨ac25, hac25⟩ : ∃ x, ac24.put (some 198) (.bool false) = x := ⟨_, rfl⟩
  rw [hac25]
  have zz25 : ac25.tmps.size = 200 := hac25 ▸ size_put zz24
  refine pd_end (k := 25) (by kernel_rfl) ?_
  subst hac25 hac24 hac23 hac22 hac21 hac20 hac19 hac18 hac17 hac16 hac15 hac14 hac13 hac12 hac11 hac10 hac9 hac8 hac7 hac6 hac5 hac4 hac3 hac2 hac1
  exact hk
set_option maxRecDepth 100000 in
set_option maxHeartbeats 4000000 in
theorem r38d (pc next cause o7 : Int) (xb : Nat) (W0 : World) (a : Act) (hs : a.tmps.size = 200)  (h23 : a.eval (.tmp 23) = .int .u32 o7) (h20 : a.eval (.tmp 20) = .int .u32 next) (h17 : a.eval (.tmp 17) = .int .u32 pc) (h18 : a.eval (.tmp 18) = .pointer (some ⟨xb, 0, none⟩)) (c4 : W0.cell? ⟨xb, 4, none⟩ = some (.int .i64 cause)) (hc : (cause == -1) = true) (h111 : (o7 != 111) = true) (h103 : (o7 != 103) = true) (h99 : (o7 != 99) = true) (h115 : (o7 != 115) = false) {K : Act → World → Prop} (hk : K ((((((((((((((((((((((((((a).put (some 174) (.pointer (some ⟨xb, 4, none⟩))).put (some 175) (.int .i64 cause)).put (some 176) (.bool true)).put (some 177) (.bool true)).put (some 178) (.int .u32 o7)).put (some 179) (.bool true)).put (some 180) (.bool true)).put (some 181) (.bool true)).put (some 182) (.int .u32 o7)).put (some 183) (.bool true)).put (some 184) (.bool true)).put (some 185) (.bool true)).put (some 186) (.int .u32 o7)).put (some 187) (.bool true)).put (some 188) (.bool true)).put (some 189) (.bool true)).put (some 190) (.int .u32 o7)).put (some 191) (.bool false)).put (some 192) (.bool false)).put (some 193) (.bool false)).put (some 194) (undef)).put (some 195) (undef)).put (some 196) (undef)).put (some 197) (undef)).put (some 198) (.bool false)) W0) : (regIn Tryz.f4.body 38).wp Tryz.prog (Exit.then K NoX) a W0 := by
  show (Code.region 38 (opsIn (regIn Tryz.f4.body 38)) false).wp _ _ _ _
  refine wp_region_list ?_
  show wpList _ _ _ (List.drop 0 _) _ _
  obtain ⟨xo0, xi0, xd0, xg0, xp0⟩ := q38_0
  refine pd_want (k := 0) (v := .pointer (some ⟨xb, 4, none⟩)) xi0 xd0 (w_none xg0) (run_x4 xp0 h18 _) ?_
  obtain ⟨ac1, hac1⟩ : ∃ x, a.put (some 174) (.pointer (some ⟨xb, 4, none⟩)) = x := ⟨_, rfl⟩
  rw [hac1]
  have e23_1 : ac1.eval (.tmp 23) = _ := hac1 ▸ ev_put h23 (by decide)
  have e20_1 : ac1.eval (.tmp 20) = _ := hac1 ▸ ev_put h20 (by decide)
  have e17_1 : ac1.eval (.tmp 17) = _ := hac1 ▸ ev_put h17 (by decide)
  have e174_1 : ac1.eval (.tmp 174) = _ := hac1 ▸ ev_same (by rw [hs]; decide)
  have zz1 : ac1.tmps.size = 200 := hac1 ▸ size_put hs
  obtain ⟨xo1, xi1, xd1, xg1, xp1⟩ := q38_1
  refine pd_want (k := 1) (v := .int .i64 cause) xi1 xd1 (w_none xg1) (run_l3 xp1 e174_1 c4) ?_
  obtain ⟨ac2, hac2⟩ : ∃ x, ac1.put (some 175) (.int .i64 cause) = x := ⟨_, rfl⟩
  rw [hac2]
  have e23_2 : ac2.eval (.tmp 23) = _ := hac2 ▸ ev_put e23_1 (by decide)
  have e20_2 : ac2.eval (.tmp 20) = _ := hac2 ▸ ev_put e20_1 (by decide)
  have e17_2 : ac2.eval (.tmp 17) = _ := hac2 ▸ ev_put e17_1 (by decide)
  have e175_2 : ac2.eval (.tmp 175) = _ := hac2 ▸ ev_same (by rw [zz1]; decide)
  have zz2 : ac2.tmps.size = 200 := hac2 ▸ size_put zz1
  obtain ⟨xo2, xi2, xd2, xg2, xp2⟩ := q38_2
  refine pd_want (k := 2) (v := .bool true) xi2 xd2 (w_none xg2) (run_eq3 xp2 e175_2 rfl hc _) ?_
  obtain ⟨ac3, hac3⟩ : ∃ x, ac2.put (some 176) (.bool true) = x := ⟨_, rfl⟩
  rw [hac3]
  have e23_3 : ac3.eval (.tmp 23) = _ := hac3 ▸ ev_put e23_2 (by decide)
  have e20_3 : ac3.eval (.tmp 20) = _ := hac3 ▸ ev_put e20_2 (by decide)
  have e17_3 : ac3.eval (.tmp 17) = _ := hac3 ▸ ev_put e17_2 (by decide)
  have e176_3 : ac3.eval (.tmp 176) = _ := hac3 ▸ ev_same (by rw [zz2]; decide)
  have zz3 : ac3.tmps.size = 200 := hac3 ▸ size_put zz2
  obtain ⟨xo3, xi3, xd3, xg3, xp3⟩ := q38_3
  refine pd_want (k := 3) (v := .bool true) xi3 xd3 (w_none xg3) (run_move xp3 e176_3 _) ?_
  obtain ⟨ac4, hac4⟩ : ∃ x, ac3.put (some 177) (.bool true) = x := ⟨_, rfl⟩
  rw [hac4]
  have e23_4 : ac4.eval (.tmp 23) = _ := hac4 ▸ ev_put e23_3 (by decide)
  have e20_4 : ac4.eval (.tmp 20) = _ := hac4 ▸ ev_put e20_3 (by decide)
  have e17_4 : ac4.eval (.tmp 17) = _ := hac4 ▸ ev_put e17_3 (by decide)
  have e177_4 : ac4.eval (.tmp 177) = _ := hac4 ▸ ev_same (by rw [zz3]; decide)
  have zz4 : ac4.tmps.size = 200 := hac4 ▸ size_put zz3
  obtain ⟨xo4, xi4, xd4, xg4, xp4⟩ := q38_4
  refine pd_want (k := 4) (v := .int .u32 o7) xi4 xd4 (w_some xg4 (by kernel_rfl) e177_4 rfl) (run_move xp4 e23_4 _) ?_
  obtain ⟨ac5, hac5⟩ : ∃ x, ac4.put (some 178) (.int .u32 o7) = x := ⟨_, rfl⟩
  rw [hac5]
  have e23_5 : ac5.eval (.tmp 23) = _ := hac5 ▸ ev_put e23_4 (by decide)
  have e20_5 : ac5.eval (.tmp 20) = _ := hac5 ▸ ev_put e20_4 (by decide)
  have e17_5 : ac5.eval (.tmp 17) = _ := hac5 ▸ ev_put e17_4 (by decide)
  have e177_5 : ac5.eval (.tmp 177) = _ := hac5 ▸ ev_put e177_4 (by decide)
  have e178_5 : ac5.eval (.tmp 178) = _ := hac5 ▸ ev_same (by rw [zz4]; decide)
  have zz5 : ac5.tmps.size = 200 := hac5 ▸ size_put zz4
  obtain ⟨xo5, xi5, xd5, xg5, xp5⟩ := q38_5
  refine pd_want (k := 5) (v := .bool true) xi5 xd5 (w_some xg5 (by kernel_rfl) e177_5 rfl) (run_ne33 xp5 e178_5 rfl h111 _) ?_
  obtain ⟨ac6, hac6⟩ : ∃ x, ac5.put (some 179) (.bool true) = x := ⟨_, rfl⟩
  rw [hac6]
  have e23_6 : ac6.eval (.tmp 23) = _ := hac6 ▸ ev_put e23_5 (by decide)
  have e20_6 : ac6.eval (.tmp 20) = _ := hac6 ▸ ev_put e20_5 (by decide)
  have e17_6 : ac6.eval (.tmp 17) = _ := hac6 ▸ ev_put e17_5 (by decide)
  have e177_6 : ac6.eval (.tmp 177) = _ := hac6 ▸ ev_put e177_5 (by decide)
  have e179_6 : ac6.eval (.tmp 179) = _ := hac6 ▸ ev_same (by rw [zz5]; decide)
  have zz6 : ac6.tmps.size = 200 := hac6 ▸ size_put zz5
  obtain ⟨xo6, xi6, xd6, xg6, xp6⟩ := q38_6
  refine pd_want (k := 6) (v := .bool true) xi6 xd6 (w_none xg6) (run_pick xp6 e177_6 (fun _ => e179_6) (fun q => by cases q) _) ?_
  obtain ⟨ac7, hac7⟩ : ∃ x, ac6.put (some 180) (.bool true) = x := ⟨_, rfl⟩
  rw [hac7]
  have e23_7 : ac7.eval (.tmp 23) = _ := hac7 ▸ ev_put e23_6 (by decide)
  have e20_7 : ac7.eval (.tmp 20) = _ := hac7 ▸ ev_put e20_6 (by decide)
  have e17_7 : ac7.eval (.tmp 17) = _ := hac7 ▸ ev_put e17_6 (by decide)
  have e180_7 : ac7.eval (.tmp 180) = _ := hac7 ▸ ev_same (by rw [zz6]; decide)
  have zz7 : ac7.tmps.size = 200 := hac7 ▸ size_put zz6
  obtain ⟨xo7, xi7, xd7, xg7, xp7⟩ := q38_7
  refine pd_want (k := 7) (v := .bool true) xi7 xd7 (w_none xg7) (run_move xp7 e180_7 _) ?_
  obtain ⟨ac8, hac8⟩ : ∃ x, ac7.put (some 181) (.bool true) = x := ⟨_, rfl⟩
  rw [hac8]
  have e23_8 : ac8.eval (.tmp 23) = _ := hac8 ▸ ev_put e23_7 (by decide)
  have e20_8 : ac8.eval (.tmp 20) = _ := hac8 ▸ ev_put e20_7 (by decide)
  have e17_8 : ac8.eval (.tmp 17) = _ := hac8 ▸ ev_put e17_7 (by decide)
  have e181_8 : ac8.eval (.tmp 181) = _ := hac8 ▸ ev_same (by rw [zz7]; decide)
  have zz8 : ac8.tmps.size = 200 := hac8 ▸ size_put zz7
  obtain ⟨xo8, xi8, xd8, xg8, xp8⟩ := q38_8
  refine pd_want (k := 8) (v := .int .u32 o7) xi8 xd8 (w_some xg8 (by kernel_rfl) e181_8 rfl) (run_move xp8 e23_8 _) ?_
  obtain ⟨ac9, hac9⟩ : ∃ x, ac8.put (some 182) (.int .u32 o7) = x := ⟨_, rfl⟩
  rw [hac9]
  have e23_9 : ac9.eval (.tmp 23) = _ := hac9 ▸ ev_put e23_8 (by decide)
  have e20_9 : ac9.eval (.tmp 20) = _ := hac9 ▸ ev_put e20_8 (by decide)
  have e17_9 : ac9.eval (.tmp 17) = _ := hac9 ▸ ev_put e17_8 (by decide)
  have e181_9 : ac9.eval (.tmp 181) = _ := hac9 ▸ ev_put e181_8 (by decide)
  have e182_9 : ac9.eval (.tmp 182) = _ := hac9 ▸ ev_same (by rw [zz8]; decide)
  have zz9 : ac9.tmps.size = 200 := hac9 ▸ size_put zz8
  obtain ⟨xo9, xi9, xd9, xg9, xp9⟩ := q38_9
  refine pd_want (k := 9) (v := .bool true) xi9 xd9 (w_some xg9 (by kernel_rfl) e181_9 rfl) (run_ne33 xp9 e182_9 rfl h103 _) ?_
  obtain ⟨ac10, hac10⟩ : ∃ x, ac9.put (some 183) (.bool true) = x := ⟨_, rfl⟩
  rw [hac10]
  have e23_10 : ac10.eval (.tmp 23) = _ := hac10 ▸ ev_put e23_9 (by decide)
  have e20_10 : ac10.eval (.tmp 20) = _ := hac10 ▸ ev_put e20_9 (by decide)
  have e17_10 : ac10.eval (.tmp 17) = _ := hac10 ▸ ev_put e17_9 (by decide)
  have e181_10 : ac10.eval (.tmp 181) = _ := hac10 ▸ ev_put e181_9 (by decide)
  have e183_10 : ac10.eval (.tmp 183) = _ := hac10 ▸ ev_same (by rw [zz9]; decide)
  have zz10 : ac10.tmps.size = 200 := hac10 ▸ size_put zz9
  obtain ⟨xo10, xi10, xd10, xg10, xp10⟩ := q38_10
  refine pd_want (k := 10) (v := .bool true) xi10 xd10 (w_none xg10) (run_pick xp10 e181_10 (fun _ => e183_10) (fun q => by cases q) _) ?_
  obtain ⟨ac11, hac11⟩ : ∃ x, ac10.put (some 184) (.bool true) = x := ⟨_, rfl⟩
  rw [hac11]
  have e23_11 : ac11.eval (.tmp 23) = _ := hac11 ▸ ev_put e23_10 (by decide)
  have e20_11 : ac11.eval (.tmp 20) = _ := hac11 ▸ ev_put e20_10 (by decide)
  have e17_11 : ac11.eval (.tmp 17) = _ := hac11 ▸ ev_put e17_10 (by decide)
  have e184_11 : ac11.eval (.tmp 184) = _ := hac11 ▸ ev_same (by rw [zz10]; decide)
  have zz11 : ac11.tmps.size = 200 := hac11 ▸ size_put zz10
  obtain ⟨xo11, xi11, xd11, xg11, xp11⟩ := q38_11
  refine pd_want (k := 11) (v := .bool true) xi11 xd11 (w_none xg11) (run_move xp11 e184_11 _) ?_
  obtain ⟨ac12, hac12⟩ : ∃ x, ac11.put (some 185) (.bool true) = x := ⟨_, rfl⟩
  rw [hac12]
  have e23_12 : ac12.eval (.tmp 23) = _ := hac12 ▸ ev_put e23_11 (by decide)
  have e20_12 : ac12.eval (.tmp 20) = _ := hac12 ▸ ev_put e20_11 (by decide)
  have e17_12 : ac12.eval (.tmp 17) = _ := hac12 ▸ ev_put e17_11 (by decide)
  have e185_12 : ac12.eval (.tmp 185) = _ := hac12 ▸ ev_same (by rw [zz11]; decide)
  have zz12 : ac12.tmps.size = 200 := hac12 ▸ size_put zz11
  obtain ⟨xo12, xi12, xd12, xg12, xp12⟩ := q38_12
  refine pd_want (k := 12) (v := .int .u32 o7) xi12 xd12 (w_some xg12 (by kernel_rfl) e185_12 rfl) (run_move xp12 e23_12 _) ?_
  obtain ⟨ac13, hac13⟩ : ∃ x, ac12.put (some 186) (.int .u32 o7) = x := ⟨_, rfl⟩
  rw [hac13]
  have e23_13 : ac13.eval (.tmp 23) = _ := hac13 ▸ ev_put e23_12 (by decide)
  have e20_13 : ac13.eval (.tmp 20) = _ := hac13 ▸ ev_put e20_12 (by decide)
  have e17_13 : ac13.eval (.tmp 17) = _ := hac13 ▸ ev_put e17_12 (by decide)
  have e185_13 : ac13.eval (.tmp 185) = _ := hac13 ▸ ev_put e185_12 (by decide)
  have e186_13 : ac13.eval (.tmp 186) = _ := hac13 ▸ ev_same (by rw [zz12]; decide)
  have zz13 : ac13.tmps.size = 200 := hac13 ▸ size_put zz12
  obtain ⟨xo13, xi13, xd13, xg13, xp13⟩ := q38_13
  refine pd_want (k := 13) (v := .bool true) xi13 xd13 (w_some xg13 (by kernel_rfl) e185_13 rfl) (run_ne33 xp13 e186_13 rfl h99 _) ?_
  obtain ⟨ac14, hac14⟩ : ∃ x, ac13.put (some 187) (.bool true) = x := ⟨_, rfl⟩
  rw [hac14]
  have e23_14 : ac14.eval (.tmp 23) = _ := hac14 ▸ ev_put e23_13 (by decide)
  have e20_14 : ac14.eval (.tmp 20) = _ := hac14 ▸ ev_put e20_13 (by decide)
  have e17_14 : ac14.eval (.tmp 17) = _ := hac14 ▸ ev_put e17_13 (by decide)
  have e185_14 : ac14.eval (.tmp 185) = _ := hac14 ▸ ev_put e185_13 (by decide)
  have e187_14 : ac14.eval (.tmp 187) = _ := hac14 ▸ ev_same (by rw [zz13]; decide)
  have zz14 : ac14.tmps.size = 200 := hac14 ▸ size_put zz13
  obtain ⟨xo14, xi14, xd14, xg14, xp14⟩ := q38_14
  refine pd_want (k := 14) (v := .bool true) xi14 xd14 (w_none xg14) (run_pick xp14 e185_14 (fun _ => e187_14) (fun q => by cases q) _) ?_
  obtain ⟨ac15, hac15⟩ : ∃ x, ac14.put (some 188) (.bool true) = x := ⟨_, rfl⟩
  rw [hac15]
  have e23_15 : ac15.eval (.tmp 23) = _ := hac15 ▸ ev_put e23_14 (by decide)
  have e20_15 : ac15.eval (.tmp 20) = _ := hac15 ▸ ev_put e20_14 (by decide)
  have e17_15 : ac15.eval (.tmp 17) = _ := hac15 ▸ ev_put e17_14 (by decide)
  have e188_15 : ac15.eval (.tmp 188) = _ := hac15 ▸ ev_same (by rw [zz14]; decide)
  have zz15 : ac15.tmps.size = 200 := hac15 ▸ size_put zz14
  obtain ⟨xo15, xi15, xd15, xg15, xp15⟩ := q38_15
  refine pd_want (k := 15) (v := .bool true) xi15 xd15 (w_none xg15) (run_move xp15 e188_15 _) ?_
  obtain ⟨ac16, hac16⟩ : ∃ x, ac15.put (some 189) (.bool true) = x := ⟨_, rfl⟩
  rw [hac16]
  have e23_16 : ac16.eval (.tmp 23) = _ := hac16 ▸ ev_put e23_15 (by decide)
  have e20_16 : ac16.eval (.tmp 20) = _ := hac16 ▸ ev_put e20_15 (by decide)
  have e17_16 : ac16.eval (.tmp 17) = _ := hac16 ▸ ev_put e17_15 (by decide)
  have e189_16 : ac16.eval (.tmp 189) = _ := hac16 ▸ ev_same (by rw [zz15]; decide)
  have zz16 : ac16.tmps.size = 200 := hac16 ▸ size_put zz15
  obtain ⟨xo16, xi16, xd16, xg16, xp16⟩ := q38_16
  refine pd_want (k := 16) (v := .int .u32 o7) xi16 xd16 (w_some xg16 (by kernel_rfl) e189_16 rfl) (run_move xp16 e23_16 _) ?_
  obtain ⟨ac17, hac17⟩ : ∃ x, ac16.put (some 190) (.int .u32 o7) = x := ⟨_, rfl⟩
  rw [hac17]
  have e20_17 : ac17.eval (.tmp 20) = _ := hac17 ▸ ev_put e20_16 (by decide)
  have e17_17 : ac17.eval (.tmp 17) = _ := hac17 ▸ ev_put e17_16 (by decide)
  have e189_17 : ac17.eval (.tmp 189) = _ := hac17 ▸ ev_put e189_16 (by decide)
  have e190_17 : ac17.eval (.tmp 190) = _ := hac17 ▸ ev_same (by rw [zz16]; decide)
  have zz17 : ac17.tmps.size = 200 := hac17 ▸ size_put zz16
  obtain ⟨xo17, xi17, xd17, xg17, xp17⟩ := q38_17
  refine pd_want (k := 17) (v := .bool false) xi17 xd17 (w_some xg17 (by kernel_rfl) e189_17 rfl) (run_ne33 xp17 e190_17 rfl h115 _) ?_
  obtain ⟨ac18, hac18⟩ : ∃ x, ac17.put (some 191) (.bool false) = x := ⟨_, rfl⟩
  rw [hac18]
  have e20_18 : ac18.eval (.tmp 20) = _ := hac18 ▸ ev_put e20_17 (by decide)
  have e17_18 : ac18.eval (.tmp 17) = _ := hac18 ▸ ev_put e17_17 (by decide)
  have e189_18 : ac18.eval (.tmp 189) = _ := hac18 ▸ ev_put e189_17 (by decide)
  have e191_18 : ac18.eval (.tmp 191) = _ := hac18 ▸ ev_same (by rw [zz17]; decide)
  have zz18 : ac18.tmps.size = 200 := hac18 ▸ size_put zz17
  obtain ⟨xo18, xi18, xd18, xg18, xp18⟩ := q38_18
  refine pd_want (k := 18) (v := .bool false) xi18 xd18 (w_none xg18) (run_pick xp18 e189_18 (fun _ => e191_18) (fun q => by cases q) _) ?_
  obtain ⟨ac19, hac19⟩ : ∃ x, ac18.put (some 192) (.bool false) = x := ⟨_, rfl⟩
  rw [hac19]
  have e20_19 : ac19.eval (.tmp 20) = _ := hac19 ▸ ev_put e20_18 (by decide)
  have e17_19 : ac19.eval (.tmp 17) = _ := hac19 ▸ ev_put e17_18 (by decide)
  have e192_19 : ac19.eval (.tmp 192) = _ := hac19 ▸ ev_same (by rw [zz18]; decide)
  have zz19 : ac19.tmps.size = 200 := hac19 ▸ size_put zz18
  obtain ⟨xo19, xi19, xd19, xg19, xp19⟩ := q38_19
  refine pd_want (k := 19) (v := .bool false) xi19 xd19 (w_none xg19) (run_move xp19 e192_19 _) ?_
  obtain ⟨ac20, hac20⟩ : ∃ x, ac19.put (some 193) (.bool false) = x := ⟨_, rfl⟩
  rw [hac20]
  have e20_20 : ac20.eval (.tmp 20) = _ := hac20 ▸ ev_put e20_19 (by decide)
  have e17_20 : ac20.eval (.tmp 17) = _ := hac20 ▸ ev_put e17_19 (by decide)
  have e193_20 : ac20.eval (.tmp 193) = _ := hac20 ▸ ev_same (by rw [zz19]; decide)
  have zz20 : ac20.tmps.size = 200 := hac20 ▸ size_put zz19
  obtain ⟨xo20, xi20, xd20, xg20, xp20⟩ := q38_20
  refine pd_skip (k := 20) xi20 xd20 (w_some xg20 (by kernel_rfl) e193_20 rfl) ?_
  obtain ⟨ac21, hac21⟩ : ∃ x, ac20.put (some 194) (undef) = x := ⟨_, rfl⟩
  rw [hac21]
  have e17_21 : ac21.eval (.tmp 17) = _ := hac21 ▸ ev_put e17_20 (by decide)
  have e193_21 : ac21.eval (.tmp 193) = _ := hac21 ▸ ev_put e193_20 (by decide)
  have e194_21 : ac21.eval (.tmp 194) = _ := hac21 ▸ ev_same (by rw [zz20]; decide)
  have zz21 : ac21.tmps.size = 200 := hac21 ▸ size_put zz20
  obtain ⟨xo21, xi21, xd21, xg21, xp21⟩ := q38_21
  refine pd_skip (k := 21) xi21 xd21 (w_some xg21 (by kernel_rfl) e193_21 rfl) ?_
  obtain ⟨ac22, hac22⟩ : ∃ x, ac21.put (some 195) (undef) = x := ⟨_, rfl⟩
  rw [hac22]
  have e193_22 : ac22.eval (.tmp 193) = _ := hac22 ▸ ev_put e193_21 (by decide)
  have e194_22 : ac22.eval (.tmp 194) = _ := hac22 ▸ ev_put e194_21 (by decide)
  have e195_22 : ac22.eval (.tmp 195) = _ := hac22 ▸ ev_same (by rw [zz21]; decide)
  have zz22 : ac22.tmps.size = 200 := hac22 ▸ size_put zz21
  obtain ⟨xo22, xi22, xd22, xg22, xp22⟩ := q38_22
  refine pd_skip (k := 22) xi22 xd22 (w_some xg22 (by kernel_rfl) e193_22 rfl) ?_
  obtain ⟨ac23, hac23⟩ : ∃ x, ac22.put (some 196) (undef) = x := ⟨_, rfl⟩
  rw [hac23]
  have e193_23 : ac23.eval (.tmp 193) = _ := hac23 ▸ ev_put e193_22 (by decide)
  have e194_23 : ac23.eval (.tmp 194) = _ := hac23 ▸ ev_put e194_22 (by decide)
  have e196_23 : ac23.eval (.tmp 196) = _ := hac23 ▸ ev_same (by rw [zz22]; decide)
  have zz23 : ac23.tmps.size = 200 := hac23 ▸ size_put zz22
  obtain ⟨xo23, xi23, xd23, xg23, xp23⟩ := q38_23
  refine pd_skip (k := 23) xi23 xd23 (w_some xg23 (by kernel_rfl) e193_23 rfl) ?_
  obtain ⟨ac24, hac24⟩ : ∃ x, ac23.put (some 197) (undef) = x := ⟨_, rfl⟩
  rw [hac24]
  have e193_24 : ac24.eval (.tmp 193) = _ := hac24 ▸ ev_put e193_23 (by decide)
  have e197_24 : ac24.eval (.tmp 197) = _ := hac24 ▸ ev_same (by rw [zz23]; decide)
  have zz24 : ac24.tmps.size = 200 := hac24 ▸ size_put zz23
  obtain ⟨xo24, xi24, xd24, xg24, xp24⟩ := q38_24
  refine pd_want (k := 24) (v := .bool false) xi24 xd24 (w_none xg24) (run_pick xp24 e193_24 (fun q => by cases q) (fun _ => rfl) _) ?_
  obtain ⟨ac25, hac25⟩ : ∃ x, ac24.put (some 198) (.bool false) = x := ⟨_, rfl⟩
  rw [hac25]
  have zz25 : ac25.tmps.size = 200 := hac25 ▸ size_put zz24
  refine pd_end (k := 25) (by kernel_rfl) ?_
  subst hac25 hac24 hac23 hac22 hac21 hac20 hac19 hac18 hac17 hac16 hac15 hac14 hac13 hac12 hac11 hac10 hac9 hac8 hac7 hac6 hac5 hac4 hac3 hac2 hac1
  exact hk
set_option maxRecDepth 100000 in
set_option maxHeartbeats 4000000 in
theorem r38e (pc next cause o7 : Int) (xb : Nat) (W0 : World) (a : Act) (hs : a.tmps.size = 200)  (h23 : a.eval (.tmp 23) = .int .u32 o7) (h20 : a.eval (.tmp 20) = .int .u32 next) (h17 : a.eval (.tmp 17) = .int .u32 pc) (h18 : a.eval (.tmp 18) = .pointer (some ⟨xb, 0, none⟩)) (c4 : W0.cell? ⟨xb, 4, none⟩ = some (.int .i64 cause)) (hc : (cause == -1) = true) (h111 : (o7 != 111) = true) (h103 : (o7 != 103) = true) (h99 : (o7 != 99) = true) (h115 : (o7 != 115) = true) (hn : (next != (pc + 4) % 4294967296) = false) {K : Act → World → Prop} (hk : K ((((((((((((((((((((((((((a).put (some 174) (.pointer (some ⟨xb, 4, none⟩))).put (some 175) (.int .i64 cause)).put (some 176) (.bool true)).put (some 177) (.bool true)).put (some 178) (.int .u32 o7)).put (some 179) (.bool true)).put (some 180) (.bool true)).put (some 181) (.bool true)).put (some 182) (.int .u32 o7)).put (some 183) (.bool true)).put (some 184) (.bool true)).put (some 185) (.bool true)).put (some 186) (.int .u32 o7)).put (some 187) (.bool true)).put (some 188) (.bool true)).put (some 189) (.bool true)).put (some 190) (.int .u32 o7)).put (some 191) (.bool true)).put (some 192) (.bool true)).put (some 193) (.bool true)).put (some 194) (.int .u32 next)).put (some 195) (.int .u32 pc)).put (some 196) (.int .u32 ((pc + 4) % 4294967296))).put (some 197) (.bool false)).put (some 198) (.bool false)) W0) : (regIn Tryz.f4.body 38).wp Tryz.prog (Exit.then K NoX) a W0 := by
  show (Code.region 38 (opsIn (regIn Tryz.f4.body 38)) false).wp _ _ _ _
  refine wp_region_list ?_
  show wpList _ _ _ (List.drop 0 _) _ _
  obtain ⟨xo0, xi0, xd0, xg0, xp0⟩ := q38_0
  refine pd_want (k := 0) (v := .pointer (some ⟨xb, 4, none⟩)) xi0 xd0 (w_none xg0) (run_x4 xp0 h18 _) ?_
  obtain ⟨ac1, hac1⟩ : ∃ x, a.put (some 174) (.pointer (some ⟨xb, 4, none⟩)) = x := ⟨_, rfl⟩
  rw [hac1]
  have e23_1 : ac1.eval (.tmp 23) = _ := hac1 ▸ ev_put h23 (by decide)
  have e20_1 : ac1.eval (.tmp 20) = _ := hac1 ▸ ev_put h20 (by decide)
  have e17_1 : ac1.eval (.tmp 17) = _ := hac1 ▸ ev_put h17 (by decide)
  have e174_1 : ac1.eval (.tmp 174) = _ := hac1 ▸ ev_same (by rw [hs]; decide)
  have zz1 : ac1.tmps.size = 200 := hac1 ▸ size_put hs
  obtain ⟨xo1, xi1, xd1, xg1, xp1⟩ := q38_1
  refine pd_want (k := 1) (v := .int .i64 cause) xi1 xd1 (w_none xg1) (run_l3 xp1 e174_1 c4) ?_
  obtain ⟨ac2, hac2⟩ : ∃ x, ac1.put (some 175) (.int .i64 cause) = x := ⟨_, rfl⟩
  rw [hac2]
  have e23_2 : ac2.eval (.tmp 23) = _ := hac2 ▸ ev_put e23_1 (by decide)
  have e20_2 : ac2.eval (.tmp 20) = _ := hac2 ▸ ev_put e20_1 (by decide)
  have e17_2 : ac2.eval (.tmp 17) = _ := hac2 ▸ ev_put e17_1 (by decide)
  have e175_2 : ac2.eval (.tmp 175) = _ := hac2 ▸ ev_same (by rw [zz1]; decide)
  have zz2 : ac2.tmps.size = 200 := hac2 ▸ size_put zz1
  obtain ⟨xo2, xi2, xd2, xg2, xp2⟩ := q38_2
  refine pd_want (k := 2) (v := .bool true) xi2 xd2 (w_none xg2) (run_eq3 xp2 e175_2 rfl hc _) ?_
  obtain ⟨ac3, hac3⟩ : ∃ x, ac2.put (some 176) (.bool true) = x := ⟨_, rfl⟩
  rw [hac3]
  have e23_3 : ac3.eval (.tmp 23) = _ := hac3 ▸ ev_put e23_2 (by decide)
  have e20_3 : ac3.eval (.tmp 20) = _ := hac3 ▸ ev_put e20_2 (by decide)
  have e17_3 : ac3.eval (.tmp 17) = _ := hac3 ▸ ev_put e17_2 (by decide)
  have e176_3 : ac3.eval (.tmp 176) = _ := hac3 ▸ ev_same (by rw [zz2]; decide)
  have zz3 : ac3.tmps.size = 200 := hac3 ▸ size_put zz2
  obtain ⟨xo3, xi3, xd3, xg3, xp3⟩ := q38_3
  refine pd_want (k := 3) (v := .bool true) xi3 xd3 (w_none xg3) (run_move xp3 e176_3 _) ?_
  obtain ⟨ac4, hac4⟩ : ∃ x, ac3.put (some 177) (.bool true) = x := ⟨_, rfl⟩
  rw [hac4]
  have e23_4 : ac4.eval (.tmp 23) = _ := hac4 ▸ ev_put e23_3 (by decide)
  have e20_4 : ac4.eval (.tmp 20) = _ := hac4 ▸ ev_put e20_3 (by decide)
  have e17_4 : ac4.eval (.tmp 17) = _ := hac4 ▸ ev_put e17_3 (by decide)
  have e177_4 : ac4.eval (.tmp 177) = _ := hac4 ▸ ev_same (by rw [zz3]; decide)
  have zz4 : ac4.tmps.size = 200 := hac4 ▸ size_put zz3
  obtain ⟨xo4, xi4, xd4, xg4, xp4⟩ := q38_4
  refine pd_want (k := 4) (v := .int .u32 o7) xi4 xd4 (w_some xg4 (by kernel_rfl) e177_4 rfl) (run_move xp4 e23_4 _) ?_
  obtain ⟨ac5, hac5⟩ : ∃ x, ac4.put (some 178) (.int .u32 o7) = x := ⟨_, rfl⟩
  rw [hac5]
  have e23_5 : ac5.eval (.tmp 23) = _ := hac5 ▸ ev_put e23_4 (by decide)
  have e20_5 : ac5.eval (.tmp 20) = _ := hac5 ▸ ev_put e20_4 (by decide)
  have e17_5 : ac5.eval (.tmp 17) = _ := hac5 ▸ ev_put e17_4 (by decide)
  have e177_5 : ac5.eval (.tmp 177) = _ := hac5 ▸ ev_put e177_4 (by decide)
  have e178_5 : ac5.eval (.tmp 178) = _ := hac5 ▸ ev_same (by rw [zz4]; decide)
  have zz5 : ac5.tmps.size = 200 := hac5 ▸ size_put zz4
  obtain ⟨xo5, xi5, xd5, xg5, xp5⟩ := q38_5
  refine pd_want (k := 5) (v := .bool true) xi5 xd5 (w_some xg5 (by kernel_rfl) e177_5 rfl) (run_ne33 xp5 e178_5 rfl h111 _) ?_
  obtain ⟨ac6, hac6⟩ : ∃ x, ac5.put (some 179) (.bool true) = x := ⟨_, rfl⟩
  rw [hac6]
  have e23_6 : ac6.eval (.tmp 23) = _ := hac6 ▸ ev_put e23_5 (by decide)
  have e20_6 : ac6.eval (.tmp 20) = _ := hac6 ▸ ev_put e20_5 (by decide)
  have e17_6 : ac6.eval (.tmp 17) = _ := hac6 ▸ ev_put e17_5 (by decide)
  have e177_6 : ac6.eval (.tmp 177) = _ := hac6 ▸ ev_put e177_5 (by decide)
  have e179_6 : ac6.eval (.tmp 179) = _ := hac6 ▸ ev_same (by rw [zz5]; decide)
  have zz6 : ac6.tmps.size = 200 := hac6 ▸ size_put zz5
  obtain ⟨xo6, xi6, xd6, xg6, xp6⟩ := q38_6
  refine pd_want (k := 6) (v := .bool true) xi6 xd6 (w_none xg6) (run_pick xp6 e177_6 (fun _ => e179_6) (fun q => by cases q) _) ?_
  obtain ⟨ac7, hac7⟩ : ∃ x, ac6.put (some 180) (.bool true) = x := ⟨_, rfl⟩
  rw [hac7]
  have e23_7 : ac7.eval (.tmp 23) = _ := hac7 ▸ ev_put e23_6 (by decide)
  have e20_7 : ac7.eval (.tmp 20) = _ := hac7 ▸ ev_put e20_6 (by decide)
  have e17_7 : ac7.eval (.tmp 17) = _ := hac7 ▸ ev_put e17_6 (by decide)
  have e180_7 : ac7.eval (.tmp 180) = _ := hac7 ▸ ev_same (by rw [zz6]; decide)
  have zz7 : ac7.tmps.size = 200 := hac7 ▸ size_put zz6
  obtain ⟨xo7, xi7, xd7, xg7, xp7⟩ := q38_7
  refine pd_want (k := 7) (v := .bool true) xi7 xd7 (w_none xg7) (run_move xp7 e180_7 _) ?_
  obtain ⟨ac8, hac8⟩ : ∃ x, ac7.put (some 181) (.bool true) = x := ⟨_, rfl⟩
  rw [hac8]
  have e23_8 : ac8.eval (.tmp 23) = _ := hac8 ▸ ev_put e23_7 (by decide)
  have e20_8 : ac8.eval (.tmp 20) = _ := hac8 ▸ ev_put e20_7 (by decide)
  have e17_8 : ac8.eval (.tmp 17) = _ := hac8 ▸ ev_put e17_7 (by decide)
  have e181_8 : ac8.eval (.tmp 181) = _ := hac8 ▸ ev_same (by rw [zz7]; decide)
  have zz8 : ac8.tmps.size = 200 := hac8 ▸ size_put zz7
  obtain ⟨xo8, xi8, xd8, xg8, xp8⟩ := q38_8
  refine pd_want (k := 8) (v := .int .u32 o7) xi8 xd8 (w_some xg8 (by kernel_rfl) e181_8 rfl) (run_move xp8 e23_8 _) ?_
  obtain ⟨ac9, hac9⟩ : ∃ x, ac8.put (some 182) (.int .u32 o7) = x := ⟨_, rfl⟩
  rw [hac9]
  have e23_9 : ac9.eval (.tmp 23) = _ := hac9 ▸ ev_put e23_8 (by decide)
  have e20_9 : ac9.eval (.tmp 20) = _ := hac9 ▸ ev_put e20_8 (by decide)
  have e17_9 : ac9.eval (.tmp 17) = _ := hac9 ▸ ev_put e17_8 (by decide)
  have e181_9 : ac9.eval (.tmp 181) = _ := hac9 ▸ ev_put e181_8 (by decide)
  have e182_9 : ac9.eval (.tmp 182) = _ := hac9 ▸ ev_same (by rw [zz8]; decide)
  have zz9 : ac9.tmps.size = 200 := hac9 ▸ size_put zz8
  obtain ⟨xo9, xi9, xd9, xg9, xp9⟩ := q38_9
  refine pd_want (k := 9) (v := .bool true) xi9 xd9 (w_some xg9 (by kernel_rfl) e181_9 rfl) (run_ne33 xp9 e182_9 rfl h103 _) ?_
  obtain ⟨ac10, hac10⟩ : ∃ x, ac9.put (some 183) (.bool true) = x := ⟨_, rfl⟩
  rw [hac10]
  have e23_10 : ac10.eval (.tmp 23) = _ := hac10 ▸ ev_put e23_9 (by decide)
  have e20_10 : ac10.eval (.tmp 20) = _ := hac10 ▸ ev_put e20_9 (by decide)
  have e17_10 : ac10.eval (.tmp 17) = _ := hac10 ▸ ev_put e17_9 (by decide)
  have e181_10 : ac10.eval (.tmp 181) = _ := hac10 ▸ ev_put e181_9 (by decide)
  have e183_10 : ac10.eval (.tmp 183) = _ := hac10 ▸ ev_same (by rw [zz9]; decide)
  have zz10 : ac10.tmps.size = 200 := hac10 ▸ size_put zz9
  obtain ⟨xo10, xi10, xd10, xg10, xp10⟩ := q38_10
  refine pd_want (k := 10) (v := .bool true) xi10 xd10 (w_none xg10) (run_pick xp10 e181_10 (fun _ => e183_10) (fun q => by cases q) _) ?_
  obtain ⟨ac11, hac11⟩ : ∃ x, ac10.put (some 184) (.bool true) = x := ⟨_, rfl⟩
  rw [hac11]
  have e23_11 : ac11.eval (.tmp 23) = _ := hac11 ▸ ev_put e23_10 (by decide)
  have e20_11 : ac11.eval (.tmp 20) = _ := hac11 ▸ ev_put e20_10 (by decide)
  have e17_11 : ac11.eval (.tmp 17) = _ := hac11 ▸ ev_put e17_10 (by decide)
  have e184_11 : ac11.eval (.tmp 184) = _ := hac11 ▸ ev_same (by rw [zz10]; decide)
  have zz11 : ac11.tmps.size = 200 := hac11 ▸ size_put zz10
  obtain ⟨xo11, xi11, xd11, xg11, xp11⟩ := q38_11
  refine pd_want (k := 11) (v := .bool true) xi11 xd11 (w_none xg11) (run_move xp11 e184_11 _) ?_
  obtain ⟨ac12, hac12⟩ : ∃ x, ac11.put (some 185) (.bool true) = x := ⟨_, rfl⟩
  rw [hac12]
  have e23_12 : ac12.eval (.tmp 23) = _ := hac12 ▸ ev_put e23_11 (by decide)
  have e20_12 : ac12.eval (.tmp 20) = _ := hac12 ▸ ev_put e20_11 (by decide)
  have e17_12 : ac12.eval (.tmp 17) = _ := hac12 ▸ ev_put e17_11 (by decide)
  have e185_12 : ac12.eval (.tmp 185) = _ := hac12 ▸ ev_same (by rw [zz11]; decide)
  have zz12 : ac12.tmps.size = 200 := hac12 ▸ size_put zz11
  obtain ⟨xo12, xi12, xd12, xg12, xp12⟩ := q38_12
  refine pd_want (k := 12) (v := .int .u32 o7) xi12 xd12 (w_some xg12 (by kernel_rfl) e185_12 rfl) (run_move xp12 e23_12 _) ?_
  obtain ⟨ac13, hac13⟩ : ∃ x, ac12.put (some 186) (.int .u32 o7) = x := ⟨_, rfl⟩
  rw [hac13]
  have e23_13 : ac13.eval (.tmp 23) = _ := hac13 ▸ ev_put e23_12 (by decide)
  have e20_13 : ac13.eval (.tmp 20) = _ := hac13 ▸ ev_put e20_12 (by decide)
  have e17_13 : ac13.eval (.tmp 17) = _ := hac13 ▸ ev_put e17_12 (by decide)
  have e185_13 : ac13.eval (.tmp 185) = _ := hac13 ▸ ev_put e185_12 (by decide)
  have e186_13 : ac13.eval (.tmp 186) = _ := hac13 ▸ ev_same (by rw [zz12]; decide)
  have zz13 : ac13.tmps.size = 200 := hac13 ▸ size_put zz12
  obtain ⟨xo13, xi13, xd13, xg13, xp13⟩ := q38_13
  refine pd_want (k := 13) (v := .bool true) xi13 xd13 (w_some xg13 (by kernel_rfl) e185_13 rfl) (run_ne33 xp13 e186_13 rfl h99 _) ?_
  obtain ⟨ac14, hac14⟩ : ∃ x, ac13.put (some 187) (.bool true) = x := ⟨_, rfl⟩
  rw [hac14]
  have e23_14 : ac14.eval (.tmp 23) = _ := hac14 ▸ ev_put e23_13 (by decide)
  have e20_14 : ac14.eval (.tmp 20) = _ := hac14 ▸ ev_put e20_13 (by decide)
  have e17_14 : ac14.eval (.tmp 17) = _ := hac14 ▸ ev_put e17_13 (by decide)
  have e185_14 : ac14.eval (.tmp 185) = _ := hac14 ▸ ev_put e185_13 (by decide)
  have e187_14 : ac14.eval (.tmp 187) = _ := hac14 ▸ ev_same (by rw [zz13]; decide)
  have zz14 : ac14.tmps.size = 200 := hac14 ▸ size_put zz13
  obtain ⟨xo14, xi14, xd14, xg14, xp14⟩ := q38_14
  refine pd_want (k := 14) (v := .bool true) xi14 xd14 (w_none xg14) (run_pick xp14 e185_14 (fun _ => e187_14) (fun q => by cases q) _) ?_
  obtain ⟨ac15, hac15⟩ : ∃ x, ac14.put (some 188) (.bool true) = x := ⟨_, rfl⟩
  rw [hac15]
  have e23_15 : ac15.eval (.tmp 23) = _ := hac15 ▸ ev_put e23_14 (by decide)
  have e20_15 : ac15.eval (.tmp 20) = _ := hac15 ▸ ev_put e20_14 (by decide)
  have e17_15 : ac15.eval (.tmp 17) = _ := hac15 ▸ ev_put e17_14 (by decide)
  have e188_15 : ac15.eval (.tmp 188) = _ := hac15 ▸ ev_same (by rw [zz14]; decide)
  have zz15 : ac15.tmps.size = 200 := hac15 ▸ size_put zz14
  obtain ⟨xo15, xi15, xd15, xg15, xp15⟩ := q38_15
  refine pd_want (k := 15) (v := .bool true) xi15 xd15 (w_none xg15) (run_move xp15 e188_15 _) ?_
  obtain ⟨ac16, hac16⟩ : ∃ x, ac15.put (some 189) (.bool true) = x := ⟨_, rfl⟩
  rw [hac16]
  have e23_16 : ac16.eval (.tmp 23) = _ := hac16 ▸ ev_put e23_15 (by decide)
  have e20_16 : ac16.eval (.tmp 20) = _ := hac16 ▸ ev_put e20_15 (by decide)
  have e17_16 : ac16.eval (.tmp 17) = _ := hac16 ▸ ev_put e17_15 (by decide)
  have e189_16 : ac16.eval (.tmp 189) = _ := hac16 ▸ ev_same (by rw [zz15]; decide)
  have zz16 : ac16.tmps.size = 200 := hac16 ▸ size_put zz15
  obtain ⟨xo16, xi16, xd16, xg16, xp16⟩ := q38_16
  refine pd_want (k := 16) (v := .int .u32 o7) xi16 xd16 (w_some xg16 (by kernel_rfl) e189_16 rfl) (run_move xp16 e23_16 _) ?_
  obtain ⟨ac17, hac17⟩ : ∃ x, ac16.put (some 190) (.int .u32 o7) = x := ⟨_, rfl⟩
  rw [hac17]
  have e20_17 : ac17.eval (.tmp 20) = _ := hac17 ▸ ev_put e20_16 (by decide)
  have e17_17 : ac17.eval (.tmp 17) = _ := hac17 ▸ ev_put e17_16 (by decide)
  have e189_17 : ac17.eval (.tmp 189) = _ := hac17 ▸ ev_put e189_16 (by decide)
  have e190_17 : ac17.eval (.tmp 190) = _ := hac17 ▸ ev_same (by rw [zz16]; decide)
  have zz17 : ac17.tmps.size = 200 := hac17 ▸ size_put zz16
  obtain ⟨xo17, xi17, xd17, xg17, xp17⟩ := q38_17
  refine pd_want (k := 17) (v := .bool true) xi17 xd17 (w_some xg17 (by kernel_rfl) e189_17 rfl) (run_ne33 xp17 e190_17 rfl h115 _) ?_
  obtain ⟨ac18, hac18⟩ : ∃ x, ac17.put (some 191) (.bool true) = x := ⟨_, rfl⟩
  rw [hac18]
  have e20_18 : ac18.eval (.tmp 20) = _ := hac18 ▸ ev_put e20_17 (by decide)
  have e17_18 : ac18.eval (.tmp 17) = _ := hac18 ▸ ev_put e17_17 (by decide)
  have e189_18 : ac18.eval (.tmp 189) = _ := hac18 ▸ ev_put e189_17 (by decide)
  have e191_18 : ac18.eval (.tmp 191) = _ := hac18 ▸ ev_same (by rw [zz17]; decide)
  have zz18 : ac18.tmps.size = 200 := hac18 ▸ size_put zz17
  obtain ⟨xo18, xi18, xd18, xg18, xp18⟩ := q38_18
  refine pd_want (k := 18) (v := .bool true) xi18 xd18 (w_none xg18) (run_pick xp18 e189_18 (fun _ => e191_18) (fun q => by cases q) _) ?_
  obtain ⟨ac19, hac19⟩ : ∃ x, ac18.put (some 192) (.bool true) = x := ⟨_, rfl⟩
  rw [hac19]
  have e20_19 : ac19.eval (.tmp 20) = _ := hac19 ▸ ev_put e20_18 (by decide)
  have e17_19 : ac19.eval (.tmp 17) = _ := hac19 ▸ ev_put e17_18 (by decide)
  have e192_19 : ac19.eval (.tmp 192) = _ := hac19 ▸ ev_same (by rw [zz18]; decide)
  have zz19 : ac19.tmps.size = 200 := hac19 ▸ size_put zz18
  obtain ⟨xo19, xi19, xd19, xg19, xp19⟩ := q38_19
  refine pd_want (k := 19) (v := .bool true) xi19 xd19 (w_none xg19) (run_move xp19 e192_19 _) ?_
  obtain ⟨ac20, hac20⟩ : ∃ x, ac19.put (some 193) (.bool true) = x := ⟨_, rfl⟩
  rw [hac20]
  have e20_20 : ac20.eval (.tmp 20) = _ := hac20 ▸ ev_put e20_19 (by decide)
  have e17_20 : ac20.eval (.tmp 17) = _ := hac20 ▸ ev_put e17_19 (by decide)
  have e193_20 : ac20.eval (.tmp 193) = _ := hac20 ▸ ev_same (by rw [zz19]; decide)
  have zz20 : ac20.tmps.size = 200 := hac20 ▸ size_put zz19
  obtain ⟨xo20, xi20, xd20, xg20, xp20⟩ := q38_20
  refine pd_want (k := 20) (v := .int .u32 next) xi20 xd20 (w_some xg20 (by kernel_rfl) e193_20 rfl) (run_move xp20 e20_20 _) ?_
  obtain ⟨ac21, hac21⟩ : ∃ x, ac20.put (some 194) (.int .u32 next) = x := ⟨_, rfl⟩
  rw [hac21]
  have e17_21 : ac21.eval (.tmp 17) = _ := hac21 ▸ ev_put e17_20 (by decide)
  have e193_21 : ac21.eval (.tmp 193) = _ := hac21 ▸ ev_put e193_20 (by decide)
  have e194_21 : ac21.eval (.tmp 194) = _ := hac21 ▸ ev_same (by rw [zz20]; decide)
  have zz21 : ac21.tmps.size = 200 := hac21 ▸ size_put zz20
  obtain ⟨xo21, xi21, xd21, xg21, xp21⟩ := q38_21
  refine pd_want (k := 21) (v := .int .u32 pc) xi21 xd21 (w_some xg21 (by kernel_rfl) e193_21 rfl) (run_move xp21 e17_21 _) ?_
  obtain ⟨ac22, hac22⟩ : ∃ x, ac21.put (some 195) (.int .u32 pc) = x := ⟨_, rfl⟩
  rw [hac22]
  have e193_22 : ac22.eval (.tmp 193) = _ := hac22 ▸ ev_put e193_21 (by decide)
  have e194_22 : ac22.eval (.tmp 194) = _ := hac22 ▸ ev_put e194_21 (by decide)
  have e195_22 : ac22.eval (.tmp 195) = _ := hac22 ▸ ev_same (by rw [zz21]; decide)
  have zz22 : ac22.tmps.size = 200 := hac22 ▸ size_put zz21
  obtain ⟨xo22, xi22, xd22, xg22, xp22⟩ := q38_22
  refine pd_want (k := 22) (v := .int .u32 ((pc + 4) % 4294967296)) xi22 xd22 (w_some xg22 (by kernel_rfl) e193_22 rfl) (run_add33 xp22 e195_22 rfl rfl _) ?_
  obtain ⟨ac23, hac23⟩ : ∃ x, ac22.put (some 196) (.int .u32 ((pc + 4) % 4294967296)) = x := ⟨_, rfl⟩
  rw [hac23]
  have e193_23 : ac23.eval (.tmp 193) = _ := hac23 ▸ ev_put e193_22 (by decide)
  have e194_23 : ac23.eval (.tmp 194) = _ := hac23 ▸ ev_put e194_22 (by decide)
  have e196_23 : ac23.eval (.tmp 196) = _ := hac23 ▸ ev_same (by rw [zz22]; decide)
  have zz23 : ac23.tmps.size = 200 := hac23 ▸ size_put zz22
  obtain ⟨xo23, xi23, xd23, xg23, xp23⟩ := q38_23
  refine pd_want (k := 23) (v := .bool false) xi23 xd23 (w_some xg23 (by kernel_rfl) e193_23 rfl) (run_ne33 xp23 e194_23 e196_23 hn _) ?_
  obtain ⟨ac24, hac24⟩ : ∃ x, ac23.put (some 197) (.bool false) = x := ⟨_, rfl⟩
  rw [hac24]
  have e193_24 : ac24.eval (.tmp 193) = _ := hac24 ▸ ev_put e193_23 (by decide)
  have e197_24 : ac24.eval (.tmp 197) = _ := hac24 ▸ ev_same (by rw [zz23]; decide)
  have zz24 : ac24.tmps.size = 200 := hac24 ▸ size_put zz23
  obtain ⟨xo24, xi24, xd24, xg24, xp24⟩ := q38_24
  refine pd_want (k := 24) (v := .bool false) xi24 xd24 (w_none xg24) (run_pick xp24 e193_24 (fun _ => e197_24) (fun q => by cases q) _) ?_
  obtain ⟨ac25, hac25⟩ : ∃ x, ac24.put (some 198) (.bool false) = x := ⟨_, rfl⟩
  rw [hac25]
  have zz25 : ac25.tmps.size = 200 := hac25 ▸ size_put zz24
  refine pd_end (k := 25) (by kernel_rfl) ?_
  subst hac25 hac24 hac23 hac22 hac21 hac20 hac19 hac18 hac17 hac16 hac15 hac14 hac13 hac12 hac11 hac10 hac9 hac8 hac7 hac6 hac5 hac4 hac3 hac2 hac1
  exact hk
set_option maxRecDepth 100000 in
set_option maxHeartbeats 4000000 in
theorem reg38 {u0 u1 u2 u3 u4 u5 u6 u7 u8 u9 u10 u11 u12 u13 u14 u15 u16 u19 u21 u22 u24 u25 u26 u27 u28 u29 u30 u31 u32 u33 u34 u35 u36 u37 u38 u39 u40 u41 u42 u43 u44 u45 u46 u47 u48 u49 u50 u51 u52 u53 u54 u55 u56 u57 u58 u59 u60 u61 u62 u63 u64 u65 u66 u67 u68 u69 u70 u71 u72 u73 u74 u75 u76 u77 u78 u79 u80 u81 u82 u83 u84 u85 u86 u87 u88 u89 u90 u91 u92 u93 u94 u95 u96 u97 u98 u99 u100 u101 u102 u103 u104 u105 u106 u107 u108 u109 u110 u111 u112 u113 u114 u115 u116 u117 u118 u119 u120 u121 u122 u123 u124 u125 u126 u127 u128 u129 u130 u131 u132 u133 u134 u135 u136 u137 u138 u139 u140 u141 u142 u143 u144 u145 u146 u147 u148 u149 u150 u151 u152 u153 u154 u155 u156 u157 u158 u159 u160 u161 u162 u163 u164 u165 u166 u167 u168 u169 u170 u171 u172 u173 u174 u175 u176 u177 u178 u179 u180 u181 u182 u183 u184 u185 u186 u187 u188 u189 u190 u191 u192 u193 u194 u195 u196 u197 u198 u199 : Value} {ds : List Deferred} (pc next cause o7 : Int) (xb : Nat) (W0 : World) (c4 : W0.cell? ⟨xb, 4, none⟩ = some (.int .i64 cause)) (gn : cause = -1 → (o7 = 111 ∨ o7 = 103 ∨ o7 = 99 ∨ o7 = 115) ∨ next = (pc + 4) % 4294967296) {K : Act → World → Prop} (hk : ∀ (t174 t175 t176 t177 t178 t179 t180 t181 t182 t183 t184 t185 t186 t187 t188 t189 t190 t191 t192 t193 t194 t195 t196 t197 : Value), K ⟨#[u0, u1, u2, u3, u4, u5, u6, u7, u8, u9, u10, u11, u12, u13, u14, u15, u16, .int .u32 pc, .pointer (some ⟨xb, 0, none⟩), u19, .int .u32 next, u21, u22, .int .u32 o7, u24, u25, u26, u27, u28, u29, u30, u31, u32, u33, u34, u35, u36, u37, u38, u39, u40, u41, u42, u43, u44, u45, u46, u47, u48, u49, u50, u51, u52, u53, u54, u55, u56, u57, u58, u59, u60, u61, u62, u63, u64, u65, u66, u67, u68, u69, u70, u71, u72, u73, u74, u75, u76, u77, u78, u79, u80, u81, u82, u83, u84, u85, u86, u87, u88, u89, u90, u91, u92, u93, u94, u95, u96, u97, u98, u99, u100, u101, u102, u103, u104, u105, u106, u107, u108, u109, u110, u111, u112, u113, u114, u115, u116, u117, u118, u119, u120, u121, u122, u123, u124, u125, u126, u127, u128, u129, u130, u131, u132, u133, u134, u135, u136, u137, u138, u139, u140, u141, u142, u143, u144, u145, u146, u147, u148, u149, u150, u151, u152, u153, u154, u155, u156, u157, u158, u159, u160, u161, u162, u163, u164, u165, u166, u167, u168, u169, u170, u171, u172, u173, t174, t175, t176, t177, t178, t179, t180, t181, t182, t183, t184, t185, t186, t187, t188, t189, t190, t191, t192, t193, t194, t195, t196, t197, .bool false, u199], ds⟩ W0) : (regIn Tryz.f4.body 38).wp Tryz.prog (Exit.then K NoX) ⟨#[u0, u1, u2, u3, u4, u5, u6, u7, u8, u9, u10, u11, u12, u13, u14, u15, u16, .int .u32 pc, .pointer (some ⟨xb, 0, none⟩), u19, .int .u32 next, u21, u22, .int .u32 o7, u24, u25, u26, u27, u28, u29, u30, u31, u32, u33, u34, u35, u36, u37, u38, u39, u40, u41, u42, u43, u44, u45, u46, u47, u48, u49, u50, u51, u52, u53, u54, u55, u56, u57, u58, u59, u60, u61, u62, u63, u64, u65, u66, u67, u68, u69, u70, u71, u72, u73, u74, u75, u76, u77, u78, u79, u80, u81, u82, u83, u84, u85, u86, u87, u88, u89, u90, u91, u92, u93, u94, u95, u96, u97, u98, u99, u100, u101, u102, u103, u104, u105, u106, u107, u108, u109, u110, u111, u112, u113, u114, u115, u116, u117, u118, u119, u120, u121, u122, u123, u124, u125, u126, u127, u128, u129, u130, u131, u132, u133, u134, u135, u136, u137, u138, u139, u140, u141, u142, u143, u144, u145, u146, u147, u148, u149, u150, u151, u152, u153, u154, u155, u156, u157, u158, u159, u160, u161, u162, u163, u164, u165, u166, u167, u168, u169, u170, u171, u172, u173, u174, u175, u176, u177, u178, u179, u180, u181, u182, u183, u184, u185, u186, u187, u188, u189, u190, u191, u192, u193, u194, u195, u196, u197, u198, u199], ds⟩ W0 := by
  by_cases q0 : cause = -1
  · have hc : (cause == -1) = true := by simp; exact q0
    by_cases q1 : o7 = 111
    · have h111 : (o7 != 111) = false := by simp; exact q1
      refine r38a pc next cause o7 xb W0 _ rfl rfl rfl rfl rfl c4 hc h111 ?_
      have h := hk (.pointer (some ⟨xb, 4, none⟩)) (.int .i64 cause) (.bool true) (.bool true) (.int .u32 o7) (.bool false) (.bool false) (.bool false) (undef) (undef) (.bool false) (.bool false) (undef) (undef) (.bool false) (.bool false) (undef) (undef) (.bool false) (.bool false) (undef) (undef) (undef) (undef)
      exact Eq.mpr (by kernel_rfl) h
    have h111 : (o7 != 111) = true := by simp; exact q1
    by_cases q2 : o7 = 103
    · have h103 : (o7 != 103) = false := by simp; exact q2
      refine r38b pc next cause o7 xb W0 _ rfl rfl rfl rfl rfl c4 hc h111 h103 ?_
      have h := hk (.pointer (some ⟨xb, 4, none⟩)) (.int .i64 cause) (.bool true) (.bool true) (.int .u32 o7) (.bool true) (.bool true) (.bool true) (.int .u32 o7) (.bool false) (.bool false) (.bool false) (undef) (undef) (.bool false) (.bool false) (undef) (undef) (.bool false) (.bool false) (undef) (undef) (undef) (undef)
      exact Eq.mpr (by kernel_rfl) h
    have h103 : (o7 != 103) = true := by simp; exact q2
    by_cases q3 : o7 = 99
    · have h99 : (o7 != 99) = false := by simp; exact q3
      refine r38c pc next cause o7 xb W0 _ rfl rfl rfl rfl rfl c4 hc h111 h103 h99 ?_
      have h := hk (.pointer (some ⟨xb, 4, none⟩)) (.int .i64 cause) (.bool true) (.bool true) (.int .u32 o7) (.bool true) (.bool true) (.bool true) (.int .u32 o7) (.bool true) (.bool true) (.bool true) (.int .u32 o7) (.bool false) (.bool false) (.bool false) (undef) (undef) (.bool false) (.bool false) (undef) (undef) (undef) (undef)
      exact Eq.mpr (by kernel_rfl) h
    have h99 : (o7 != 99) = true := by simp; exact q3
    by_cases q4 : o7 = 115
    · have h115 : (o7 != 115) = false := by simp; exact q4
      refine r38d pc next cause o7 xb W0 _ rfl rfl rfl rfl rfl c4 hc h111 h103 h99 h115 ?_
      have h := hk (.pointer (some ⟨xb, 4, none⟩)) (.int .i64 cause) (.bool true) (.bool true) (.int .u32 o7) (.bool true) (.bool true) (.bool true) (.int .u32 o7) (.bool true) (.bool true) (.bool true) (.int .u32 o7) (.bool true) (.bool true) (.bool true) (.int .u32 o7) (.bool false) (.bool false) (.bool false) (undef) (undef) (undef) (undef)
      exact Eq.mpr (by kernel_rfl) h
    have h115 : (o7 != 115) = true := by simp; exact q4
    have hn : (next != (pc + 4) % 4294967296) = false := by
      simp
      rcases gn q0 with (q | q | q | q) | q
      · exact absurd q q1
      · exact absurd q q2
      · exact absurd q q3
      · exact absurd q q4
      · exact q
    refine r38e pc next cause o7 xb W0 _ rfl rfl rfl rfl rfl c4 hc h111 h103 h99 h115 hn ?_
    have h := hk (.pointer (some ⟨xb, 4, none⟩)) (.int .i64 cause) (.bool true) (.bool true) (.int .u32 o7) (.bool true) (.bool true) (.bool true) (.int .u32 o7) (.bool true) (.bool true) (.bool true) (.int .u32 o7) (.bool true) (.bool true) (.bool true) (.int .u32 o7) (.bool true) (.bool true) (.bool true) (.int .u32 next) (.int .u32 pc) (.int .u32 ((pc + 4) % 4294967296)) (.bool false)
    exact Eq.mpr (by kernel_rfl) h
  · have hc : (cause == -1) = false := by simp; exact q0
    refine r38z pc next cause o7 xb W0 _ rfl rfl rfl rfl rfl c4 hc ?_
    have h := hk (.pointer (some ⟨xb, 4, none⟩)) (.int .i64 cause) (.bool false) (.bool false) (undef) (undef) (.bool false) (.bool false) (undef) (undef) (.bool false) (.bool false) (undef) (undef) (.bool false) (.bool false) (undef) (undef) (.bool false) (.bool false) (undef) (undef) (undef) (undef)
    exact Eq.mpr (by kernel_rfl) h
end Go.Proofs.YtnlagbiikpbjdaaGreatDoor
