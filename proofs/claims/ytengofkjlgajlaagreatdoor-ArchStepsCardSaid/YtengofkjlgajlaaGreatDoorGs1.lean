import Derived.Test.YtengofkjlgajlaaGreatDoorGa1
import Derived.Laws.CopyRow
import Derived.Laws.MakeOwn
import Derived.Laws.OwnMore
import Derived.Test.YtengofkjlgajlaaGreatDoorAca
import Derived.Deep.Quiet
/-
  ArchSteps: what the law makes, and copies into it.
-/
namespace Go.Proofs.YtengofkjlgajlaaGreatDoor
open Go Go.RowKit
/-- numbers of a kind that were handed in -/
def Hand (k : IntKind) (w : World) (q : Option Addr) (n : Nat) (g : Nat → Int) : Prop := ∀ i, i < n → ∃ c o, q = some ⟨c, o, none⟩ ∧ c < w.heap.size ∧ w.cell? ⟨c, o + i, none⟩ = some (.int k (g i))
theorem Hand.below {k : IntKind} {w w' : World} {q : Option Addr} {n : Nat} {g : Nat → Int} (h : Hand k w q n g) (hb : Below w.heap.size w w') : Hand k w' q n g := fun i hi => by
  obtain ⟨c, o, h1, h2, h3⟩ := h i hi
  exact ⟨c, o, h1, Nat.lt_of_lt_of_le h2 hb.size, (hb.cell (p := ⟨c, o + i, none⟩) h2).trans h3⟩
theorem frz0 {w : World} {b : Nat} {c : Array Value} {t : TypeId} (h : w.heap[b]? = some (.cells c t (0, 0))) (o : Nat) : w.frozen? ⟨b, o, none⟩ = false := by
  simp only [World.frozen?, h]
  simp
theorem below_set0 {b : Nat} {w x : World} (h : Below b w x) {g : Nat} (hg : b ≤ g) (cs : Array Value) : Below b w (x.setRow g cs) :=
  ⟨h.os, h.tape, h.output, by simpa using h.size, fun k hk => by rw [setRow_other _ _ _ _ (by omega)]; exact h.block k hk⟩
theorem wmade (x : World) (m : Nat) (hm : 4 * m ≤ 281474976710656) : (Instr.makeSlice 22 (.int .i64 m) (.int .i64 m)).run Tryz.prog x = .ok (.slice (some ⟨x.heap.size, 0, none⟩) m m) (x.alloc (.cells (madeCells #[.int .u32 0] m) 33)) := by
  obtain ⟨i, h1, h2, h3, h4⟩ := info_parts (show (Tryz.prog.info? 33).map (fun i => (i.zero, i.size, i.bytes)) = some (some (.int .u32 0), 1, 4) by kernel_rfl)
  have q := run_make (P := Tryz.prog) x 22 33 i (.int .u32 0) Tryz.underlying22 h1 h2 .i64 .i64 m m (by omega) (Int.le_refl _) (by rw [h4]; omega) (by omega)
  rw [h3] at q
  simpa [Value.cells] using q
theorem wcopied (x : World) (q : Option Addr) (n cc m : Nat) (g : Nat → Int) (hD : Hand .u32 x q n g) (hq0 : q = none → cc = 0) (hnm : n ≤ m) : ∃ y, (Builtin.copy_ #[22, 22] 3 #[.slice (some ⟨x.heap.size, 0, none⟩) m m, .slice q n cc]).run Tryz.prog (x.alloc (.cells (madeCells #[.int .u32 0] m) 33)) = .ok (goInt n) y ∧ Below x.heap.size x y ∧ CellsAt m y x.heap.size (fun i => .int .u32 (if i < n then g i else 0)) := by
  have bA : Below x.heap.size x (x.alloc (.cells (madeCells #[.int .u32 0] m) 33)) := (Below.refl _ _).alloc (Nat.le_refl _) _
  have hs : (Tryz.prog.info? 33).map (·.size) = some 1 := by kernel_rfl
  have hg : (x.alloc (.cells (madeCells #[.int .u32 0] m) 33)).heap[x.heap.size]? = some (.cells (madeCells #[.int .u32 0] m) 33 (0, 0)) := by
    show (x.heap.push _)[x.heap.size]? = _
    simp
  have hz : (madeCells #[Value.int .u32 0] m).size = m := size_madeCells _ _
  have hmc : ∀ o, o < m → (madeCells #[Value.int .u32 0] m)[o]? = some (.int .u32 0) := fun o ho => by
    rw [← Array.getElem?_toList, toList_madeCells_one, List.getElem?_replicate, if_pos ho]
  cases q with
  | none =>
    obtain rfl : n = 0 := by
      rcases Nat.eq_zero_or_pos n with h | h
      · exact h
      · obtain ⟨c, o, h1, -⟩ := hD 0 h
        cases h1
    obtain rfl := hq0 rfl
    refine ⟨_, run_copy_nil (P := Tryz.prog) _ 22 22 3 33 ⟨x.heap.size, 0, none⟩ m m Tryz.underlying22 (by cases h : Tryz.prog.info? 33 <;> simp_all), bA, by simp, fun o ho => ?_, frz0 hg⟩
    rw [World.cell?_alloc_new, hmc o ho, if_neg (by omega)]
  | some a =>
    have hD' := hD.below bA
    have hr := run_copy_row (P := Tryz.prog) _ 22 22 3 33 x.heap.size 0 m m a n cc _ _ ((List.range n).map fun i => .int .u32 (g i)) Tryz.underlying22 hs hg (by rw [List.length_map, List.length_range]; exact (Nat.min_eq_left hnm).symm) (fun j u hj => by
      have hjn : j < n := by
        have := (List.getElem?_eq_some_iff.1 hj).1
        simpa using this
      rw [List.getElem?_map, List.getElem?_range hjn] at hj
      obtain ⟨c, o, h1, h2, h3⟩ := hD' j hjn
      obtain rfl := Option.some.inj h1
      rw [Addr.add_lit, h3]
      exact hj) (by simp [hz]; exact hnm) (by
      intro u hu
      obtain ⟨i, _, rfl⟩ := List.mem_map.1 hu
      rfl)
    refine ⟨_, by simpa using hr, below_set0 bA (Nat.le_refl _) _, ?_, fun o ho => ?_, fun o => ?_⟩
    · exact (Array.getElem?_eq_some_iff.1 (setRow_heap _ _ _ _ _ _ hg)).1
    · rw [cell_setRow_same _ _ o _ _ _ _ hg]
      by_cases h : o < n
      · simp [List.getElem?_append, h]
      · have := hmc o ho
        simp [List.getElem?_append, h]
        rw [show n + (o - n) = o by omega, this]
    · exact frz0 (setRow_heap _ _ _ _ _ _ hg) o
theorem bmade (x : World) (m : Nat) (hm : 1 * m ≤ 281474976710656) : (Instr.makeSlice 23 (.int .i64 m) (.int .i64 m)).run Tryz.prog x = .ok (.slice (some ⟨x.heap.size, 0, none⟩) m m) (x.alloc (.cells (madeCells #[.int .u8 0] m) 5)) := by
  obtain ⟨i, h1, h2, h3, h4⟩ := info_parts (show (Tryz.prog.info? 5).map (fun i => (i.zero, i.size, i.bytes)) = some (some (.int .u8 0), 1, 1) by kernel_rfl)
  have q := run_make (P := Tryz.prog) x 23 5 i (.int .u8 0) Tryz.underlying23 h1 h2 .i64 .i64 m m (by omega) (Int.le_refl _) (by rw [h4]; omega) (by omega)
  rw [h3] at q
  simpa [Value.cells] using q
theorem bcopied (x : World) (q : Option Addr) (n cc m : Nat) (g : Nat → Int) (hD : Hand .u8 x q n g) (hq0 : q = none → cc = 0) (hnm : n ≤ m) : ∃ y, (Builtin.copy_ #[23, 23] 3 #[.slice (some ⟨x.heap.size, 0, none⟩) m m, .slice q n cc]).run Tryz.prog (x.alloc (.cells (madeCells #[.int .u8 0] m) 5)) = .ok (goInt n) y ∧ Below x.heap.size x y ∧ CellsAt m y x.heap.size (fun i => .int .u8 (if i < n then g i else 0)) := by
  have bA : Below x.heap.size x (x.alloc (.cells (madeCells #[.int .u8 0] m) 5)) := (Below.refl _ _).alloc (Nat.le_refl _) _
  have hs : (Tryz.prog.info? 5).map (·.size) = some 1 := by kernel_rfl
  have hg : (x.alloc (.cells (madeCells #[.int .u8 0] m) 5)).heap[x.heap.size]? = some (.cells (madeCells #[.int .u8 0] m) 5 (0, 0)) := by
    show (x.heap.push _)[x.heap.size]? = _
    simp
  have hz : (madeCells #[Value.int .u8 0] m).size = m := size_madeCells _ _
  have hmc : ∀ o, o < m → (madeCells #[Value.int .u8 0] m)[o]? = some (.int .u8 0) := fun o ho => by
    rw [← Array.getElem?_toList, toList_madeCells_one, List.getElem?_replicate, if_pos ho]
  cases q with
  | none =>
    obtain rfl : n = 0 := by
      rcases Nat.eq_zero_or_pos n with h | h
      · exact h
      · obtain ⟨c, o, h1, -⟩ := hD 0 h
        cases h1
    obtain rfl := hq0 rfl
    refine ⟨_, run_copy_nil (P := Tryz.prog) _ 23 23 3 5 ⟨x.heap.size, 0, none⟩ m m Tryz.underlying23 (by cases h : Tryz.prog.info? 5 <;> simp_all), bA, by simp, fun o ho => ?_, frz0 hg⟩
    rw [World.cell?_alloc_new, hmc o ho, if_neg (by omega)]
  | some a =>
    have hD' := hD.below bA
    have hr := run_copy_row (P := Tryz.prog) _ 23 23 3 5 x.heap.size 0 m m a n cc _ _ ((List.range n).map fun i => .int .u8 (g i)) Tryz.underlying23 hs hg (by rw [List.length_map, List.length_range]; exact (Nat.min_eq_left hnm).symm) (fun j u hj => by
      have hjn : j < n := by
        have := (List.getElem?_eq_some_iff.1 hj).1
        simpa using this
      rw [List.getElem?_map, List.getElem?_range hjn] at hj
      obtain ⟨c, o, h1, h2, h3⟩ := hD' j hjn
      obtain rfl := Option.some.inj h1
      rw [Addr.add_lit, h3]
      exact hj) (by simp [hz]; exact hnm) (by
      intro u hu
      obtain ⟨i, _, rfl⟩ := List.mem_map.1 hu
      rfl)
    refine ⟨_, by simpa using hr, below_set0 bA (Nat.le_refl _) _, ?_, fun o ho => ?_, fun o => ?_⟩
    · exact (Array.getElem?_eq_some_iff.1 (setRow_heap _ _ _ _ _ _ hg)).1
    · rw [cell_setRow_same _ _ o _ _ _ _ hg]
      by_cases h : o < n
      · simp [List.getElem?_append, h]
      · have := hmc o ho
        simp [List.getElem?_append, h]
        rw [show n + (o - n) = o by omega, this]
    · exact frz0 (setRow_heap _ _ _ _ _ _ hg) o
end Go.Proofs.YtengofkjlgajlaaGreatDoor
/-
  ArchSteps: laws of single operations.
-/
namespace Go.Proofs.YtengofkjlgajlaaGreatDoor
open Go Go.RowKit
theorem drop_at {ops : Array Oper} {k : Nat} {o : Oper} (hk : ops[k]? = some o) : ops.toList.drop k = o :: ops.toList.drop (k + 1) := by
  obtain ⟨h, e⟩ := Array.getElem?_eq_some_iff.1 hk
  rw [List.drop_eq_getElem_cons (by simpa using h)]
  rw [Array.getElem_toList, e]
section
variable {P : Program} {ops : Array Oper} {C : World → Prop} {Q : Act → Prop} {a : Act} {k s : Nat} {o : Oper} {v : Value}
theorem w_none (hg : o.guard = none) : Region.wanted o (yielded ops a.tmps) = true := by
  unfold Region.wanted
  rw [hg]
theorem w_some {j t : Nat} {b want r : Bool} (hg : o.guard = some (j, want)) (hj : (ops[j]?).bind (·.dst) = some t) (he : a.eval (.tmp t) = .bool b) (hr : (b == want) = r) : Region.wanted o (yielded ops a.tmps) = r := by
  have h : a.tmps[t]? = some (.bool b) := by
    have he : a.tmps.getD t undef = .bool b := he
    rw [Array.getD_eq_getD_getElem?] at he
    cases hh : a.tmps[t]? with
    | none => rw [hh] at he; cases he
    | some u => rw [hh] at he; exact congrArg some he
  unfold Region.wanted yielded
  rw [hg]
  simp only [hj, Option.bind_some, h]
  rw [← hr]
  cases b <;> cases want <;> rfl
theorem qd_want (hk : ops[k]? = some o) (hd : o.dst = some s) (hw : Region.wanted o (yielded ops a.tmps) = true) (hq : ∀ w, C w → (execOp a.eval o).run P w = .ok (.value v) w) (h : wpQuiet P ops C Q (ops.toList.drop (k + 1)) (a.put (some s) v)) : wpQuiet P ops C Q (ops.toList.drop k) a := by
  rw [drop_at hk]
  refine wpQuiet_step (fun K hK => ?_)
  rw [if_pos hw]
  refine ⟨v, fun w hw' => ?_, ?_⟩
  · unfold Oper.quietAt
    rw [hq w hw']
    exact ⟨rfl, rfl⟩
  · rw [hd]
    exact hK _ h
theorem qd_skip (hk : ops[k]? = some o) (hd : o.dst = some s) (hw : Region.wanted o (yielded ops a.tmps) = false) (h : wpQuiet P ops C Q (ops.toList.drop (k + 1)) (a.put (some s) undef)) : wpQuiet P ops C Q (ops.toList.drop k) a := by
  rw [drop_at hk]
  refine wpQuiet_step (fun K hK => ?_)
  rw [if_neg (by rw [hw]; exact Bool.false_ne_true), hd]
  exact hK _ h
theorem qd_end (hk : ops.size = k) (h : Q a) : wpQuiet P ops C Q (ops.toList.drop k) a := by
  rw [List.drop_eq_nil_of_le (by simp [hk])]
  exact wpQuiet_nil h
theorem run_pick {x y z : Operand} {b : Bool} (ho : o.op = .pick x y z) (hx : a.eval x = .bool b) (hy : b = true → a.eval y = v) (hz : b = false → a.eval z = v) (w : World) : (execOp a.eval o).run P w = .ok (.value v) w := by
  unfold execOp
  simp only [ho, hx]
  cases b
  · obtain rfl := hz rfl
    go_simp
  · obtain rfl := hy rfl
    go_simp
end
theorem Turned.to_cell {Q : Nat → Prop} {x y : World} {c o : Nat} {v : Value} (h : Turned Q x y) (hh : c < x.heap.size) (hc : ¬ Q c) (k : x.cell? ⟨c, o, none⟩ = some v) : y.cell? ⟨c, o, none⟩ = some v := (World.cell?_of_block (w := x) (h.block c hh hc)).trans k
section
variable {a : Act} {o : Oper} {x y : Operand}
theorem run_len22 {q : Option Addr} {n c : Nat} (ho : o.op = .call { callee := .builtin .len, args := #[x], argTypes := #[22] }) (hx : a.eval x = .slice q n c) (w : World) : (execOp a.eval o).run Tryz.prog w = .ok (.value (.int .i64 n)) w := by
  simp [execOp, ho, resolve, invoke, builtin, hx, Result.andThen]
  go_simp
theorem run_i22 {b k n c i : Nat} (ho : o.op = .indexAddr 22 x y) (hx : a.eval x = .slice (some ⟨b, k, none⟩) n c) (hy : a.eval y = .int .i64 i) (hi : i < n) (w : World) : (execOp a.eval o).run Tryz.prog w = .ok (.value (.pointer (some ⟨b, k + i, none⟩))) w := by
  have hi' : (i : Int) < (n : Int) := by omega
  unfold execOp
  simp only [ho, hx, hy]
  go_simp
theorem run_len23 {q : Option Addr} {n c : Nat} (ho : o.op = .call { callee := .builtin .len, args := #[x], argTypes := #[23] }) (hx : a.eval x = .slice q n c) (w : World) : (execOp a.eval o).run Tryz.prog w = .ok (.value (.int .i64 n)) w := by
  simp [execOp, ho, resolve, invoke, builtin, hx, Result.andThen]
  go_simp
theorem run_i23 {b k n c i : Nat} (ho : o.op = .indexAddr 23 x y) (hx : a.eval x = .slice (some ⟨b, k, none⟩) n c) (hy : a.eval y = .int .i64 i) (hi : i < n) (w : World) : (execOp a.eval o).run Tryz.prog w = .ok (.value (.pointer (some ⟨b, k + i, none⟩))) w := by
  have hi' : (i : Int) < (n : Int) := by omega
  unfold execOp
  simp only [ho, hx, hy]
  go_simp
theorem run_l33 {p : Addr} {i : Int} {w : World} (ho : o.op = .load 33 x) (hx : a.eval x = .pointer (some p)) (hc : w.cell? p = some (.int .u32 i)) : (execOp a.eval o).run Tryz.prog w = .ok (.value (.int .u32 i)) w := by
  unfold execOp
  simp only [ho, hx]
  go_simp
theorem run_ne33 {p q : Int} {r : Bool} {t2 : TypeId} (ho : o.op = .binOp .neq 33 x y t2) (hx : a.eval x = .int .u32 p) (hy : a.eval y = .int .u32 q) (hr : (p != q) = r) (w : World) : (execOp a.eval o).run Tryz.prog w = .ok (.value (.bool r)) w := by
  subst hr
  unfold execOp
  simp only [ho, hx, hy]
  go_simp
theorem run_l5 {p : Addr} {i : Int} {w : World} (ho : o.op = .load 5 x) (hx : a.eval x = .pointer (some p)) (hc : w.cell? p = some (.int .u8 i)) : (execOp a.eval o).run Tryz.prog w = .ok (.value (.int .u8 i)) w := by
  unfold execOp
  simp only [ho, hx]
  go_simp
theorem run_ne5 {p q : Int} {r : Bool} {t2 : TypeId} (ho : o.op = .binOp .neq 5 x y t2) (hx : a.eval x = .int .u8 p) (hy : a.eval y = .int .u8 q) (hr : (p != q) = r) (w : World) : (execOp a.eval o).run Tryz.prog w = .ok (.value (.bool r)) w := by
  subst hr
  unfold execOp
  simp only [ho, hx, hy]
  go_simp
theorem run_lss {p q : Int} {r : Bool} {t2 : TypeId} (ho : o.op = .binOp .lss 3 x y t2) (hx : a.eval x = .int .i64 p) (hy : a.eval y = .int .i64 q) (hr : decide (p < q) = r) (w : World) : (execOp a.eval o).run Tryz.prog w = .ok (.value (.bool r)) w := by
  subst hr
  unfold execOp
  simp only [ho, hx, hy]
  go_simp
theorem run_geq {p q : Int} {r : Bool} {t2 : TypeId} (ho : o.op = .binOp .geq 3 x y t2) (hx : a.eval x = .int .i64 p) (hy : a.eval y = .int .i64 q) (hr : decide (q ≤ p) = r) (w : World) : (execOp a.eval o).run Tryz.prog w = .ok (.value (.bool r)) w := by
  subst hr
  unfold execOp
  simp only [ho, hx, hy]
  go_simp
end
theorem q10_0 : ∃ o, (opsIn (regIn Tryz.f3.body 10))[0]? = some o ∧ o.dst = some 72 ∧ o.guard = none ∧ o.op = .move (.tmp 15) := ⟨_, rfl, rfl, rfl, rfl⟩
theorem q10_1 : ∃ o, (opsIn (regIn Tryz.f3.body 10))[1]? = some o ∧ o.dst = some 73 ∧ o.guard = none ∧ o.op = .move (.tmp 0) := ⟨_, rfl, rfl, rfl, rfl⟩
theorem q10_2 : ∃ o, (opsIn (regIn Tryz.f3.body 10))[2]? = some o ∧ o.dst = some 74 ∧ o.guard = none ∧ o.op = .call { callee := .builtin .len, args := #[.tmp 73], argTypes := #[22] } := ⟨_, rfl, rfl, rfl, rfl⟩
theorem q10_3 : ∃ o, (opsIn (regIn Tryz.f3.body 10))[3]? = some o ∧ o.dst = some 75 ∧ o.guard = none ∧ o.op = .binOp .lss 3 (.tmp 72) (.tmp 74) 3 := ⟨_, rfl, rfl, rfl, rfl⟩
theorem q10_4 : ∃ o, (opsIn (regIn Tryz.f3.body 10))[4]? = some o ∧ o.dst = some 76 ∧ o.guard = none ∧ o.op = .move (.tmp 75) := ⟨_, rfl, rfl, rfl, rfl⟩
theorem q10_5 : ∃ o, (opsIn (regIn Tryz.f3.body 10))[5]? = some o ∧ o.dst = some 77 ∧ o.guard = some (4, true) ∧ o.op = .move (.tmp 9) := ⟨_, rfl, rfl, rfl, rfl⟩
theorem q10_6 : ∃ o, (opsIn (regIn Tryz.f3.body 10))[6]? = some o ∧ o.dst = some 78 ∧ o.guard = some (4, true) ∧ o.op = .move (.tmp 15) := ⟨_, rfl, rfl, rfl, rfl⟩
theorem q10_7 : ∃ o, (opsIn (regIn Tryz.f3.body 10))[7]? = some o ∧ o.dst = some 79 ∧ o.guard = some (4, true) ∧ o.op = .indexAddr 22 (.tmp 77) (.tmp 78) := ⟨_, rfl, rfl, rfl, rfl⟩
theorem q10_8 : ∃ o, (opsIn (regIn Tryz.f3.body 10))[8]? = some o ∧ o.dst = some 80 ∧ o.guard = some (4, true) ∧ o.op = .load 33 (.tmp 79) := ⟨_, rfl, rfl, rfl, rfl⟩
theorem q10_9 : ∃ o, (opsIn (regIn Tryz.f3.body 10))[9]? = some o ∧ o.dst = some 81 ∧ o.guard = some (4, true) ∧ o.op = .move (.tmp 0) := ⟨_, rfl, rfl, rfl, rfl⟩
theorem q10_10 : ∃ o, (opsIn (regIn Tryz.f3.body 10))[10]? = some o ∧ o.dst = some 82 ∧ o.guard = some (4, true) ∧ o.op = .move (.tmp 15) := ⟨_, rfl, rfl, rfl, rfl⟩
theorem q10_11 : ∃ o, (opsIn (regIn Tryz.f3.body 10))[11]? = some o ∧ o.dst = some 83 ∧ o.guard = some (4, true) ∧ o.op = .indexAddr 22 (.tmp 81) (.tmp 82) := ⟨_, rfl, rfl, rfl, rfl⟩
theorem q10_12 : ∃ o, (opsIn (regIn Tryz.f3.body 10))[12]? = some o ∧ o.dst = some 84 ∧ o.guard = some (4, true) ∧ o.op = .load 33 (.tmp 83) := ⟨_, rfl, rfl, rfl, rfl⟩
theorem q10_13 : ∃ o, (opsIn (regIn Tryz.f3.body 10))[13]? = some o ∧ o.dst = some 85 ∧ o.guard = some (4, true) ∧ o.op = .binOp .neq 33 (.tmp 80) (.tmp 84) 33 := ⟨_, rfl, rfl, rfl, rfl⟩
theorem q10_14 : ∃ o, (opsIn (regIn Tryz.f3.body 10))[14]? = some o ∧ o.dst = some 86 ∧ o.guard = none ∧ o.op = .pick (.tmp 76) (.tmp 85) (.const (.bool false)) := ⟨_, rfl, rfl, rfl, rfl⟩
theorem q10_15 : ∃ o, (opsIn (regIn Tryz.f3.body 10))[15]? = some o ∧ o.dst = some 87 ∧ o.guard = none ∧ o.op = .move (.tmp 86) := ⟨_, rfl, rfl, rfl, rfl⟩
theorem q10_16 : ∃ o, (opsIn (regIn Tryz.f3.body 10))[16]? = some o ∧ o.dst = some 88 ∧ o.guard = some (15, false) ∧ o.op = .move (.tmp 15) := ⟨_, rfl, rfl, rfl, rfl⟩
theorem q10_17 : ∃ o, (opsIn (regIn Tryz.f3.body 10))[17]? = some o ∧ o.dst = some 89 ∧ o.guard = some (15, false) ∧ o.op = .move (.tmp 0) := ⟨_, rfl, rfl, rfl, rfl⟩
theorem q10_18 : ∃ o, (opsIn (regIn Tryz.f3.body 10))[18]? = some o ∧ o.dst = some 90 ∧ o.guard = some (15, false) ∧ o.op = .call { callee := .builtin .len, args := #[.tmp 89], argTypes := #[22] } := ⟨_, rfl, rfl, rfl, rfl⟩
theorem q10_19 : ∃ o, (opsIn (regIn Tryz.f3.body 10))[19]? = some o ∧ o.dst = some 91 ∧ o.guard = some (15, false) ∧ o.op = .binOp .geq 3 (.tmp 88) (.tmp 90) 3 := ⟨_, rfl, rfl, rfl, rfl⟩
theorem q10_20 : ∃ o, (opsIn (regIn Tryz.f3.body 10))[20]? = some o ∧ o.dst = some 92 ∧ o.guard = some (15, false) ∧ o.op = .move (.tmp 91) := ⟨_, rfl, rfl, rfl, rfl⟩
theorem q10_21 : ∃ o, (opsIn (regIn Tryz.f3.body 10))[21]? = some o ∧ o.dst = some 93 ∧ o.guard = some (20, true) ∧ o.op = .move (.tmp 9) := ⟨_, rfl, rfl, rfl, rfl⟩
theorem q10_22 : ∃ o, (opsIn (regIn Tryz.f3.body 10))[22]? = some o ∧ o.dst = some 94 ∧ o.guard = some (20, true) ∧ o.op = .move (.tmp 15) := ⟨_, rfl, rfl, rfl, rfl⟩
theorem q10_23 : ∃ o, (opsIn (regIn Tryz.f3.body 10))[23]? = some o ∧ o.dst = some 95 ∧ o.guard = some (20, true) ∧ o.op = .indexAddr 22 (.tmp 93) (.tmp 94) := ⟨_, rfl, rfl, rfl, rfl⟩
theorem q10_24 : ∃ o, (opsIn (regIn Tryz.f3.body 10))[24]? = some o ∧ o.dst = some 96 ∧ o.guard = some (20, true) ∧ o.op = .load 33 (.tmp 95) := ⟨_, rfl, rfl, rfl, rfl⟩
theorem q10_25 : ∃ o, (opsIn (regIn Tryz.f3.body 10))[25]? = some o ∧ o.dst = some 97 ∧ o.guard = some (20, true) ∧ o.op = .binOp .neq 33 (.tmp 96) (.const (.int .u32 0)) 33 := ⟨_, rfl, rfl, rfl, rfl⟩
theorem q10_26 : ∃ o, (opsIn (regIn Tryz.f3.body 10))[26]? = some o ∧ o.dst = some 98 ∧ o.guard = some (15, false) ∧ o.op = .pick (.tmp 92) (.tmp 97) (.const (.bool false)) := ⟨_, rfl, rfl, rfl, rfl⟩
theorem q10_27 : ∃ o, (opsIn (regIn Tryz.f3.body 10))[27]? = some o ∧ o.dst = some 99 ∧ o.guard = none ∧ o.op = .pick (.tmp 87) (.const (.bool true)) (.tmp 98) := ⟨_, rfl, rfl, rfl, rfl⟩
theorem q16_0 : ∃ o, (opsIn (regIn Tryz.f3.body 16))[0]? = some o ∧ o.dst = some 109 ∧ o.guard = none ∧ o.op = .move (.tmp 16) := ⟨_, rfl, rfl, rfl, rfl⟩
theorem q16_1 : ∃ o, (opsIn (regIn Tryz.f3.body 16))[1]? = some o ∧ o.dst = some 110 ∧ o.guard = none ∧ o.op = .move (.tmp 1) := ⟨_, rfl, rfl, rfl, rfl⟩
theorem q16_2 : ∃ o, (opsIn (regIn Tryz.f3.body 16))[2]? = some o ∧ o.dst = some 111 ∧ o.guard = none ∧ o.op = .call { callee := .builtin .len, args := #[.tmp 110], argTypes := #[23] } := ⟨_, rfl, rfl, rfl, rfl⟩
theorem q16_3 : ∃ o, (opsIn (regIn Tryz.f3.body 16))[3]? = some o ∧ o.dst = some 112 ∧ o.guard = none ∧ o.op = .binOp .lss 3 (.tmp 109) (.tmp 111) 3 := ⟨_, rfl, rfl, rfl, rfl⟩
theorem q16_4 : ∃ o, (opsIn (regIn Tryz.f3.body 16))[4]? = some o ∧ o.dst = some 113 ∧ o.guard = none ∧ o.op = .move (.tmp 112) := ⟨_, rfl, rfl, rfl, rfl⟩
theorem q16_5 : ∃ o, (opsIn (regIn Tryz.f3.body 16))[5]? = some o ∧ o.dst = some 114 ∧ o.guard = some (4, true) ∧ o.op = .move (.tmp 10) := ⟨_, rfl, rfl, rfl, rfl⟩
theorem q16_6 : ∃ o, (opsIn (regIn Tryz.f3.body 16))[6]? = some o ∧ o.dst = some 115 ∧ o.guard = some (4, true) ∧ o.op = .move (.tmp 16) := ⟨_, rfl, rfl, rfl, rfl⟩
theorem q16_7 : ∃ o, (opsIn (regIn Tryz.f3.body 16))[7]? = some o ∧ o.dst = some 116 ∧ o.guard = some (4, true) ∧ o.op = .indexAddr 23 (.tmp 114) (.tmp 115) := ⟨_, rfl, rfl, rfl, rfl⟩
theorem q16_8 : ∃ o, (opsIn (regIn Tryz.f3.body 16))[8]? = some o ∧ o.dst = some 117 ∧ o.guard = some (4, true) ∧ o.op = .load 5 (.tmp 116) := ⟨_, rfl, rfl, rfl, rfl⟩
theorem q16_9 : ∃ o, (opsIn (regIn Tryz.f3.body 16))[9]? = some o ∧ o.dst = some 118 ∧ o.guard = some (4, true) ∧ o.op = .move (.tmp 1) := ⟨_, rfl, rfl, rfl, rfl⟩
theorem q16_10 : ∃ o, (opsIn (regIn Tryz.f3.body 16))[10]? = some o ∧ o.dst = some 119 ∧ o.guard = some (4, true) ∧ o.op = .move (.tmp 16) := ⟨_, rfl, rfl, rfl, rfl⟩
theorem q16_11 : ∃ o, (opsIn (regIn Tryz.f3.body 16))[11]? = some o ∧ o.dst = some 120 ∧ o.guard = some (4, true) ∧ o.op = .indexAddr 23 (.tmp 118) (.tmp 119) := ⟨_, rfl, rfl, rfl, rfl⟩
theorem q16_12 : ∃ o, (opsIn (regIn Tryz.f3.body 16))[12]? = some o ∧ o.dst = some 121 ∧ o.guard = some (4, true) ∧ o.op = .load 5 (.tmp 120) := ⟨_, rfl, rfl, rfl, rfl⟩
theorem q16_13 : ∃ o, (opsIn (regIn Tryz.f3.body 16))[13]? = some o ∧ o.dst = some 122 ∧ o.guard = some (4, true) ∧ o.op = .binOp .neq 5 (.tmp 117) (.tmp 121) 5 := ⟨_, rfl, rfl, rfl, rfl⟩
theorem q16_14 : ∃ o, (opsIn (regIn Tryz.f3.body 16))[14]? = some o ∧ o.dst = some 123 ∧ o.guard = none ∧ o.op = .pick (.tmp 113) (.tmp 122) (.const (.bool false)) := ⟨_, rfl, rfl, rfl, rfl⟩
theorem q16_15 : ∃ o, (opsIn (regIn Tryz.f3.body 16))[15]? = some o ∧ o.dst = some 124 ∧ o.guard = none ∧ o.op = .move (.tmp 123) := ⟨_, rfl, rfl, rfl, rfl⟩
theorem q16_16 : ∃ o, (opsIn (regIn Tryz.f3.body 16))[16]? = some o ∧ o.dst = some 125 ∧ o.guard = some (15, false) ∧ o.op = .move (.tmp 16) := ⟨_, rfl, rfl, rfl, rfl⟩
theorem q16_17 : ∃ o, (opsIn (regIn Tryz.f3.body 16))[17]? = some o ∧ o.dst = some 126 ∧ o.guard = some (15, false) ∧ o.op = .move (.tmp 1) := ⟨_, rfl, rfl, rfl, rfl⟩
theorem q16_18 : ∃ o, (opsIn (regIn Tryz.f3.body 16))[18]? = some o ∧ o.dst = some 127 ∧ o.guard = some (15, false) ∧ o.op = .call { callee := .builtin .len, args := #[.tmp 126], argTypes := #[23] } := ⟨_, rfl, rfl, rfl, rfl⟩
theorem q16_19 : ∃ o, (opsIn (regIn Tryz.f3.body 16))[19]? = some o ∧ o.dst = some 128 ∧ o.guard = some (15, false) ∧ o.op = .binOp .geq 3 (.tmp 125) (.tmp 127) 3 := ⟨_, rfl, rfl, rfl, rfl⟩
theorem q16_20 : ∃ o, (opsIn (regIn Tryz.f3.body 16))[20]? = some o ∧ o.dst = some 129 ∧ o.guard = some (15, false) ∧ o.op = .move (.tmp 128) := ⟨_, rfl, rfl, rfl, rfl⟩
theorem q16_21 : ∃ o, (opsIn (regIn Tryz.f3.body 16))[21]? = some o ∧ o.dst = some 130 ∧ o.guard = some (20, true) ∧ o.op = .move (.tmp 10) := ⟨_, rfl, rfl, rfl, rfl⟩
theorem q16_22 : ∃ o, (opsIn (regIn Tryz.f3.body 16))[22]? = some o ∧ o.dst = some 131 ∧ o.guard = some (20, true) ∧ o.op = .move (.tmp 16) := ⟨_, rfl, rfl, rfl, rfl⟩
theorem q16_23 : ∃ o, (opsIn (regIn Tryz.f3.body 16))[23]? = some o ∧ o.dst = some 132 ∧ o.guard = some (20, true) ∧ o.op = .indexAddr 23 (.tmp 130) (.tmp 131) := ⟨_, rfl, rfl, rfl, rfl⟩
theorem q16_24 : ∃ o, (opsIn (regIn Tryz.f3.body 16))[24]? = some o ∧ o.dst = some 133 ∧ o.guard = some (20, true) ∧ o.op = .load 5 (.tmp 132) := ⟨_, rfl, rfl, rfl, rfl⟩
theorem q16_25 : ∃ o, (opsIn (regIn Tryz.f3.body 16))[25]? = some o ∧ o.dst = some 134 ∧ o.guard = some (20, true) ∧ o.op = .binOp .neq 5 (.tmp 133) (.const (.int .u8 0)) 5 := ⟨_, rfl, rfl, rfl, rfl⟩
theorem q16_26 : ∃ o, (opsIn (regIn Tryz.f3.body 16))[26]? = some o ∧ o.dst = some 135 ∧ o.guard = some (15, false) ∧ o.op = .pick (.tmp 129) (.tmp 134) (.const (.bool false)) := ⟨_, rfl, rfl, rfl, rfl⟩
theorem q16_27 : ∃ o, (opsIn (regIn Tryz.f3.body 16))[27]? = some o ∧ o.dst = some 136 ∧ o.guard = none ∧ o.op = .pick (.tmp 124) (.const (.bool true)) (.tmp 135) := ⟨_, rfl, rfl, rfl, rfl⟩
end Go.Proofs.YtengofkjlgajlaaGreatDoor
