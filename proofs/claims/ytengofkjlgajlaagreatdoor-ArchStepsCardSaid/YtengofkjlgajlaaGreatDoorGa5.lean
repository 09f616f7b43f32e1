import Derived.Test.YtengofkjlgajlaaGreatDoorGa4
import Derived.Test.YtengofkjlgajlaaGreatDoorGx8
import Derived.Test.YtengofkjlgajlaaGreatDoorGx9
import Derived.OwnWalk
/-
  THE MACHINE: a step that is one.
-/
namespace Go.Proofs.YtengofkjlgajlaaGreatDoor
open Go Go.RowKit
theorem boxW7 (w : World) (t : TypeId) : ∃ X, w.alloc (.cells #[.int .u32 0, .int .u32 0, .int .i64 0, .int .u32 0, .int .i64 0, .int .u32 0, .int .u32 0] t) = X ∧ Below w.heap.size w X ∧ w.heap.size < X.heap.size ∧ ∃ c, CellsAt 7 X w.heap.size c :=
  ⟨_, rfl, (Below.refl _ _).alloc (Nat.le_refl _) _, by simp, fun i => (#[.int .u32 0, .int .u32 0, .int .i64 0, .int .u32 0, .int .i64 0, .int .u32 0, .int .u32 0] : Array Value).getD i undef, ⟨by simp, fun o ho => by
    rw [World.cell?_alloc_new]
    match o, ho with
    | 0, _ => rfl
    | 1, _ => rfl
    | 2, _ => rfl
    | 3, _ => rfl
    | 4, _ => rfl
    | 5, _ => rfl
    | 6, _ => rfl, fun i => World.frozen?_alloc_at _ t _ i rfl⟩⟩
theorem set7_cells {w : World} {b : Nat} {c : Nat → Value} (h : CellsAt 7 w b c) (x0 x1 x2 x3 x4 x5 x6 : Value) : CellsAt 7 (((((((w.setCell ⟨b, 0, none⟩ x0).setCell ⟨b, 1, none⟩ x1).setCell ⟨b, 2, none⟩ x2).setCell ⟨b, 3, none⟩ x3).setCell ⟨b, 4, none⟩ x4).setCell ⟨b, 5, none⟩ x5).setCell ⟨b, 6, none⟩ x6) b (fun i => match i with | 0 => x0 | 1 => x1 | 2 => x2 | 3 => x3 | 4 => x4 | 5 => x5 | _ => x6) := by
  have k := (((((((h.set 0 (by decide) x0).set 1 (by decide) x1).set 2 (by decide) x2).set 3 (by decide) x3).set 4 (by decide) x4).set 5 (by decide) x5).set 6 (by decide) x6)
  refine ⟨k.here, fun o ho => ?_, k.free⟩
  rw [k.cell o ho]
  match o, ho with
  | 0, _ => rfl
  | 1, _ => rfl
  | 2, _ => rfl
  | 3, _ => rfl
  | 4, _ => rfl
  | 5, _ => rfl
  | 6, _ => rfl
end Go.Proofs.YtengofkjlgajlaaGreatDoor
/-
  THE MACHINE: New.
-/
namespace Go.Proofs.YtengofkjlgajlaaGreatDoor
open Go Go.RowKit
set_option maxRecDepth 100000 in
set_option maxHeartbeats 1000000 in
theorem mnew_bad (p : Option Addr) (n cp : Nat) (q : Option Addr) (len dc : Nat) (w : World) (h : imageB n len = false) : Calls Tryz.prog 5 #[.slice p n cp, .slice q len dc] w fun e w' => e = .returned (.tuple #[.pointer none, .iface 34 (.int .i64 1)]) ∧ w' = w := by
  have HN := Hid.in (pnew_bad1 p n cp len 0 w h)
  clear h
  go_enter Tryz.func5, Tryz.ntmps5
  go_wp2_with (go_at_call 18; refine HN.out.mono ?_; rintro e x ⟨rfl, hx⟩; have hx2 := hx.symm; clear hx; subst hx2)
  exact bodyPost_ret (v := .tuple #[.pointer none, .iface 34 (.int .i64 1)]) (by simp [results, Tryz.results5, go_sem]) rfl ⟨rfl, rfl⟩
/-- what is handed in: bytes -/
def Dat (w : World) (q : Option Addr) (len : Nat) : Prop := ∀ i, i < len → ∃ c o, q = some ⟨c, o, none⟩ ∧ c < w.heap.size ∧ ∃ x : Int, w.cell? ⟨c, o + i, none⟩ = some (.int .u8 x)
theorem Dat.below {w w' : World} {q : Option Addr} {len : Nat} (h : Dat w q len) (hb : Below w.heap.size w w') : Dat w' q len := fun i hi => by
  obtain ⟨c, o, h1, h2, x, h3⟩ := h i hi
  exact ⟨c, o, h1, Nat.lt_of_lt_of_le h2 hb.size, x, (hb.cell (p := ⟨c, o + i, none⟩) h2).trans h3⟩
theorem wpl_append {P : Program} {ops : Array Oper} {Q : Exit → Act → World → Prop} {rest : List Oper} {o : Oper} {a : Act} {w w' : World} {s x : Operand} {t : TypeId} {v u v' : Value} (hg : o.guard = none) (ho : o.op = Op.call { callee := Callee.builtin Builtin.append, args := #[s, x], argTypes := #[t, t] }) (hs : a.eval s = v) (hx : a.eval x = u) (hr : (Builtin.append_ #[t, t] o.type #[v, u]).run P w = .ok v' w') (h : wpList P ops Q rest (a.put o.dst v') w') : wpList P ops Q (o :: rest) a w := by
  unfold wpList
  rw [if_pos (by unfold Region.wanted; rw [hg])]
  refine Or.inl ?_
  unfold Oper.wp
  simp [execOp, ho, resolve, invoke, builtin, hs, hx, hr, Result.andThen]
  exact h
end Go.Proofs.YtengofkjlgajlaaGreatDoor
