import Derived.Test.YtemamhkhjijdlaaGreatDoorY10
import Derived.Deep.Cut
import Derived.Deep.DeepCutAuto
/-
  BUS: lowerOthers.
-/
namespace Go.Proofs.YtemamhkhjijdlaaGreatDoor
open Go Go.RowKit
/-- what is told of a line that has changed -/
structure Snp where
  c : Nat
  a : Nat
  f : Nat
  t : Nat
def Snp.vs (e : Snp) : List Value := [.int .i64 e.c, .int .u32 e.a, .int .i64 e.f, .int .i64 e.t]
def flatS (l : List Snp) : List Value := l.flatMap Snp.vs
theorem wpList_append_run {P : Program} {ops : Array Oper} {rest : List Oper} {o : Oper} {a : Act} {w w' : World} {Q : Exit → Act → World → Prop} {s x : Operand} {t : TypeId} {v u v' : Value} (hgd : o.guard = none) (ho : o.op = Op.call { callee := Callee.builtin Builtin.append, args := #[s, x], argTypes := #[t, t] }) (hs : a.eval s = v) (hx : a.eval x = u) (hr : (Builtin.append_ #[t, t] o.type #[v, u]).run P w = .ok v' w') (h : wpList P ops Q rest (a.put o.dst v') w') : wpList P ops Q (o :: rest) a w :=
  wpList_plain hgd fun _ hK => append_op0_bus ho hs hx hr (hK _ _ h)
/-- is a core to let go of a line? -/
def BS.lows (S : BS) (l tq i : Nat) : Prop := i ≠ S.turn ∧ tq < (S.c i).st l
open Classical in
noncomputable def BS.lowAt (S : BS) (l tq i : Nat) : BS := if S.lows l tq i then (S.cput i ((S.c i).lowTo l tq)).wb ((S.c i).ln l) else S
noncomputable def BS.lowN (S : BS) (l tq : Nat) : Nat → BS
  | 0 => S
  | n + 1 => (S.lowN l tq n).lowAt l tq n
open Classical in
theorem lowAt_same (S : BS) (l tq i : Nat) : (S.lowAt l tq i).turn = S.turn ∧ (S.lowAt l tq i).nc = S.nc ∧ (S.lowAt l tq i).len = S.len ∧ ∀ j, j ≠ i → (S.lowAt l tq i).c j = S.c j := by
  unfold BS.lowAt
  split
  · exact ⟨rfl, rfl, rfl, fun j hj => if_neg hj⟩
  · exact ⟨rfl, rfl, rfl, fun _ _ => rfl⟩
theorem lowN_same (S : BS) (l tq : Nat) : ∀ n, (S.lowN l tq n).turn = S.turn ∧ (S.lowN l tq n).nc = S.nc ∧ (S.lowN l tq n).len = S.len ∧ ∀ j, n ≤ j → (S.lowN l tq n).c j = S.c j
  | 0 => ⟨rfl, rfl, rfl, fun _ _ => rfl⟩
  | n + 1 => by
    obtain ⟨a1, a2, a3, a4⟩ := lowN_same S l tq n
    obtain ⟨b1, b2, b3, b4⟩ := lowAt_same (S.lowN l tq n) l tq n
    exact ⟨b1.trans a1, b2.trans a2, b3.trans a3, fun j hj => (b4 j (by omega)).trans (a4 j (by omega))⟩
section
variable {x : World} {g : Bn} {F : Nat → Prop} {N : Nat} {S : BS}
/-- cells of the bus' own block, of its row of caches -/
theorem Bu.own (h : Bu x g F N S) : CellsAt 8 x g.p (bv g.rb g.rc g.mb g.mc g.nb g.ab S) ∧ CellsAt S.nc x g.rb (fun i => .pointer (some ⟨g.P i, 0, none⟩)) ∧ CellsAt S.len x g.mb (fun o => .int .u8 (S.mem o)) ∧ (1 ≤ S.nc ∧ S.nc ≤ 2 ∧ S.cyc ≤ 10 ∧ S.len ≤ 4096 ∧ S.len % 16 = 0 ∧ S.turn < S.nc ∧ S.tk ≤ 10) ∧ (S.nc ≤ g.rc ∧ S.len ≤ g.mc ∧ g.rc ≤ 9223372036854775807 ∧ g.mc ≤ 9223372036854775807) ∧ ∀ o, S.mem o < 256 := by
  obtain ⟨V, kn, ka, k, -⟩ := h
  exact ⟨k.c, k.row, k.m, k.sz, k.rm, k.m8⟩
end
end Go.Proofs.YtemamhkhjijdlaaGreatDoor
/-
  BUS: do.
-/
namespace Go.Proofs.YtemamhkhjijdlaaGreatDoor
open Go Go.RowKit
/-- the line that the core has itself goes first -/
noncomputable def BS.do2 (S : BS) (l : Nat) : BS := if (S.c S.turn).st l = 0 then S else S.cput S.turn ((S.c S.turn).lowTo l 0)
open Classical in
noncomputable def BS.then' (S : BS) (l : Nat) : Nat := if S.oth l S.nc then 1 else 2
noncomputable def BS.do3 (S : BS) (l : Nat) : BS := S.cput S.turn ((S.c S.turn).fill l (S.then' l) (fun t => S.mem (l - 65536 + t)))
noncomputable def BS.do4 (S : BS) (l : Nat) : BS := if (S.c S.turn).full l then (S.do3 l).wb ((S.c S.turn).left l) else S.do3 l
theorem do2_same (S : BS) (l : Nat) : (S.do2 l).turn = S.turn ∧ (S.do2 l).nc = S.nc ∧ (S.do2 l).len = S.len := by
  unfold BS.do2
  split <;> exact ⟨rfl, rfl, rfl⟩
section
variable {x : World} {g : Bn} {F : Nat → Prop} {N : Nat} {S : BS}
/-- all that do holds: the list of what it tells, the bus, the ask -/
structure Dz (x z : World) (g : Bn) (F G : Nat → Prop) (N bx l : Nat) (wr : Bool) (v : Value) (T : List Snp) (S : BS) : Prop where
  row : z.ownsRow (bx + 1) 219 4 v T.length (flatS T)
  u : Bu z g (fun j => ((F j ∨ j = bx) ∨ v.ownBlock = some j) ∨ G j) N S
  c : CellsAt 2 z bx (fun j => if j = 0 then .int .u32 l else .bool wr)
  t : Turned (fun j => ¬ F j) x z
  f : ∀ j, F j → j < bx
theorem Dz.bus {z w' : World} {G : Nat → Prop} {bx l : Nat} {wr : Bool} {v : Value} {T : List Snp} {S' : BS} (d : Dz x z g F G N bx l wr v T S) (u : Bu w' g (fun j => ((F j ∨ j = bx) ∨ v.ownBlock = some j) ∨ G j) N S') (t : Turned (fun j => ¬ (((F j ∨ j = bx) ∨ v.ownBlock = some j) ∨ G j)) z w') : Dz x w' g F G N bx l wr v T S' :=
  ⟨own_turned_bus d.row t (fun _ hj q => q (Or.inl (Or.inr hj))), u, t.cells d.c (fun q => q (Or.inl (Or.inl (Or.inr rfl)))), d.t.trans (t.mono (fun _ q f => q (Or.inl (Or.inl (Or.inl f))))), d.f⟩
theorem Dz.below {z w' : World} {G : Nat → Prop} {bx l : Nat} {wr : Bool} {v : Value} {T : List Snp} (d : Dz x z g F G N bx l wr v T S) (b : Below z.heap.size z w') : Dz x w' g F G N bx l wr v T S := d.bus (d.u.below b) (Turned.of_below b)
theorem Dz.more {z w' : World} {G G' : Nat → Prop} {bx l : Nat} {wr : Bool} {v : Value} {T : List Snp} (d : Dz x z g F G N bx l wr v T S) (b : Below z.heap.size z w') (hG : ∀ j, G' j → z.heap.size ≤ j ∧ j < w'.heap.size) : Dz x w' g F G' N bx l wr v T S := by
  have d2 := d.below b
  exact ⟨d2.row, (d.u.fresh b).less (fun j hj => by
    rcases hj with hj | hj
    · exact Or.inl (Or.inl hj)
    · exact Or.inr (hG j hj)), d2.c, d2.t, d2.f⟩
end
end Go.Proofs.YtemamhkhjijdlaaGreatDoor
