/-
  CACHE's LAW CacheSteps: the op's block; a line's block, made ahead of or behind a call.
-/
import Derived.Test.YtljmmepjknfmcaaDoorLe
namespace Go.Proofs.YtljmmepjknfmcaaDoor
open Go Go.RowKit
def ov4 (a b c d : Int) : Nat → Value
  | 0 => .int .i64 a
  | 1 => .int .i64 b
  | 2 => .int .i64 c
  | _ => .int .i64 d
theorem ov4_new (w : World) (a b c d : Int) : CellsAt 4 (w.alloc (.cells #[.int .i64 a, .int .i64 b, .int .i64 c, .int .i64 d] 35)) w.heap.size (ov4 a b c d) := by
  refine cells_new w fun i hi => ?_
  match i, hi with
  | 0, _ => rfl
  | 1, _ => rfl
  | 2, _ => rfl
  | 3, _ => rfl
theorem op_cells {x : World} {ob : Nat} {a b c d : Int} (h : CellsAt 4 x ob (ov4 a b c d)) : x.cell? ⟨ob, 2, none⟩ = some (.int .i64 c) ∧ x.cell? ⟨ob, 3, none⟩ = some (.int .i64 d) ∧ ob < x.heap.size :=
  ⟨h.cell 2 (by decide), h.cell 3 (by decide), h.here⟩
theorem op_cells0 {x : World} {ob : Nat} {a b c d : Int} (h : CellsAt 4 x ob (ov4 a b c d)) : x.cell? ⟨ob, 0, none⟩ = some (.int .i64 a) ∧ x.cell? ⟨ob, 1, none⟩ = some (.int .i64 b) ∧ x.cell? ⟨ob, 2, none⟩ = some (.int .i64 c) ∧ x.cell? ⟨ob, 3, none⟩ = some (.int .i64 d) ∧ ob < x.heap.size :=
  ⟨h.cell 0 (by decide), h.cell 1 (by decide), op_cells h⟩
/-- a block for a line that nobody holds yet -/
structure Fr (w0 y : World) (p h q m : Nat) (V : Nat → Value) (rv : Value) (b : Nat) : Prop where
  th : y.there b 0 18
  lt : b < y.heap.size
  lo : w0.heap.size ≤ b
  nm : ¬ mine p h m V b
  nq : b ≠ q
  nv : rv.ownBlock ≠ some b
section
variable {w0 x y : World} {p h c q m m' : Nat} {V V' : Nat → Value} {rv rv' : Value} {S : CS} {R : List Ln} {b : Nat}
theorem Fr.new (k : Lz w0 x p h c q V rv S R) (cs : Array Value) (hc : cs.size = 18) (t : TypeId) : Fr w0 (x.alloc (.cells cs t)) p h q S.n V rv x.heap.size := by
  refine ⟨fun j hj => ⟨?_, World.frozen?_alloc_at _ _ _ _ rfl⟩, by simp, k.low.size, fun e => by have := (k.mineLo _ e).2; omega, fun e => by have := k.rc.c.here; omega, fun e => by have := (k.rvLo _ e).2; omega⟩
  rw [World.cell?_alloc_new, Nat.zero_add, Array.getElem?_eq_getElem (by omega)]
  rfl
theorem Fr.below (f : Fr w0 x p h q m V rv b) (t : Below x.heap.size x y) : Fr w0 y p h q m V rv b :=
  ⟨there_turned f.th (Turned.of_below (Q := fun _ => False) t) f.lt (fun q => q), Nat.lt_of_lt_of_le f.lt t.size, f.lo, f.nm, f.nq, f.nv⟩
theorem Fr.onP (f : Fr w0 x p h q m V rv b) (t : Turned (mine p h m V) x y) (o : ∀ j, mine p h m' V' j → mine p h m V j ∨ x.heap.size ≤ j) : Fr w0 y p h q m' V' rv b :=
  ⟨there_turned f.th t f.lt f.nm, Nat.lt_of_lt_of_le f.lt t.size, f.lo, fun e => (o b e).elim f.nm (fun e => by have := f.lt; omega), f.nq, f.nv⟩
theorem Fr.onR (f : Fr w0 x p h q m V rv b) (t : Turned (fun j => j = q ∨ rv.ownBlock = some j) x y) (o : ∀ j, rv'.ownBlock = some j → rv.ownBlock = some j ∨ x.heap.size ≤ j) : Fr w0 y p h q m V rv' b :=
  ⟨there_turned f.th t f.lt (fun e => e.elim f.nq f.nv), Nat.lt_of_lt_of_le f.lt t.size, f.lo, f.nm, f.nq, fun e => (o b e).elim f.nv (fun e => by have := f.lt; omega)⟩
theorem Lz.put (k : Lz w0 x p h c q V rv S R) (f : Fr w0 x p h q S.n V rv b) (vs : List Value) : Lz w0 (x.setCells b 0 vs) p h c q V rv S R := by
  have t := turned_setCells (g := b) vs 0 x
  refine ⟨k.ch.turned t (fun e => f.nm (Or.inl e.symm)) (fun e => f.nm (Or.inr (Or.inl e.symm))) (fun i j hi hj e => f.nm (Or.inr (Or.inr ⟨i, hi, e ▸ hj⟩))), k.rc.turned t (fun e => f.nq e.symm) (fun j hj e => f.nv (e ▸ hj)), k.nq, k.nv, k.low.trans (t.below k.low.size (fun j e => by have := f.lo; omega))⟩
end
/-- what region 26 leaves: the program's Fill is done, its line laid -/
def M1 (w0 : World) (p h c q : Nat) (rv : Value) (R : List Ln) (ob : Nat) (ga gb gc : Int) (an : Nat) (l f er : Value) (y : World) : Prop :=
  ∃ (lb : Nat) (fl : Bool) (e : Int) (S' : CS) (R' : List Ln) (E : Ln) (V' : Nat → Value), l = .pointer (some ⟨lb, 0, none⟩) ∧ f = .bool fl ∧ er = errOf e ∧ Same S' R' ∧ E.a < 4294967296 ∧ (∀ t, t < 16 → E.b t < 256) ∧ (fl = true ↔ E.s ≠ 0) ∧ Lz w0 y p h c q V' rv S' R ∧ y.rangeAt lb 0 E.vs ∧ lb < y.heap.size ∧ ¬ (lb = q ∨ rv.ownBlock = some lb) ∧ CellsAt 4 y ob (ov4 3 ga gb gc) ∧ ∀ y V', Lz w0 y p h c q V' rv S' R → Calls Tryd.prog 15 #[.pointer (some ⟨q, 0, none⟩), .int .i64 an, .agg (bvs (mk gb)).toArray, .int .i64 gc] y (fun e1 z => e1 = .returned (.tuple #[.agg E.rv.toArray, .int .i64 e]) ∧ Turned (fun j => j = q ∨ rv.ownBlock = some j) y z ∧ ∃ rv', Lz w0 z p h c q V' rv' S' R' ∧ ∀ j, rv'.ownBlock = some j → rv.ownBlock = some j ∨ y.heap.size ≤ j)
/-- the program's Fill, whoever holds a line's block; stored behind it -/
theorem m1_fill {w0 x : World} {p h c q : Nat} {V : Nat → Value} {rv : Value} {S : CS} {R : List Ln} (k : Lz w0 x p h c q V rv S R) (H : Same S R) (ob : Nat) (ga gb gc : Int) (an : Nat) (ha : an < 4294967296) (hob : CellsAt 4 x ob (ov4 3 ga gb gc)) (hno : ¬ mine p h S.n V ob) : ∃ (E : Ln) (fl : Bool) (e : Int), Calls Tryd.prog 13 #[.pointer (some ⟨p, 0, none⟩), .int .u32 an, .agg (bvs (mk gb)).toArray, .int .i64 gc] x fun e1 y => e1 = .returned (.tuple #[.agg E.vs.toArray, .bool fl, errOf e]) ∧ CellsAt 4 y ob (ov4 3 ga gb gc) ∧ (∀ b, Fr w0 x p h q S.n V rv b → b ≠ ob → y.there b 0 18 ∧ CellsAt 4 (y.setCells b 0 E.vs) ob (ov4 3 ga gb gc) ∧ M1 w0 p h c q rv R ob ga gb gc an (.pointer (some ⟨b, 0, none⟩)) (.bool fl) (errOf e) (y.setCells b 0 E.vs)) ∧ ∀ (cs : Array Value) (t : TypeId), cs.size = 18 → (y.alloc (.cells cs t)).there y.heap.size 0 18 ∧ CellsAt 4 (y.alloc (.cells cs t)) ob (ov4 3 ga gb gc) ∧ CellsAt 4 ((y.alloc (.cells cs t)).setCells y.heap.size 0 E.vs) ob (ov4 3 ga gb gc) ∧ M1 w0 p h c q rv R ob ga gb gc an (.pointer (some ⟨y.heap.size, 0, none⟩)) (.bool fl) (errOf e) ((y.alloc (.cells cs t)).setCells y.heap.size 0 E.vs) := by
  obtain ⟨S', R', E, fl, e, hS', hEa, hEb, hfl, hB⟩ := both_fill k H an gc (mk gb) ha (mk_lt gb)
  have fin : ∀ (y : World) (V' : Nat → Value) (b : Nat), Lz w0 y p h c q V' rv S' R → Fr w0 y p h q S'.n V' rv b → b ≠ ob → CellsAt 4 y ob (ov4 3 ga gb gc) → CellsAt 4 (y.setCells b 0 E.vs) ob (ov4 3 ga gb gc) ∧ M1 w0 p h c q rv R ob ga gb gc an (.pointer (some ⟨b, 0, none⟩)) (.bool fl) (errOf e) (y.setCells b 0 E.vs) := by
    intro y V' b k' f hne ho
    have t := turned_setCells (g := b) E.vs 0 y
    have ho' := t.cells ho (fun e => hne e.symm)
    exact ⟨ho', b, fl, e, S', R', E, V', rfl, rfl, rfl, hS', hEa, hEb, hfl, k'.put f E.vs, World.rangeAt_setCells_same _ _ _ _ (by rw [Ln.len]; exact f.th), Nat.lt_of_lt_of_le f.lt t.size, fun a => a.elim f.nq f.nv, ho', hB.2⟩
  refine ⟨E, fl, e, hB.1.mono fun e1 y a => ?_⟩
  obtain ⟨a1, t, V', k', o⟩ := a
  have ho := t.cells hob hno
  refine ⟨a1, ho, fun b f hne => ?_, fun cs ty hc => ?_⟩
  · have f' := f.onP t o
    exact ⟨f'.th, fin y V' b k' f' hne ho⟩
  · have b2 : Below y.heap.size y (y.alloc (.cells cs ty)) := (Below.refl _ _).alloc (Nat.le_refl _) _
    have f' := Fr.new k' cs hc ty
    have ho2 := (Turned.of_below (Q := fun _ => False) b2).cells ho (fun q => q)
    have hb := ho.here
    have := fin _ V' _ (k'.below b2) f' (by omega) ho2
    exact ⟨f'.th, ho2, this.1, this.2⟩
/-- what region 27 leaves: both are done, both lines laid -/
def M2 (w0 : World) (p h c q : Nat) (l f er l2 er2 : Value) (y : World) : Prop :=
  ∃ (lb mb : Nat) (fl : Bool) (e : Int) (S' : CS) (R' : List Ln) (E : Ln) (V' : Nat → Value) (rv' : Value), l = .pointer (some ⟨lb, 0, none⟩) ∧ f = .bool fl ∧ er = errOf e ∧ l2 = .pointer (some ⟨mb, 0, none⟩) ∧ er2 = .int .i64 e ∧ Same S' R' ∧ E.a < 4294967296 ∧ (∀ t, t < 16 → E.b t < 256) ∧ (fl = true ↔ E.s ≠ 0) ∧ Lz w0 y p h c q V' rv' S' R' ∧ y.rangeAt lb 0 E.vs ∧ lb < y.heap.size ∧ y.rangeAt mb 0 E.rv ∧ mb < y.heap.size
theorem m2_fill {w0 x : World} {p h c q : Nat} {V' : Nat → Value} {rv : Value} {S' : CS} {R R' : List Ln} {E : Ln} {fl : Bool} {e : Int} {lb : Nat} (ob : Nat) (ga gb gc : Int) (an : Nat) (hS' : Same S' R') (hEa : E.a < 4294967296) (hEb : ∀ t, t < 16 → E.b t < 256) (hfl : fl = true ↔ E.s ≠ 0) (k : Lz w0 x p h c q V' rv S' R) (hr : x.rangeAt lb 0 E.vs) (hlb : lb < x.heap.size) (hnl : ¬ (lb = q ∨ rv.ownBlock = some lb)) (hob : CellsAt 4 x ob (ov4 3 ga gb gc)) (hno : ¬ (ob = q ∨ rv.ownBlock = some ob)) (hc : ∀ y V', Lz w0 y p h c q V' rv S' R → Calls Tryd.prog 15 #[.pointer (some ⟨q, 0, none⟩), .int .i64 an, .agg (bvs (mk gb)).toArray, .int .i64 gc] y (fun e1 z => e1 = .returned (.tuple #[.agg E.rv.toArray, .int .i64 e]) ∧ Turned (fun j => j = q ∨ rv.ownBlock = some j) y z ∧ ∃ rv', Lz w0 z p h c q V' rv' S' R' ∧ ∀ j, rv'.ownBlock = some j → rv.ownBlock = some j ∨ y.heap.size ≤ j)) : Calls Tryd.prog 15 #[.pointer (some ⟨q, 0, none⟩), .int .i64 an, .agg (bvs (mk gb)).toArray, .int .i64 gc] x fun e1 z => e1 = .returned (.tuple #[.agg E.rv.toArray, .int .i64 e]) ∧ CellsAt 4 z ob (ov4 3 ga gb gc) ∧ (∀ b, Fr w0 x p h q S'.n V' rv b → b ≠ ob → b ≠ lb → z.there b 0 18 ∧ CellsAt 4 (z.setCells b 0 E.rv) ob (ov4 3 ga gb gc) ∧ M2 w0 p h c q (.pointer (some ⟨lb, 0, none⟩)) (.bool fl) (errOf e) (.pointer (some ⟨b, 0, none⟩)) (.int .i64 e) (z.setCells b 0 E.rv)) ∧ ∀ (cs : Array Value) (t : TypeId), cs.size = 18 → (z.alloc (.cells cs t)).there z.heap.size 0 18 ∧ CellsAt 4 (z.alloc (.cells cs t)) ob (ov4 3 ga gb gc) ∧ CellsAt 4 ((z.alloc (.cells cs t)).setCells z.heap.size 0 E.rv) ob (ov4 3 ga gb gc) ∧ M2 w0 p h c q (.pointer (some ⟨lb, 0, none⟩)) (.bool fl) (errOf e) (.pointer (some ⟨z.heap.size, 0, none⟩)) (.int .i64 e) ((z.alloc (.cells cs t)).setCells z.heap.size 0 E.rv) := by
  have fin : ∀ (y : World) (rv' : Value) (b : Nat), Lz w0 y p h c q V' rv' S' R' → Fr w0 y p h q S'.n V' rv' b → b ≠ ob → b ≠ lb → CellsAt 4 y ob (ov4 3 ga gb gc) → y.rangeAt lb 0 E.vs → lb < y.heap.size → CellsAt 4 (y.setCells b 0 E.rv) ob (ov4 3 ga gb gc) ∧ M2 w0 p h c q (.pointer (some ⟨lb, 0, none⟩)) (.bool fl) (errOf e) (.pointer (some ⟨b, 0, none⟩)) (.int .i64 e) (y.setCells b 0 E.rv) := by
    intro y rv' b k' f hne hnl ho hr hl
    have t := turned_setCells (g := b) E.rv 0 y
    have ho' := t.cells ho (fun e => hne e.symm)
    exact ⟨ho', lb, b, fl, e, S', R', E, V', rv', rfl, rfl, rfl, rfl, rfl, hS', hEa, hEb, hfl, k'.put f E.rv, range_turned hr t hl (fun e => hnl e.symm), Nat.lt_of_lt_of_le hl t.size, World.rangeAt_setCells_same _ _ _ _ (by rw [Ln.rlen]; exact f.th), Nat.lt_of_lt_of_le f.lt t.size⟩
  refine (hc x V' k).mono fun e1 z a => ?_
  obtain ⟨a1, t, rv', k', o⟩ := a
  have ho := t.cells hob hno
  have hr' := range_turned hr t hlb hnl
  have hl' := Nat.lt_of_lt_of_le hlb t.size
  refine ⟨a1, ho, fun b f hne hnb => ?_, fun cs ty hcs => ?_⟩
  · have f' := f.onR t o
    exact ⟨f'.th, fin z rv' b k' f' hne hnb ho hr' hl'⟩
  · have b2 : Below z.heap.size z (z.alloc (.cells cs ty)) := (Below.refl _ _).alloc (Nat.le_refl _) _
    have f' := Fr.new k' cs hcs ty
    have t2 := Turned.of_below (Q := fun _ => False) b2
    have ho2 := t2.cells ho (fun q => q)
    have hb := ho.here
    have := fin _ rv' _ (k'.below b2) f' (by omega) (by omega) ho2 (range_turned hr' t2 hl' (fun q => q)) (Nat.lt_of_lt_of_le hl' b2.size)
    exact ⟨f'.th, ho2, this.1, this.2⟩
/-- what kind 3's second region holds all along -/
structure X2 (w0 x : World) (p h c q : Nat) (V' : Nat → Value) (rv : Value) (S' : CS) (R : List Ln) (lb : Nat) (E : Ln) (ob : Nat) (ga gb gc : Int) : Prop where
  lz : Lz w0 x p h c q V' rv S' R
  hr : x.rangeAt lb 0 E.vs
  hl : lb < x.heap.size
  nl : ¬ (lb = q ∨ rv.ownBlock = some lb)
  ob : CellsAt 4 x ob (ov4 3 ga gb gc)
theorem X2.below {w0 x y : World} {p h c q : Nat} {V' : Nat → Value} {rv : Value} {S' : CS} {R : List Ln} {lb : Nat} {E : Ln} {ob : Nat} {ga gb gc : Int} (k : X2 w0 x p h c q V' rv S' R lb E ob ga gb gc) (b : Below x.heap.size x y) : X2 w0 y p h c q V' rv S' R lb E ob ga gb gc :=
  ⟨k.lz.below b, range_turned k.hr (Turned.of_below (Q := fun _ => False) b) k.hl (fun q => q), Nat.lt_of_lt_of_le k.hl b.size, k.nl, (Turned.of_below (Q := fun _ => False) b).cells k.ob (fun q => q)⟩
theorem X2.drew {w0 x : World} {p h c q : Nat} {V' : Nat → Value} {rv : Value} {S' : CS} {R : List Ln} {lb : Nat} {E : Ln} {ob : Nat} {ga gb gc : Int} (k : X2 w0 x p h c q V' rv S' R lb E ob ga gb gc) : X2 w0 x.drew p h c q V' rv S' R lb E ob ga gb gc :=
  k.below (((Turned.refl (fun _ => False) x).drew).below (Nat.le_refl _) (fun _ q => q.elim))
theorem fl_is {fl : Bool} {s : Nat} (h : fl = true ↔ s ≠ 0) : Value.bool (fl == ((s : Int) != 0)) = .bool true := by
  by_cases hs : s = 0
  · have e : fl = false := by
      cases fl
      · rfl
      · exact absurd hs (h.1 rfl)
    subst e hs
    rfl
  · have e : fl = true := h.2 hs
    subst e
    simp [hs]
end Go.Proofs.YtljmmepjknfmcaaDoor
