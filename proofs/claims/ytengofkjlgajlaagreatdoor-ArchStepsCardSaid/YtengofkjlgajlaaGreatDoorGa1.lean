import Derived.Test.YtengofkjlgajlaaGreatDoorGx1
import Derived.Test.YtengofkjlgajlaaGreatDoorGp5
import Derived.Laws.AppendOwn
import Derived.Maps.AppendAt
import Derived.Deep.CutBlock
import Derived.Deep.DeepCutAuto
import Derived.BigQuiet
import Derived.Test.YtengofkjlgajlaaGreatDoorGh7
import Derived.Test.YtengofkjlgajlaaGreatDoorGh5
/-
  THE PROGRAM's MACHINE IN MEMORY; its data, read and written.
-/
namespace Go.Proofs.YtengofkjlgajlaaGreatDoor
open Go Go.RowKit
/-- of what was there nothing but the blocks of Q has turned -/
structure Turned (Q : Nat → Prop) (w w' : World) : Prop where
  os : w'.os = w.os
  tape : w'.tape = w.tape
  output : w'.output = w.output
  size : w.heap.size ≤ w'.heap.size
  block : ∀ k, k < w.heap.size → ¬ Q k → w'.heap[k]? = w.heap[k]?
theorem Turned.of_below {Q : Nat → Prop} {x y : World} (h : Below x.heap.size x y) : Turned Q x y := ⟨h.os, h.tape, h.output, h.size, fun k hk _ => h.block k hk⟩
theorem Turned.of_only {b : Nat} {x y : World} (h : Only b x y) : Turned (fun k => k = b) x y := ⟨h.os, h.tape, h.output, h.size, fun k hk hq => h.block k hk hq⟩
theorem Turned.trans {Q : Nat → Prop} {x y z : World} (h : Turned Q x y) (k : Turned Q y z) : Turned Q x z :=
  ⟨k.os.trans h.os, k.tape.trans h.tape, k.output.trans h.output, Nat.le_trans h.size k.size, fun i hi hb => (k.block i (Nat.lt_of_lt_of_le hi h.size) hb).trans (h.block i hi hb)⟩
theorem Turned.mono {Q R : Nat → Prop} {x y : World} (h : Turned Q x y) (k : ∀ i, Q i → R i) : Turned R x y := ⟨h.os, h.tape, h.output, h.size, fun i hi hb => h.block i hi (fun q => hb (k i q))⟩
theorem Turned.below {Q : Nat → Prop} {B : Nat} {x y : World} (h : Turned Q x y) (hB : B ≤ x.heap.size) (hb : ∀ k, Q k → B ≤ k) : Below B x y := ⟨h.os, h.tape, h.output, h.size, fun k hk => h.block k (by omega) (fun q => by have := hb k q; omega)⟩
theorem Turned.cells {Q : Nat → Prop} {c n : Nat} {x y : World} {f : Nat → Value} (h : Turned Q x y) (k : CellsAt n x c f) (hc : ¬ Q c) : CellsAt n y c f := by
  have hb := h.block c k.here hc
  exact ⟨Nat.lt_of_lt_of_le k.here h.size, fun i hi => (World.cell?_of_block (w := x) hb).trans (k.cell i hi), fun i => (World.frozen?_of_block (w := x) hb).trans (k.free i)⟩
theorem turned_grown {x y : World} {row : Option Nat} (h : x.grownBy y row) : Turned (fun k => row = some k) x y := ⟨h.os, h.tape, h.output, h.size, fun k hk hq => h.block k hk (fun e => hq e.symm)⟩
theorem own_turned {Q : Nat → Prop} {x y : World} {base : Nat} {e : TypeId} {size : Nat} {v : Value} {n : Nat} {xs : List Value} (h : x.ownsRow base e size v n xs) (c : Turned Q x y) (hq : ∀ k, v.ownBlock = some k → ¬ Q k) : y.ownsRow base e size v n xs := by
  obtain ⟨h1, h2⟩ := h
  refine ⟨h1, ?_⟩
  rcases h2 with h2 | ⟨g, cap, cur, a1, a2, a3, a4⟩
  · exact Or.inl h2
  · refine Or.inr ⟨g, cap, cur, a1, a2, ?_, a4⟩
    have hg : g < x.heap.size := by
      rcases Nat.lt_or_ge g x.heap.size with q | q
      · exact q
      · rw [Array.getElem?_eq_none q] at a3
        exact absurd a3 (by simp)
    rw [c.block g hg (hq g (by rw [a1]; rfl))]
    exact a3
theorem own_base {x : World} {base : Nat} {e : TypeId} {size : Nat} {v : Value} {n : Nat} {xs : List Value} (h : x.ownsRow base e size v n xs) : ∀ k, v.ownBlock = some k → base ≤ k ∧ k < x.heap.size := by
  obtain ⟨h1, h2⟩ := h
  intro k hk
  rcases h2 with ⟨rfl, _⟩ | ⟨g, cap, cur, rfl, a2, a3, a4⟩
  · exact absurd hk (by simp [Value.ownBlock])
  · simp [Value.ownBlock] at hk
    subst hk
    refine ⟨a2, ?_⟩
    rcases Nat.lt_or_ge g x.heap.size with q | q
    · exact q
    · rw [Array.getElem?_eq_none q] at a3
      exact absurd a3 (by simp)
/-- its five cells -/
def mv (hq : Nat) (dv ov : Value) (res : Int) (line : Bool) : Nat → Value
  | 0 => .pointer (some ⟨hq, 0, none⟩)
  | 1 => dv
  | 2 => ov
  | 3 => .int .u32 res
  | _ => .bool line
/-- a row of bytes, whatever they are -/
structure Bytes (w : World) (db len : Nat) : Prop where
  here : db < w.heap.size
  cell : ∀ o, o < len → ∃ x : Int, w.cell? ⟨db, o, none⟩ = some (.int .u8 x)
  free : ∀ o, w.frozen? ⟨db, o, none⟩ = false
theorem Bytes.turned {Q : Nat → Prop} {x y : World} {db len : Nat} (h : Bytes x db len) (t : Turned Q x y) (hq : ¬ Q db) : Bytes y db len := by
  have hb := t.block db h.here hq
  exact ⟨Nat.lt_of_lt_of_le h.here t.size, fun o ho => by obtain ⟨v, hv⟩ := h.cell o ho; exact ⟨v, (World.cell?_of_block (w := x) hb).trans hv⟩, fun o => (World.frozen?_of_block (w := x) hb).trans (h.free o)⟩
theorem Bytes.set {w : World} {db len : Nat} (h : Bytes w db len) (o : Nat) (v : Int) : Bytes (w.setCell ⟨db, o, none⟩ (.int .u8 v)) db len := by
  refine ⟨by simpa [World.setCell] using h.here, fun i hi => ?_, fun i => by rw [World.frozen?_setCell]; exact h.free i⟩
  obtain ⟨x, hx⟩ := h.cell i hi
  by_cases e : i = o
  · subst e
    exact ⟨v, World.cell?_setCell_same _ _ _ hx⟩
  · exact ⟨x, by rw [World.cell?_setCell_other _ _ _ _ (by intro q; exact e (congrArg Addr.off q).symm)]; exact hx⟩
end Go.Proofs.YtengofkjlgajlaaGreatDoor
/-
  THE MACHINE: the bytes that are asked for, read, written.
-/
namespace Go.Proofs.YtengofkjlgajlaaGreatDoor
open Go Go.RowKit
theorem boxW4 (w : World) (x y z u : Value) (t : TypeId) : ∃ X, w.alloc (.cells #[x, y, z, u] t) = X ∧ Below w.heap.size w X ∧ X.cell? ⟨w.heap.size, 0, none⟩ = some x ∧ X.cell? ⟨w.heap.size, 1, none⟩ = some y ∧ X.cell? ⟨w.heap.size, 2, none⟩ = some z ∧ X.cell? ⟨w.heap.size, 3, none⟩ = some u ∧ w.heap.size < X.heap.size :=
  ⟨_, rfl, (Below.refl _ _).alloc (Nat.le_refl _) _, by rw [World.cell?_alloc_new]; rfl, by rw [World.cell?_alloc_new]; rfl, by rw [World.cell?_alloc_new]; rfl, by rw [World.cell?_alloc_new]; rfl, by simp⟩
def qV (op ad sz da : Int) : Value := .agg #[.int .i64 op, .int .u32 ad, .int .i64 sz, .int .u32 da]
set_option maxHeartbeats 1000000 in
theorem mbytes_any (p db len dc : Nat) (op : Int) (ad : Int) (at' sz : Nat) (da : Int) (w : World) (hp : p < w.heap.size) (c1 : w.cell? ⟨p, 1, none⟩ = some (.slice (some ⟨db, 0, none⟩) len dc)) (had : ad = ((65536 + at' : Nat) : Int)) (hin : at' + sz ≤ len) (hs0 : 0 < sz) (hlc : len ≤ dc) (hl : len ≤ 4096) : Calls Tryz.prog 95 #[.pointer (some ⟨p, 0, none⟩), qV op ad sz da] w fun e w' => e = .returned (.slice (some ⟨db, at', none⟩) sz (dc - at')) ∧ Below w.heap.size w w' := by
  have hp1 : p < w.heap.size + 1 := by omega
  have h1 : (ad - 65536) % 4294967296 = (at' : Int) := by omega
  obtain ⟨hi, hhi⟩ : ∃ hi, at' + sz = hi := ⟨_, rfl⟩
  have h3 : (at' : Int) + (sz : Int) = (hi : Int) := by omega
  have h4 : (hi : Int) ≤ (dc : Int) := by omega
  have h5 : (at' : Int) ≤ (hi : Int) := by omega
  have HE : Hid (hi - at' = sz) := by show hi - at' = sz; omega
  have hh : hi ≤ 4096 := by omega
  have hne : ¬ dc = at' := by omega
  clear had hhi hin hlc hs0
  unfold qV
  go_enter Tryz.func95, Tryz.ntmps95
  go_upto_region 2 with fail
  go_quiet (fail)
  go_wp2
  go_ret
  refine ⟨?_, below_drewN ((Below.refl _ _).alloc (Nat.le_refl _) _) _⟩
  show Ending.returned (Value.slice _ (hi - at') _) = _
  rw [HE.out]
end Go.Proofs.YtengofkjlgajlaaGreatDoor
/-
  THE PROGRAM's MACHINE IN MEMORY.
-/
namespace Go.Proofs.YtengofkjlgajlaaGreatDoor
open Go Go.RowKit
theorem CodeAt.turned {Q : Nat → Prop} {x y : World} {cb co n : Nat} {f : Nat → Int} (h : CodeAt x cb co n f) (t : Turned Q x y) (hq : ¬ Q cb) : CodeAt y cb co n f := by
  have hb := t.block cb h.here hq
  exact ⟨Nat.lt_of_lt_of_le h.here t.size, fun i hi => (World.cell?_of_block (w := x) hb).trans (h.cell i hi), h.word⟩
/-- the machine: its block, its hart, its own copies of code and data, its device -/
structure Mw (w0 w : World) (B p hq cg n cap : Nat) (dv ov : Value) (S : HS) (len ol : Nat) (f : Nat → Int) : Prop where
  c : ∃ res, CellsAt 5 w p (mv hq dv ov res false)
  h : PH w hq (.slice (some ⟨cg, 0, none⟩) n cap) S
  code : CodeAt w cg 0 n f
  d : (len = 0 ∧ dv.ownBlock = none) ∨ ∃ db dc, dv = .slice (some ⟨db, 0, none⟩) len dc ∧ len ≤ dc ∧ Bytes w db len ∧ db ≠ p ∧ db ≠ hq ∧ db ≠ cg ∧ ov.ownBlock ≠ some db ∧ B ≤ db
  o : ∃ l, w.ownsRow B 5 1 ov ol l
  n1 : p ≠ hq ∧ p ≠ cg ∧ hq ≠ cg
  n2 : ov.ownBlock ≠ some p ∧ ov.ownBlock ≠ some hq ∧ ov.ownBlock ≠ some cg
  lo : B ≤ p ∧ B ≤ hq ∧ B ≤ cg
  low : Below B w0 w
section
variable {w0 w w' : World} {B p hq cg n cap len ol : Nat} {dv ov : Value} {S S' : HS} {f : Nat → Int}
theorem Mw.below (k : Mw w0 w B p hq cg n cap dv ov S len ol f) (hb : Below w.heap.size w w') : Mw w0 w' B p hq cg n cap dv ov S len ol f := by
  have t : Turned (fun _ => False) w w' := Turned.of_below hb
  obtain ⟨res, c⟩ := k.c
  obtain ⟨l, o⟩ := k.o
  refine ⟨⟨res, c.below hb⟩, k.h.below hb, k.code.below hb, ?_, ⟨l, own_turned o t (fun _ _ q => q)⟩, k.n1, k.n2, k.lo, k.low.trans (hb.mono (Nat.le_trans k.lo.1 (Nat.le_of_lt c.here)))⟩
  rcases k.d with h | ⟨db, dc, h1, h2, h3, h4⟩
  · exact Or.inl h
  · exact Or.inr ⟨db, dc, h1, h2, h3.turned t (fun q => q), h4⟩
theorem Mw.hart (k : Mw w0 w B p hq cg n cap dv ov S len ol f) (t : Only hq w w') (h : PH w' hq (.slice (some ⟨cg, 0, none⟩) n cap) S') : Mw w0 w' B p hq cg n cap dv ov S' len ol f := by
  have t := Turned.of_only t
  obtain ⟨res, c⟩ := k.c
  obtain ⟨l, o⟩ := k.o
  refine ⟨⟨res, t.cells c k.n1.1⟩, h, k.code.turned t (fun e => k.n1.2.2 e.symm), ?_, ⟨l, own_turned o t (fun j hj e => k.n2.2.1 (by rw [hj, e]))⟩, k.n1, k.n2, k.lo, k.low.trans (t.below (Nat.le_trans k.lo.1 (Nat.le_of_lt c.here)) (fun j hj => by rw [hj]; exact k.lo.2.1))⟩
  rcases k.d with h | ⟨db, dc, h1, h2, h3, h4, h5, h6⟩
  · exact Or.inl h
  · exact Or.inr ⟨db, dc, h1, h2, h3.turned t h5, h4, h5, h6⟩
theorem Mw.dat (k : Mw w0 w B p hq cg n cap dv ov S len ol f) {db dc : Nat} (h1 : dv = .slice (some ⟨db, 0, none⟩) len dc) (h2 : len ≤ dc) (h4 : db ≠ p ∧ db ≠ hq ∧ db ≠ cg ∧ ov.ownBlock ≠ some db ∧ B ≤ db) (t : Only db w w') (hb : Bytes w' db len) : Mw w0 w' B p hq cg n cap dv ov S len ol f := by
  have t := Turned.of_only t
  obtain ⟨res, c⟩ := k.c
  obtain ⟨l, o⟩ := k.o
  exact ⟨⟨res, t.cells c (fun e => h4.1 e.symm)⟩, t.cells k.h (fun e => h4.2.1 e.symm), k.code.turned t (fun e => h4.2.2.1 e.symm), Or.inr ⟨db, dc, h1, h2, hb, h4⟩, ⟨l, own_turned o t (fun j hj e => h4.2.2.2.1 (by rw [hj, e]))⟩, k.n1, k.n2, k.lo, k.low.trans (t.below (Nat.le_trans k.lo.1 (Nat.le_of_lt c.here)) (fun j hj => by rw [hj]; exact h4.2.2.2.2))⟩
theorem mv_res (hq : Nat) (dv ov : Value) (res : Int) (line : Bool) (v : Int) : upd (mv hq dv ov res line) 3 (.int .u32 v) = mv hq dv ov v line := by
  funext o
  unfold upd mv
  match o with
  | 0 => rfl
  | 1 => rfl
  | 2 => rfl
  | 3 => rfl
  | _ + 4 => rfl
theorem mv_out (hq : Nat) (dv ov : Value) (res : Int) (line : Bool) (v : Value) : upd (mv hq dv ov res line) 2 v = mv hq dv v res line := by
  funext o
  unfold upd mv
  match o with
  | 0 => rfl
  | 1 => rfl
  | 2 => rfl
  | 3 => rfl
  | _ + 4 => rfl
theorem Mw.res (k : Mw w0 w B p hq cg n cap dv ov S len ol f) (v : Int) : Mw w0 (w.setCell ⟨p, 3, none⟩ (.int .u32 v)) B p hq cg n cap dv ov S len ol f := by
  have t := Turned.of_only ((Only.refl p w).set 3 (.int .u32 v))
  obtain ⟨res, c⟩ := k.c
  obtain ⟨l, o⟩ := k.o
  refine ⟨⟨v, (c.set 3 (by decide) _).to (mv_res _ _ _ _ _ _)⟩, t.cells k.h (fun e => k.n1.1 e.symm), k.code.turned t (fun e => k.n1.2.1 e.symm), ?_, ⟨l, own_turned o t (fun j hj e => k.n2.1 (by rw [hj, e]))⟩, k.n1, k.n2, k.lo, k.low.trans (t.below (Nat.le_trans k.lo.1 (Nat.le_of_lt c.here)) (fun j hj => by rw [hj]; exact k.lo.1))⟩
  rcases k.d with h | ⟨db, dc, h1, h2, h3, h4, h6⟩
  · exact Or.inl h
  · exact Or.inr ⟨db, dc, h1, h2, h3.turned t h4, h4, h6⟩
theorem Mw.other (k : Mw w0 w B p hq cg n cap dv ov S len ol f) {z : Nat} (t : Turned (fun j => j = z) w w') (h1 : p ≠ z) (h2 : hq ≠ z) (h3 : cg ≠ z) (h4 : dv.ownBlock ≠ some z) (h5 : ov.ownBlock ≠ some z) (h6 : B ≤ z) : Mw w0 w' B p hq cg n cap dv ov S len ol f := by
  obtain ⟨res, c⟩ := k.c
  obtain ⟨l, o⟩ := k.o
  refine ⟨⟨res, t.cells c h1⟩, t.cells k.h h2, k.code.turned t h3, ?_, ⟨l, own_turned o t (fun j hj e => h5 (by rw [hj, e]))⟩, k.n1, k.n2, k.lo, k.low.trans (t.below (Nat.le_trans k.lo.1 (Nat.le_of_lt c.here)) (fun j hj => by rw [hj]; exact h6))⟩
  rcases k.d with h | ⟨db, dc, e1, e2, e3, e4⟩
  · exact Or.inl h
  · exact Or.inr ⟨db, dc, e1, e2, e3.turned t (fun e => h4 (by rw [e1, ← e]; rfl)), e4⟩
/-- a row is where it was, or in a new block -/
def Fr (ov ov' : Value) (m : Nat) : Prop := ov'.ownBlock = ov.ownBlock ∨ ∃ g, ov'.ownBlock = some g ∧ m ≤ g
theorem Fr.mono {ov ov' : Value} {m m' : Nat} (h : Fr ov ov' m) (hm : m' ≤ m) : Fr ov ov' m' := h.elim Or.inl (fun ⟨g, h1, h2⟩ => Or.inr ⟨g, h1, by omega⟩)
/-- its device has grown -/
theorem Mw.out (k : Mw w0 w B p hq cg n cap dv ov S len ol f) {y : World} {v' : Value} {l' : List Value} (hp : p < w.heap.size ∧ hq < w.heap.size ∧ cg < w.heap.size ∧ ∀ db, Bytes w db len → db < w.heap.size) (t : Turned (fun j => ov.ownBlock = some j) w y) (ho : y.ownsRow B 5 1 v' (ol + 1) l') (hv : v'.ownBlock = ov.ownBlock ∨ v'.ownBlock = some w.heap.size) : Mw w0 (y.setCell ⟨p, 2, none⟩ v') B p hq cg n cap dv v' S len (ol + 1) f := by
  obtain ⟨res, c⟩ := k.c
  have c' := t.cells c k.n2.1
  have ne : ∀ j, j < w.heap.size → ov.ownBlock ≠ some j → v'.ownBlock ≠ some j := fun j hj h e => by
    rcases hv with q | q
    · exact h (by rw [← q]; exact e)
    · rw [q] at e
      have := Option.some.inj e
      omega
  have t2 := Turned.of_only ((Only.refl p y).set 2 v')
  have hBw : B ≤ w.heap.size := Nat.le_trans k.lo.1 (Nat.le_of_lt hp.1)
  have vp := ne p hp.1 k.n2.1
  refine ⟨⟨res, (c'.set 2 (by decide) _).to (mv_out _ _ _ _ _ _)⟩, t2.cells (t.cells k.h k.n2.2.1) (fun e => k.n1.1 e.symm), (k.code.turned t k.n2.2.2).turned t2 (fun e => k.n1.2.1 e.symm), ?_, ⟨l', own_turned ho t2 (fun j hj e => vp (by rw [hj, e]))⟩, k.n1, ⟨vp, ne hq hp.2.1 k.n2.2.1, ne cg hp.2.2.1 k.n2.2.2⟩, k.lo, (k.low.trans (t.below hBw (fun j hj => (own_base k.o.choose_spec j hj).1))).trans (t2.below (Nat.le_trans hBw t.size) (fun j hj => by rw [hj]; exact k.lo.1))⟩
  rcases k.d with h | ⟨db, dc, h1, h2, h3, h4, h5, h6, h7, h8⟩
  · exact Or.inl h
  · exact Or.inr ⟨db, dc, h1, h2, (h3.turned t h7).turned t2 h4, h4, h5, h6, ne db (hp.2.2.2 db h3) h7, h8⟩
end
end Go.Proofs.YtengofkjlgajlaaGreatDoor
