import Derived.Test.YtnlagbiikpbjdaaGreatDoorXu1
import Derived.Test.YtnlagbiikpbjdaaGreatDoorQb
import Derived.Laws.AppendOwn
import Derived.Maps.AppendAt
import Derived.Deep.CutBlock
import Derived.Deep.DeepCutAuto
import Derived.BigQuiet
import Derived.Test.YtnlagbiikpbjdaaGreatDoorHr
import Derived.Test.YtnlagbiikpbjdaaGreatDoorHl
import Derived.Deep.RegionHeld3
import Derived.RegionTactic
/-
  THE PROGRAM's MACHINE IN MEMORY; its data, read and written.
-/
namespace Go.Proofs.YtnlagbiikpbjdaaGreatDoor
open Go Go.RowKit
/-- of what was there nothing but the blocks of Q has turned -/
structure Turned (Q : Nat → Prop) (w w' : World) : Prop where
  os : w'.os = w.os
  tape : w'.tape = w.tape
  output : w'.output = w.output
  size : w.heap.size ≤ w'.heap.size
  block : ∀ k, k < w.heap.size → ¬ Q k → w'.heap[k]? = w.heap[k]?
theorem Turned.of_below {Q : Nat → Prop} {x y : World} (h : Below x.heap.size x y) : Turned Q x y := ⟨h.os, h.tape, h.output, h.size, fun k hk _ => h.block k hk⟩
theorem Turned.of_only {b : Nat} {x y : World} (h : Only b x y) : Turned (fun k => k = b) x y := ⟨h.os, h.tape, h.output, h.size, fun k hk hq => h.block k hk hq⟩
theorem Turned.trans {Q : Nat → Prop} {x y z : World} (h : Turned Q x y) (k : Turned Q y z) : Turned Q x z :=
  ⟨k.os.trans h.os, k.tape.trans h.tape, k.output.trans h.output, Nat.le_trans h.size k.size, fun i hi hb => (k.block i (Nat.lt_of_lt_of_le hi h.size) hb).trans (h.block i hi hb)⟩
theorem Turned.mono {Q R : Nat → Prop} {x y : World} (h : Turned Q x y) (k : ∀ i, Q i → R i) : Turned R x y := ⟨h.os, h.tape, h.output, h.size, fun i hi hb => h.block i hi (fun q => hb (k i q))⟩
theorem Turned.below {Q : Nat → Prop} {B : Nat} {x y : World} (h : Turned Q x y) (hB : B ≤ x.heap.size) (hb : ∀ k, Q k → B ≤ k) : Below B x y := ⟨h.os, h.tape, h.output, h.size, fun k hk => h.block k (by omega) (fun q => by have := hb k q; omega)⟩
theorem Turned.cells {Q : Nat → Prop} {c n : Nat} {x y : World} {f : Nat → Value} (h : Turned Q x y) (k : CellsAt n x c f) (hc : ¬ Q c) : CellsAt n y c f := by
  have hb := h.block c k.here hc
  exact ⟨Nat.lt_of_lt_of_le k.here h.size, fun i hi => (World.cell?_of_block (w := x) hb).trans (k.cell i hi), fun i => (World.frozen?_of_block (w := x) hb).trans (k.free i)⟩
theorem turned_grown {x y : World} {row : Option Nat} (h : x.grownBy y row) : Turned (fun k => row = some k) x y := ⟨h.os, h.tape, h.output, h.size, fun k hk hq => h.block k hk (fun e => hq e.symm)⟩
theorem own_turned {Q : Nat → Prop} {x y : World} {base : Nat} {e : TypeId} {size : Nat} {v : Value} {n : Nat} {xs : List Value} (h : x.ownsRow base e size v n xs) (c : Turned Q x y) (hq : ∀ k, v.ownBlock = some k → ¬ Q k) : y.ownsRow base e size v n xs := by
  obtain ⟨h1, h2⟩ := h
  refine ⟨h1, ?_⟩
  rcases h2 with h2 | ⟨g, cap, cur, a1, a2, a3, a4⟩
  · exact Or.inl h2
  · refine Or.inr ⟨g, cap, cur, a1, a2, ?_, a4⟩
    have hg : g < x.heap.size := by
      rcases Nat.lt_or_ge g x.heap.size with q | q
      · exact q
      · rw [Array.getElem?_eq_none q] at a3
        exact absurd a3 (by simp)
    rw [c.block g hg (hq g (by rw [a1]; rfl))]
    exact a3
theorem own_base {x : World} {base : Nat} {e : TypeId} {size : Nat} {v : Value} {n : Nat} {xs : List Value} (h : x.ownsRow base e size v n xs) : ∀ k, v.ownBlock = some k → base ≤ k ∧ k < x.heap.size := by
  obtain ⟨h1, h2⟩ := h
  intro k hk
  rcases h2 with ⟨rfl, _⟩ | ⟨g, cap, cur, rfl, a2, a3, a4⟩
  · exact absurd hk (by simp [Value.ownBlock])
  · simp [Value.ownBlock] at hk
    subst hk
    refine ⟨a2, ?_⟩
    rcases Nat.lt_or_ge g x.heap.size with q | q
    · exact q
    · rw [Array.getElem?_eq_none q] at a3
      exact absurd a3 (by simp)
/-- its five cells -/
def mv (hq : Nat) (dv ov : Value) (res : Int) (line : Bool) : Nat → Value
  | 0 => .pointer (some ⟨hq, 0, none⟩)
  | 1 => dv
  | 2 => ov
  | 3 => .int .u32 res
  | _ => .bool line
/-- a row of bytes, whatever they are -/
structure Bytes (w : World) (db len : Nat) : Prop where
  here : db < w.heap.size
  cell : ∀ o, o < len → ∃ x : Int, w.cell? ⟨db, o, none⟩ = some (.int .u8 x)
  free : ∀ o, w.frozen? ⟨db, o, none⟩ = false
theorem Bytes.turned {Q : Nat → Prop} {x y : World} {db len : Nat} (h : Bytes x db len) (t : Turned Q x y) (hq : ¬ Q db) : Bytes y db len := by
  have hb := t.block db h.here hq
  exact ⟨Nat.lt_of_lt_of_le h.here t.size, fun o ho => by obtain ⟨v, hv⟩ := h.cell o ho; exact ⟨v, (World.cell?_of_block (w := x) hb).trans hv⟩, fun o => (World.frozen?_of_block (w := x) hb).trans (h.free o)⟩
theorem Bytes.set {w : World} {db len : Nat} (h : Bytes w db len) (o : Nat) (v : Int) : Bytes (w.setCell ⟨db, o, none⟩ (.int .u8 v)) db len := by
  refine ⟨by simpa [World.setCell] using h.here, fun i hi => ?_, fun i => by rw [World.frozen?_setCell]; exact h.free i⟩
  obtain ⟨x, hx⟩ := h.cell i hi
  by_cases e : i = o
  · subst e
    exact ⟨v, World.cell?_setCell_same _ _ _ hx⟩
  · exact ⟨x, by rw [World.cell?_setCell_other _ _ _ _ (by intro q; exact e (congrArg Addr.off q).symm)]; exact hx⟩
end Go.Proofs.YtnlagbiikpbjdaaGreatDoor
/-
  THE MACHINE: the bytes that are asked for, read, written.
-/
namespace Go.Proofs.YtnlagbiikpbjdaaGreatDoor
open Go Go.RowKit
theorem boxW4 (w : World) (x y z u : Value) (t : TypeId) : ∃ X, w.alloc (.cells #[x, y, z, u] t) = X ∧ Below w.heap.size w X ∧ X.cell? ⟨w.heap.size, 0, none⟩ = some x ∧ X.cell? ⟨w.heap.size, 1, none⟩ = some y ∧ X.cell? ⟨w.heap.size, 2, none⟩ = some z ∧ X.cell? ⟨w.heap.size, 3, none⟩ = some u ∧ w.heap.size < X.heap.size :=
  ⟨_, rfl, (Below.refl _ _).alloc (Nat.le_refl _) _, by rw [World.cell?_alloc_new]; rfl, by rw [World.cell?_alloc_new]; rfl, by rw [World.cell?_alloc_new]; rfl, by rw [World.cell?_alloc_new]; rfl, by simp⟩
def qV (op ad sz da : Int) : Value := .agg #[.int .i64 op, .int .u32 ad, .int .i64 sz, .int .u32 da]
set_option maxHeartbeats 1000000 in
theorem mbytes_any (p db len dc : Nat) (op : Int) (ad : Int) (at' sz : Nat) (da : Int) (w : World) (hp : p < w.heap.size) (c1 : w.cell? ⟨p, 1, none⟩ = some (.slice (some ⟨db, 0, none⟩) len dc)) (had : ad = ((65536 + at' : Nat) : Int)) (hin : at' + sz ≤ len) (hs0 : 0 < sz) (hlc : len ≤ dc) (hl : len ≤ 4096) : Calls Tryz.prog 76 #[.pointer (some ⟨p, 0, none⟩), qV op ad sz da] w fun e w' => e = .returned (.slice (some ⟨db, at', none⟩) sz (dc - at')) ∧ Below w.heap.size w w' := by
  have hp1 : p < w.heap.size + 1 := by omega
  have h1 : (ad - 65536) % 4294967296 = (at' : Int) := by omega
  obtain ⟨hi, hhi⟩ : ∃ hi, at' + sz = hi := ⟨_, rfl⟩
  have h3 : (at' : Int) + (sz : Int) = (hi : Int) := by omega
  have h4 : (hi : Int) ≤ (dc : Int) := by omega
  have h5 : (at' : Int) ≤ (hi : Int) := by omega
  have HE : Hid (hi - at' = sz) := by show hi - at' = sz; omega
  have hh : hi ≤ 4096 := by omega
  have hne : ¬ dc = at' := by omega
  clear had hhi hin hlc hs0
  unfold qV
  go_enter Tryz.func76, Tryz.ntmps76
  go_upto_region 2 with fail
  go_quiet (fail)
  go_wp2
  go_ret
  refine ⟨?_, below_drewN ((Below.refl _ _).alloc (Nat.le_refl _) _) _⟩
  show Ending.returned (Value.slice _ (hi - at') _) = _
  rw [HE.out]
set_option maxHeartbeats 1000000 in
theorem mread_any (p db len dc : Nat) (op : Int) (ad : Int) (at' sz : Nat) (da : Int) (w : World) (hp : p < w.heap.size) (c1 : w.cell? ⟨p, 1, none⟩ = some (.slice (some ⟨db, 0, none⟩) len dc)) (hb : Bytes w db len) (had : ad = ((65536 + at' : Nat) : Int)) (hin : at' + sz ≤ len) (hs0 : 0 < sz) (hlc : len ≤ dc) (hl : len ≤ 4096) (hs4 : sz ≤ 4) : Calls Tryz.prog 45 #[.pointer (some ⟨p, 0, none⟩), qV op ad sz da] w fun e w' => (∃ v : Int, U32 v ∧ e = .returned (.int .u32 v)) ∧ Below w.heap.size w w' := by
  have HB : Hid (∀ x, Below w.heap.size w x → Calls Tryz.prog 76 #[.pointer (some ⟨p, 0, none⟩), .agg #[.int .i64 op, .int .u32 ad, .int .i64 sz, .int .u32 da]] x fun e w' => e = .returned (.slice (some ⟨db, at', none⟩) sz (dc - at')) ∧ Below x.heap.size x w') := fun x hx => mbytes_any p db len dc op ad at' sz da x (Nat.lt_of_lt_of_le hp hx.size) ((hx.cell (p := ⟨p, 1, none⟩) hp).trans c1) had hin hs0 hlc hl
  have HC : Hid (∀ x, Below w.heap.size w x → ∀ o, o < sz → ∃ v : Int, x.cell? ⟨db, at' + o, none⟩ = some (.int .u8 v)) := fun x hx o ho => by
    obtain ⟨v, hv⟩ := hb.cell (at' + o) (by omega)
    exact ⟨v, (hx.cell (p := ⟨db, at' + o, none⟩) hb.here).trans hv⟩
  have HD : Hid (∀ x, Below w.heap.size w x → db < x.heap.size) := fun x hx => Nat.lt_of_lt_of_le hb.here hx.size
  have hsz : sz ≤ 4096 := by omega
  clear c1 hb had hin hlc hl hp hs0
  unfold qV
  go_enter Tryz.func45, Tryz.ntmps45
  go_wp2_with (go_at_call 76; refine (HB.out _ ((Below.refl _ _).alloc (Nat.le_refl _) _)).mono ?_; rintro e x1 ⟨rfl, hb1⟩; have HX1 := Hid.in (below2 ((Below.refl _ _).alloc (Nat.le_refl _) _) hb1); clear hb1)
  go_loopw [5, 12] (fun v i wr => ∃ (k : Nat) (y : Int), v = .int .u32 y ∧ i = .int .i64 k ∧ k ≤ sz ∧ wr = x1 ∧ U32 y) (fun _ i _ => 5000 - (intOf i).toNat)
  case atStart => exact ⟨0, 0, rfl, rfl, Nat.zero_le _, rfl, by decide, by decide⟩
  case round =>
    obtain ⟨k, y, rfl, rfl, hk, rfl, hy⟩ := hrel
    have HY := Hid.in hy
    clear hy
    by_cases hlt : k < sz
    · have hlt' : (k : Int) < (sz : Int) := by omega
      obtain ⟨bv, hbv⟩ := HC.out _ HX1.out k hlt
      have hdb := HD.out _ HX1.out
      have hk4 : k < 4 := by omega
      go_wp2
      go_roundw
      case rel => exact ⟨k + 1, _, rfl, by simp, by omega, by simp, u32_bits .or _ _⟩
      case measure =>
        simp [intOf]
        omega
    · have hlt' : ¬ (k : Int) < (sz : Int) := by omega
      go_wp2
      go_ret
      exact ⟨⟨_, HY.out, rfl⟩, HX1.out⟩
set_option maxHeartbeats 1000000 in
theorem mwrite_any (p db len dc : Nat) (op : Int) (ad : Int) (at' sz : Nat) (da vv : Int) (w : World) (hp : p < w.heap.size) (c1 : w.cell? ⟨p, 1, none⟩ = some (.slice (some ⟨db, 0, none⟩) len dc)) (hb : Bytes w db len) (had : ad = ((65536 + at' : Nat) : Int)) (hin : at' + sz ≤ len) (hs0 : 0 < sz) (hlc : len ≤ dc) (hl : len ≤ 4096) (hs4 : sz ≤ 4) : Calls Tryz.prog 77 #[.pointer (some ⟨p, 0, none⟩), qV op ad sz da, .int .u32 vv] w fun e w' => e = .returned (.tuple #[]) ∧ Only db w w' ∧ Bytes w' db len := by
  have HB : Hid (∀ x, Below w.heap.size w x → Calls Tryz.prog 76 #[.pointer (some ⟨p, 0, none⟩), .agg #[.int .i64 op, .int .u32 ad, .int .i64 sz, .int .u32 da]] x fun e w' => e = .returned (.slice (some ⟨db, at', none⟩) sz (dc - at')) ∧ Below x.heap.size x w') := fun x hx => mbytes_any p db len dc op ad at' sz da x (Nat.lt_of_lt_of_le hp hx.size) ((hx.cell (p := ⟨p, 1, none⟩) hp).trans c1) had hin hs0 hlc hl
  have HBY := Hid.in hb
  have HIN := Hid.in hin
  clear c1 hb had hlc hl hp hin hs0
  unfold qV
  go_enter Tryz.func77, Tryz.ntmps77
  go_wp2_with (go_at_call 76; refine (HB.out _ ((Below.refl _ _).alloc (Nat.le_refl _) _)).mono ?_; rintro e x1 ⟨rfl, hb1⟩; have HX1 := Hid.in (below2 ((Below.refl _ _).alloc (Nat.le_refl _) _) hb1); clear hb1)
  go_loopw [13] (fun i wr => ∃ k : Nat, i = .int .i64 k ∧ k ≤ sz ∧ Only db w wr ∧ Bytes wr db len) (fun i _ => 5 - (intOf i).toNat)
  case atStart => exact ⟨0, rfl, Nat.zero_le _, Only.of_below HX1.out, HBY.out.turned (Q := fun _ => False) (Turned.of_below HX1.out) (fun q => q)⟩
  case round =>
    obtain ⟨k, rfl, hk, hO, hB⟩ := hrel
    have HO := Hid.in hO
    have HBB := Hid.in hB
    by_cases hlt : k < sz
    · have hlt' : (k : Int) < (sz : Int) := by omega
      obtain ⟨bv, hbv⟩ := hB.cell (at' + k) (by have := HIN.out; omega)
      have hdb := hB.here
      have hfr := hB.free (at' + k)
      have hk4 : k < 4 := by omega
      clear hO hB
      go_wp2
      go_roundw
      case rel => exact ⟨k + 1, by simp, by omega, HO.out.set _ _, HBB.out.set _ _⟩
      case measure =>
        simp [intOf]
        omega
    · have hlt' : ¬ (k : Int) < (sz : Int) := by omega
      clear hO hB
      go_wp2
      exact bodyPost_end (results_none Tryz.results77 _ _ _) rfl ⟨rfl, HO.out, HBB.out⟩
end Go.Proofs.YtnlagbiikpbjdaaGreatDoor
/-
  THE PROGRAM's MACHINE IN MEMORY.
-/
namespace Go.Proofs.YtnlagbiikpbjdaaGreatDoor
open Go Go.RowKit
theorem CodeAt.turned {Q : Nat → Prop} {x y : World} {cb co n : Nat} {f : Nat → Int} (h : CodeAt x cb co n f) (t : Turned Q x y) (hq : ¬ Q cb) : CodeAt y cb co n f := by
  have hb := t.block cb h.here hq
  exact ⟨Nat.lt_of_lt_of_le h.here t.size, fun i hi => (World.cell?_of_block (w := x) hb).trans (h.cell i hi), h.word⟩
/-- the machine: its block, its hart, its own copies of code and data, its device -/
structure Mw (w0 w : World) (B p hq cg n cap : Nat) (dv ov : Value) (S : HS) (len ol : Nat) (f : Nat → Int) : Prop where
  c : ∃ res, CellsAt 5 w p (mv hq dv ov res false)
  h : PH w hq (.slice (some ⟨cg, 0, none⟩) n cap) S
  code : CodeAt w cg 0 n f
  d : (len = 0 ∧ dv.ownBlock = none) ∨ ∃ db dc, dv = .slice (some ⟨db, 0, none⟩) len dc ∧ len ≤ dc ∧ Bytes w db len ∧ db ≠ p ∧ db ≠ hq ∧ db ≠ cg ∧ ov.ownBlock ≠ some db ∧ B ≤ db
  o : ∃ l, w.ownsRow B 5 1 ov ol l
  n1 : p ≠ hq ∧ p ≠ cg ∧ hq ≠ cg
  n2 : ov.ownBlock ≠ some p ∧ ov.ownBlock ≠ some hq ∧ ov.ownBlock ≠ some cg
  lo : B ≤ p ∧ B ≤ hq ∧ B ≤ cg
  low : Below B w0 w
section
variable {w0 w w' : World} {B p hq cg n cap len ol : Nat} {dv ov : Value} {S S' : HS} {f : Nat → Int}
theorem Mw.below (k : Mw w0 w B p hq cg n cap dv ov S len ol f) (hb : Below w.heap.size w w') : Mw w0 w' B p hq cg n cap dv ov S len ol f := by
  have t : Turned (fun _ => False) w w' := Turned.of_below hb
  obtain ⟨res, c⟩ := k.c
  obtain ⟨l, o⟩ := k.o
  refine ⟨⟨res, c.below hb⟩, k.h.below hb, k.code.below hb, ?_, ⟨l, own_turned o t (fun _ _ q => q)⟩, k.n1, k.n2, k.lo, k.low.trans (hb.mono (Nat.le_trans k.lo.1 (Nat.le_of_lt c.here)))⟩
  rcases k.d with h | ⟨db, dc, h1, h2, h3, h4⟩
  · exact Or.inl h
  · exact Or.inr ⟨db, dc, h1, h2, h3.turned t (fun q => q), h4⟩
theorem Mw.hart (k : Mw w0 w B p hq cg n cap dv ov S len ol f) (t : Only hq w w') (h : PH w' hq (.slice (some ⟨cg, 0, none⟩) n cap) S') : Mw w0 w' B p hq cg n cap dv ov S' len ol f := by
  have t := Turned.of_only t
  obtain ⟨res, c⟩ := k.c
  obtain ⟨l, o⟩ := k.o
  refine ⟨⟨res, t.cells c k.n1.1⟩, h, k.code.turned t (fun e => k.n1.2.2 e.symm), ?_, ⟨l, own_turned o t (fun j hj e => k.n2.2.1 (by rw [hj, e]))⟩, k.n1, k.n2, k.lo, k.low.trans (t.below (Nat.le_trans k.lo.1 (Nat.le_of_lt c.here)) (fun j hj => by rw [hj]; exact k.lo.2.1))⟩
  rcases k.d with h | ⟨db, dc, h1, h2, h3, h4, h5, h6⟩
  · exact Or.inl h
  · exact Or.inr ⟨db, dc, h1, h2, h3.turned t h5, h4, h5, h6⟩
theorem Mw.dat (k : Mw w0 w B p hq cg n cap dv ov S len ol f) {db dc : Nat} (h1 : dv = .slice (some ⟨db, 0, none⟩) len dc) (h2 : len ≤ dc) (h4 : db ≠ p ∧ db ≠ hq ∧ db ≠ cg ∧ ov.ownBlock ≠ some db ∧ B ≤ db) (t : Only db w w') (hb : Bytes w' db len) : Mw w0 w' B p hq cg n cap dv ov S len ol f := by
  have t := Turned.of_only t
  obtain ⟨res, c⟩ := k.c
  obtain ⟨l, o⟩ := k.o
  exact ⟨⟨res, t.cells c (fun e => h4.1 e.symm)⟩, t.cells k.h (fun e => h4.2.1 e.symm), k.code.turned t (fun e => h4.2.2.1 e.symm), Or.inr ⟨db, dc, h1, h2, hb, h4⟩, ⟨l, own_turned o t (fun j hj e => h4.2.2.2.1 (by rw [hj, e]))⟩, k.n1, k.n2, k.lo, k.low.trans (t.below (Nat.le_trans k.lo.1 (Nat.le_of_lt c.here)) (fun j hj => by rw [hj]; exact h4.2.2.2.2))⟩
theorem mv_res (hq : Nat) (dv ov : Value) (res : Int) (line : Bool) (v : Int) : upd (mv hq dv ov res line) 3 (.int .u32 v) = mv hq dv ov v line := by
  funext o
  unfold upd mv
  match o with
  | 0 => rfl
  | 1 => rfl
  | 2 => rfl
  | 3 => rfl
  | _ + 4 => rfl
theorem mv_out (hq : Nat) (dv ov : Value) (res : Int) (line : Bool) (v : Value) : upd (mv hq dv ov res line) 2 v = mv hq dv v res line := by
  funext o
  unfold upd mv
  match o with
  | 0 => rfl
  | 1 => rfl
  | 2 => rfl
  | 3 => rfl
  | _ + 4 => rfl
theorem Mw.res (k : Mw w0 w B p hq cg n cap dv ov S len ol f) (v : Int) : Mw w0 (w.setCell ⟨p, 3, none⟩ (.int .u32 v)) B p hq cg n cap dv ov S len ol f := by
  have t := Turned.of_only ((Only.refl p w).set 3 (.int .u32 v))
  obtain ⟨res, c⟩ := k.c
  obtain ⟨l, o⟩ := k.o
  refine ⟨⟨v, (c.set 3 (by decide) _).to (mv_res _ _ _ _ _ _)⟩, t.cells k.h (fun e => k.n1.1 e.symm), k.code.turned t (fun e => k.n1.2.1 e.symm), ?_, ⟨l, own_turned o t (fun j hj e => k.n2.1 (by rw [hj, e]))⟩, k.n1, k.n2, k.lo, k.low.trans (t.below (Nat.le_trans k.lo.1 (Nat.le_of_lt c.here)) (fun j hj => by rw [hj]; exact k.lo.1))⟩
  rcases k.d with h | ⟨db, dc, h1, h2, h3, h4, h6⟩
  · exact Or.inl h
  · exact Or.inr ⟨db, dc, h1, h2, h3.turned t h4, h4, h6⟩
theorem Mw.other (k : Mw w0 w B p hq cg n cap dv ov S len ol f) {z : Nat} (t : Turned (fun j => j = z) w w') (h1 : p ≠ z) (h2 : hq ≠ z) (h3 : cg ≠ z) (h4 : dv.ownBlock ≠ some z) (h5 : ov.ownBlock ≠ some z) (h6 : B ≤ z) : Mw w0 w' B p hq cg n cap dv ov S len ol f := by
  obtain ⟨res, c⟩ := k.c
  obtain ⟨l, o⟩ := k.o
  refine ⟨⟨res, t.cells c h1⟩, t.cells k.h h2, k.code.turned t h3, ?_, ⟨l, own_turned o t (fun j hj e => h5 (by rw [hj, e]))⟩, k.n1, k.n2, k.lo, k.low.trans (t.below (Nat.le_trans k.lo.1 (Nat.le_of_lt c.here)) (fun j hj => by rw [hj]; exact h6))⟩
  rcases k.d with h | ⟨db, dc, e1, e2, e3, e4⟩
  · exact Or.inl h
  · exact Or.inr ⟨db, dc, e1, e2, e3.turned t (fun e => h4 (by rw [e1, ← e]; rfl)), e4⟩
/-- a row is where it was, or in a new block -/
def Fr (ov ov' : Value) (m : Nat) : Prop := ov'.ownBlock = ov.ownBlock ∨ ∃ g, ov'.ownBlock = some g ∧ m ≤ g
theorem Fr.mono {ov ov' : Value} {m m' : Nat} (h : Fr ov ov' m) (hm : m' ≤ m) : Fr ov ov' m' := h.elim Or.inl (fun ⟨g, h1, h2⟩ => Or.inr ⟨g, h1, by omega⟩)
/-- its device has grown -/
theorem Mw.out (k : Mw w0 w B p hq cg n cap dv ov S len ol f) {y : World} {v' : Value} {l' : List Value} (hp : p < w.heap.size ∧ hq < w.heap.size ∧ cg < w.heap.size ∧ ∀ db, Bytes w db len → db < w.heap.size) (t : Turned (fun j => ov.ownBlock = some j) w y) (ho : y.ownsRow B 5 1 v' (ol + 1) l') (hv : v'.ownBlock = ov.ownBlock ∨ v'.ownBlock = some w.heap.size) : Mw w0 (y.setCell ⟨p, 2, none⟩ v') B p hq cg n cap dv v' S len (ol + 1) f := by
  obtain ⟨res, c⟩ := k.c
  have c' := t.cells c k.n2.1
  have ne : ∀ j, j < w.heap.size → ov.ownBlock ≠ some j → v'.ownBlock ≠ some j := fun j hj h e => by
    rcases hv with q | q
    · exact h (by rw [← q]; exact e)
    · rw [q] at e
      have := Option.some.inj e
      omega
  have t2 := Turned.of_only ((Only.refl p y).set 2 v')
  have hBw : B ≤ w.heap.size := Nat.le_trans k.lo.1 (Nat.le_of_lt hp.1)
  have vp := ne p hp.1 k.n2.1
  refine ⟨⟨res, (c'.set 2 (by decide) _).to (mv_out _ _ _ _ _ _)⟩, t2.cells (t.cells k.h k.n2.2.1) (fun e => k.n1.1 e.symm), (k.code.turned t k.n2.2.2).turned t2 (fun e => k.n1.2.1 e.symm), ?_, ⟨l', own_turned ho t2 (fun j hj e => vp (by rw [hj, e]))⟩, k.n1, ⟨vp, ne hq hp.2.1 k.n2.2.1, ne cg hp.2.2.1 k.n2.2.2⟩, k.lo, (k.low.trans (t.below hBw (fun j hj => (own_base k.o.choose_spec j hj).1))).trans (t2.below (Nat.le_trans hBw t.size) (fun j hj => by rw [hj]; exact k.lo.1))⟩
  rcases k.d with h | ⟨db, dc, h1, h2, h3, h4, h5, h6, h7, h8⟩
  · exact Or.inl h
  · exact Or.inr ⟨db, dc, h1, h2, (h3.turned t h7).turned t2 h4, h4, h5, h6, ne db (hp.2.2.2 db h3) h7, h8⟩
end
end Go.Proofs.YtnlagbiikpbjdaaGreatDoor
/-
  THE MACHINE: a byte for its device: a region, step by step.
-/
namespace Go.Proofs.YtnlagbiikpbjdaaGreatDoor
open Go Go.RowKit
def condOf (t : Nat) : Code → Option Code
  | .cond (.tmp s) x y => bif s == t then some (.cond (.tmp s) x y) else (condOf t x).or (condOf t y)
  | .cond _ x y => (condOf t x).or (condOf t y)
  | .seq x y => (condOf t x).or (condOf t y)
  | .block _ x => condOf t x
  | .loop x => condOf t x
  | .scope x => condOf t x
  | _ => none
def regOf (t : Nat) : Code → Option Code
  | .region i o d => bif i == t then some (.region i o d) else none
  | .cond _ x y => (regOf t x).or (regOf t y)
  | .seq x y => (regOf t x).or (regOf t y)
  | .block _ x => regOf t x
  | .loop x => regOf t x
  | .scope x => regOf t x
  | _ => none
def blkOf (t : Nat) : Code → Option Code
  | .block i x => bif i == t then some (.block i x) else blkOf t x
  | .cond _ x y => (blkOf t x).or (blkOf t y)
  | .seq x y => (blkOf t x).or (blkOf t y)
  | .loop x => blkOf t x
  | .scope x => blkOf t x
  | _ => none
def cndIn (c : Option Code) (t : Nat) : Code := (c.bind (condOf t)).getD .skip
def regIn (c : Option Code) (t : Nat) : Code := (c.bind (regOf t)).getD .skip
def blkIn (c : Option Code) (t : Nat) : Code := (c.bind (blkOf t)).getD .skip
def opsIn : Code → Array Oper
  | .region _ o _ => o
  | _ => #[]
abbrev NoX : Exit → Act → World → Prop := fun _ _ _ => False
theorem wp_any {P : Program} {s : Code} {K : Act → World → Prop} {Q' : Exit → Act → World → Prop} {a : Act} {w : World} (h : s.wp P (Exit.then K NoX) a w) : s.wp P (Exit.then K Q') a w := by
  refine wp_mono h ?_
  intro e a' w' hq
  cases e with
  | normal => exact hq
  | exit id => exact hq.elim
  | goto l => exact hq.elim
  | ret => exact hq.elim
  | panic ch => exact hq.elim
  | outgrown => exact hq.elim
theorem ev_put {a : Act} {t s : Nat} {u v : Value} (h : a.eval (.tmp t) = v) (hne : t ≠ s) : (a.put (some s) u).eval (.tmp t) = v := by
  rw [Act.eval_put (fun d hd e => by cases hd; cases e; exact hne rfl)]
  exact h
theorem ev_same {a : Act} {s : Nat} {u : Value} (h : s < a.tmps.size) : (a.put (some s) u).eval (.tmp s) = u := by
  show (a.tmps.setIfInBounds s u).getD s undef = u
  simp [Array.getD_eq_getD_getElem?, h]
theorem size_put {a : Act} {s k : Nat} {u : Value} (h : a.tmps.size = k) : (a.put (some s) u).tmps.size = k := by
  show (a.tmps.setIfInBounds s u).size = k
  simpa using h
section
variable {P : Program} {a : Act} {o : Oper} {v : Value}
theorem run_move {x : Operand} (ho : o.op = .move x) (hx : a.eval x = v) (w : World) : (execOp a.eval o).run P w = .ok (.value v) w := by
  unfold execOp
  simp only [ho, hx, Sem.run_pure]
theorem run_nil {x : Operand} {p : Addr} (ho : o.op = .nilCheck x) (hx : a.eval x = .pointer (some p)) (w : World) : (execOp a.eval o).run P w = .ok (.value (.pointer (some p))) w := by
  unfold execOp
  simp only [ho, hx]
  go_simp
end
theorem st_0 : ∃ o, (opsIn (regIn Tryz.f46.body 2))[0]? = some o ∧ o.dst = some 7 ∧ o.guard = none ∧ o.op = .move (.tmp 0) := ⟨_, rfl, rfl, rfl, rfl⟩
theorem st_1 : ∃ o, (opsIn (regIn Tryz.f46.body 2))[1]? = some o ∧ o.dst = some 8 ∧ o.guard = none ∧ o.op = .move (.tmp 0) := ⟨_, rfl, rfl, rfl, rfl⟩
theorem st_2 : ∃ o, (opsIn (regIn Tryz.f46.body 2))[2]? = some o ∧ o.dst = some 9 ∧ o.guard = none ∧ o.op = .nilCheck (.tmp 8) := ⟨_, rfl, rfl, rfl, rfl⟩
theorem st_3 : ∃ o, (opsIn (regIn Tryz.f46.body 2))[3]? = some o ∧ o.dst = some 10 ∧ o.guard = none ∧ o.op = .fieldAddr 62 (.tmp 9) 2 := ⟨_, rfl, rfl, rfl, rfl⟩
theorem st_4 : ∃ o, (opsIn (regIn Tryz.f46.body 2))[4]? = some o ∧ o.dst = some 11 ∧ o.guard = none ∧ o.op = .load 23 (.tmp 10) := ⟨_, rfl, rfl, rfl, rfl⟩
theorem st_5 : ∃ o, (opsIn (regIn Tryz.f46.body 2))[5]? = some o ∧ o.dst = some 12 ∧ o.guard = none ∧ o.op = .fieldAddr 72 (.tmp 3) 3 := ⟨_, rfl, rfl, rfl, rfl⟩
theorem st_6 : ∃ o, (opsIn (regIn Tryz.f46.body 2))[6]? = some o ∧ o.dst = some 13 ∧ o.guard = none ∧ o.op = .load 33 (.tmp 12) := ⟨_, rfl, rfl, rfl, rfl⟩
theorem st_7 : ∃ o, (opsIn (regIn Tryz.f46.body 2))[7]? = some o ∧ o.dst = some 14 ∧ o.guard = none ∧ o.op = .convert 33 5 (.tmp 13) := ⟨_, rfl, rfl, rfl, rfl⟩
theorem st_8 : ∃ o, (opsIn (regIn Tryz.f46.body 2))[8]? = some o ∧ o.dst = some 15 ∧ o.guard = none ∧ o.op = .buildSlice 23 1 #[(0, .tmp 14)] := ⟨_, rfl, rfl, rfl, rfl⟩
theorem st_9 : ∃ o, (opsIn (regIn Tryz.f46.body 2))[9]? = some o ∧ o.dst = some 16 ∧ o.guard = none ∧ o.op = .call { callee := .builtin .append, args := #[.tmp 11, .tmp 15], argTypes := #[23, 23] } ∧ o.type = 23 := ⟨_, rfl, rfl, rfl, rfl, rfl⟩
theorem st_10 : ∃ o, (opsIn (regIn Tryz.f46.body 2))[10]? = some o ∧ o.dst = some 17 ∧ o.guard = none ∧ o.op = .nilCheck (.tmp 7) := ⟨_, rfl, rfl, rfl, rfl⟩
theorem st_11 : ∃ o, (opsIn (regIn Tryz.f46.body 2))[11]? = some o ∧ o.dst = some 18 ∧ o.guard = none ∧ o.op = .fieldAddr 62 (.tmp 17) 2 := ⟨_, rfl, rfl, rfl, rfl⟩
theorem st_12 : ∃ o, (opsIn (regIn Tryz.f46.body 2))[12]? = some o ∧ o.dst = none ∧ o.guard = none ∧ o.op = .store 23 (.tmp 18) (.tmp 16) := ⟨_, rfl, rfl, rfl, rfl⟩
theorem nosel2 : Region.noSelect (opsIn (regIn Tryz.f46.body 2)) = true := by kernel_rfl
section
variable {Q : Exit → Act → World → Prop}
theorem at_take {i s : Nat} {o : Oper} {v : Value} {fuel : Nat} {listed listed' : Array Bool} {a : Act} {w : World} (hQ : ∀ c a a' w, Q (.panic c) a w → Q (.panic c) a' w) (hi : (opsIn (regIn Tryz.f46.body 2))[i]? = some o) (hd : o.dst = some s) (hg : o.guard = none) (hrun : ∀ w, (execOp a.eval o).run Tryz.prog w = .ok (.value v) w) (hf : Region.free .any (opsIn (regIn Tryz.f46.body 2)) listed i = true) (hr : (Region.ready .any (opsIn (regIn Tryz.f46.body 2)) listed).contains i = true) (hl : listed.setIfInBounds i true = listed') (h : wpAny Tryz.prog .any (opsIn (regIn Tryz.f46.body 2)) Q fuel listed' (a.put (some s) v) w) : wpAny Tryz.prog .any (opsIn (regIn Tryz.f46.body 2)) Q (fuel + 1) listed a w := by
  refine wpAny_take hi nosel2 hf hr (fun c a w h => hQ c _ _ w h) (Or.inl ⟨by unfold Region.wanted; rw [hg], hrun⟩) ?_
  rw [hl, hd]
  exact h
theorem at_op {i s : Nat} {o : Oper} {v : Value} {fuel : Nat} {listed listed' : Array Bool} {a : Act} {w w' : World} (hi : (opsIn (regIn Tryz.f46.body 2))[i]? = some o) (hd : o.dst = some s) (hg : o.guard = none) (hrun : (execOp a.eval o).run Tryz.prog w = .ok (.value v) w') (hl : listed.setIfInBounds i true = listed') (h : wpAny Tryz.prog .any (opsIn (regIn Tryz.f46.body 2)) Q fuel listed' (a.put (some s) v) w') : wpOp Tryz.prog (opsIn (regIn Tryz.f46.body 2)) Q i (wpAny Tryz.prog .any (opsIn (regIn Tryz.f46.body 2)) Q fuel (listed.setIfInBounds i true)) a w := by
  unfold wpOp
  rw [hi]
  have hwa : Region.wanted o (yielded (opsIn (regIn Tryz.f46.body 2)) a.tmps) = true := by
    unfold Region.wanted
    rw [hg]
  simp only [hwa, if_true]
  rw [hl]
  refine Or.inl ?_
  unfold Oper.wp
  rw [hrun]
  simp only [Oper.upon]
  rw [hd]
  exact h
theorem at_one {i s : Nat} {o : Oper} {v : Value} {fuel : Nat} {listed listed' : Array Bool} {a : Act} {w w' : World} (hr : Region.ready .any (opsIn (regIn Tryz.f46.body 2)) listed = [i]) (hi : (opsIn (regIn Tryz.f46.body 2))[i]? = some o) (hd : o.dst = some s) (hg : o.guard = none) (hrun : (execOp a.eval o).run Tryz.prog w = .ok (.value v) w') (hl : listed.setIfInBounds i true = listed') (h : wpAny Tryz.prog .any (opsIn (regIn Tryz.f46.body 2)) Q fuel listed' (a.put (some s) v) w') : wpAny Tryz.prog .any (opsIn (regIn Tryz.f46.body 2)) Q (fuel + 1) listed a w := by
  refine wpAny_all hr (by simp) (fun j hj => ?_)
  rw [List.mem_singleton] at hj
  subst hj
  exact at_op hi hd hg hrun hl h
theorem at_two {i j : Nat} {fuel : Nat} {listed : Array Bool} {a : Act} {w : World} (hr : Region.ready .any (opsIn (regIn Tryz.f46.body 2)) listed = [i, j]) (h1 : wpOp Tryz.prog (opsIn (regIn Tryz.f46.body 2)) Q i (wpAny Tryz.prog .any (opsIn (regIn Tryz.f46.body 2)) Q fuel (listed.setIfInBounds i true)) a w) (h2 : wpOp Tryz.prog (opsIn (regIn Tryz.f46.body 2)) Q j (wpAny Tryz.prog .any (opsIn (regIn Tryz.f46.body 2)) Q fuel (listed.setIfInBounds j true)) a w) : wpAny Tryz.prog .any (opsIn (regIn Tryz.f46.body 2)) Q (fuel + 1) listed a w := by
  refine wpAny_all hr (by simp) (fun k hk => ?_)
  simp only [List.mem_cons, List.not_mem_nil, or_false] at hk
  rcases hk with rfl | rfl
  · exact h1
  · exact h2
end
section
variable {a : Act} {o : Oper} {x y : Operand}
theorem run_m2 {b : Nat} (ho : o.op = .fieldAddr 62 x 2) (hx : a.eval x = .pointer (some ⟨b, 0, none⟩)) (w : World) : (execOp a.eval o).run Tryz.prog w = .ok (.value (.pointer (some ⟨b, 2, none⟩))) w := by
  unfold execOp
  simp only [ho, hx]
  go_simp
theorem run_q3 {b : Nat} (ho : o.op = .fieldAddr 72 x 3) (hx : a.eval x = .pointer (some ⟨b, 0, none⟩)) (w : World) : (execOp a.eval o).run Tryz.prog w = .ok (.value (.pointer (some ⟨b, 3, none⟩))) w := by
  unfold execOp
  simp only [ho, hx]
  go_simp
theorem run_ls {p : Addr} {q : Option Addr} {n c : Nat} {w : World} (ho : o.op = .load 23 x) (hx : a.eval x = .pointer (some p)) (hc : w.cell? p = some (.slice q n c)) : (execOp a.eval o).run Tryz.prog w = .ok (.value (.slice q n c)) w := by
  unfold execOp
  simp only [ho, hx]
  go_simp
theorem run_lu {p : Addr} {i : Int} {w : World} (ho : o.op = .load 33 x) (hx : a.eval x = .pointer (some p)) (hc : w.cell? p = some (.int .u32 i)) : (execOp a.eval o).run Tryz.prog w = .ok (.value (.int .u32 i)) w := by
  unfold execOp
  simp only [ho, hx]
  go_simp
theorem run_cb {i : Int} (ho : o.op = .convert 33 5 x) (hx : a.eval x = .int .u32 i) (w : World) : (execOp a.eval o).run Tryz.prog w = .ok (.value (.int .u8 (i % 256))) w := by
  unfold execOp
  simp only [ho, hx]
  go_simp
  rfl
theorem run_bs {i : Int} (ho : o.op = .buildSlice 23 1 #[(0, x)]) (hx : a.eval x = .int .u8 i) (w : World) : (execOp a.eval o).run Tryz.prog w = .ok (.value (.slice (some ⟨w.heap.size, 0, none⟩) 1 1)) (w.alloc (.cells #[.int .u8 i] 5)) := by
  unfold execOp
  simp only [ho, List.map_toArray, List.map_cons, List.map_nil, hx]
  go_simp
theorem run_ap {v u v' : Value} {w w' : World} {t : TypeId} (ho : o.op = Op.call { callee := Callee.builtin Builtin.append, args := #[x, y], argTypes := #[t, t] }) (ht : o.type = t) (hs : a.eval x = v) (hx : a.eval y = u) (hr : (Builtin.append_ #[t, t] t #[v, u]).run Tryz.prog w = .ok v' w') : (execOp a.eval o).run Tryz.prog w = .ok (.value v') w' := by
  rw [← ht] at hr
  simp [execOp, ho, resolve, invoke, builtin, hs, hx, Result.andThen]
  rw [ht] at hr ⊢
  rw [hr]
theorem run_ss {p : Addr} {q : Option Addr} {n c : Nat} {u : Value} {w : World} (ho : o.op = .store 23 x y) (hx : a.eval x = .pointer (some p)) (hy : a.eval y = .slice q n c) (hc : w.cell? p = some u) (hf : w.frozen? p = false) : (execOp a.eval o).run Tryz.prog w = .ok .skip (w.setCell p (.slice q n c)) := by
  unfold execOp
  simp only [ho, hx, hy]
  go_simp
end
set_option maxRecDepth 100000 in
theorem st_fin {Q : Exit → Act → World → Prop} (p : Nat) (oq : Option Addr) (on oc : Nat) (q' : Option Addr) (n' cap' : Nat) (X Y Z : World) (a : Act) (hs : a.tmps.size = 24) (h7 : a.eval (.tmp 7) = .pointer (some ⟨p, 0, none⟩)) (h11 : a.eval (.tmp 11) = .slice oq on oc) (h15 : a.eval (.tmp 15) = .slice (some ⟨X.heap.size, 0, none⟩) 1 1) (hrun : (Builtin.append_ #[23, 23] 23 #[.slice oq on oc, .slice (some ⟨X.heap.size, 0, none⟩) 1 1]).run Tryz.prog Y = .ok (.slice q' n' cap') Z) (e3 : Z.cell? ⟨p, 2, none⟩ = some (.slice oq on oc)) (f3 : Z.frozen? ⟨p, 2, none⟩ = false) (hk : ∀ a', a'.defers = a.defers → Q .normal a' (Z.setCell ⟨p, 2, none⟩ (.slice q' n' cap'))) : wpAny Tryz.prog .any (opsIn (regIn Tryz.f46.body 2)) Q 4 #[true, true, true, true, true, true, true, true, true, false, false, false, false] a Y := by
  obtain ⟨xo9, xi9, xd9, xg9, xp9, xt9⟩ := st_9
  refine at_one (fuel := 3) (listed' := #[true, true, true, true, true, true, true, true, true, true, false, false, false]) (by kernel_rfl) xi9 xd9 xg9 (run_ap xp9 xt9 h11 h15 hrun) rfl ?_
  obtain ⟨ac1, hac1⟩ : ∃ x, a.put (some 16) (.slice q' n' cap') = x := ⟨_, rfl⟩
  rw [hac1]
  have e7_1 : ac1.eval (.tmp 7) = _ := hac1 ▸ ev_put h7 (by decide)
  have e16_1 : ac1.eval (.tmp 16) = _ := hac1 ▸ ev_same (by rw [hs]; decide)
  have zz1 : ac1.tmps.size = 24 := hac1 ▸ size_put hs
  have dd1 : ac1.defers = a.defers := hac1 ▸ rfl
  obtain ⟨xo10, xi10, xd10, xg10, xp10⟩ := st_10
  refine at_one (fuel := 2) (listed' := #[true, true, true, true, true, true, true, true, true, true, true, false, false]) (by kernel_rfl) xi10 xd10 xg10 (run_nil xp10 e7_1 _) rfl ?_
  obtain ⟨ac2, hac2⟩ : ∃ x, ac1.put (some 17) (.pointer (some ⟨p, 0, none⟩)) = x := ⟨_, rfl⟩
  rw [hac2]
  have e16_2 : ac2.eval (.tmp 16) = _ := hac2 ▸ ev_put e16_1 (by decide)
  have e17_2 : ac2.eval (.tmp 17) = _ := hac2 ▸ ev_same (by rw [zz1]; decide)
  have zz2 : ac2.tmps.size = 24 := hac2 ▸ size_put zz1
  have dd2 : ac2.defers = ac1.defers := hac2 ▸ rfl
  obtain ⟨xo11, xi11, xd11, xg11, xp11⟩ := st_11
  refine at_one (fuel := 1) (listed' := #[true, true, true, true, true, true, true, true, true, true, true, true, false]) (by kernel_rfl) xi11 xd11 xg11 (run_m2 xp11 e17_2 _) rfl ?_
  obtain ⟨ac3, hac3⟩ : ∃ x, ac2.put (some 18) (.pointer (some ⟨p, 2, none⟩)) = x := ⟨_, rfl⟩
  rw [hac3]
  have e16_3 : ac3.eval (.tmp 16) = _ := hac3 ▸ ev_put e16_2 (by decide)
  have e18_3 : ac3.eval (.tmp 18) = _ := hac3 ▸ ev_same (by rw [zz2]; decide)
  have zz3 : ac3.tmps.size = 24 := hac3 ▸ size_put zz2
  have dd3 : ac3.defers = ac2.defers := hac3 ▸ rfl
  obtain ⟨xo12, xi12, xd12, xg12, xp12⟩ := st_12
  refine wpAny_all (rs := [12]) (by kernel_rfl) (by simp) (fun j hj => ?_)
  rw [List.mem_singleton] at hj
  subst hj
  unfold wpOp
  rw [xi12]
  have hwa : Region.wanted xo12 (yielded (opsIn (regIn Tryz.f46.body 2)) ac3.tmps) = true := by
    unfold Region.wanted
    rw [xg12]
  simp only [hwa, if_true]
  refine Or.inl ?_
  unfold Oper.wp
  rw [run_ss xp12 e18_3 e16_3 e3 f3]
  simp only [Oper.upon]
  rw [xd12]
  refine wpAny_done (by kernel_rfl) ?_ _
  exact hk _ (dd3.trans (dd2.trans dd1))
set_option maxRecDepth 100000 in
theorem st_reg {Q : Exit → Act → World → Prop} (hQ : ∀ c a a' w, Q (.panic c) a w → Q (.panic c) a' w) (p zb : Nat) (oq : Option Addr) (on oc : Nat) (da : Int) (q' : Option Addr) (n' cap' : Nat) (X Y Z : World) (w0 : World) (hX : w0.drew = X) (hY : X.alloc (.cells #[.int .u8 (da % 256)] 5) = Y) (hrun : (Builtin.append_ #[23, 23] 23 #[.slice oq on oc, .slice (some ⟨X.heap.size, 0, none⟩) 1 1]).run Tryz.prog Y = .ok (.slice q' n' cap') Z) (e1 : X.cell? ⟨p, 2, none⟩ = some (.slice oq on oc)) (e2 : Y.cell? ⟨p, 2, none⟩ = some (.slice oq on oc)) (e3 : Z.cell? ⟨p, 2, none⟩ = some (.slice oq on oc)) (f3 : Z.frozen? ⟨p, 2, none⟩ = false) (x3 : X.cell? ⟨zb, 3, none⟩ = some (.int .u32 da)) (a : Act) (hs : a.tmps.size = 24) (h0 : a.eval (.tmp 0) = .pointer (some ⟨p, 0, none⟩)) (h3 : a.eval (.tmp 3) = .pointer (some ⟨zb, 0, none⟩)) (hk : ∀ a', a'.defers = a.defers → Q .normal a' (Z.setCell ⟨p, 2, none⟩ (.slice q' n' cap'))) : (regIn Tryz.f46.body 2).wp Tryz.prog Q a w0 := by
  show (Code.region 2 (opsIn (regIn Tryz.f46.body 2)) true).wp _ _ _ _
  refine wp_region_any (by kernel_rfl) ?_
  have hX2 : ({ w0 with drawn := w0.drawn + 1 } : World) = X := hX
  rw [hX2]
  show wpAny _ _ _ _ (12 + 1) #[false, false, false, false, false, false, false, false, false, false, false, false, false] _ _
  obtain ⟨xo0, xi0, xd0, xg0, xp0⟩ := st_0
  refine at_take (i := 0) (s := 7) (v := .pointer (some ⟨p, 0, none⟩)) (fuel := 12) (listed' := #[true, false, false, false, false, false, false, false, false, false, false, false, false]) hQ xi0 xd0 xg0 (fun w => run_move xp0 h0 w) (by kernel_rfl) (by kernel_rfl) rfl ?_
  obtain ⟨ac1, hac1⟩ : ∃ x, a.put (some 7) (.pointer (some ⟨p, 0, none⟩)) = x := ⟨_, rfl⟩
  rw [hac1]
  have e0_1 : ac1.eval (.tmp 0) = _ := hac1 ▸ ev_put h0 (by decide)
  have e3_1 : ac1.eval (.tmp 3) = _ := hac1 ▸ ev_put h3 (by decide)
  have e7_1 : ac1.eval (.tmp 7) = _ := hac1 ▸ ev_same (by rw [hs]; decide)
  have zz1 : ac1.tmps.size = 24 := hac1 ▸ size_put hs
  have dd1 : ac1.defers = a.defers := hac1 ▸ rfl
  obtain ⟨xo1, xi1, xd1, xg1, xp1⟩ := st_1
  refine at_take (i := 1) (s := 8) (v := .pointer (some ⟨p, 0, none⟩)) (fuel := 11) (listed' := #[true, true, false, false, false, false, false, false, false, false, false, false, false]) hQ xi1 xd1 xg1 (fun w => run_move xp1 e0_1 w) (by kernel_rfl) (by kernel_rfl) rfl ?_
  obtain ⟨ac2, hac2⟩ : ∃ x, ac1.put (some 8) (.pointer (some ⟨p, 0, none⟩)) = x := ⟨_, rfl⟩
  rw [hac2]
  have e0_2 : ac2.eval (.tmp 0) = _ := hac2 ▸ ev_put e0_1 (by decide)
  have e3_2 : ac2.eval (.tmp 3) = _ := hac2 ▸ ev_put e3_1 (by decide)
  have e7_2 : ac2.eval (.tmp 7) = _ := hac2 ▸ ev_put e7_1 (by decide)
  have e8_2 : ac2.eval (.tmp 8) = _ := hac2 ▸ ev_same (by rw [zz1]; decide)
  have zz2 : ac2.tmps.size = 24 := hac2 ▸ size_put zz1
  have dd2 : ac2.defers = ac1.defers := hac2 ▸ rfl
  obtain ⟨xo2, xi2, xd2, xg2, xp2⟩ := st_2
  refine at_take (i := 2) (s := 9) (v := .pointer (some ⟨p, 0, none⟩)) (fuel := 10) (listed' := #[true, true, true, false, false, false, false, false, false, false, false, false, false]) hQ xi2 xd2 xg2 (fun w => run_nil xp2 e8_2 w) (by kernel_rfl) (by kernel_rfl) rfl ?_
  obtain ⟨ac3, hac3⟩ : ∃ x, ac2.put (some 9) (.pointer (some ⟨p, 0, none⟩)) = x := ⟨_, rfl⟩
  rw [hac3]
  have e0_3 : ac3.eval (.tmp 0) = _ := hac3 ▸ ev_put e0_2 (by decide)
  have e3_3 : ac3.eval (.tmp 3) = _ := hac3 ▸ ev_put e3_2 (by decide)
  have e7_3 : ac3.eval (.tmp 7) = _ := hac3 ▸ ev_put e7_2 (by decide)
  have e8_3 : ac3.eval (.tmp 8) = _ := hac3 ▸ ev_put e8_2 (by decide)
  have e9_3 : ac3.eval (.tmp 9) = _ := hac3 ▸ ev_same (by rw [zz2]; decide)
  have zz3 : ac3.tmps.size = 24 := hac3 ▸ size_put zz2
  have dd3 : ac3.defers = ac2.defers := hac3 ▸ rfl
  obtain ⟨xo3, xi3, xd3, xg3, xp3⟩ := st_3
  refine at_take (i := 3) (s := 10) (v := .pointer (some ⟨p, 2, none⟩)) (fuel := 9) (listed' := #[true, true, true, true, false, false, false, false, false, false, false, false, false]) hQ xi3 xd3 xg3 (fun w => run_m2 xp3 e9_3 w) (by kernel_rfl) (by kernel_rfl) rfl ?_
  obtain ⟨ac4, hac4⟩ : ∃ x, ac3.put (some 10) (.pointer (some ⟨p, 2, none⟩)) = x := ⟨_, rfl⟩
  rw [hac4]
  have e0_4 : ac4.eval (.tmp 0) = _ := hac4 ▸ ev_put e0_3 (by decide)
  have e3_4 : ac4.eval (.tmp 3) = _ := hac4 ▸ ev_put e3_3 (by decide)
  have e7_4 : ac4.eval (.tmp 7) = _ := hac4 ▸ ev_put e7_3 (by decide)
  have e8_4 : ac4.eval (.tmp 8) = _ := hac4 ▸ ev_put e8_3 (by decide)
  have e9_4 : ac4.eval (.tmp 9) = _ := hac4 ▸ ev_put e9_3 (by decide)
  have e10_4 : ac4.eval (.tmp 10) = _ := hac4 ▸ ev_same (by rw [zz3]; decide)
  have zz4 : ac4.tmps.size = 24 := hac4 ▸ size_put zz3
  have dd4 : ac4.defers = ac3.defers := hac4 ▸ rfl
  obtain ⟨xo5, xi5, xd5, xg5, xp5⟩ := st_5
  refine at_take (i := 5) (s := 12) (v := .pointer (some ⟨zb, 3, none⟩)) (fuel := 8) (listed' := #[true, true, true, true, false, true, false, false, false, false, false, false, false]) hQ xi5 xd5 xg5 (fun w => run_q3 xp5 e3_4 w) (by kernel_rfl) (by kernel_rfl) rfl ?_
  obtain ⟨ac5, hac5⟩ : ∃ x, ac4.put (some 12) (.pointer (some ⟨zb, 3, none⟩)) = x := ⟨_, rfl⟩
  rw [hac5]
  have e0_5 : ac5.eval (.tmp 0) = _ := hac5 ▸ ev_put e0_4 (by decide)
  have e3_5 : ac5.eval (.tmp 3) = _ := hac5 ▸ ev_put e3_4 (by decide)
  have e7_5 : ac5.eval (.tmp 7) = _ := hac5 ▸ ev_put e7_4 (by decide)
  have e8_5 : ac5.eval (.tmp 8) = _ := hac5 ▸ ev_put e8_4 (by decide)
  have e9_5 : ac5.eval (.tmp 9) = _ := hac5 ▸ ev_put e9_4 (by decide)
  have e10_5 : ac5.eval (.tmp 10) = _ := hac5 ▸ ev_put e10_4 (by decide)
  have e12_5 : ac5.eval (.tmp 12) = _ := hac5 ▸ ev_same (by rw [zz4]; decide)
  have zz5 : ac5.tmps.size = 24 := hac5 ▸ size_put zz4
  have dd5 : ac5.defers = ac4.defers := hac5 ▸ rfl
  obtain ⟨xo4, xi4, xd4, xg4, xp4⟩ := st_4
  obtain ⟨xo6, xi6, xd6, xg6, xp6⟩ := st_6
  obtain ⟨xo7, xi7, xd7, xg7, xp7⟩ := st_7
  obtain ⟨xo8, xi8, xd8, xg8, xp8⟩ := st_8
  refine at_two (i := 4) (j := 6) (fuel := 7) (by kernel_rfl) ?_ ?_
  · refine at_op (fuel := 7) (listed' := #[true, true, true, true, true, true, false, false, false, false, false, false, false]) xi4 xd4 xg4 (run_ls xp4 e10_5 e1) rfl ?_
    obtain ⟨ac6, hac6⟩ : ∃ x, ac5.put (some 11) (.slice oq on oc) = x := ⟨_, rfl⟩
    rw [hac6]
    have e7_6 : ac6.eval (.tmp 7) = _ := hac6 ▸ ev_put e7_5 (by decide)
    have e10_6 : ac6.eval (.tmp 10) = _ := hac6 ▸ ev_put e10_5 (by decide)
    have e12_6 : ac6.eval (.tmp 12) = _ := hac6 ▸ ev_put e12_5 (by decide)
    have e11_6 : ac6.eval (.tmp 11) = _ := hac6 ▸ ev_same (by rw [zz5]; decide)
    have zz6 : ac6.tmps.size = 24 := hac6 ▸ size_put zz5
    have dd6 : ac6.defers = ac5.defers := hac6 ▸ rfl
    refine at_one (fuel := 6) (listed' := #[true, true, true, true, true, true, true, false, false, false, false, false, false]) (by kernel_rfl) xi6 xd6 xg6 (run_lu xp6 e12_6 x3) rfl ?_
    obtain ⟨ac7, hac7⟩ : ∃ x, ac6.put (some 13) (.int .u32 da) = x := ⟨_, rfl⟩
    rw [hac7]
    have e7_7 : ac7.eval (.tmp 7) = _ := hac7 ▸ ev_put e7_6 (by decide)
    have e10_7 : ac7.eval (.tmp 10) = _ := hac7 ▸ ev_put e10_6 (by decide)
    have e12_7 : ac7.eval (.tmp 12) = _ := hac7 ▸ ev_put e12_6 (by decide)
    have e11_7 : ac7.eval (.tmp 11) = _ := hac7 ▸ ev_put e11_6 (by decide)
    have e13_7 : ac7.eval (.tmp 13) = _ := hac7 ▸ ev_same (by rw [zz6]; decide)
    have zz7 : ac7.tmps.size = 24 := hac7 ▸ size_put zz6
    have dd7 : ac7.defers = ac6.defers := hac7 ▸ rfl
    refine at_one (fuel := 5) (listed' := #[true, true, true, true, true, true, true, true, false, false, false, false, false]) (by kernel_rfl) xi7 xd7 xg7 (run_cb xp7 e13_7 _) rfl ?_
    obtain ⟨ac8, hac8⟩ : ∃ x, ac7.put (some 14) (.int .u8 (da % 256)) = x := ⟨_, rfl⟩
    rw [hac8]
    have e7_8 : ac8.eval (.tmp 7) = _ := hac8 ▸ ev_put e7_7 (by decide)
    have e10_8 : ac8.eval (.tmp 10) = _ := hac8 ▸ ev_put e10_7 (by decide)
    have e12_8 : ac8.eval (.tmp 12) = _ := hac8 ▸ ev_put e12_7 (by decide)
    have e11_8 : ac8.eval (.tmp 11) = _ := hac8 ▸ ev_put e11_7 (by decide)
    have e13_8 : ac8.eval (.tmp 13) = _ := hac8 ▸ ev_put e13_7 (by decide)
    have e14_8 : ac8.eval (.tmp 14) = _ := hac8 ▸ ev_same (by rw [zz7]; decide)
    have zz8 : ac8.tmps.size = 24 := hac8 ▸ size_put zz7
    have dd8 : ac8.defers = ac7.defers := hac8 ▸ rfl
    refine at_one (fuel := 4) (listed' := #[true, true, true, true, true, true, true, true, true, false, false, false, false]) (by kernel_rfl) xi8 xd8 xg8 ((run_bs xp8 e14_8 X).trans (by rw [hY])) rfl ?_
    obtain ⟨ac9, hac9⟩ : ∃ x, ac8.put (some 15) (.slice (some ⟨X.heap.size, 0, none⟩) 1 1) = x := ⟨_, rfl⟩
    rw [hac9]
    have e7_9 : ac9.eval (.tmp 7) = _ := hac9 ▸ ev_put e7_8 (by decide)
    have e10_9 : ac9.eval (.tmp 10) = _ := hac9 ▸ ev_put e10_8 (by decide)
    have e12_9 : ac9.eval (.tmp 12) = _ := hac9 ▸ ev_put e12_8 (by decide)
    have e11_9 : ac9.eval (.tmp 11) = _ := hac9 ▸ ev_put e11_8 (by decide)
    have e13_9 : ac9.eval (.tmp 13) = _ := hac9 ▸ ev_put e13_8 (by decide)
    have e14_9 : ac9.eval (.tmp 14) = _ := hac9 ▸ ev_put e14_8 (by decide)
    have e15_9 : ac9.eval (.tmp 15) = _ := hac9 ▸ ev_same (by rw [zz8]; decide)
    have zz9 : ac9.tmps.size = 24 := hac9 ▸ size_put zz8
    have dd9 : ac9.defers = ac8.defers := hac9 ▸ rfl
    refine st_fin p oq on oc q' n' cap' X Y Z ac9 zz9 e7_9 e11_9 e15_9 hrun e3 f3 (fun a' h => hk a' (h.trans (by rw [dd9, dd8, dd7, dd6, dd5, dd4, dd3, dd2, dd1])))
  · refine at_op (fuel := 7) (listed' := #[true, true, true, true, false, true, true, false, false, false, false, false, false]) xi6 xd6 xg6 (run_lu xp6 e12_5 x3) rfl ?_
    obtain ⟨ac6, hac6⟩ : ∃ x, ac5.put (some 13) (.int .u32 da) = x := ⟨_, rfl⟩
    rw [hac6]
    have e7_6 : ac6.eval (.tmp 7) = _ := hac6 ▸ ev_put e7_5 (by decide)
    have e10_6 : ac6.eval (.tmp 10) = _ := hac6 ▸ ev_put e10_5 (by decide)
    have e12_6 : ac6.eval (.tmp 12) = _ := hac6 ▸ ev_put e12_5 (by decide)
    have e13_6 : ac6.eval (.tmp 13) = _ := hac6 ▸ ev_same (by rw [zz5]; decide)
    have zz6 : ac6.tmps.size = 24 := hac6 ▸ size_put zz5
    have dd6 : ac6.defers = ac5.defers := hac6 ▸ rfl
    refine at_take (i := 7) (s := 14) (v := .int .u8 (da % 256)) (fuel := 6) (listed' := #[true, true, true, true, false, true, true, true, false, false, false, false, false]) hQ xi7 xd7 xg7 (fun w => run_cb xp7 e13_6 w) (by kernel_rfl) (by kernel_rfl) rfl ?_
    obtain ⟨ac7, hac7⟩ : ∃ x, ac6.put (some 14) (.int .u8 (da % 256)) = x := ⟨_, rfl⟩
    rw [hac7]
    have e7_7 : ac7.eval (.tmp 7) = _ := hac7 ▸ ev_put e7_6 (by decide)
    have e10_7 : ac7.eval (.tmp 10) = _ := hac7 ▸ ev_put e10_6 (by decide)
    have e12_7 : ac7.eval (.tmp 12) = _ := hac7 ▸ ev_put e12_6 (by decide)
    have e13_7 : ac7.eval (.tmp 13) = _ := hac7 ▸ ev_put e13_6 (by decide)
    have e14_7 : ac7.eval (.tmp 14) = _ := hac7 ▸ ev_same (by rw [zz6]; decide)
    have zz7 : ac7.tmps.size = 24 := hac7 ▸ size_put zz6
    have dd7 : ac7.defers = ac6.defers := hac7 ▸ rfl
    refine at_two (i := 4) (j := 8) (fuel := 5) (by kernel_rfl) ?_ ?_
    · refine at_op (fuel := 5) (listed' := #[true, true, true, true, true, true, true, true, false, false, false, false, false]) xi4 xd4 xg4 (run_ls xp4 e10_7 e1) rfl ?_
      obtain ⟨ac8, hac8⟩ : ∃ x, ac7.put (some 11) (.slice oq on oc) = x := ⟨_, rfl⟩
      rw [hac8]
      have e7_8 : ac8.eval (.tmp 7) = _ := hac8 ▸ ev_put e7_7 (by decide)
      have e10_8 : ac8.eval (.tmp 10) = _ := hac8 ▸ ev_put e10_7 (by decide)
      have e12_8 : ac8.eval (.tmp 12) = _ := hac8 ▸ ev_put e12_7 (by decide)
      have e13_8 : ac8.eval (.tmp 13) = _ := hac8 ▸ ev_put e13_7 (by decide)
      have e14_8 : ac8.eval (.tmp 14) = _ := hac8 ▸ ev_put e14_7 (by decide)
      have e11_8 : ac8.eval (.tmp 11) = _ := hac8 ▸ ev_same (by rw [zz7]; decide)
      have zz8 : ac8.tmps.size = 24 := hac8 ▸ size_put zz7
      have dd8 : ac8.defers = ac7.defers := hac8 ▸ rfl
      refine at_one (fuel := 4) (listed' := #[true, true, true, true, true, true, true, true, true, false, false, false, false]) (by kernel_rfl) xi8 xd8 xg8 ((run_bs xp8 e14_8 X).trans (by rw [hY])) rfl ?_
      obtain ⟨ac9, hac9⟩ : ∃ x, ac8.put (some 15) (.slice (some ⟨X.heap.size, 0, none⟩) 1 1) = x := ⟨_, rfl⟩
      rw [hac9]
      have e7_9 : ac9.eval (.tmp 7) = _ := hac9 ▸ ev_put e7_8 (by decide)
      have e10_9 : ac9.eval (.tmp 10) = _ := hac9 ▸ ev_put e10_8 (by decide)
      have e12_9 : ac9.eval (.tmp 12) = _ := hac9 ▸ ev_put e12_8 (by decide)
      have e13_9 : ac9.eval (.tmp 13) = _ := hac9 ▸ ev_put e13_8 (by decide)
      have e14_9 : ac9.eval (.tmp 14) = _ := hac9 ▸ ev_put e14_8 (by decide)
      have e11_9 : ac9.eval (.tmp 11) = _ := hac9 ▸ ev_put e11_8 (by decide)
      have e15_9 : ac9.eval (.tmp 15) = _ := hac9 ▸ ev_same (by rw [zz8]; decide)
      have zz9 : ac9.tmps.size = 24 := hac9 ▸ size_put zz8
      have dd9 : ac9.defers = ac8.defers := hac9 ▸ rfl
      refine st_fin p oq on oc q' n' cap' X Y Z ac9 zz9 e7_9 e11_9 e15_9 hrun e3 f3 (fun a' h => hk a' (h.trans (by rw [dd9, dd8, dd7, dd6, dd5, dd4, dd3, dd2, dd1])))
    · refine at_op (fuel := 5) (listed' := #[true, true, true, true, false, true, true, true, true, false, false, false, false]) xi8 xd8 xg8 ((run_bs xp8 e14_7 X).trans (by rw [hY])) rfl ?_
      obtain ⟨ac8, hac8⟩ : ∃ x, ac7.put (some 15) (.slice (some ⟨X.heap.size, 0, none⟩) 1 1) = x := ⟨_, rfl⟩
      rw [hac8]
      have e7_8 : ac8.eval (.tmp 7) = _ := hac8 ▸ ev_put e7_7 (by decide)
      have e10_8 : ac8.eval (.tmp 10) = _ := hac8 ▸ ev_put e10_7 (by decide)
      have e12_8 : ac8.eval (.tmp 12) = _ := hac8 ▸ ev_put e12_7 (by decide)
      have e13_8 : ac8.eval (.tmp 13) = _ := hac8 ▸ ev_put e13_7 (by decide)
      have e14_8 : ac8.eval (.tmp 14) = _ := hac8 ▸ ev_put e14_7 (by decide)
      have e15_8 : ac8.eval (.tmp 15) = _ := hac8 ▸ ev_same (by rw [zz7]; decide)
      have zz8 : ac8.tmps.size = 24 := hac8 ▸ size_put zz7
      have dd8 : ac8.defers = ac7.defers := hac8 ▸ rfl
      refine at_one (fuel := 4) (listed' := #[true, true, true, true, true, true, true, true, true, false, false, false, false]) (by kernel_rfl) xi4 xd4 xg4 (run_ls xp4 e10_8 e2) rfl ?_
      obtain ⟨ac9, hac9⟩ : ∃ x, ac8.put (some 11) (.slice oq on oc) = x := ⟨_, rfl⟩
      rw [hac9]
      have e7_9 : ac9.eval (.tmp 7) = _ := hac9 ▸ ev_put e7_8 (by decide)
      have e10_9 : ac9.eval (.tmp 10) = _ := hac9 ▸ ev_put e10_8 (by decide)
      have e12_9 : ac9.eval (.tmp 12) = _ := hac9 ▸ ev_put e12_8 (by decide)
      have e13_9 : ac9.eval (.tmp 13) = _ := hac9 ▸ ev_put e13_8 (by decide)
      have e14_9 : ac9.eval (.tmp 14) = _ := hac9 ▸ ev_put e14_8 (by decide)
      have e15_9 : ac9.eval (.tmp 15) = _ := hac9 ▸ ev_put e15_8 (by decide)
      have e11_9 : ac9.eval (.tmp 11) = _ := hac9 ▸ ev_same (by rw [zz8]; decide)
      have zz9 : ac9.tmps.size = 24 := hac9 ▸ size_put zz8
      have dd9 : ac9.defers = ac8.defers := hac9 ▸ rfl
      refine st_fin p oq on oc q' n' cap' X Y Z ac9 zz9 e7_9 e11_9 e15_9 hrun e3 f3 (fun a' h => hk a' (h.trans (by rw [dd9, dd8, dd7, dd6, dd5, dd4, dd3, dd2, dd1])))
end Go.Proofs.YtnlagbiikpbjdaaGreatDoor
