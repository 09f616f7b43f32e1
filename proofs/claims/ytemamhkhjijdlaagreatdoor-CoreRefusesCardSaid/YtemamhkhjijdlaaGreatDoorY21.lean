import Derived.Test.YtemamhkhjijdlaaGreatDoorY20
import Derived.Laws.Append
import Derived.StillTailTactics
import Derived.Deep.DeepMust
/-
  CORE: a list in parts, the first thing in it.
-/
namespace Go.Proofs.YtemamhkhjijdlaaGreatDoor
open Go Go.RowKit
theorem Turned.at_new {Q : Nat → Prop} {x y z : World} (t : Turned Q x y) (k : Turned (fun j => Q j ∨ x.heap.size ≤ j) y z) : Turned Q x z :=
  ⟨k.os.trans t.os, k.tape.trans t.tape, k.output.trans t.output, Nat.le_trans t.size k.size, fun j hj hq => (k.block j (Nat.lt_of_lt_of_le hj t.size) (fun e => by rcases e with e | e; exact hq e; omega)).trans (t.block j hj hq)⟩

set_option maxRecDepth 100000 in
set_option maxHeartbeats 4000000 in
theorem firstE {x : World} {b : Nat} {f : Nat → Value} (h : CellsAt 10 x b f) (f1 : f 1 = .slice none 0 0) (f2 : f 2 = .int .i64 0) (c0 c1 c2 c3 c4 : Int) : Calls Tryz.prog 233 #[.pointer (some ⟨b, 1, none⟩), .agg #[.int .i32 c0, .int .i32 c1, .int .u32 c2, .int .u8 c3, .int .u8 c4]] x fun e y => e = .returned (.tuple #[]) ∧ ∃ lb cap pb, x.heap.size ≤ lb ∧ x.heap.size ≤ pb ∧ lb ≠ pb ∧ CellsAt 10 y b (upd (upd f 1 (.slice (some ⟨lb, 0, none⟩) 1 cap)) 2 (.int .i64 ((1 : Nat) : Int))) ∧ CellsAt 1 y lb (fun _ => .slice (some ⟨pb, 0, none⟩) 1 1024) ∧ CellsAt (5120) y pb (fun i => if 0 * 5 ≤ i ∧ i < 0 * 5 + 5 then [.int .i32 c0, .int .i32 c1, .int .u32 c2, .int .u8 c3, .int .u8 c4].getD (i - 0 * 5) undef else zE (i % 5)) ∧ Turned (fun z => z = b) x y := by
  obtain ⟨X, hX⟩ : ∃ X, x.alloc (.cells #[.int .i32 c0, .int .i32 c1, .int .u32 c2, .int .u8 c3, .int .u8 c4] 158) = X := ⟨_, rfl⟩
  have hb0 : Below x.heap.size x X := by rw [← hX]; exact (Below.refl _ _).alloc (Nat.le_refl _) _
  have xb : CellsAt 5 X x.heap.size (fun i => [.int .i32 c0, .int .i32 c1, .int .u32 c2, .int .u8 c3, .int .u8 c4].getD i undef) := by
    rw [← hX]
    refine cells_new x (fun i hi => ?_)
    match i, hi with
    | 0, _ => rfl
    | 1, _ => rfl
    | 2, _ => rfl
    | 3, _ => rfl
    | 4, _ => rfl
  have kb := h.below hb0
  have q1 : X.cell? ⟨b, 1, none⟩ = some (.slice none 0 0) := (kb.cell 1 (by decide)).trans (congrArg some f1)
  have q2 : X.cell? ⟨b, 2, none⟩ = some (.int .i64 0) := (kb.cell 2 (by decide)).trans (congrArg some f2)
  have x0 : X.cell? ⟨x.heap.size, 0, none⟩ = some (.int .i32 c0) := xb.cell 0 (by decide)
  have x1 : X.cell? ⟨x.heap.size, 1, none⟩ = some (.int .i32 c1) := xb.cell 1 (by decide)
  have x2 : X.cell? ⟨x.heap.size, 2, none⟩ = some (.int .u32 c2) := xb.cell 2 (by decide)
  have x3 : X.cell? ⟨x.heap.size, 3, none⟩ = some (.int .u8 c3) := xb.cell 3 (by decide)
  have x4 : X.cell? ⟨x.heap.size, 4, none⟩ = some (.int .u8 c4) := xb.cell 4 (by decide)
  have hb1 := kb.here
  have fb := kb.free
  have hx1 := xb.here
  have d5 : b ≠ x.heap.size := by have := h.here; omega
  obtain ⟨A, hA⟩ : ∃ A, madeCells #[.int .i32 0, .int .i32 0, .int .u32 0, .int .u8 0, .int .u8 0] 5120 = A := ⟨_, rfl⟩
  have hmk : ∀ u : World, (Instr.makeSlice 238 (.int .i64 0) (.int .i64 1024)).run Tryz.prog u = .ok (.slice (some ⟨u.heap.size, 0, none⟩) 0 1024) (u.alloc (.cells A 158)) := fun u => by rw [← hA]; exact makeE u
  have HMA : Hid (∀ i, i < 5120 → A[i]? = some (zE (i % 5))) := Hid.in (fun i hi => by rw [← hA]; exact madeE i hi)
  clear hA
  have h5 : b < X.heap.size + 1 := by omega
  have h6 : b < X.heap.size + 1 + 1 := by omega
  have h7 : b < X.heap.size + 2 := by omega
  have hcb : ¬ (281474976710656 < Builtin.nextslicecap 1 0 * Tryz.t238.bytes) := by decide
  have HKB := Hid.in kb
  have HB0 := Hid.in hb0
  have HXB := Hid.in xb
  clear xb kb h f1 f2 hb0
  go_enter Tryz.func233, Tryz.ntmps233
  go_wp2_with fail
  try rw [hX]
  go_upto_region 2 with fail
  go_region
  generalize hcap : (Question.appendCap 1 0 238).cut (X.tape (X.drawn + 1) (Question.appendCap 1 0 238)) = cap
  obtain ⟨Y, hY⟩ : ∃ Y, ((((X.setCell ⟨b, 1, none⟩ (.slice (some ⟨X.heap.size + 1 + 1, 0, none⟩) 1 cap)).alloc (.cells A 158)).alloc (.cells #[.slice (some ⟨X.heap.size, 0, none⟩) 0 1024] 238)).alloc (.cells (#[.slice (some ⟨X.heap.size, 0, none⟩) 0 1024] ++ Builtin.zeroCells #[.slice none 0 0] (cap - 1)) 238)).drew.drew = Y := ⟨_, rfl⟩
  have sz1 : (X.setCell ⟨b, 1, none⟩ (.slice (some ⟨X.heap.size + 1 + 1, 0, none⟩) 1 cap)).heap.size = X.heap.size := by simp [World.setCell]
  have yb : CellsAt 10 Y b (upd f 1 (.slice (some ⟨X.heap.size + 1 + 1, 0, none⟩) 1 cap)) := by
    rw [← hY]
    exact (((((HKB.out.set 1 (by decide) _).alloc _).alloc _).alloc _).drew).drew
  have yp : CellsAt (5120) Y X.heap.size (fun i => zE (i % 5)) := by
    rw [← hY]
    have q := cells_new (n := 5120) (c := A) (t := 158) (g := fun i => zE (i % 5)) (X.setCell ⟨b, 1, none⟩ (.slice (some ⟨X.heap.size + 1 + 1, 0, none⟩) 1 cap)) HMA.out
    rw [sz1] at q
    exact (((q.alloc _).alloc _).drew).drew
  have yl : CellsAt 1 Y (X.heap.size + 1 + 1) (fun _ => .slice (some ⟨X.heap.size, 0, none⟩) 0 1024) := by
    rw [← hY]
    have q := cells_new (n := 1) (c := #[.slice (some ⟨X.heap.size, 0, none⟩) 0 1024] ++ Builtin.zeroCells #[.slice none 0 0] (cap - 1)) (t := 238) (g := fun _ => .slice (some ⟨X.heap.size, 0, none⟩) 0 1024) (((X.setCell ⟨b, 1, none⟩ (.slice (some ⟨X.heap.size + 1 + 1, 0, none⟩) 1 cap)).alloc (.cells A 158)).alloc (.cells #[.slice (some ⟨X.heap.size, 0, none⟩) 0 1024] 238)) (fun i hi => by
      obtain rfl : i = 0 := by omega
      rw [Array.getElem?_append_left (by simp)]
      rfl)
    simp only [World.size_alloc, sz1] at q
    exact (q.drew).drew
  have tY : Turned (fun z => z = b) X Y := by
    rw [← hY]
    exact ((((((Turned.refl (fun z => z = b) X).set (b := b) rfl _ _).alloc _).alloc _).alloc _).drew).drew
  have yx := tY.cells HXB.out (Ne.symm d5)
  rw [hY]
  have HTY := Hid.in tY
  have y1 : Y.cell? ⟨b, 1, none⟩ = some (.slice (some ⟨X.heap.size + 1 + 1, 0, none⟩) 1 cap) := (yb.cell 1 (by decide)).trans (congrArg some (upd_same _ _ _))
  have y2 : Y.cell? ⟨b, 2, none⟩ = some (.int .i64 0) := (yb.cell 2 (by decide)).trans (by rw [← q2]; exact (HKB.out.cell 2 (by decide)).symm)
  have y3 : Y.cell? ⟨X.heap.size + 1 + 1, 0, none⟩ = some (.slice (some ⟨X.heap.size, 0, none⟩) 0 1024) := yl.cell 0 (by decide)
  have v0 : Y.cell? ⟨x.heap.size, 0, none⟩ = some (.int .i32 c0) := yx.cell 0 (by decide)
  have v1 : Y.cell? ⟨x.heap.size, 1, none⟩ = some (.int .i32 c1) := yx.cell 1 (by decide)
  have v2 : Y.cell? ⟨x.heap.size, 2, none⟩ = some (.int .u32 c2) := yx.cell 2 (by decide)
  have v3 : Y.cell? ⟨x.heap.size, 3, none⟩ = some (.int .u8 c3) := yx.cell 3 (by decide)
  have v4 : Y.cell? ⟨x.heap.size, 4, none⟩ = some (.int .u8 c4) := yx.cell 4 (by decide)
  have p0 : Y.cell? ⟨X.heap.size, 0, none⟩ = some (.int .i32 0) := yp.cell 0 (by decide)
  have p1 : Y.cell? ⟨X.heap.size, 1, none⟩ = some (.int .i32 0) := yp.cell 1 (by decide)
  have p2 : Y.cell? ⟨X.heap.size, 2, none⟩ = some (.int .u32 0) := yp.cell 2 (by decide)
  have p3 : Y.cell? ⟨X.heap.size, 3, none⟩ = some (.int .u8 0) := yp.cell 3 (by decide)
  have p4 : Y.cell? ⟨X.heap.size, 4, none⟩ = some (.int .u8 0) := yp.cell 4 (by decide)
  have fp := yp.free
  have fl := yl.free 0
  have f2' := yb.free 2
  have hp1 := yp.here
  have hl1 := yl.here
  have hb2 := yb.here
  have hx2 := yx.here
  have d1 : b ≠ X.heap.size + 1 + 1 := by omega
  have d2 : b ≠ X.heap.size := by omega
  have d3 : X.heap.size + 1 + 1 ≠ X.heap.size := by omega
  have d4 : X.heap.size ≠ x.heap.size := by omega
  have d6 : X.heap.size + 1 + 1 ≠ x.heap.size := by omega
  have HYB := Hid.in yb
  have HYL := Hid.in yl
  have HYP := Hid.in yp
  clear yb yl yp yx tY hY hcap q1 q2 hmk hcb sz1 fb x0 x1 x2 x3 x4
  go_upto_region 4 with fail
  go_region
  go_wp2_with fail
  refine bodyPost_end (results_none Tryz.results233 _ _ _) rfl ⟨rfl, X.heap.size + 1 + 1, cap, X.heap.size, by omega, by omega, by omega, ?_, ?_, ?_, ?_⟩
  · exact ((((((((HYB.out.setOther _ _ d2).setOther _ _ d2).setOther _ _ d2).setOther _ _ d2).setOther _ _ d2).setOther _ _ d1).set 2 (by decide) _).alloc _).drew
  · refine CellsAt.ext ((((((((((HYL.out.setOther _ _ d3).setOther _ _ d3).setOther _ _ d3).setOther _ _ d3).setOther _ _ d3).set 0 (by decide) _).setOther _ _ (Ne.symm d1)).alloc _).drew)) (fun i hi => ?_)
    obtain rfl : i = 0 := by omega
    rfl
  · exact ((((cells_setRow HYP.out [.int .i32 c0, .int .i32 c1, .int .u32 c2, .int .u8 c3, .int .u8 c4] (0 * 5) (by simp)).setOther _ _ (Ne.symm d3)).setOther _ _ (Ne.symm d2)).alloc _).drew
  · refine Turned.at_new ((Turned.of_below HB0.out).trans HTY.out) ?_
    exact ((((((((((Turned.refl (fun z => z = b ∨ x.heap.size ≤ z) Y).set (b := X.heap.size) (Or.inr (by omega)) _ _).set (b := X.heap.size) (Or.inr (by omega)) _ _).set (b := X.heap.size) (Or.inr (by omega)) _ _).set (b := X.heap.size) (Or.inr (by omega)) _ _).set (b := X.heap.size) (Or.inr (by omega)) _ _).set (b := X.heap.size + 1 + 1) (Or.inr (by omega)) _ _).set (b := b) (Or.inl rfl) _ _).alloc _).drew)

set_option maxRecDepth 100000 in
set_option maxHeartbeats 4000000 in
theorem firstW {x : World} {b : Nat} {f : Nat → Value} (h : CellsAt 10 x b f) (f1 : f 3 = .slice none 0 0) (f2 : f 4 = .int .i64 0) (c0 c1 c2 c3 c4 c5 c6 : Int) : Calls Tryz.prog 234 #[.pointer (some ⟨b, 3, none⟩), .agg #[.int .u32 c0, .int .u32 c1, .int .i64 c2, .int .u32 c3, .int .i64 c4, .int .u32 c5, .int .u32 c6]] x fun e y => e = .returned (.tuple #[]) ∧ ∃ lb cap pb, x.heap.size ≤ lb ∧ x.heap.size ≤ pb ∧ lb ≠ pb ∧ CellsAt 10 y b (upd (upd f 3 (.slice (some ⟨lb, 0, none⟩) 1 cap)) 4 (.int .i64 ((1 : Nat) : Int))) ∧ CellsAt 1 y lb (fun _ => .slice (some ⟨pb, 0, none⟩) 1 1024) ∧ CellsAt (7168) y pb (fun i => if 0 * 7 ≤ i ∧ i < 0 * 7 + 7 then [.int .u32 c0, .int .u32 c1, .int .i64 c2, .int .u32 c3, .int .i64 c4, .int .u32 c5, .int .u32 c6].getD (i - 0 * 7) undef else zW (i % 7)) ∧ Turned (fun z => z = b) x y := by
  obtain ⟨X, hX⟩ : ∃ X, x.alloc (.cells #[.int .u32 c0, .int .u32 c1, .int .i64 c2, .int .u32 c3, .int .i64 c4, .int .u32 c5, .int .u32 c6] 161) = X := ⟨_, rfl⟩
  have hb0 : Below x.heap.size x X := by rw [← hX]; exact (Below.refl _ _).alloc (Nat.le_refl _) _
  have xb : CellsAt 7 X x.heap.size (fun i => [.int .u32 c0, .int .u32 c1, .int .i64 c2, .int .u32 c3, .int .i64 c4, .int .u32 c5, .int .u32 c6].getD i undef) := by
    rw [← hX]
    refine cells_new x (fun i hi => ?_)
    match i, hi with
    | 0, _ => rfl
    | 1, _ => rfl
    | 2, _ => rfl
    | 3, _ => rfl
    | 4, _ => rfl
    | 5, _ => rfl
    | 6, _ => rfl
  have kb := h.below hb0
  have q1 : X.cell? ⟨b, 3, none⟩ = some (.slice none 0 0) := (kb.cell 3 (by decide)).trans (congrArg some f1)
  have q2 : X.cell? ⟨b, 4, none⟩ = some (.int .i64 0) := (kb.cell 4 (by decide)).trans (congrArg some f2)
  have x0 : X.cell? ⟨x.heap.size, 0, none⟩ = some (.int .u32 c0) := xb.cell 0 (by decide)
  have x1 : X.cell? ⟨x.heap.size, 1, none⟩ = some (.int .u32 c1) := xb.cell 1 (by decide)
  have x2 : X.cell? ⟨x.heap.size, 2, none⟩ = some (.int .i64 c2) := xb.cell 2 (by decide)
  have x3 : X.cell? ⟨x.heap.size, 3, none⟩ = some (.int .u32 c3) := xb.cell 3 (by decide)
  have x4 : X.cell? ⟨x.heap.size, 4, none⟩ = some (.int .i64 c4) := xb.cell 4 (by decide)
  have x5 : X.cell? ⟨x.heap.size, 5, none⟩ = some (.int .u32 c5) := xb.cell 5 (by decide)
  have x6 : X.cell? ⟨x.heap.size, 6, none⟩ = some (.int .u32 c6) := xb.cell 6 (by decide)
  have hb1 := kb.here
  have fb := kb.free
  have hx1 := xb.here
  have d5 : b ≠ x.heap.size := by have := h.here; omega
  obtain ⟨A, hA⟩ : ∃ A, madeCells #[.int .u32 0, .int .u32 0, .int .i64 0, .int .u32 0, .int .i64 0, .int .u32 0, .int .u32 0] 7168 = A := ⟨_, rfl⟩
  have hmk : ∀ u : World, (Instr.makeSlice 240 (.int .i64 0) (.int .i64 1024)).run Tryz.prog u = .ok (.slice (some ⟨u.heap.size, 0, none⟩) 0 1024) (u.alloc (.cells A 161)) := fun u => by rw [← hA]; exact makeW u
  have HMA : Hid (∀ i, i < 7168 → A[i]? = some (zW (i % 7))) := Hid.in (fun i hi => by rw [← hA]; exact madeW i hi)
  clear hA
  have h5 : b < X.heap.size + 1 := by omega
  have h6 : b < X.heap.size + 1 + 1 := by omega
  have h7 : b < X.heap.size + 2 := by omega
  have hcb : ¬ (281474976710656 < Builtin.nextslicecap 1 0 * Tryz.t240.bytes) := by decide
  have HKB := Hid.in kb
  have HB0 := Hid.in hb0
  have HXB := Hid.in xb
  clear xb kb h f1 f2 hb0
  go_enter Tryz.func234, Tryz.ntmps234
  go_wp2_with fail
  try rw [hX]
  go_upto_region 2 with fail
  go_region
  generalize hcap : (Question.appendCap 1 0 240).cut (X.tape (X.drawn + 1) (Question.appendCap 1 0 240)) = cap
  obtain ⟨Y, hY⟩ : ∃ Y, ((((X.setCell ⟨b, 3, none⟩ (.slice (some ⟨X.heap.size + 1 + 1, 0, none⟩) 1 cap)).alloc (.cells A 161)).alloc (.cells #[.slice (some ⟨X.heap.size, 0, none⟩) 0 1024] 240)).alloc (.cells (#[.slice (some ⟨X.heap.size, 0, none⟩) 0 1024] ++ Builtin.zeroCells #[.slice none 0 0] (cap - 1)) 240)).drew.drew = Y := ⟨_, rfl⟩
  have sz1 : (X.setCell ⟨b, 3, none⟩ (.slice (some ⟨X.heap.size + 1 + 1, 0, none⟩) 1 cap)).heap.size = X.heap.size := by simp [World.setCell]
  have yb : CellsAt 10 Y b (upd f 3 (.slice (some ⟨X.heap.size + 1 + 1, 0, none⟩) 1 cap)) := by
    rw [← hY]
    exact (((((HKB.out.set 3 (by decide) _).alloc _).alloc _).alloc _).drew).drew
  have yp : CellsAt (7168) Y X.heap.size (fun i => zW (i % 7)) := by
    rw [← hY]
    have q := cells_new (n := 7168) (c := A) (t := 161) (g := fun i => zW (i % 7)) (X.setCell ⟨b, 3, none⟩ (.slice (some ⟨X.heap.size + 1 + 1, 0, none⟩) 1 cap)) HMA.out
    rw [sz1] at q
    exact (((q.alloc _).alloc _).drew).drew
  have yl : CellsAt 1 Y (X.heap.size + 1 + 1) (fun _ => .slice (some ⟨X.heap.size, 0, none⟩) 0 1024) := by
    rw [← hY]
    have q := cells_new (n := 1) (c := #[.slice (some ⟨X.heap.size, 0, none⟩) 0 1024] ++ Builtin.zeroCells #[.slice none 0 0] (cap - 1)) (t := 240) (g := fun _ => .slice (some ⟨X.heap.size, 0, none⟩) 0 1024) (((X.setCell ⟨b, 3, none⟩ (.slice (some ⟨X.heap.size + 1 + 1, 0, none⟩) 1 cap)).alloc (.cells A 161)).alloc (.cells #[.slice (some ⟨X.heap.size, 0, none⟩) 0 1024] 240)) (fun i hi => by
      obtain rfl : i = 0 := by omega
      rw [Array.getElem?_append_left (by simp)]
      rfl)
    simp only [World.size_alloc, sz1] at q
    exact (q.drew).drew
  have tY : Turned (fun z => z = b) X Y := by
    rw [← hY]
    exact ((((((Turned.refl (fun z => z = b) X).set (b := b) rfl _ _).alloc _).alloc _).alloc _).drew).drew
  have yx := tY.cells HXB.out (Ne.symm d5)
  rw [hY]
  have HTY := Hid.in tY
  have y1 : Y.cell? ⟨b, 3, none⟩ = some (.slice (some ⟨X.heap.size + 1 + 1, 0, none⟩) 1 cap) := (yb.cell 3 (by decide)).trans (congrArg some (upd_same _ _ _))
  have y2 : Y.cell? ⟨b, 4, none⟩ = some (.int .i64 0) := (yb.cell 4 (by decide)).trans (by rw [← q2]; exact (HKB.out.cell 4 (by decide)).symm)
  have y3 : Y.cell? ⟨X.heap.size + 1 + 1, 0, none⟩ = some (.slice (some ⟨X.heap.size, 0, none⟩) 0 1024) := yl.cell 0 (by decide)
  have v0 : Y.cell? ⟨x.heap.size, 0, none⟩ = some (.int .u32 c0) := yx.cell 0 (by decide)
  have v1 : Y.cell? ⟨x.heap.size, 1, none⟩ = some (.int .u32 c1) := yx.cell 1 (by decide)
  have v2 : Y.cell? ⟨x.heap.size, 2, none⟩ = some (.int .i64 c2) := yx.cell 2 (by decide)
  have v3 : Y.cell? ⟨x.heap.size, 3, none⟩ = some (.int .u32 c3) := yx.cell 3 (by decide)
  have v4 : Y.cell? ⟨x.heap.size, 4, none⟩ = some (.int .i64 c4) := yx.cell 4 (by decide)
  have v5 : Y.cell? ⟨x.heap.size, 5, none⟩ = some (.int .u32 c5) := yx.cell 5 (by decide)
  have v6 : Y.cell? ⟨x.heap.size, 6, none⟩ = some (.int .u32 c6) := yx.cell 6 (by decide)
  have p0 : Y.cell? ⟨X.heap.size, 0, none⟩ = some (.int .u32 0) := yp.cell 0 (by decide)
  have p1 : Y.cell? ⟨X.heap.size, 1, none⟩ = some (.int .u32 0) := yp.cell 1 (by decide)
  have p2 : Y.cell? ⟨X.heap.size, 2, none⟩ = some (.int .i64 0) := yp.cell 2 (by decide)
  have p3 : Y.cell? ⟨X.heap.size, 3, none⟩ = some (.int .u32 0) := yp.cell 3 (by decide)
  have p4 : Y.cell? ⟨X.heap.size, 4, none⟩ = some (.int .i64 0) := yp.cell 4 (by decide)
  have p5 : Y.cell? ⟨X.heap.size, 5, none⟩ = some (.int .u32 0) := yp.cell 5 (by decide)
  have p6 : Y.cell? ⟨X.heap.size, 6, none⟩ = some (.int .u32 0) := yp.cell 6 (by decide)
  have fp := yp.free
  have fl := yl.free 0
  have f2' := yb.free 4
  have hp1 := yp.here
  have hl1 := yl.here
  have hb2 := yb.here
  have hx2 := yx.here
  have d1 : b ≠ X.heap.size + 1 + 1 := by omega
  have d2 : b ≠ X.heap.size := by omega
  have d3 : X.heap.size + 1 + 1 ≠ X.heap.size := by omega
  have d4 : X.heap.size ≠ x.heap.size := by omega
  have d6 : X.heap.size + 1 + 1 ≠ x.heap.size := by omega
  have HYB := Hid.in yb
  have HYL := Hid.in yl
  have HYP := Hid.in yp
  clear yb yl yp yx tY hY hcap q1 q2 hmk hcb sz1 fb x0 x1 x2 x3 x4 x5 x6
  go_upto_region 4 with fail
  go_region
  go_wp2_with fail
  refine bodyPost_end (results_none Tryz.results234 _ _ _) rfl ⟨rfl, X.heap.size + 1 + 1, cap, X.heap.size, by omega, by omega, by omega, ?_, ?_, ?_, ?_⟩
  · exact ((((((((((HYB.out.setOther _ _ d2).setOther _ _ d2).setOther _ _ d2).setOther _ _ d2).setOther _ _ d2).setOther _ _ d2).setOther _ _ d2).setOther _ _ d1).set 4 (by decide) _).alloc _).drew
  · refine CellsAt.ext ((((((((((((HYL.out.setOther _ _ d3).setOther _ _ d3).setOther _ _ d3).setOther _ _ d3).setOther _ _ d3).setOther _ _ d3).setOther _ _ d3).set 0 (by decide) _).setOther _ _ (Ne.symm d1)).alloc _).drew)) (fun i hi => ?_)
    obtain rfl : i = 0 := by omega
    rfl
  · exact ((((cells_setRow HYP.out [.int .u32 c0, .int .u32 c1, .int .i64 c2, .int .u32 c3, .int .i64 c4, .int .u32 c5, .int .u32 c6] (0 * 7) (by simp)).setOther _ _ (Ne.symm d3)).setOther _ _ (Ne.symm d2)).alloc _).drew
  · refine Turned.at_new ((Turned.of_below HB0.out).trans HTY.out) ?_
    exact ((((((((((((Turned.refl (fun z => z = b ∨ x.heap.size ≤ z) Y).set (b := X.heap.size) (Or.inr (by omega)) _ _).set (b := X.heap.size) (Or.inr (by omega)) _ _).set (b := X.heap.size) (Or.inr (by omega)) _ _).set (b := X.heap.size) (Or.inr (by omega)) _ _).set (b := X.heap.size) (Or.inr (by omega)) _ _).set (b := X.heap.size) (Or.inr (by omega)) _ _).set (b := X.heap.size) (Or.inr (by omega)) _ _).set (b := X.heap.size + 1 + 1) (Or.inr (by omega)) _ _).set (b := b) (Or.inl rfl) _ _).alloc _).drew)
end Go.Proofs.YtemamhkhjijdlaaGreatDoor
/-
  CORE: what happens is noted: one more in a list.
-/
namespace Go.Proofs.YtemamhkhjijdlaaGreatDoor
open Go Go.RowKit
section
variable {C D : Nat → World → (Nat → Prop) → Prop} {x y : World} {F Q : Nat → Prop}
theorem All.multi {o : Nat → Nat} (I : Nat → Prop) (hC : ∀ k, Comp (C k)) (h : ∀ k, C k x (Out o x F k)) (hF : ∀ z, F z → z < x.heap.size) (o' : Nat → Nat) (ho : ∀ z, z < x.heap.size → o' z = o z) (hD : ∀ k, I k → D k y (Out o' y F k)) (he : ∀ k, ¬ I k → D k = C k) (t : Turned Q x y) (hQ : ∀ z, Q z → z < x.heap.size → ¬ F z ∧ I (o z)) : All D y F ∧ Turned (fun z => ¬ F z) x y := by
  refine ⟨⟨o', fun k => ?_, fun z hz => Nat.lt_of_lt_of_le (hF z hz) t.size⟩, t.mono (fun z q f => (hQ z q (hF z f)).1 f)⟩
  by_cases hk : I k
  · exact hD k hk
  · rw [he k hk]
    refine (hC k).less y _ _ ((hC k).turn x y _ Q (h k) t (fun z hz hl => Or.inl ⟨hl, fun e => hk (e ▸ (hQ z hz hl).2)⟩)) (fun z hz => ?_)
    rcases hz with hz | hz
    · by_cases q : z < x.heap.size
      · exact Or.inl (Or.inl ⟨q, by rw [← ho z q]; exact hz.2⟩)
      · exact Or.inr ⟨by omega, hz.1⟩
    · exact Or.inl (Or.inr hz)
theorem own_of {o : Nat → Nat} {k b n : Nat} {f : Nat → Value} (h : C k x (Out o x F k)) (hk : C k = CelC b n f) : o b = k ∧ ¬ F b ∧ b < x.heap.size := by
  rw [hk] at h
  have hb := h.1.here
  refine ⟨?_, fun q => (h.2 b (Or.inr q)).2 rfl, hb⟩
  by_cases q : o b = k
  · exact q
  · exact absurd rfl (h.2 b (Or.inl ⟨hb, q⟩)).2
theorem cel_out {o' : Nat → Nat} {k b n : Nat} {f : Nat → Value} (c : CellsAt n y b f) (hb : o' b = k) (hF : ¬ F b) (hl : ∀ z, F z → z < y.heap.size) : CelC b n f y (Out o' y F k) := by
  refine ⟨c, fun z hz => ?_⟩
  rcases hz with hz | hz
  · exact ⟨hz.1, fun e => hz.2 (e ▸ hb)⟩
  · exact ⟨hl z hz, fun e => hF (e ▸ hz)⟩
/-- the first thing in a list -/
theorem All.first {b n lb pb n1 n2 i : Nat} {f f' g1 g2 : Nat → Value} (hi : 0 < i) (hC : ∀ k, Comp (C k)) (h : All C x F) (h0 : C 0 = CelC b n f) (t : Turned (fun z => z = b) x y) (k0 : CellsAt n y b f') (hl : x.heap.size ≤ lb) (hp : x.heap.size ≤ pb) (hne : lb ≠ pb) (k1 : CellsAt n1 y lb g1) (k2 : CellsAt n2 y pb g2) : ∃ D, (∀ k, Comp (D k)) ∧ (All D y F ∧ Turned (fun z => ¬ F z) x y) ∧ D 0 = CelC b n f' ∧ D i = CelC lb n1 g1 ∧ D (i + 1) = CelC pb n2 g2 ∧ ∀ k, k ≠ 0 → k ≠ i → k ≠ i + 1 → D k = C k := by
  obtain ⟨o, h, hF⟩ := h
  obtain ⟨b1, b2, b3⟩ := own_of (h 0) h0
  have hFy : ∀ z, F z → z < y.heap.size := fun z hz => Nat.lt_of_lt_of_le (hF z hz) t.size
  have e0 : upd (upd (upd C 0 (CelC b n f')) i (CelC lb n1 g1)) (i + 1) (CelC pb n2 g2) 0 = CelC b n f' := by
    rw [upd_other _ _ _ _ (by omega), upd_other _ _ _ _ (by omega), upd_same]
  have e1 : upd (upd (upd C 0 (CelC b n f')) i (CelC lb n1 g1)) (i + 1) (CelC pb n2 g2) i = CelC lb n1 g1 := by
    rw [upd_other _ _ _ _ (by omega), upd_same]
  have e2 : upd (upd (upd C 0 (CelC b n f')) i (CelC lb n1 g1)) (i + 1) (CelC pb n2 g2) (i + 1) = CelC pb n2 g2 := upd_same _ _ _
  have e3 : ∀ k, k ≠ 0 → k ≠ i → k ≠ i + 1 → upd (upd (upd C 0 (CelC b n f')) i (CelC lb n1 g1)) (i + 1) (CelC pb n2 g2) k = C k := fun k a1 a2 a3 => by
    rw [upd_other _ _ _ _ a3, upd_other _ _ _ _ a2, upd_other _ _ _ _ a1]
  refine ⟨_, fun k => ?_, All.multi (fun k => k = 0 ∨ k = i ∨ k = i + 1) hC h hF (fun z => if z < x.heap.size then o z else if z = lb then i else if z = pb then i + 1 else 0) (fun z hz => if_pos hz) (fun k hk => ?_) (fun k hk => e3 k (fun e => hk (Or.inl e)) (fun e => hk (Or.inr (Or.inl e))) (fun e => hk (Or.inr (Or.inr e)))) t (fun z hz _ => by subst hz; exact ⟨b2, Or.inl b1⟩), e0, e1, e2, e3⟩
  · by_cases a1 : k = 0
    · subst a1; rw [e0]; exact celC_comp _ _ _
    · by_cases a2 : k = i
      · subst a2; rw [e1]; exact celC_comp _ _ _
      · by_cases a3 : k = i + 1
        · subst a3; rw [e2]; exact celC_comp _ _ _
        · rw [e3 k a1 a2 a3]; exact hC k
  · rcases hk with rfl | rfl | rfl
    · rw [e0]
      exact cel_out k0 (by rw [if_pos b3]; exact b1) b2 hFy
    · rw [e1]
      exact cel_out k1 (by rw [if_neg (by omega), if_pos rfl]) (fun q => by have := hF _ q; omega) hFy
    · rw [e2]
      exact cel_out k2 (by rw [if_neg (by omega), if_neg (fun e => hne e.symm), if_pos rfl]) (fun q => by have := hF _ q; omega) hFy
/-- one more in it -/
theorem All.more {b n lb pb n1 n2 i : Nat} {f f' g1 g2 g1' g2' : Nat → Value} (hi : 0 < i) (hC : ∀ k, Comp (C k)) (h : All C x F) (h0 : C 0 = CelC b n f) (h1 : C i = CelC lb n1 g1) (h2 : C (i + 1) = CelC pb n2 g2) (t : Turned (fun z => z = b ∨ z = lb ∨ z = pb) x y) (k0 : CellsAt n y b f') (k1 : CellsAt n1 y lb g1') (k2 : CellsAt n2 y pb g2') : ∃ D, (∀ k, Comp (D k)) ∧ (All D y F ∧ Turned (fun z => ¬ F z) x y) ∧ D 0 = CelC b n f' ∧ D i = CelC lb n1 g1' ∧ D (i + 1) = CelC pb n2 g2' ∧ ∀ k, k ≠ 0 → k ≠ i → k ≠ i + 1 → D k = C k := by
  obtain ⟨o, h, hF⟩ := h
  obtain ⟨b1, b2, b3⟩ := own_of (h 0) h0
  obtain ⟨l1, l2, l3⟩ := own_of (h i) h1
  obtain ⟨p1, p2, p3⟩ := own_of (h (i + 1)) h2
  have hFy : ∀ z, F z → z < y.heap.size := fun z hz => Nat.lt_of_lt_of_le (hF z hz) t.size
  have e0 : upd (upd (upd C 0 (CelC b n f')) i (CelC lb n1 g1')) (i + 1) (CelC pb n2 g2') 0 = CelC b n f' := by
    rw [upd_other _ _ _ _ (by omega), upd_other _ _ _ _ (by omega), upd_same]
  have e1 : upd (upd (upd C 0 (CelC b n f')) i (CelC lb n1 g1')) (i + 1) (CelC pb n2 g2') i = CelC lb n1 g1' := by
    rw [upd_other _ _ _ _ (by omega), upd_same]
  have e2 : upd (upd (upd C 0 (CelC b n f')) i (CelC lb n1 g1')) (i + 1) (CelC pb n2 g2') (i + 1) = CelC pb n2 g2' := upd_same _ _ _
  have e3 : ∀ k, k ≠ 0 → k ≠ i → k ≠ i + 1 → upd (upd (upd C 0 (CelC b n f')) i (CelC lb n1 g1')) (i + 1) (CelC pb n2 g2') k = C k := fun k a1 a2 a3 => by
    rw [upd_other _ _ _ _ a3, upd_other _ _ _ _ a2, upd_other _ _ _ _ a1]
  refine ⟨_, fun k => ?_, All.multi (fun k => k = 0 ∨ k = i ∨ k = i + 1) hC h hF o (fun z _ => rfl) (fun k hk => ?_) (fun k hk => e3 k (fun e => hk (Or.inl e)) (fun e => hk (Or.inr (Or.inl e))) (fun e => hk (Or.inr (Or.inr e)))) t (fun z hz _ => ?_), e0, e1, e2, e3⟩
  · by_cases a1 : k = 0
    · subst a1; rw [e0]; exact celC_comp _ _ _
    · by_cases a2 : k = i
      · subst a2; rw [e1]; exact celC_comp _ _ _
      · by_cases a3 : k = i + 1
        · subst a3; rw [e2]; exact celC_comp _ _ _
        · rw [e3 k a1 a2 a3]; exact hC k
  · rcases hk with rfl | rfl | rfl
    · rw [e0]
      exact cel_out k0 b1 b2 hFy
    · rw [e1]
      exact cel_out k1 l1 l2 hFy
    · rw [e2]
      exact cel_out k2 p1 p2 hFy
  · rcases hz with rfl | rfl | rfl
    · exact ⟨b2, Or.inl b1⟩
    · exact ⟨l2, Or.inr (Or.inl l1)⟩
    · exact ⟨p2, Or.inr (Or.inr p1)⟩
end
section
variable {x : World} {b gp : Nat} {R : Rec} {F : Nat → Prop}
theorem brd_len (gp : Nat) (evl evl' : Value) (ne ne' : Nat) (whl : Value) (nw cyc : Nat) : ∀ i, i < 10 → upd (upd (brdF gp evl ne whl nw cyc) 1 evl') 2 (.int .i64 ne') i = brdF gp evl' ne' whl nw cyc i := fun i hi => by
  match i, hi with
  | 0, _ => rfl
  | 1, _ => rfl
  | 2, _ => rfl
  | 3, _ => rfl
  | 4, _ => rfl
  | 5, _ => rfl
  | 6, _ => rfl
  | 7, _ => rfl
  | 8, _ => rfl
  | 9, _ => rfl
theorem brd_lenW (gp : Nat) (evl : Value) (ne : Nat) (whl whl' : Value) (nw nw' cyc : Nat) : ∀ i, i < 10 → upd (upd (brdF gp evl ne whl nw cyc) 3 whl') 4 (.int .i64 nw') i = brdF gp evl ne whl' nw' cyc i := fun i hi => by
  match i, hi with
  | 0, _ => rfl
  | 1, _ => rfl
  | 2, _ => rfl
  | 3, _ => rfl
  | 4, _ => rfl
  | 5, _ => rfl
  | 6, _ => rfl
  | 7, _ => rfl
  | 8, _ => rfl
  | 9, _ => rfl
theorem brd_one (gp : Nat) (evl : Value) (ne ne' : Nat) (whl : Value) (nw cyc : Nat) : ∀ i, i < 10 → upd (brdF gp evl ne whl nw cyc) 2 (.int .i64 ne') i = brdF gp evl ne' whl nw cyc i := fun i hi => by
  match i, hi with
  | 0, _ => rfl
  | 1, _ => rfl
  | 2, _ => rfl
  | 3, _ => rfl
  | 4, _ => rfl
  | 5, _ => rfl
  | 6, _ => rfl
  | 7, _ => rfl
  | 8, _ => rfl
  | 9, _ => rfl
theorem brd_oneW (gp : Nat) (evl : Value) (ne : Nat) (whl : Value) (nw nw' cyc : Nat) : ∀ i, i < 10 → upd (brdF gp evl ne whl nw cyc) 4 (.int .i64 nw') i = brdF gp evl ne whl nw' cyc i := fun i hi => by
  match i, hi with
  | 0, _ => rfl
  | 1, _ => rfl
  | 2, _ => rfl
  | 3, _ => rfl
  | 4, _ => rfl
  | 5, _ => rfl
  | 6, _ => rfl
  | 7, _ => rfl
  | 8, _ => rfl
  | 9, _ => rfl
theorem evC_at (c0 c1 c2 c3 c4 : Int) : ∀ j, j < 5 → ([.int .i32 c0, .int .i32 c1, .int .u32 c2, .int .u8 c3, .int .u8 c4] : List Value).getD j undef = evC c0 c1 c2 c3 c4 j := fun j hj => by
  match j, hj with
  | 0, _ => rfl
  | 1, _ => rfl
  | 2, _ => rfl
  | 3, _ => rfl
  | 4, _ => rfl
theorem whC_at (c0 c1 c2 c3 c4 c5 c6 : Int) : ∀ j, j < 7 → ([.int .u32 c0, .int .u32 c1, .int .i64 c2, .int .u32 c3, .int .i64 c4, .int .u32 c5, .int .u32 c6] : List Value).getD j undef = whC c0 c1 c2 c3 c4 c5 c6 j := fun j hj => by
  match j, hj with
  | 0, _ => rfl
  | 1, _ => rfl
  | 2, _ => rfl
  | 3, _ => rfl
  | 4, _ => rfl
  | 5, _ => rfl
  | 6, _ => rfl
theorem recE (h : BrdC b gp R x F) (hn : R.evs.length < 1024) (c0 c1 c2 c3 c4 : Int) : Calls Tryz.prog 233 #[.pointer (some ⟨b, 1, none⟩), .agg #[.int .i32 c0, .int .i32 c1, .int .u32 c2, .int .u8 c3, .int .u8 c4]] x fun e y => e = .returned (.tuple #[]) ∧ BrdC b gp { R with evs := R.evs ++ [evC c0 c1 c2 c3 c4] } y F ∧ Turned (fun z => ¬ F z) x y := by
  obtain ⟨C, evl, whl, hC, ha, h0, h1, h3⟩ := h
  have hl1 : (R.evs ++ [evC c0 c1 c2 c3 c4]).length = R.evs.length + 1 := by simp
  rcases h1 with ⟨hl, hv⟩ | ⟨lb, cap, pb, hv, hp, hk1, hk2⟩
  · subst hv
    have hz : R.evs.length = 0 := by rw [hl]; rfl
    rw [hz] at h0
    refine (firstE (ha.cells 0 h0) rfl rfl c0 c1 c2 c3 c4).mono ?_
    rintro e y ⟨rfl, lb, cap, pb, a1, a2, a3, k0, k1, k2, t⟩
    obtain ⟨D, hD, ⟨aD, tD⟩, d0, d1, d2, d3⟩ := All.first (i := 1) (by decide) hC ha h0 t (k0.ext (brd_len gp _ _ 0 1 whl R.whs.length R.cyc)) a1 a2 a3 k1 k2
    refine ⟨rfl, ⟨D, .slice (some ⟨lb, 0, none⟩) 1 cap, whl, hD, aD, ?_, Or.inr ⟨lb, cap, pb, rfl, (by rw [hl1]; exact Nat.succ_pos _), ?_, ?_⟩, ?_⟩, tD⟩
    · rw [d0, hl1, hz]
    · rw [d1, hl1, hz]
    · rw [d2]
      congr 1
      funext i
      rw [hl]
      exact getD_app (l := []) (z := zE) (n := 0) rfl (by decide) _ (evC_at c0 c1 c2 c3 c4) i
    · rcases h3 with q | ⟨lb', cap', pb', q1, q2, q3, q4⟩
      · exact Or.inl q
      · exact Or.inr ⟨lb', cap', pb', q1, q2, by rw [d3 3 (by decide) (by decide) (by decide)]; exact q3, by rw [d3 4 (by decide) (by decide) (by decide)]; exact q4⟩
  · subst hv
    refine (moreE (ha.cells 0 h0) rfl rfl (ha.cells 1 hk1) (ha.cells 2 hk2) hn hp (ha.ne 0 1 (by decide) h0 hk1) (ha.ne 0 2 (by decide) h0 hk2) (ha.ne 1 2 (by decide) hk1 hk2) c0 c1 c2 c3 c4).mono ?_
    rintro e y ⟨rfl, k0, k1, k2, t⟩
    obtain ⟨D, hD, ⟨aD, tD⟩, d0, d1, d2, d3⟩ := All.more (i := 1) (by decide) hC ha h0 hk1 hk2 t (k0.ext (brd_one gp _ R.evs.length (R.evs.length + 1) whl R.whs.length R.cyc)) k1 k2
    refine ⟨rfl, ⟨D, .slice (some ⟨lb, 0, none⟩) 1 cap, whl, hD, aD, ?_, Or.inr ⟨lb, cap, pb, rfl, (by rw [hl1]; exact Nat.succ_pos _), ?_, ?_⟩, ?_⟩, tD⟩
    · rw [d0, hl1]
    · rw [d1, hl1]
    · rw [d2]
      congr 1
      funext i
      exact getD_app (l := R.evs) rfl (by decide) _ (evC_at c0 c1 c2 c3 c4) i
    · rcases h3 with q | ⟨lb', cap', pb', q1, q2, q3, q4⟩
      · exact Or.inl q
      · exact Or.inr ⟨lb', cap', pb', q1, q2, by rw [d3 3 (by decide) (by decide) (by decide)]; exact q3, by rw [d3 4 (by decide) (by decide) (by decide)]; exact q4⟩
theorem recW (h : BrdC b gp R x F) (hn : R.whs.length < 1024) (c0 c1 c2 c3 c4 c5 c6 : Int) : Calls Tryz.prog 234 #[.pointer (some ⟨b, 3, none⟩), .agg #[.int .u32 c0, .int .u32 c1, .int .i64 c2, .int .u32 c3, .int .i64 c4, .int .u32 c5, .int .u32 c6]] x fun e y => e = .returned (.tuple #[]) ∧ BrdC b gp { R with whs := R.whs ++ [whC c0 c1 c2 c3 c4 c5 c6] } y F ∧ Turned (fun z => ¬ F z) x y := by
  obtain ⟨C, evl, whl, hC, ha, h0, h3, h1⟩ := h
  have hl1 : (R.whs ++ [whC c0 c1 c2 c3 c4 c5 c6]).length = R.whs.length + 1 := by simp
  rcases h1 with ⟨hl, hv⟩ | ⟨lb, cap, pb, hv, hp, hk1, hk2⟩
  · subst hv
    have hz : R.whs.length = 0 := by rw [hl]; rfl
    rw [hz] at h0
    refine (firstW (ha.cells 0 h0) rfl rfl c0 c1 c2 c3 c4 c5 c6).mono ?_
    rintro e y ⟨rfl, lb, cap, pb, a1, a2, a3, k0, k1, k2, t⟩
    obtain ⟨D, hD, ⟨aD, tD⟩, d0, d1, d2, d3⟩ := All.first (i := 3) (by decide) hC ha h0 t (k0.ext (brd_lenW gp evl R.evs.length _ _ 0 1 R.cyc)) a1 a2 a3 k1 k2
    refine ⟨rfl, ⟨D, evl, .slice (some ⟨lb, 0, none⟩) 1 cap, hD, aD, ?_, ?_, Or.inr ⟨lb, cap, pb, rfl, (by rw [hl1]; exact Nat.succ_pos _), ?_, ?_⟩⟩, tD⟩
    · rw [d0, hl1, hz]
    · rcases h3 with q | ⟨lb', cap', pb', q1, q2, q3, q4⟩
      · exact Or.inl q
      · exact Or.inr ⟨lb', cap', pb', q1, q2, by rw [d3 1 (by decide) (by decide) (by decide)]; exact q3, by rw [d3 2 (by decide) (by decide) (by decide)]; exact q4⟩
    · rw [d1, hl1, hz]
    · rw [d2]
      congr 1
      funext i
      rw [hl]
      exact getD_app (l := []) (z := zW) (n := 0) rfl (by decide) _ (whC_at c0 c1 c2 c3 c4 c5 c6) i
  · subst hv
    refine (moreW (ha.cells 0 h0) rfl rfl (ha.cells 3 hk1) (ha.cells 4 hk2) hn hp (ha.ne 0 3 (by decide) h0 hk1) (ha.ne 0 4 (by decide) h0 hk2) (ha.ne 3 4 (by decide) hk1 hk2) c0 c1 c2 c3 c4 c5 c6).mono ?_
    rintro e y ⟨rfl, k0, k1, k2, t⟩
    obtain ⟨D, hD, ⟨aD, tD⟩, d0, d1, d2, d3⟩ := All.more (i := 3) (by decide) hC ha h0 hk1 hk2 t (k0.ext (brd_oneW gp evl R.evs.length _ R.whs.length (R.whs.length + 1) R.cyc)) k1 k2
    refine ⟨rfl, ⟨D, evl, .slice (some ⟨lb, 0, none⟩) 1 cap, hD, aD, ?_, ?_, Or.inr ⟨lb, cap, pb, rfl, (by rw [hl1]; exact Nat.succ_pos _), ?_, ?_⟩⟩, tD⟩
    · rw [d0, hl1]
    · rcases h3 with q | ⟨lb', cap', pb', q1, q2, q3, q4⟩
      · exact Or.inl q
      · exact Or.inr ⟨lb', cap', pb', q1, q2, by rw [d3 1 (by decide) (by decide) (by decide)]; exact q3, by rw [d3 2 (by decide) (by decide) (by decide)]; exact q4⟩
    · rw [d1, hl1]
    · rw [d2]
      congr 1
      funext i
      exact getD_app (l := R.whs) rfl (by decide) _ (whC_at c0 c1 c2 c3 c4 c5 c6) i
end
end Go.Proofs.YtemamhkhjijdlaaGreatDoor
/-
  CORE: what happens is noted.
-/
namespace Go.Proofs.YtemamhkhjijdlaaGreatDoor
open Go Go.RowKit
def evF (core cyc kind seq pc : Int) (wh : Nat → Value) : Nat → Value
  | 0 => .int .i64 core
  | 1 => .int .i64 cyc
  | 2 => .int .i64 kind
  | 3 => .int .i64 seq
  | 4 => .int .u32 pc
  | k + 5 => wh k
section
variable {x : World} {b gp : Nat} {R : Rec} {F : Nat → Prop}
theorem ev_new (x : World) (core cyc kind seq pc c0 c1 c2 c3 c4 c5 c6 : Int) (t : TypeId) : CellsAt 12 (x.alloc (.cells #[.int .i64 core, .int .i64 cyc, .int .i64 kind, .int .i64 seq, .int .u32 pc, .int .u32 c0, .int .u32 c1, .int .i64 c2, .int .u32 c3, .int .i64 c4, .int .u32 c5, .int .u32 c6] t)) x.heap.size (evF core cyc kind seq pc (whC c0 c1 c2 c3 c4 c5 c6)) := by
  refine cells_new x (fun i hi => ?_)
  match i, hi with
  | 0, _ => rfl
  | 1, _ => rfl
  | 2, _ => rfl
  | 3, _ => rfl
  | 4, _ => rfl
  | 5, _ => rfl
  | 6, _ => rfl
  | 7, _ => rfl
  | 8, _ => rfl
  | 9, _ => rfl
  | 10, _ => rfl
  | 11, _ => rfl
theorem BrdC.grow (h : BrdC b gp R x F) {y : World} (t : Below x.heap.size x y) : BrdC b gp R y (fun z => F z ∨ (x.heap.size ≤ z ∧ z < y.heap.size)) := (brdC_comp b gp R).turn x y F (fun _ => False) h (Turned.of_below t) (fun _ q => q.elim)
theorem BrdC.drew (h : BrdC b gp R x F) : BrdC b gp R x.drew F := (brdC_comp b gp R).less _ _ _ (h.grow (Below.refl _ _).drew) (fun _ q => Or.inl q)
theorem Turned.from {F : Nat → Prop} {x X y : World} (t : Below x.heap.size x X) (k : Turned (fun z => ¬ (F z ∨ (x.heap.size ≤ z ∧ z < X.heap.size))) X y) : Turned (fun z => ¬ F z) x y := (Turned.of_below t).trans (k.mono (fun _ q f => q (Or.inl f)))
set_option maxRecDepth 100000 in
set_option maxHeartbeats 4000000 in
theorem radd_no (h : BrdC b gp R x F) (hn : R.evs.length < 1024) (cyc kind seq pc c0 c1 c2 c3 c4 c5 c6 : Int) (hk : kind = 1 ∨ kind = 2 ∨ kind = 3 ∨ kind = 5) (hc : 0 ≤ cyc ∧ cyc ≤ 1000) (hs : 0 ≤ seq ∧ seq ≤ 1000) : Calls Tryz.prog 172 #[.pointer (some ⟨b, 1, none⟩), .agg #[.int .i64 0, .int .i64 cyc, .int .i64 kind, .int .i64 seq, .int .u32 pc, .int .u32 c0, .int .u32 c1, .int .i64 c2, .int .u32 c3, .int .i64 c4, .int .u32 c5, .int .u32 c6]] x fun e y => e = .returned (.tuple #[]) ∧ BrdC b gp { R with evs := R.evs ++ [evC cyc seq pc 0 kind] } y F ∧ Turned (fun z => ¬ F z) x y := by
  obtain ⟨X, hX⟩ : ∃ X, x.alloc (.cells #[.int .i64 0, .int .i64 cyc, .int .i64 kind, .int .i64 seq, .int .u32 pc, .int .u32 c0, .int .u32 c1, .int .i64 c2, .int .u32 c3, .int .i64 c4, .int .u32 c5, .int .u32 c6] 163) = X := ⟨_, rfl⟩
  have hb0 : Below x.heap.size x X := by rw [← hX]; exact (Below.refl _ _).alloc (Nat.le_refl _) _
  have xb : CellsAt 12 X x.heap.size (evF 0 cyc kind seq pc (whC c0 c1 c2 c3 c4 c5 c6)) := by
    rw [← hX]
    exact ev_new x 0 cyc kind seq pc c0 c1 c2 c3 c4 c5 c6 _
  have kX := h.grow hb0
  have x0 : X.cell? ⟨x.heap.size, 0, none⟩ = some (.int .i64 0) := xb.cell 0 (by decide)
  have x1 : X.cell? ⟨x.heap.size, 1, none⟩ = some (.int .i64 cyc) := xb.cell 1 (by decide)
  have x2 : X.cell? ⟨x.heap.size, 2, none⟩ = some (.int .i64 kind) := xb.cell 2 (by decide)
  have x3 : X.cell? ⟨x.heap.size, 3, none⟩ = some (.int .i64 seq) := xb.cell 3 (by decide)
  have x4 : X.cell? ⟨x.heap.size, 4, none⟩ = some (.int .u32 pc) := xb.cell 4 (by decide)
  have hx1 := xb.here
  have HB0 := Hid.in hb0
  have HXB := Hid.in xb
  have HKX := Hid.in kX.drew
  have w1 : IntKind.i32.wrap cyc = cyc := by simp only [IntKind.wrap_i32]; omega
  have w2 : IntKind.i32.wrap seq = seq := by simp only [IntKind.wrap_i32]; omega
  have w3 : IntKind.u8.wrap kind = kind := by simp only [IntKind.wrap_u8]; omega
  have n4 : (kind == 4) = false := by simp; omega
  clear h hb0 xb kX
  go_enter Tryz.func172, Tryz.ntmps172
  go_wp2_with fail
  try rw [hX]
  go_upto_region 1 with fail
  go_still_tail 18, (by kernel_rfl)
  go_wp2_with (go_at_call 233; go_must (refine (recE HKX.out hn cyc seq pc 0 kind).mono ?_; rintro e y ⟨rfl, hb, ht⟩; have yb := ht.cells HXB.out.drew (fun q => q (Or.inr ⟨Nat.le_refl _, hx1⟩)); have y2 : y.cell? ⟨x.heap.size, 2, none⟩ = some (.int .i64 kind) := yb.cell 2 (by decide); have HB := Hid.in hb; have HT := Hid.in ht; clear hb ht yb))
  refine bodyPost_end (results_none Tryz.results172 _ _ _) rfl ⟨rfl, (brdC_comp _ _ _).less _ _ _ HB.out (fun _ q => Or.inl q), Turned.from (HB0.out) (((Turned.refl _ X).drew).trans HT.out)⟩
set_option maxRecDepth 100000 in
set_option maxHeartbeats 4000000 in
theorem radd_yes (h : BrdC b gp R x F) (hn : R.evs.length < 1024) (hw : R.whs.length < 1024) (cyc seq pc c0 c1 c2 c3 c4 c5 c6 : Int) (hc : 0 ≤ cyc ∧ cyc ≤ 1000) (hs : 0 ≤ seq ∧ seq ≤ 1000) : Calls Tryz.prog 172 #[.pointer (some ⟨b, 1, none⟩), .agg #[.int .i64 0, .int .i64 cyc, .int .i64 4, .int .i64 seq, .int .u32 pc, .int .u32 c0, .int .u32 c1, .int .i64 c2, .int .u32 c3, .int .i64 c4, .int .u32 c5, .int .u32 c6]] x fun e y => e = .returned (.tuple #[]) ∧ BrdC b gp { R with evs := R.evs ++ [evC cyc seq pc 0 4], whs := R.whs ++ [whC c0 c1 c2 c3 c4 c5 c6] } y F ∧ Turned (fun z => ¬ F z) x y := by
  obtain ⟨X, hX⟩ : ∃ X, x.alloc (.cells #[.int .i64 0, .int .i64 cyc, .int .i64 4, .int .i64 seq, .int .u32 pc, .int .u32 c0, .int .u32 c1, .int .i64 c2, .int .u32 c3, .int .i64 c4, .int .u32 c5, .int .u32 c6] 163) = X := ⟨_, rfl⟩
  have hb0 : Below x.heap.size x X := by rw [← hX]; exact (Below.refl _ _).alloc (Nat.le_refl _) _
  have xb : CellsAt 12 X x.heap.size (evF 0 cyc 4 seq pc (whC c0 c1 c2 c3 c4 c5 c6)) := by
    rw [← hX]
    exact ev_new x 0 cyc 4 seq pc c0 c1 c2 c3 c4 c5 c6 _
  have kX := h.grow hb0
  have x0 : X.cell? ⟨x.heap.size, 0, none⟩ = some (.int .i64 0) := xb.cell 0 (by decide)
  have x1 : X.cell? ⟨x.heap.size, 1, none⟩ = some (.int .i64 cyc) := xb.cell 1 (by decide)
  have x2 : X.cell? ⟨x.heap.size, 2, none⟩ = some (.int .i64 4) := xb.cell 2 (by decide)
  have x3 : X.cell? ⟨x.heap.size, 3, none⟩ = some (.int .i64 seq) := xb.cell 3 (by decide)
  have x4 : X.cell? ⟨x.heap.size, 4, none⟩ = some (.int .u32 pc) := xb.cell 4 (by decide)
  have hx1 := xb.here
  have HB0 := Hid.in hb0
  have HXB := Hid.in xb
  have HKX := Hid.in kX.drew
  have w1 : IntKind.i32.wrap cyc = cyc := by simp only [IntKind.wrap_i32]; omega
  have w2 : IntKind.i32.wrap seq = seq := by simp only [IntKind.wrap_i32]; omega
  clear h hb0 xb kX
  go_enter Tryz.func172, Tryz.ntmps172
  go_wp2_with fail
  try rw [hX]
  go_upto_region 1 with fail
  go_still_tail 18, (by kernel_rfl)
  go_upto_region 3 with (go_at_call 233; go_must (refine (recE HKX.out hn cyc seq pc 0 4).mono ?_; rintro e y ⟨rfl, hb, ht⟩; have yb := ht.cells HXB.out.drew (fun q => q (Or.inr ⟨Nat.le_refl _, hx1⟩)); have y2 : y.cell? ⟨x.heap.size, 2, none⟩ = some (.int .i64 4) := yb.cell 2 (by decide); have HB := Hid.in hb; have HT := Hid.in ht; have HYB := Hid.in yb; clear hb ht yb))
  have y5 : y.cell? ⟨x.heap.size, 5, none⟩ = some (.int .u32 c0) := HYB.out.cell 5 (by decide)
  have y6 : y.cell? ⟨x.heap.size, 6, none⟩ = some (.int .u32 c1) := HYB.out.cell 6 (by decide)
  have y7 : y.cell? ⟨x.heap.size, 7, none⟩ = some (.int .i64 c2) := HYB.out.cell 7 (by decide)
  have y8 : y.cell? ⟨x.heap.size, 8, none⟩ = some (.int .u32 c3) := HYB.out.cell 8 (by decide)
  have y9 : y.cell? ⟨x.heap.size, 9, none⟩ = some (.int .i64 c4) := HYB.out.cell 9 (by decide)
  have y10 : y.cell? ⟨x.heap.size, 10, none⟩ = some (.int .u32 c5) := HYB.out.cell 10 (by decide)
  have y11 : y.cell? ⟨x.heap.size, 11, none⟩ = some (.int .u32 c6) := HYB.out.cell 11 (by decide)
  clear x0 x1 x2 x3 x4 y2
  go_still_tail 5, (by kernel_rfl)
  go_wp2_with (go_at_call 234; go_must (refine (recW HB.out.drew hw c0 c1 c2 c3 c4 c5 c6).mono ?_; rintro e z ⟨rfl, hb, ht⟩; have HB2 := Hid.in hb; have HT2 := Hid.in ht; clear hb ht))
  refine bodyPost_end (results_none Tryz.results172 _ _ _) rfl ⟨rfl, (brdC_comp _ _ _).less _ _ _ HB2.out (fun _ q => Or.inl q), Turned.from (HB0.out) (((((Turned.refl _ X).drew).trans HT.out).drew).trans HT2.out)⟩
set_option maxRecDepth 100000 in
set_option maxHeartbeats 4000000 in
theorem note_no (h : BrdC b gp R x F) (hn : R.evs.length < 1024) (kind seq pc : Int) (hk : kind = 1 ∨ kind = 2 ∨ kind = 3 ∨ kind = 5) (hc : R.cyc ≤ 1000) (hs : 0 ≤ seq ∧ seq ≤ 1000) : Calls Tryz.prog 96 #[.pointer (some ⟨b, 0, none⟩), .agg #[.int .i64 0, .int .i64 0, .int .i64 kind, .int .i64 seq, .int .u32 pc, .int .u32 0, .int .u32 0, .int .i64 0, .int .u32 0, .int .i64 0, .int .u32 0, .int .u32 0]] x fun e y => e = .returned (.tuple #[]) ∧ BrdC b gp { R with evs := R.evs ++ [evC R.cyc seq pc 0 kind] } y F ∧ Turned (fun z => ¬ F z) x y := by
  obtain ⟨X, hX⟩ : ∃ X, x.alloc (.cells #[.int .i64 0, .int .i64 R.cyc, .int .i64 kind, .int .i64 seq, .int .u32 pc, .int .u32 0, .int .u32 0, .int .i64 0, .int .u32 0, .int .i64 0, .int .u32 0, .int .u32 0] 163) = X := ⟨_, rfl⟩
  have hb0 : Below x.heap.size x X := by rw [← hX]; exact (Below.refl _ _).alloc (Nat.le_refl _) _
  have xb : CellsAt 12 X x.heap.size (evF 0 R.cyc kind seq pc (whC 0 0 0 0 0 0 0)) := by
    rw [← hX]
    exact ev_new x 0 R.cyc kind seq pc 0 0 0 0 0 0 0 _
  have kX := h.grow hb0
  have c6' : x.cell? ⟨b, 6, none⟩ = some (.int .i64 R.cyc) := by
    obtain ⟨C, evl, whl, -, a, h0, -, -⟩ := h
    exact (a.cells 0 h0).cell 6 (by decide)
  have hb1 := cell_here c6'
  have HRA := Hid.in (radd_no kX.drew hn R.cyc kind seq pc 0 0 0 0 0 0 0 hk (by omega) hs)
  have HB0 := Hid.in hb0
  have x0 : X.cell? ⟨x.heap.size, 0, none⟩ = some (.int .i64 0) := xb.cell 0 (by decide)
  have x1 : X.cell? ⟨x.heap.size, 1, none⟩ = some (.int .i64 R.cyc) := xb.cell 1 (by decide)
  have x2 : X.cell? ⟨x.heap.size, 2, none⟩ = some (.int .i64 kind) := xb.cell 2 (by decide)
  have x3 : X.cell? ⟨x.heap.size, 3, none⟩ = some (.int .i64 seq) := xb.cell 3 (by decide)
  have x4 : X.cell? ⟨x.heap.size, 4, none⟩ = some (.int .u32 pc) := xb.cell 4 (by decide)
  have x5 : X.cell? ⟨x.heap.size, 5, none⟩ = some (.int .u32 0) := xb.cell 5 (by decide)
  have x6 : X.cell? ⟨x.heap.size, 6, none⟩ = some (.int .u32 0) := xb.cell 6 (by decide)
  have x7 : X.cell? ⟨x.heap.size, 7, none⟩ = some (.int .i64 0) := xb.cell 7 (by decide)
  have x8 : X.cell? ⟨x.heap.size, 8, none⟩ = some (.int .u32 0) := xb.cell 8 (by decide)
  have x9 : X.cell? ⟨x.heap.size, 9, none⟩ = some (.int .i64 0) := xb.cell 9 (by decide)
  have x10 : X.cell? ⟨x.heap.size, 10, none⟩ = some (.int .u32 0) := xb.cell 10 (by decide)
  have x11 : X.cell? ⟨x.heap.size, 11, none⟩ = some (.int .u32 0) := xb.cell 11 (by decide)
  have hx1 := xb.here
  clear h hb0 kX xb
  go_enter Tryz.func96, Tryz.ntmps96
  go_upto_region 2 with fail
  go_still_tail 4, (by kernel_rfl)
  go_wp2_with (go_at_call 172; go_must (refine HRA.out.mono ?_; rintro e y ⟨rfl, hb, ht⟩; have HB := Hid.in hb; have HT := Hid.in ht; clear hb ht))
  refine bodyPost_end (results_none Tryz.results96 _ _ _) rfl ⟨rfl, (brdC_comp _ _ _).less _ _ _ HB.out (fun _ q => Or.inl q), Turned.from (HB0.out) (((Turned.refl _ X).drew).trans HT.out)⟩
set_option maxRecDepth 100000 in
set_option maxHeartbeats 4000000 in
theorem note_yes (h : BrdC b gp R x F) (hn : R.evs.length < 1024) (hw : R.whs.length < 1024) (seq pc c0 c1 c2 c3 c4 c5 c6 : Int) (hc : R.cyc ≤ 1000) (hs : 0 ≤ seq ∧ seq ≤ 1000) : Calls Tryz.prog 96 #[.pointer (some ⟨b, 0, none⟩), .agg #[.int .i64 0, .int .i64 0, .int .i64 4, .int .i64 seq, .int .u32 pc, .int .u32 c0, .int .u32 c1, .int .i64 c2, .int .u32 c3, .int .i64 c4, .int .u32 c5, .int .u32 c6]] x fun e y => e = .returned (.tuple #[]) ∧ BrdC b gp { R with evs := R.evs ++ [evC R.cyc seq pc 0 4], whs := R.whs ++ [whC c0 c1 c2 c3 c4 c5 c6] } y F ∧ Turned (fun z => ¬ F z) x y := by
  obtain ⟨X, hX⟩ : ∃ X, x.alloc (.cells #[.int .i64 0, .int .i64 R.cyc, .int .i64 4, .int .i64 seq, .int .u32 pc, .int .u32 c0, .int .u32 c1, .int .i64 c2, .int .u32 c3, .int .i64 c4, .int .u32 c5, .int .u32 c6] 163) = X := ⟨_, rfl⟩
  have hb0 : Below x.heap.size x X := by rw [← hX]; exact (Below.refl _ _).alloc (Nat.le_refl _) _
  have xb : CellsAt 12 X x.heap.size (evF 0 R.cyc 4 seq pc (whC c0 c1 c2 c3 c4 c5 c6)) := by
    rw [← hX]
    exact ev_new x 0 R.cyc 4 seq pc c0 c1 c2 c3 c4 c5 c6 _
  have kX := h.grow hb0
  have c6' : x.cell? ⟨b, 6, none⟩ = some (.int .i64 R.cyc) := by
    obtain ⟨C, evl, whl, -, a, h0, -, -⟩ := h
    exact (a.cells 0 h0).cell 6 (by decide)
  have hb1 := cell_here c6'
  have HRA := Hid.in (radd_yes kX.drew hn hw R.cyc seq pc c0 c1 c2 c3 c4 c5 c6 (by omega) hs)
  have HB0 := Hid.in hb0
  have x0 : X.cell? ⟨x.heap.size, 0, none⟩ = some (.int .i64 0) := xb.cell 0 (by decide)
  have x1 : X.cell? ⟨x.heap.size, 1, none⟩ = some (.int .i64 R.cyc) := xb.cell 1 (by decide)
  have x2 : X.cell? ⟨x.heap.size, 2, none⟩ = some (.int .i64 4) := xb.cell 2 (by decide)
  have x3 : X.cell? ⟨x.heap.size, 3, none⟩ = some (.int .i64 seq) := xb.cell 3 (by decide)
  have x4 : X.cell? ⟨x.heap.size, 4, none⟩ = some (.int .u32 pc) := xb.cell 4 (by decide)
  have x5 : X.cell? ⟨x.heap.size, 5, none⟩ = some (.int .u32 c0) := xb.cell 5 (by decide)
  have x6 : X.cell? ⟨x.heap.size, 6, none⟩ = some (.int .u32 c1) := xb.cell 6 (by decide)
  have x7 : X.cell? ⟨x.heap.size, 7, none⟩ = some (.int .i64 c2) := xb.cell 7 (by decide)
  have x8 : X.cell? ⟨x.heap.size, 8, none⟩ = some (.int .u32 c3) := xb.cell 8 (by decide)
  have x9 : X.cell? ⟨x.heap.size, 9, none⟩ = some (.int .i64 c4) := xb.cell 9 (by decide)
  have x10 : X.cell? ⟨x.heap.size, 10, none⟩ = some (.int .u32 c5) := xb.cell 10 (by decide)
  have x11 : X.cell? ⟨x.heap.size, 11, none⟩ = some (.int .u32 c6) := xb.cell 11 (by decide)
  have hx1 := xb.here
  clear h hb0 kX xb
  go_enter Tryz.func96, Tryz.ntmps96
  go_upto_region 2 with fail
  go_still_tail 4, (by kernel_rfl)
  go_wp2_with (go_at_call 172; go_must (refine HRA.out.mono ?_; rintro e y ⟨rfl, hb, ht⟩; have HB := Hid.in hb; have HT := Hid.in ht; clear hb ht))
  refine bodyPost_end (results_none Tryz.results96 _ _ _) rfl ⟨rfl, (brdC_comp _ _ _).less _ _ _ HB.out (fun _ q => Or.inl q), Turned.from (HB0.out) (((Turned.refl _ X).drew).trans HT.out)⟩
end
end Go.Proofs.YtemamhkhjijdlaaGreatDoor
