import Derived.Test.YtemamhkhjijdlaaGreatDoorY10
import Derived.Test.YtemamhkhjijdlaaGreatDoorY08
import Derived.Deep.RegionHeld3
import Derived.ArgAppend
import Derived.Maps.AppendAt
/-
  CORE: a list in parts.
-/
namespace Go.Proofs.YtemamhkhjijdlaaGreatDoor
open Go Go.RowKit
theorem cells_setRow {n : Nat} {w : World} {b : Nat} {f : Nat → Value} (k : CellsAt n w b f) : ∀ (us : List Value) (o : Nat), o + us.length ≤ n → CellsAt n (w.setCells b o us) b (fun i => if o ≤ i ∧ i < o + us.length then us.getD (i - o) undef else f i)
  | [], o, _ => by
    refine CellsAt.ext (show CellsAt n (w.setCells b o []) b f from k) (fun i _ => ?_)
    rw [if_neg (by simp)]
  | u :: us, o, h => by
    have h' : o + 1 + us.length ≤ n := by simp at h; omega
    refine (cells_setRow (k.set o (by simp at h; omega) u) us (o + 1) h').ext (fun i hi => ?_)
    unfold upd
    by_cases q : o + 1 ≤ i ∧ i < o + 1 + us.length
    · rw [if_pos q, if_pos (by simp; omega)]
      obtain ⟨j, rfl⟩ : ∃ j, i = o + 1 + j := ⟨i - (o + 1), by omega⟩
      rw [show o + 1 + j - (o + 1) = j by omega, show o + 1 + j - o = j + 1 by omega]
      simp
    · rw [if_neg q]
      by_cases e : i = o
      · subst e
        rw [if_pos rfl, if_pos (by simp)]
        simp
      · rw [if_neg e, if_neg (by simp; omega)]
theorem getD_app {l : List (Nat → Value)} {z e : Nat → Value} {sz n : Nat} (hn : l.length = n) (hz : 0 < sz) (us : List Value) (he : ∀ j, j < sz → us.getD j undef = e j) (i : Nat) : (if n * sz ≤ i ∧ i < n * sz + sz then us.getD (i - n * sz) undef else l.getD (i / sz) z (i % sz)) = (l ++ [e]).getD (i / sz) z (i % sz) := by
  subst hn
  by_cases q : l.length * sz ≤ i ∧ i < l.length * sz + sz
  · rw [if_pos q]
    obtain ⟨j, rfl⟩ : ∃ j, i = l.length * sz + j := ⟨i - l.length * sz, by omega⟩
    have hj : j < sz := by omega
    have e1 : (l.length * sz + j) / sz = l.length := by
      rw [Nat.mul_comm, Nat.mul_add_div hz, Nat.div_eq_of_lt hj, Nat.add_zero]
    have e2 : (l.length * sz + j) % sz = j := by
      rw [Nat.mul_comm, Nat.mul_add_mod, Nat.mod_eq_of_lt hj]
    rw [e1, e2, Nat.add_sub_cancel_left, he j hj]
    simp
  · rw [if_neg q]
    have hne : i / sz ≠ l.length := by
      intro e
      have h1 := Nat.div_add_mod i sz
      have h2 := Nat.mod_lt i hz
      rw [e, Nat.mul_comm] at h1
      omega
    by_cases h : i / sz < l.length
    · simp [List.getD_eq_getElem?_getD, List.getElem?_append_left h]
    · have h3 : l.length + 1 ≤ i / sz := by omega
      simp only [List.getD_eq_getElem?_getD]
      rw [List.getElem?_eq_none (by omega), List.getElem?_eq_none (by simp; omega)]

theorem infoE : (Tryz.prog.info? 158).map (fun i => (i.zero, i.size, i.bytes)) = some (some (.agg #[.int .i32 0, .int .i32 0, .int .u32 0, .int .u8 0, .int .u8 0]), 5, 16) := by kernel_rfl
theorem makeE (u : World) : (Instr.makeSlice 238 (.int .i64 0) (.int .i64 1024)).run Tryz.prog u = .ok (.slice (some ⟨u.heap.size, 0, none⟩) 0 1024) (u.alloc (.cells (madeCells #[.int .i32 0, .int .i32 0, .int .u32 0, .int .u8 0, .int .u8 0] (5120)) 158)) := by
  obtain ⟨i, h1, h2, h3, h4⟩ := info_parts_lsq infoE
  have q := run_make (P := Tryz.prog) u 238 158 i (.agg #[.int .i32 0, .int .i32 0, .int .u32 0, .int .u8 0, .int .u8 0]) Tryz.underlying238 h1 h2 .i64 .i64 0 1024 (by decide) (by decide) (by rw [h4]; decide) (by decide)
  rw [q, h3]
  rfl
theorem madeE (i : Nat) (h : i < 5120) : (madeCells #[.int .i32 0, .int .i32 0, .int .u32 0, .int .u8 0, .int .u8 0] (5120))[i]? = some (zE (i % 5)) := by
  have h3 : i % 5 = 0 ∨ i % 5 = 1 ∨ i % 5 = 2 ∨ i % 5 = 3 ∨ i % 5 = 4 := by omega
  rcases h3 with e | e | e | e | e <;> simp [madeCells, h, e, zE]

set_option maxRecDepth 100000 in
set_option maxHeartbeats 4000000 in
theorem moreE {x : World} {b lb pb cap : Nat} {f g : Nat → Value} {n : Nat} (h : CellsAt 10 x b f) (f1 : f 1 = .slice (some ⟨lb, 0, none⟩) 1 cap) (f2 : f 2 = .int .i64 n) (hl : CellsAt 1 x lb (fun _ => .slice (some ⟨pb, 0, none⟩) n 1024)) (hp : CellsAt (5120) x pb g) (hn : n < 1024) (h0 : 0 < n) (d1 : b ≠ lb) (d2 : b ≠ pb) (d3 : lb ≠ pb) (c0 c1 c2 c3 c4 : Int) : Calls Tryz.prog 233 #[.pointer (some ⟨b, 1, none⟩), .agg #[.int .i32 c0, .int .i32 c1, .int .u32 c2, .int .u8 c3, .int .u8 c4]] x fun e y => e = .returned (.tuple #[]) ∧ CellsAt 10 y b (upd f 2 (.int .i64 ((n + 1 : Nat) : Int))) ∧ CellsAt 1 y lb (fun _ => .slice (some ⟨pb, 0, none⟩) (n + 1) 1024) ∧ CellsAt (5120) y pb (fun i => if n * 5 ≤ i ∧ i < n * 5 + 5 then [.int .i32 c0, .int .i32 c1, .int .u32 c2, .int .u8 c3, .int .u8 c4].getD (i - n * 5) undef else g i) ∧ Turned (fun z => z = b ∨ z = lb ∨ z = pb) x y := by
  obtain ⟨X, hX⟩ : ∃ X, x.alloc (.cells #[.int .i32 c0, .int .i32 c1, .int .u32 c2, .int .u8 c3, .int .u8 c4] 158) = X := ⟨_, rfl⟩
  have hb0 : Below x.heap.size x X := by rw [← hX]; exact (Below.refl _ _).alloc (Nat.le_refl _) _
  have xb : CellsAt 5 X x.heap.size (fun i => [.int .i32 c0, .int .i32 c1, .int .u32 c2, .int .u8 c3, .int .u8 c4].getD i undef) := by
    rw [← hX]
    refine cells_new x (fun i hi => ?_)
    match i, hi with
    | 0, _ => rfl
    | 1, _ => rfl
    | 2, _ => rfl
    | 3, _ => rfl
    | 4, _ => rfl
  have kb := h.below hb0
  have kl := hl.below hb0
  have kp := hp.below hb0
  have q1 : X.cell? ⟨b, 1, none⟩ = some (.slice (some ⟨lb, 0, none⟩) 1 cap) := (kb.cell 1 (by decide)).trans (congrArg some f1)
  have q2 : X.cell? ⟨b, 2, none⟩ = some (.int .i64 n) := (kb.cell 2 (by decide)).trans (congrArg some f2)
  have q3 : X.cell? ⟨lb, 0, none⟩ = some (.slice (some ⟨pb, 0, none⟩) n 1024) := kl.cell 0 (by decide)
  have x0 : X.cell? ⟨x.heap.size, 0, none⟩ = some (.int .i32 c0) := xb.cell 0 (by decide)
  have x1 : X.cell? ⟨x.heap.size, 1, none⟩ = some (.int .i32 c1) := xb.cell 1 (by decide)
  have x2 : X.cell? ⟨x.heap.size, 2, none⟩ = some (.int .u32 c2) := xb.cell 2 (by decide)
  have x3 : X.cell? ⟨x.heap.size, 3, none⟩ = some (.int .u8 c3) := xb.cell 3 (by decide)
  have x4 : X.cell? ⟨x.heap.size, 4, none⟩ = some (.int .u8 c4) := xb.cell 4 (by decide)
  have e1 : ((n : Int).tmod 1024 == 0) = false := by
    rw [Int.tmod_eq_emod_of_nonneg (by omega)]
    simp
    omega
  have e1' : ((n : Int) % 1024 == 0) = false := by
    simp
    omega
  have hb1 := kb.here
  have hl1 := kl.here
  have f2' := kb.free 2
  have fl := kl.free 0
  have p0 : X.cell? ⟨pb, n * 5, none⟩ = some (g (n * 5)) := kp.cell _ (by omega)
  have p1 : X.cell? ⟨pb, n * 5 + 1, none⟩ = some (g (n * 5 + 1)) := kp.cell _ (by omega)
  have p2 : X.cell? ⟨pb, n * 5 + 2, none⟩ = some (g (n * 5 + 2)) := kp.cell _ (by omega)
  have p3 : X.cell? ⟨pb, n * 5 + 3, none⟩ = some (g (n * 5 + 3)) := kp.cell _ (by omega)
  have p4 : X.cell? ⟨pb, n * 5 + 4, none⟩ = some (g (n * 5 + 4)) := kp.cell _ (by omega)
  have fp := kp.free
  have hp1 := kp.here
  have HKB := Hid.in kb
  have HKL := Hid.in kl
  have HKP := Hid.in kp
  have HB0 := Hid.in hb0
  have hx1 := xb.here
  have d4 : pb ≠ x.heap.size := by have := hp.here; omega
  have d5 : b ≠ x.heap.size := by have := h.here; omega
  have d6 : lb ≠ x.heap.size := by have := hl.here; omega
  have hn1 : n ≤ 1023 := by omega
  clear xb kb kl kp h hl hp f1 f2 hb0
  go_enter Tryz.func233, Tryz.ntmps233
  go_wp2_with fail
  try rw [hX]
  go_upto_region 4 with fail
  go_region
  go_wp2_with fail
  have e9 : ((n + 1 : Nat) : Int) = (n : Int) + 1 := by omega
  rw [e9]
  refine bodyPost_end (results_none Tryz.results233 _ _ _) rfl ⟨rfl, ?_, ?_, ?_, ?_⟩
  · exact ((((((((HKB.out.setOther _ _ d2).setOther _ _ d2).setOther _ _ d2).setOther _ _ d2).setOther _ _ d2).setOther _ _ d1).set 2 (by decide) _).alloc _).drew
  · refine CellsAt.ext ((((((((((HKL.out.setOther _ _ d3).setOther _ _ d3).setOther _ _ d3).setOther _ _ d3).setOther _ _ d3).set 0 (by decide) _).setOther _ _ (Ne.symm d1)).alloc _).drew)) (fun i hi => ?_)
    obtain rfl : i = 0 := by omega
    rfl
  · exact ((((cells_setRow HKP.out [.int .i32 c0, .int .i32 c1, .int .u32 c2, .int .u8 c3, .int .u8 c4] (n * 5) (by simp; omega)).setOther _ _ (Ne.symm d3)).setOther _ _ (Ne.symm d2)).alloc _).drew
  · exact ((((((((((Turned.of_below (Q := fun z => z = b ∨ z = lb ∨ z = pb) HB0.out).set (b := pb) (Or.inr (Or.inr rfl)) _ _).set (b := pb) (Or.inr (Or.inr rfl)) _ _).set (b := pb) (Or.inr (Or.inr rfl)) _ _).set (b := pb) (Or.inr (Or.inr rfl)) _ _).set (b := pb) (Or.inr (Or.inr rfl)) _ _).set (b := lb) (Or.inr (Or.inl rfl)) _ _).set (b := b) (Or.inl rfl) _ _).alloc _).drew)

theorem infoW : (Tryz.prog.info? 161).map (fun i => (i.zero, i.size, i.bytes)) = some (some (.agg #[.int .u32 0, .int .u32 0, .int .i64 0, .int .u32 0, .int .i64 0, .int .u32 0, .int .u32 0]), 7, 40) := by kernel_rfl
theorem makeW (u : World) : (Instr.makeSlice 240 (.int .i64 0) (.int .i64 1024)).run Tryz.prog u = .ok (.slice (some ⟨u.heap.size, 0, none⟩) 0 1024) (u.alloc (.cells (madeCells #[.int .u32 0, .int .u32 0, .int .i64 0, .int .u32 0, .int .i64 0, .int .u32 0, .int .u32 0] (7168)) 161)) := by
  obtain ⟨i, h1, h2, h3, h4⟩ := info_parts_lsq infoW
  have q := run_make (P := Tryz.prog) u 240 161 i (.agg #[.int .u32 0, .int .u32 0, .int .i64 0, .int .u32 0, .int .i64 0, .int .u32 0, .int .u32 0]) Tryz.underlying240 h1 h2 .i64 .i64 0 1024 (by decide) (by decide) (by rw [h4]; decide) (by decide)
  rw [q, h3]
  rfl
theorem madeW (i : Nat) (h : i < 7168) : (madeCells #[.int .u32 0, .int .u32 0, .int .i64 0, .int .u32 0, .int .i64 0, .int .u32 0, .int .u32 0] (7168))[i]? = some (zW (i % 7)) := by
  have h3 : i % 7 = 0 ∨ i % 7 = 1 ∨ i % 7 = 2 ∨ i % 7 = 3 ∨ i % 7 = 4 ∨ i % 7 = 5 ∨ i % 7 = 6 := by omega
  rcases h3 with e | e | e | e | e | e | e <;> simp [madeCells, h, e, zW]

set_option maxRecDepth 100000 in
set_option maxHeartbeats 4000000 in
theorem moreW {x : World} {b lb pb cap : Nat} {f g : Nat → Value} {n : Nat} (h : CellsAt 10 x b f) (f1 : f 3 = .slice (some ⟨lb, 0, none⟩) 1 cap) (f2 : f 4 = .int .i64 n) (hl : CellsAt 1 x lb (fun _ => .slice (some ⟨pb, 0, none⟩) n 1024)) (hp : CellsAt (7168) x pb g) (hn : n < 1024) (h0 : 0 < n) (d1 : b ≠ lb) (d2 : b ≠ pb) (d3 : lb ≠ pb) (c0 c1 c2 c3 c4 c5 c6 : Int) : Calls Tryz.prog 234 #[.pointer (some ⟨b, 3, none⟩), .agg #[.int .u32 c0, .int .u32 c1, .int .i64 c2, .int .u32 c3, .int .i64 c4, .int .u32 c5, .int .u32 c6]] x fun e y => e = .returned (.tuple #[]) ∧ CellsAt 10 y b (upd f 4 (.int .i64 ((n + 1 : Nat) : Int))) ∧ CellsAt 1 y lb (fun _ => .slice (some ⟨pb, 0, none⟩) (n + 1) 1024) ∧ CellsAt (7168) y pb (fun i => if n * 7 ≤ i ∧ i < n * 7 + 7 then [.int .u32 c0, .int .u32 c1, .int .i64 c2, .int .u32 c3, .int .i64 c4, .int .u32 c5, .int .u32 c6].getD (i - n * 7) undef else g i) ∧ Turned (fun z => z = b ∨ z = lb ∨ z = pb) x y := by
  obtain ⟨X, hX⟩ : ∃ X, x.alloc (.cells #[.int .u32 c0, .int .u32 c1, .int .i64 c2, .int .u32 c3, .int .i64 c4, .int .u32 c5, .int .u32 c6] 161) = X := ⟨_, rfl⟩
  have hb0 : Below x.heap.size x X := by rw [← hX]; exact (Below.refl _ _).alloc (Nat.le_refl _) _
  have xb : CellsAt 7 X x.heap.size (fun i => [.int .u32 c0, .int .u32 c1, .int .i64 c2, .int .u32 c3, .int .i64 c4, .int .u32 c5, .int .u32 c6].getD i undef) := by
    rw [← hX]
    refine cells_new x (fun i hi => ?_)
    match i, hi with
    | 0, _ => rfl
    | 1, _ => rfl
    | 2, _ => rfl
    | 3, _ => rfl
    | 4, _ => rfl
    | 5, _ => rfl
    | 6, _ => rfl
  have kb := h.below hb0
  have kl := hl.below hb0
  have kp := hp.below hb0
  have q1 : X.cell? ⟨b, 3, none⟩ = some (.slice (some ⟨lb, 0, none⟩) 1 cap) := (kb.cell 3 (by decide)).trans (congrArg some f1)
  have q2 : X.cell? ⟨b, 4, none⟩ = some (.int .i64 n) := (kb.cell 4 (by decide)).trans (congrArg some f2)
  have q3 : X.cell? ⟨lb, 0, none⟩ = some (.slice (some ⟨pb, 0, none⟩) n 1024) := kl.cell 0 (by decide)
  have x0 : X.cell? ⟨x.heap.size, 0, none⟩ = some (.int .u32 c0) := xb.cell 0 (by decide)
  have x1 : X.cell? ⟨x.heap.size, 1, none⟩ = some (.int .u32 c1) := xb.cell 1 (by decide)
  have x2 : X.cell? ⟨x.heap.size, 2, none⟩ = some (.int .i64 c2) := xb.cell 2 (by decide)
  have x3 : X.cell? ⟨x.heap.size, 3, none⟩ = some (.int .u32 c3) := xb.cell 3 (by decide)
  have x4 : X.cell? ⟨x.heap.size, 4, none⟩ = some (.int .i64 c4) := xb.cell 4 (by decide)
  have x5 : X.cell? ⟨x.heap.size, 5, none⟩ = some (.int .u32 c5) := xb.cell 5 (by decide)
  have x6 : X.cell? ⟨x.heap.size, 6, none⟩ = some (.int .u32 c6) := xb.cell 6 (by decide)
  have e1 : ((n : Int).tmod 1024 == 0) = false := by
    rw [Int.tmod_eq_emod_of_nonneg (by omega)]
    simp
    omega
  have e1' : ((n : Int) % 1024 == 0) = false := by
    simp
    omega
  have hb1 := kb.here
  have hl1 := kl.here
  have f2' := kb.free 4
  have fl := kl.free 0
  have p0 : X.cell? ⟨pb, n * 7, none⟩ = some (g (n * 7)) := kp.cell _ (by omega)
  have p1 : X.cell? ⟨pb, n * 7 + 1, none⟩ = some (g (n * 7 + 1)) := kp.cell _ (by omega)
  have p2 : X.cell? ⟨pb, n * 7 + 2, none⟩ = some (g (n * 7 + 2)) := kp.cell _ (by omega)
  have p3 : X.cell? ⟨pb, n * 7 + 3, none⟩ = some (g (n * 7 + 3)) := kp.cell _ (by omega)
  have p4 : X.cell? ⟨pb, n * 7 + 4, none⟩ = some (g (n * 7 + 4)) := kp.cell _ (by omega)
  have p5 : X.cell? ⟨pb, n * 7 + 5, none⟩ = some (g (n * 7 + 5)) := kp.cell _ (by omega)
  have p6 : X.cell? ⟨pb, n * 7 + 6, none⟩ = some (g (n * 7 + 6)) := kp.cell _ (by omega)
  have fp := kp.free
  have hp1 := kp.here
  have HKB := Hid.in kb
  have HKL := Hid.in kl
  have HKP := Hid.in kp
  have HB0 := Hid.in hb0
  have hx1 := xb.here
  have d4 : pb ≠ x.heap.size := by have := hp.here; omega
  have d5 : b ≠ x.heap.size := by have := h.here; omega
  have d6 : lb ≠ x.heap.size := by have := hl.here; omega
  have hn1 : n ≤ 1023 := by omega
  clear xb kb kl kp h hl hp f1 f2 hb0
  go_enter Tryz.func234, Tryz.ntmps234
  go_wp2_with fail
  try rw [hX]
  go_upto_region 4 with fail
  go_region
  go_wp2_with fail
  have e9 : ((n + 1 : Nat) : Int) = (n : Int) + 1 := by omega
  rw [e9]
  refine bodyPost_end (results_none Tryz.results234 _ _ _) rfl ⟨rfl, ?_, ?_, ?_, ?_⟩
  · exact ((((((((((HKB.out.setOther _ _ d2).setOther _ _ d2).setOther _ _ d2).setOther _ _ d2).setOther _ _ d2).setOther _ _ d2).setOther _ _ d2).setOther _ _ d1).set 4 (by decide) _).alloc _).drew
  · refine CellsAt.ext ((((((((((((HKL.out.setOther _ _ d3).setOther _ _ d3).setOther _ _ d3).setOther _ _ d3).setOther _ _ d3).setOther _ _ d3).setOther _ _ d3).set 0 (by decide) _).setOther _ _ (Ne.symm d1)).alloc _).drew)) (fun i hi => ?_)
    obtain rfl : i = 0 := by omega
    rfl
  · exact ((((cells_setRow HKP.out [.int .u32 c0, .int .u32 c1, .int .i64 c2, .int .u32 c3, .int .i64 c4, .int .u32 c5, .int .u32 c6] (n * 7) (by simp; omega)).setOther _ _ (Ne.symm d3)).setOther _ _ (Ne.symm d2)).alloc _).drew
  · exact ((((((((((((Turned.of_below (Q := fun z => z = b ∨ z = lb ∨ z = pb) HB0.out).set (b := pb) (Or.inr (Or.inr rfl)) _ _).set (b := pb) (Or.inr (Or.inr rfl)) _ _).set (b := pb) (Or.inr (Or.inr rfl)) _ _).set (b := pb) (Or.inr (Or.inr rfl)) _ _).set (b := pb) (Or.inr (Or.inr rfl)) _ _).set (b := pb) (Or.inr (Or.inr rfl)) _ _).set (b := pb) (Or.inr (Or.inr rfl)) _ _).set (b := lb) (Or.inr (Or.inl rfl)) _ _).set (b := b) (Or.inl rfl) _ _).alloc _).drew)
end Go.Proofs.YtemamhkhjijdlaaGreatDoor
