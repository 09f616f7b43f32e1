import Derived.Test.YtemamhkhjijdlaaGreatDoorY18
import Derived.Test.YtemamhkhjijdlaaGreatDoorY17
import Derived.Test.YtemamhkhjijdlaaGreatDoorY11
import Derived.Deep.RegionHeld3
import Derived.Deep.RegionWith
import Derived.Deep.DeepMust
/-
  CORE: a hart whose only instruction is EBREAK.
-/
namespace Go.Proofs.YtemamhkhjijdlaaGreatDoor
open Go Go.RowKit
theorem alloc_oldC {W : World} {o : Obj} {a : Addr} (h : a.block < W.heap.size) : (W.alloc o).cell? a = W.cell? a := ((Below.refl _ _).alloc (Nat.le_refl _) o).cell h
theorem alloc_oldF {W : World} {o : Obj} {a : Addr} (h : a.block < W.heap.size) : (W.alloc o).frozen? a = W.frozen? a := ((Below.refl _ _).alloc (Nat.le_refl _) o).frozen h
theorem Turned.to_cell? {Q : Nat → Prop} {x y : World} (h : Turned Q x y) {k i : Nat} {v : Option Value} (hk : k < x.heap.size) (hp : ¬ Q k) (hc : x.cell? ⟨k, i, none⟩ = v) : y.cell? ⟨k, i, none⟩ = v := (World.cell?_of_block (w := x) (h.block k hk hp)).trans hc
theorem Turned.to_frz {Q : Nat → Prop} {x y : World} (h : Turned Q x y) {k i : Nat} {v : Bool} (hk : k < x.heap.size) (hp : ¬ Q k) (hc : x.frozen? ⟨k, i, none⟩ = v) : y.frozen? ⟨k, i, none⟩ = v := (World.frozen?_of_block (w := x) (h.block k hk hp)).trans hc
theorem keep2g {w w2 : World} {I Z : Array Value} {t u : TypeId} (hb : Below ((w.alloc (.cells I t)).alloc (.cells Z u)).heap.size ((w.alloc (.cells I t)).alloc (.cells Z u)) w2) :
    (∀ i, w2.cell? ⟨w.heap.size, i, none⟩ = I[i]?) ∧ (∀ i, w2.frozen? ⟨w.heap.size, i, none⟩ = false) ∧ (∀ i, w2.cell? ⟨w.heap.size + 1, i, none⟩ = Z[i]?) ∧ (∀ i, w2.frozen? ⟨w.heap.size + 1, i, none⟩ = false) ∧ w.heap.size + 1 < w2.heap.size ∧ Below w.heap.size w w2 := by
  have hs := hb.size
  simp only [World.size_alloc] at hs
  have q1 : ∀ i, ((w.alloc (.cells I t)).alloc (.cells Z u)).cell? ⟨w.heap.size, i, none⟩ = I[i]? := fun i => (alloc_oldC (by simp)).trans (World.cell?_alloc_new w I t i)
  have q2 : ∀ i, ((w.alloc (.cells I t)).alloc (.cells Z u)).cell? ⟨w.heap.size + 1, i, none⟩ = Z[i]? := fun i => by first | simp | simpa using World.cell?_alloc_new (w.alloc (.cells I t)) Z u i
  have r1 : ∀ i, ((w.alloc (.cells I t)).alloc (.cells Z u)).frozen? ⟨w.heap.size, i, none⟩ = false := fun i => (alloc_oldF (by simp)).trans (World.frozen?_alloc_at I t _ i rfl)
  have r2 : ∀ i, ((w.alloc (.cells I t)).alloc (.cells Z u)).frozen? ⟨w.heap.size + 1, i, none⟩ = false := fun i => World.frozen?_alloc_at Z u _ i (by simp)
  exact ⟨fun i => (hb.cell (p := ⟨w.heap.size, i, none⟩) (by simp <;> omega)).trans (q1 i), fun i => (hb.frozen (p := ⟨w.heap.size, i, none⟩) (by simp <;> omega)).trans (r1 i), fun i => (hb.cell (p := ⟨w.heap.size + 1, i, none⟩) (by simp)).trans (q2 i), fun i => (hb.frozen (p := ⟨w.heap.size + 1, i, none⟩) (by simp)).trans (r2 i), by omega, (((Below.refl _ _).alloc (Nat.le_refl _) _).alloc (by simp) _).trans (hb.mono (by simp <;> omega))⟩
theorem keep5 {w w1 w2 : World} {i0 i1 i2 i3 i4 v0 v1 v2 v3 v4 : Value} {Z : Array Value} (m : ∀ i, w1.cell? ⟨w.heap.size, i, none⟩ = (#[i0, i1, i2, i3, i4] : Array Value)[i]?) (n : ∀ i, w1.frozen? ⟨w.heap.size, i, none⟩ = false) (k : ∀ i, w1.cell? ⟨w.heap.size + 1, i, none⟩ = Z[i]?) (j : ∀ i, w1.frozen? ⟨w.heap.size + 1, i, none⟩ = false) (l : w.heap.size + 1 < w1.heap.size) (o : Below w.heap.size w w1)
    (hb : Below (((((w1.setCell ⟨w.heap.size, 0, none⟩ v0).setCell ⟨w.heap.size, 1, none⟩ v1).setCell ⟨w.heap.size, 2, none⟩ v2).setCell ⟨w.heap.size, 3, none⟩ v3).setCell ⟨w.heap.size, 4, none⟩ v4).heap.size (((((w1.setCell ⟨w.heap.size, 0, none⟩ v0).setCell ⟨w.heap.size, 1, none⟩ v1).setCell ⟨w.heap.size, 2, none⟩ v2).setCell ⟨w.heap.size, 3, none⟩ v3).setCell ⟨w.heap.size, 4, none⟩ v4) w2) :
    (w2.cell? ⟨w.heap.size, 0, none⟩ = some v0 ∧ w2.cell? ⟨w.heap.size, 1, none⟩ = some v1 ∧ w2.cell? ⟨w.heap.size, 2, none⟩ = some v2 ∧ w2.cell? ⟨w.heap.size, 3, none⟩ = some v3 ∧ w2.cell? ⟨w.heap.size, 4, none⟩ = some v4) ∧ (∀ i, w2.frozen? ⟨w.heap.size, i, none⟩ = false) ∧ (∀ i, w2.cell? ⟨w.heap.size + 1, i, none⟩ = Z[i]?) ∧ (∀ i, w2.frozen? ⟨w.heap.size + 1, i, none⟩ = false) ∧ w.heap.size + 1 < w2.heap.size ∧ Below w.heap.size w w2 := by
  have C0 : CellsAt 5 w1 w.heap.size (fun i => (#[i0, i1, i2, i3, i4] : Array Value).getD i undef) := by
    refine ⟨by omega, fun i hi => ?_, n⟩
    rw [m i]
    match i, hi with
    | 0, _ => rfl
    | 1, _ => rfl
    | 2, _ => rfl
    | 3, _ => rfl
    | 4, _ => rfl
  have C5 := (((((C0.set 0 (by decide) v0).set 1 (by decide) v1).set 2 (by decide) v2).set 3 (by decide) v3).set 4 (by decide) v4).below hb
  have O5 : Turned (fun j => j = w.heap.size) w1 (((((w1.setCell ⟨w.heap.size, 0, none⟩ v0).setCell ⟨w.heap.size, 1, none⟩ v1).setCell ⟨w.heap.size, 2, none⟩ v2).setCell ⟨w.heap.size, 3, none⟩ v3).setCell ⟨w.heap.size, 4, none⟩ v4) := (((((Turned.refl (fun j => j = w.heap.size) _).set (b := w.heap.size) rfl _ _).set (b := w.heap.size) rfl _ _).set (b := w.heap.size) rfl _ _).set (b := w.heap.size) rfl _ _).set (b := w.heap.size) rfl _ _
  have B5 : Below w.heap.size w (((((w1.setCell ⟨w.heap.size, 0, none⟩ v0).setCell ⟨w.heap.size, 1, none⟩ v1).setCell ⟨w.heap.size, 2, none⟩ v2).setCell ⟨w.heap.size, 3, none⟩ v3).setCell ⟨w.heap.size, 4, none⟩ v4) := ((((o.setCell (Nat.le_refl _) _).setCell (Nat.le_refl _) _).setCell (Nat.le_refl _) _).setCell (Nat.le_refl _) _).setCell (Nat.le_refl _) _
  have s5 : w1.heap.size ≤ (((((w1.setCell ⟨w.heap.size, 0, none⟩ v0).setCell ⟨w.heap.size, 1, none⟩ v1).setCell ⟨w.heap.size, 2, none⟩ v2).setCell ⟨w.heap.size, 3, none⟩ v3).setCell ⟨w.heap.size, 4, none⟩ v4).heap.size := O5.size
  exact ⟨⟨C5.cell 0 (by decide), C5.cell 1 (by decide), C5.cell 2 (by decide), C5.cell 3 (by decide), C5.cell 4 (by decide)⟩, C5.free, fun i => (hb.cell (p := ⟨w.heap.size + 1, i, none⟩) (by show w.heap.size + 1 < _; omega)).trans (O5.to_cell? l (by omega) (k i)), fun i => (hb.frozen (p := ⟨w.heap.size + 1, i, none⟩) (by show w.heap.size + 1 < _; omega)).trans (O5.to_frz l (by omega) (j i)), by have := hb.size; omega, B5.trans (hb.mono B5.size)⟩
theorem keep6 {w x y : World} {v0 v1 v2 v3 v4 : Value} {Z : Array Value} (a0 : x.cell? ⟨w.heap.size, 0, none⟩ = some v0) (a1 : x.cell? ⟨w.heap.size, 1, none⟩ = some v1) (a2 : x.cell? ⟨w.heap.size, 2, none⟩ = some v2) (a3 : x.cell? ⟨w.heap.size, 3, none⟩ = some v3) (a4 : x.cell? ⟨w.heap.size, 4, none⟩ = some v4) (n : ∀ i, x.frozen? ⟨w.heap.size, i, none⟩ = false) (k : ∀ i, x.cell? ⟨w.heap.size + 1, i, none⟩ = Z[i]?) (j : ∀ i, x.frozen? ⟨w.heap.size + 1, i, none⟩ = false) (l : w.heap.size + 1 < x.heap.size) (o : Below w.heap.size w x) (hb : Below x.heap.size x y) :
    y.cell? ⟨w.heap.size, 0, none⟩ = some v0 ∧ y.cell? ⟨w.heap.size, 1, none⟩ = some v1 ∧ y.cell? ⟨w.heap.size, 2, none⟩ = some v2 ∧ y.cell? ⟨w.heap.size, 3, none⟩ = some v3 ∧ y.cell? ⟨w.heap.size, 4, none⟩ = some v4 ∧ (∀ i, y.frozen? ⟨w.heap.size, i, none⟩ = false) ∧ (∀ i, y.cell? ⟨w.heap.size + 1, i, none⟩ = Z[i]?) ∧ (∀ i, y.frozen? ⟨w.heap.size + 1, i, none⟩ = false) ∧ w.heap.size + 1 < y.heap.size ∧ Below w.heap.size w y := by
  have c : ∀ i v, x.cell? ⟨w.heap.size, i, none⟩ = some v → y.cell? ⟨w.heap.size, i, none⟩ = some v := fun i v q => (hb.cell (p := ⟨w.heap.size, i, none⟩) (by show w.heap.size < _; omega)).trans q
  exact ⟨c _ _ a0, c _ _ a1, c _ _ a2, c _ _ a3, c _ _ a4, fun i => (hb.frozen (p := ⟨w.heap.size, i, none⟩) (by show w.heap.size < _; omega)).trans (n i), fun i => (hb.cell (p := ⟨w.heap.size + 1, i, none⟩) l).trans (k i), fun i => (hb.frozen (p := ⟨w.heap.size + 1, i, none⟩) l).trans (j i), Nat.lt_of_lt_of_le l hb.size, o.trans (hb.mono o.size)⟩

theorem decE (w : World) (hL : Laid w) : Calls Tryz.prog 64 #[.int .u32 1048691] w fun e w' => e = .returned (.tuple #[.agg #[.int .i64 59, .int .i64 0, .int .i64 0, .int .i64 0, .int .i64 0], .bool true]) ∧ Below w.heap.size w w' :=
  decode_some 1048691 59 (by decide) (by decide) (by decide) (by decide) w hL
theorem hhc (w : World) : Calls Tryz.prog 329 #[.int .i64 59] w fun e w' => e = .returned (.bool false) ∧ w' = w := by
  go_enter Tryz.func329, Tryz.ntmps329
  go_wp2
  go_ret
  exact ⟨rfl, rfl⟩
theorem hwc (w : World) : Calls Tryz.prog 260 #[.agg #[.int .i64 59, .int .i64 0, .int .i64 0, .int .i64 0, .int .i64 0]] w fun e w' => e = .returned (.bool false) ∧ Below w.heap.size w w' := by
  go_enter Tryz.func260, Tryz.ntmps260
  go_wp2_with (go_at_call 329; refine (hhc _).mono ?_; rintro e w1 ⟨rfl, rfl⟩)
  go_ret
  exact ⟨rfl, (Below.refl _ _).alloc (Nat.le_refl _) _⟩
set_option maxHeartbeats 1000000 in
theorem hfb (p : Nat) (w : World) : Calls Tryz.prog 252 #[.pointer (some ⟨p, 0, none⟩), .agg #[.int .i64 59, .int .i64 0, .int .i64 0, .int .i64 0, .int .i64 0]] w fun e w' => e = .returned (.bool false) ∧ Below w.heap.size w w' := by
  go_enter Tryz.func252, Tryz.ntmps252
  go_wp2
  first
    | go_region_with (first
    | (go_at_call 329; refine (hhc _).mono ?_; rintro e w1 ⟨rfl, hw1⟩; have hw2 := hw1.symm; clear hw1; subst hw2)
    | (go_at_call 260; refine (hwc _).mono ?_; rintro e w3 ⟨rfl, hb3⟩; obtain ⟨k1, k2, k3, k4⟩ := keepB (belowU hb3)))
    | fail
  all_goals (try go_wp2)
  all_goals go_ret
  all_goals exact ⟨rfl, by first | exact k4 | exact k4.drew⟩
set_option maxHeartbeats 1000000 in
theorem hfo (p hc hcap : Nat) (hl : Bool) (w : World) (h : CellsAt 45 w p (hartF hc hcap hl)) : Calls Tryz.prog 253 #[.pointer (some ⟨p, 0, none⟩), .agg #[.int .i64 59, .int .i64 0, .int .i64 0, .int .i64 0, .int .i64 0]] w fun e w' => e = .returned (.agg #[.int .i64 3, .int .u32 0]) ∧ Below w.heap.size w w' := by
  have cpc : w.cell? ⟨p, 11, none⟩ = some (.int .u32 0) := h.cell 11 (by decide)
  have h3 := h.here
  have h5 : p < w.heap.size + 1 := by omega
  clear h
  go_enter Tryz.func253, Tryz.ntmps253
  go_wp2
  refine bodyPost_ret (v := _) (by simp [results, Tryz.results253, go_sem]; try rfl) rfl ⟨rfl, ?_⟩
  exact ((Below.refl _ _).alloc (Nat.le_refl _) _).alloc (by simp) _
set_option maxHeartbeats 2000000 in
theorem hlook (p hc hcap : Nat) (hl : Bool) (w : World) (h : CellsAt 45 w p (hartF hc hcap hl)) (hC : CellsAt 1 w hc (fun _ => .int .u32 1048691)) (hL : Laid w) : Calls Tryz.prog 195 #[.pointer (some ⟨p, 0, none⟩)] w fun e w' => e = .returned (.tuple #[.int .u32 1048691, .agg #[.int .i64 59, .int .i64 0, .int .i64 0, .int .i64 0, .int .i64 0], .agg #[.int .i64 3, .int .u32 0]]) ∧ Below w.heap.size w w' := by
  have cpc : w.cell? ⟨p, 11, none⟩ = some (.int .u32 0) := h.cell 11 (by decide)
  have ccode : w.cell? ⟨p, 9, none⟩ = some (.slice (some ⟨hc, 0, none⟩) 1 hcap) := h.cell 9 (by decide)
  have h3 := h.here
  have h5 : p < w.heap.size + 1 := by omega
  have h6 : p < w.heap.size + 1 + 1 := by omega
  have cw : w.cell? ⟨hc, 0, none⟩ = some (.int .u32 1048691) := hC.cell 0 (by decide)
  have hch := hC.here
  have hc5 : hc < w.heap.size + 1 := by omega
  have HH := Hid.in h
  have HL : Hid (Laid w) := hL
  clear h hL hC
  go_enter Tryz.func195, Tryz.ntmps195
  go_wp2
  go_region
  go_wp2
  go_region
  go_wp2_with (first
    | (go_at_call 64; refine (decE _ (by repeat (first | exact HL.out | refine Laid.drew ?_ | refine Laid.alloc ?_ _))).mono ?_; rintro e w1 ⟨rfl, hb1⟩; obtain ⟨m1, n1, k1, j1, l1, o1⟩ := keep2g (belowU (belowU hb1)))
    | (go_at_call 252; refine (hfb p _).mono ?_; rintro e w2 ⟨rfl, hb2⟩; obtain ⟨⟨d0, d1, d2, d3, d4⟩, n2, k2, j2, l2, o2⟩ := keep5 m1 n1 k1 j1 l1 o1 hb2))
  first
    | go_region_with (go_at_call 253; refine (hfo p hc hcap hl _ (HH.out.below o2).drew).mono ?_; rintro e w3 ⟨rfl, hb3⟩; obtain ⟨e0, e1, e2, e3, e4, n3, k3, j3, l3, o3⟩ := keep6 d0 d1 d2 d3 d4 n2 k2 j2 l2 o2 (belowU hb3))
    | fail
  all_goals (try go_wp2)
  all_goals (refine bodyPost_ret (v := .tuple #[.int .u32 1048691, .agg #[.int .i64 59, .int .i64 0, .int .i64 0, .int .i64 0, .int .i64 0], .agg #[.int .i64 3, .int .u32 0]]) (by simp [results, Tryz.results195, go_sem, k3, e0, e1, e2, e3, e4]) rfl ⟨rfl, ?_⟩)
  all_goals (repeat (first | with_reducible exact o3 | with_reducible refine Below.drew ?_ | with_reducible refine Below.alloc ?_ (by simp <;> omega) _ | with_reducible refine Below.setCell ?_ (by first | exact Nat.le_refl _ | exact Nat.le_succ _) _))
end Go.Proofs.YtemamhkhjijdlaaGreatDoor
