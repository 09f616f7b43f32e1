/-
  THE PROGRAM's HART: the next instruction.
-/
import Derived.Test.YtengofkjlgajlaaGreatDoorGx4
import Derived.Test.YtengofkjlgajlaaGreatDoorGw1
import Derived.Deep.RegionWith
namespace Go.Proofs.YtengofkjlgajlaaGreatDoor
open Go Go.RowKit
/-- what a hart forbids -/
def fbB (op : Int) (rs1 : Nat) (imm : Int) : Bool := (hcB op && !csrB imm) || (wcB op rs1 && wrI imm == 0)
theorem forbids_any (p : Nat) (op rd : Int) (rs1 rs2 : Nat) (imm : Int) (w : World) : Calls Tryz.prog 71 #[.pointer (some ⟨p, 0, none⟩), .agg #[.int .i64 op, .int .i64 rd, .int .i64 rs1, .int .i64 rs2, .int .i64 imm]] w fun e w' => e = .returned (.bool (fbB op rs1 imm)) ∧ Below w.heap.size w w' := by
  unfold fbB
  rw [csrK_none]
  cases b1 : hcB op
  · have b3 : wcB op rs1 = false := by unfold wcB; rw [b1]; rfl
    rw [b3]
    exact fb_a p op rd rs1 rs2 imm w b1 b3
  · cases b2 : csrK imm with
    | none => exact fb_b p op rd rs1 rs2 imm w b1 b2
    | some k =>
      cases b3 : wcB op rs1
      · exact fb_c p op rd rs1 rs2 imm w k b1 b2 b3
      · exact fb_d p op rd rs1 rs2 imm w k b1 b2 b3 _ rfl
theorem keep5 {w w1 w2 : World} {i0 i1 i2 i3 i4 v0 v1 v2 v3 v4 : Value} {Z : Array Value} (m : ∀ i, w1.cell? ⟨w.heap.size, i, none⟩ = (#[i0, i1, i2, i3, i4] : Array Value)[i]?) (n : ∀ i, w1.frozen? ⟨w.heap.size, i, none⟩ = false) (k : ∀ i, w1.cell? ⟨w.heap.size + 1, i, none⟩ = Z[i]?) (j : ∀ i, w1.frozen? ⟨w.heap.size + 1, i, none⟩ = false) (l : w.heap.size + 1 < w1.heap.size) (o : Below w.heap.size w w1)
    (hb : Below (((((w1.setCell ⟨w.heap.size, 0, none⟩ v0).setCell ⟨w.heap.size, 1, none⟩ v1).setCell ⟨w.heap.size, 2, none⟩ v2).setCell ⟨w.heap.size, 3, none⟩ v3).setCell ⟨w.heap.size, 4, none⟩ v4).heap.size (((((w1.setCell ⟨w.heap.size, 0, none⟩ v0).setCell ⟨w.heap.size, 1, none⟩ v1).setCell ⟨w.heap.size, 2, none⟩ v2).setCell ⟨w.heap.size, 3, none⟩ v3).setCell ⟨w.heap.size, 4, none⟩ v4) w2) :
    (w2.cell? ⟨w.heap.size, 0, none⟩ = some v0 ∧ w2.cell? ⟨w.heap.size, 1, none⟩ = some v1 ∧ w2.cell? ⟨w.heap.size, 2, none⟩ = some v2 ∧ w2.cell? ⟨w.heap.size, 3, none⟩ = some v3 ∧ w2.cell? ⟨w.heap.size, 4, none⟩ = some v4) ∧ (∀ i, w2.frozen? ⟨w.heap.size, i, none⟩ = false) ∧ (∀ i, w2.cell? ⟨w.heap.size + 1, i, none⟩ = Z[i]?) ∧ (∀ i, w2.frozen? ⟨w.heap.size + 1, i, none⟩ = false) ∧ w.heap.size + 1 < w2.heap.size ∧ Below w.heap.size w w2 := by
  have C0 : CellsAt 5 w1 w.heap.size (fun i => (#[i0, i1, i2, i3, i4] : Array Value).getD i undef) := by
    refine ⟨by omega, fun i hi => ?_, n⟩
    rw [m i]
    match i, hi with
    | 0, _ => rfl
    | 1, _ => rfl
    | 2, _ => rfl
    | 3, _ => rfl
    | 4, _ => rfl
  have C5 := (((((C0.set 0 (by decide) v0).set 1 (by decide) v1).set 2 (by decide) v2).set 3 (by decide) v3).set 4 (by decide) v4).below hb
  have O5 : Only w.heap.size w1 (((((w1.setCell ⟨w.heap.size, 0, none⟩ v0).setCell ⟨w.heap.size, 1, none⟩ v1).setCell ⟨w.heap.size, 2, none⟩ v2).setCell ⟨w.heap.size, 3, none⟩ v3).setCell ⟨w.heap.size, 4, none⟩ v4) := (((((Only.refl _ _).set _ _).set _ _).set _ _).set _ _).set _ _
  have B5 : Below w.heap.size w (((((w1.setCell ⟨w.heap.size, 0, none⟩ v0).setCell ⟨w.heap.size, 1, none⟩ v1).setCell ⟨w.heap.size, 2, none⟩ v2).setCell ⟨w.heap.size, 3, none⟩ v3).setCell ⟨w.heap.size, 4, none⟩ v4) := ((((o.setCell (Nat.le_refl _) _).setCell (Nat.le_refl _) _).setCell (Nat.le_refl _) _).setCell (Nat.le_refl _) _).setCell (Nat.le_refl _) _
  have s5 : w1.heap.size ≤ (((((w1.setCell ⟨w.heap.size, 0, none⟩ v0).setCell ⟨w.heap.size, 1, none⟩ v1).setCell ⟨w.heap.size, 2, none⟩ v2).setCell ⟨w.heap.size, 3, none⟩ v3).setCell ⟨w.heap.size, 4, none⟩ v4).heap.size := O5.size
  exact ⟨⟨C5.cell 0 (by decide), C5.cell 1 (by decide), C5.cell 2 (by decide), C5.cell 3 (by decide), C5.cell 4 (by decide)⟩, C5.free, fun i => (hb.cell (p := ⟨w.heap.size + 1, i, none⟩) (by show w.heap.size + 1 < _; omega)).trans (O5.to_cell l (by omega) (k i)), fun i => (hb.frozen (p := ⟨w.heap.size + 1, i, none⟩) (by show w.heap.size + 1 < _; omega)).trans (O5.to_frozen l (by omega) (j i)), by have := hb.size; omega, B5.trans (hb.mono B5.size)⟩
theorem keep6 {w x y : World} {v0 v1 v2 v3 v4 : Value} {Z : Array Value} (a0 : x.cell? ⟨w.heap.size, 0, none⟩ = some v0) (a1 : x.cell? ⟨w.heap.size, 1, none⟩ = some v1) (a2 : x.cell? ⟨w.heap.size, 2, none⟩ = some v2) (a3 : x.cell? ⟨w.heap.size, 3, none⟩ = some v3) (a4 : x.cell? ⟨w.heap.size, 4, none⟩ = some v4) (n : ∀ i, x.frozen? ⟨w.heap.size, i, none⟩ = false) (k : ∀ i, x.cell? ⟨w.heap.size + 1, i, none⟩ = Z[i]?) (j : ∀ i, x.frozen? ⟨w.heap.size + 1, i, none⟩ = false) (l : w.heap.size + 1 < x.heap.size) (o : Below w.heap.size w x) (hb : Below x.heap.size x y) :
    y.cell? ⟨w.heap.size, 0, none⟩ = some v0 ∧ y.cell? ⟨w.heap.size, 1, none⟩ = some v1 ∧ y.cell? ⟨w.heap.size, 2, none⟩ = some v2 ∧ y.cell? ⟨w.heap.size, 3, none⟩ = some v3 ∧ y.cell? ⟨w.heap.size, 4, none⟩ = some v4 ∧ (∀ i, y.frozen? ⟨w.heap.size, i, none⟩ = false) ∧ (∀ i, y.cell? ⟨w.heap.size + 1, i, none⟩ = Z[i]?) ∧ (∀ i, y.frozen? ⟨w.heap.size + 1, i, none⟩ = false) ∧ w.heap.size + 1 < y.heap.size ∧ Below w.heap.size w y := by
  have c : ∀ i v, x.cell? ⟨w.heap.size, i, none⟩ = some v → y.cell? ⟨w.heap.size, i, none⟩ = some v := fun i v q => (hb.cell (p := ⟨w.heap.size, i, none⟩) (by show w.heap.size < _; omega)).trans q
  exact ⟨c _ _ a0, c _ _ a1, c _ _ a2, c _ _ a3, c _ _ a4, fun i => (hb.frozen (p := ⟨w.heap.size, i, none⟩) (by show w.heap.size < _; omega)).trans (n i), fun i => (hb.cell (p := ⟨w.heap.size + 1, i, none⟩) l).trans (k i), fun i => (hb.frozen (p := ⟨w.heap.size + 1, i, none⟩) l).trans (j i), Nat.lt_of_lt_of_le l hb.size, o.trans (hb.mono o.size)⟩
/-- the program's Decode, as a function -/
structure PDecOk (D : Int → Dec) : Prop where
  calls : ∀ (x : Int) (w : World), Laid w → U32 x → Calls Tryz.prog 70 #[.int .u32 x] w fun e w' => e = .returned (.tuple #[(D x).val, .bool (D x).ok]) ∧ Below w.heap.size w w'
  good : ∀ x : Int, U32 x → (D x).ok = true → 1 ≤ (D x).op ∧ (D x).op ≤ 67 ∧ (D x).rd < 32 ∧ (D x).rs1 < 32 ∧ (D x).rs2 < 32
set_option maxHeartbeats 1000000 in
theorem look_none (p : Nat) (S : HS) (cb co n cp : Nat) (w : World) (h : PH w p (.slice (some ⟨cb, co, none⟩) n cp) S) (hn : n ≤ 4096) (hp : U32 S.pc) (hk : ¬ S.pc / 4 < n) : Calls Tryz.prog 38 #[.pointer (some ⟨p, 0, none⟩)] w fun e w' => e = .returned (.tuple #[.int .u32 0, noDec.val, .agg #[.int .i64 1, .int .u32 S.pc]]) ∧ Below w.heap.size w w' := by
  have cpc : w.cell? ⟨p, 11, none⟩ = some (.int .u32 S.pc) := h.cell 11 (by decide)
  have ccode : w.cell? ⟨p, 9, none⟩ = some (.slice (some ⟨cb, co, none⟩) n cp) := h.cell 9 (by decide)
  have h3 := h.here
  have h5 : p < w.heap.size + 1 := by omega
  have h6 : p < w.heap.size + 1 + 1 := by omega
  have hp1 := hp.1
  have hp2 := hp.2
  have hnn : (n : Int) % 4294967296 = n := by omega
  clear h
  go_enter Tryz.func38, Tryz.ntmps38
  go_wp2
  go_region
  go_wp2
  go_region
  go_wp2
  refine bodyPost_ret (v := .tuple #[.int .u32 0, noDec.val, .agg #[.int .i64 1, .int .u32 S.pc]]) (by simp [results, Tryz.results38, go_sem, noDec, Dec.val]) rfl ⟨rfl, ?_⟩
  repeat (first | with_reducible exact (Below.refl _ _) | with_reducible refine Below.drew ?_ | with_reducible refine Below.alloc ?_ (by simp <;> omega) _ | with_reducible refine Below.setCell ?_ (by first | exact Nat.le_refl _ | exact Nat.le_succ _) _)
set_option maxHeartbeats 2000000 in
theorem look_bad (p : Nat) (S : HS) (cb co n cp : Nat) (w : World) (h : PH w p (.slice (some ⟨cb, co, none⟩) n cp) S) (hn : n ≤ 4096) (hp : U32 S.pc) (hL : Laid w) (f : Nat → Int) (hC : CodeAt w cb co n f) (k : Nat) (hk : S.pc / 4 = k) (hkn : k < n) {D : Int → Dec} (HD : PDecOk D) (d : Dec) (hd : D (f k) = d) (hok : d.ok = false) : Calls Tryz.prog 38 #[.pointer (some ⟨p, 0, none⟩)] w fun e w' => e = .returned (.tuple #[.int .u32 (f k), d.val, .agg #[.int .i64 2, .int .u32 (f k)]]) ∧ Below w.heap.size w w' := by
  have cpc : w.cell? ⟨p, 11, none⟩ = some (.int .u32 S.pc) := h.cell 11 (by decide)
  have ccode : w.cell? ⟨p, 9, none⟩ = some (.slice (some ⟨cb, co, none⟩) n cp) := h.cell 9 (by decide)
  have h3 := h.here
  have h5 : p < w.heap.size + 1 := by omega
  have h6 : p < w.heap.size + 1 + 1 := by omega
  have hp1 := hp.1
  have hp2 := hp.2
  have hnn : (n : Int) % 4294967296 = n := by omega
  have cw := hC.cell k hkn
  have hch := hC.here
  have hu := hC.word k hkn
  have hc5 : cb < w.heap.size + 1 := by omega
  have HH : Hid (PH w p (.slice (some ⟨cb, co, none⟩) n cp) S) := h
  have HL : Hid (Laid w) := hL
  clear h hL hC
  go_enter Tryz.func38, Tryz.ntmps38
  go_wp2
  go_region
  go_wp2
  go_region
  go_wp2_with (first
    | (go_at_call 70; refine (HD.calls _ _ (by repeat (first | exact HL.out | refine Laid.drew ?_ | refine Laid.alloc ?_ _)) hu).mono ?_; rintro e w1 ⟨rfl, hb1⟩; rw [hd, hok]; obtain ⟨m1, n1, k1, j1, l1, o1⟩ := keep2g (belowU (belowU hb1)); unfold Dec.val))
  obtain ⟨⟨d0, d1, d2, d3, d4⟩, n2, k2, j2, l2, o2⟩ := keep5 (v0 := .int .i64 d.op) (v1 := .int .i64 d.rd) (v2 := .int .i64 d.rs1) (v3 := .int .i64 d.rs2) (v4 := .int .i64 d.imm) m1 n1 k1 j1 l1 o1 (Below.refl _ _)
  generalize (((((w1.setCell ⟨w.heap.size, 0, none⟩ (.int .i64 d.op)).setCell ⟨w.heap.size, 1, none⟩ (.int .i64 d.rd)).setCell ⟨w.heap.size, 2, none⟩ (.int .i64 d.rs1)).setCell ⟨w.heap.size, 3, none⟩ (.int .i64 d.rs2)).setCell ⟨w.heap.size, 4, none⟩ (.int .i64 d.imm)) = x at d0 d1 d2 d3 d4 n2 k2 j2 l2 o2 ⊢
  go_region
  go_wp2
  refine bodyPost_ret (v := .tuple #[.int .u32 (f k), d.val, .agg #[.int .i64 2, .int .u32 (f k)]]) (by simp [results, Tryz.results38, go_sem, Dec.val, k2, d0, d1, d2, d3, d4]) rfl ⟨rfl, ?_⟩
  repeat (first | with_reducible exact o2 | with_reducible refine Below.drew ?_ | with_reducible refine Below.alloc ?_ (by simp <;> omega) _ | with_reducible refine Below.setCell ?_ (by first | exact Nat.le_refl _ | exact Nat.le_succ _) _)
set_option maxHeartbeats 2000000 in
theorem look_forb (p : Nat) (S : HS) (cb co n cp : Nat) (w : World) (h : PH w p (.slice (some ⟨cb, co, none⟩) n cp) S) (hn : n ≤ 4096) (hp : U32 S.pc) (hL : Laid w) (f : Nat → Int) (hC : CodeAt w cb co n f) (k : Nat) (hk : S.pc / 4 = k) (hkn : k < n) {D : Int → Dec} (HD : PDecOk D) (d : Dec) (hd : D (f k) = d) (hok : d.ok = true) (hf : fbB d.op d.rs1 d.imm = true) : Calls Tryz.prog 38 #[.pointer (some ⟨p, 0, none⟩)] w fun e w' => e = .returned (.tuple #[.int .u32 (f k), d.val, .agg #[.int .i64 2, .int .u32 (f k)]]) ∧ Below w.heap.size w w' := by
  have cpc : w.cell? ⟨p, 11, none⟩ = some (.int .u32 S.pc) := h.cell 11 (by decide)
  have ccode : w.cell? ⟨p, 9, none⟩ = some (.slice (some ⟨cb, co, none⟩) n cp) := h.cell 9 (by decide)
  have h3 := h.here
  have h5 : p < w.heap.size + 1 := by omega
  have h6 : p < w.heap.size + 1 + 1 := by omega
  have hp1 := hp.1
  have hp2 := hp.2
  have hnn : (n : Int) % 4294967296 = n := by omega
  have cw := hC.cell k hkn
  have hch := hC.here
  have hu := hC.word k hkn
  have hc5 : cb < w.heap.size + 1 := by omega
  have HH : Hid (PH w p (.slice (some ⟨cb, co, none⟩) n cp) S) := h
  have HL : Hid (Laid w) := hL
  clear h hL hC
  go_enter Tryz.func38, Tryz.ntmps38
  go_wp2
  go_region
  go_wp2
  go_region
  go_wp2_with (first
    | (go_at_call 70; refine (HD.calls _ _ (by repeat (first | exact HL.out | refine Laid.drew ?_ | refine Laid.alloc ?_ _)) hu).mono ?_; rintro e w1 ⟨rfl, hb1⟩; rw [hd, hok]; obtain ⟨m1, n1, k1, j1, l1, o1⟩ := keep2g (belowU (belowU hb1)); unfold Dec.val)
    | (go_at_call 71; refine (forbids_any p _ _ _ _ _ _).mono ?_; rintro e w2 ⟨rfl, hb2⟩; rw [hf]; obtain ⟨⟨d0, d1, d2, d3, d4⟩, n2, k2, j2, l2, o2⟩ := keep5 m1 n1 k1 j1 l1 o1 hb2))
  go_region
  go_wp2
  refine bodyPost_ret (v := .tuple #[.int .u32 (f k), d.val, .agg #[.int .i64 2, .int .u32 (f k)]]) (by simp [results, Tryz.results38, go_sem, Dec.val, k2, d0, d1, d2, d3, d4]) rfl ⟨rfl, ?_⟩
  repeat (first | with_reducible exact o2 | with_reducible refine Below.drew ?_ | with_reducible refine Below.alloc ?_ (by simp <;> omega) _ | with_reducible refine Below.setCell ?_ (by first | exact Nat.le_refl _ | exact Nat.le_succ _) _)
set_option maxHeartbeats 2000000 in
theorem look_good (p : Nat) (S : HS) (cb co n cp : Nat) (w : World) (h : PH w p (.slice (some ⟨cb, co, none⟩) n cp) S) (hn : n ≤ 4096) (hp : U32 S.pc) (hL : Laid w) (f : Nat → Int) (hC : CodeAt w cb co n f) (k : Nat) (hk : S.pc / 4 = k) (hkn : k < n) {D : Int → Dec} (HD : PDecOk D) (d : Dec) (hd : D (f k) = d) (hok : d.ok = true) (hf : fbB d.op d.rs1 d.imm = false) (hr : d.rs1 < 32) (hs : d.rs2 < 32) (hS : S.Ok) (c t : Int) (hc : S.pfc d.op d.rs1 d.rs2 d.imm = c) (ht : S.pfv d.op d.rs1 d.rs2 d.imm = t) : Calls Tryz.prog 38 #[.pointer (some ⟨p, 0, none⟩)] w fun e w' => e = .returned (.tuple #[.int .u32 (f k), d.val, .agg #[.int .i64 c, .int .u32 t]]) ∧ Below w.heap.size w w' := by
  have cpc : w.cell? ⟨p, 11, none⟩ = some (.int .u32 S.pc) := h.cell 11 (by decide)
  have ccode : w.cell? ⟨p, 9, none⟩ = some (.slice (some ⟨cb, co, none⟩) n cp) := h.cell 9 (by decide)
  have h3 := h.here
  have h5 : p < w.heap.size + 1 := by omega
  have h6 : p < w.heap.size + 1 + 1 := by omega
  have hp1 := hp.1
  have hp2 := hp.2
  have hnn : (n : Int) % 4294967296 = n := by omega
  have cw := hC.cell k hkn
  have hch := hC.here
  have hu := hC.word k hkn
  have hc5 : cb < w.heap.size + 1 := by omega
  have HH : Hid (PH w p (.slice (some ⟨cb, co, none⟩) n cp) S) := h
  have HL : Hid (Laid w) := hL
  clear h hL hC
  go_enter Tryz.func38, Tryz.ntmps38
  go_wp2
  go_region
  go_wp2
  go_region
  go_wp2_with (first
    | (go_at_call 70; refine (HD.calls _ _ (by repeat (first | exact HL.out | refine Laid.drew ?_ | refine Laid.alloc ?_ _)) hu).mono ?_; rintro e w1 ⟨rfl, hb1⟩; rw [hd, hok]; obtain ⟨m1, n1, k1, j1, l1, o1⟩ := keep2g (belowU (belowU hb1)); unfold Dec.val)
    | (go_at_call 71; refine (forbids_any p _ _ _ _ _ _).mono ?_; rintro e w2 ⟨rfl, hb2⟩; rw [hf]; obtain ⟨⟨d0, d1, d2, d3, d4⟩, n2, k2, j2, l2, o2⟩ := keep5 m1 n1 k1 j1 l1 o1 hb2))
  first
    | go_region_with (go_at_call 72; refine (faultOf_any p _ S _ _ _ _ _ _ (HH.out.below o2).drew (HL.out.below o2).drew hr hs hS).mono ?_; rintro e w3 ⟨rfl, hb3⟩; rw [hc, ht]; obtain ⟨e0, e1, e2, e3, e4, n3, k3, j3, l3, o3⟩ := keep6 d0 d1 d2 d3 d4 n2 k2 j2 l2 o2 (belowU hb3))
    | fail
  all_goals (try go_wp2)
  all_goals (refine bodyPost_ret (v := .tuple #[.int .u32 (f k), d.val, .agg #[.int .i64 c, .int .u32 t]]) (by simp [results, Tryz.results38, go_sem, Dec.val, k3, e0, e1, e2, e3, e4]) rfl ⟨rfl, ?_⟩)
  all_goals (repeat (first | with_reducible exact o3 | with_reducible refine Below.drew ?_ | with_reducible refine Below.alloc ?_ (by simp <;> omega) _ | with_reducible refine Below.setCell ?_ (by first | exact Nat.le_refl _ | exact Nat.le_succ _) _))
/-- the next instruction: its word, what it is, what it traps with -/
def HS.lookC (S : HS) (D : Int → Dec) (n : Nat) (f : Nat → Int) : Int :=
  if S.pc / 4 < n then (if (S.fetchD D n f).ok = true ∧ fbB (S.fetchD D n f).op (S.fetchD D n f).rs1 (S.fetchD D n f).imm = false then S.pfc (S.fetchD D n f).op (S.fetchD D n f).rs1 (S.fetchD D n f).rs2 (S.fetchD D n f).imm else 2) else 1
def HS.lookT (S : HS) (D : Int → Dec) (n : Nat) (f : Nat → Int) : Int :=
  if S.pc / 4 < n then (if (S.fetchD D n f).ok = true ∧ fbB (S.fetchD D n f).op (S.fetchD D n f).rs1 (S.fetchD D n f).imm = false then S.pfv (S.fetchD D n f).op (S.fetchD D n f).rs1 (S.fetchD D n f).rs2 (S.fetchD D n f).imm else S.fetchW n f) else S.pc
theorem look_any {D : Int → Dec} (HD : PDecOk D) (p : Nat) (S : HS) (cb co n cp : Nat) (w : World) (h : PH w p (.slice (some ⟨cb, co, none⟩) n cp) S) (hn : n ≤ 4096) (hp : U32 S.pc) (hL : Laid w) (f : Nat → Int) (hC : CodeAt w cb co n f) (hS : S.Ok) : Calls Tryz.prog 38 #[.pointer (some ⟨p, 0, none⟩)] w fun e w' => e = .returned (.tuple #[.int .u32 (S.fetchW n f), (S.fetchD D n f).val, .agg #[.int .i64 (S.lookC D n f), .int .u32 (S.lookT D n f)]]) ∧ Below w.heap.size w w' := by
  unfold HS.lookC HS.lookT
  by_cases hk : S.pc / 4 < n
  · rw [if_pos hk, if_pos hk]
    have e1 : S.fetchW n f = f (S.pc / 4).toNat := if_pos hk
    have e2 : S.fetchD D n f = D (f (S.pc / 4).toNat) := if_pos hk
    rw [e1, e2]
    have hkk : S.pc / 4 = ((S.pc / 4).toNat : Int) := by have := hp.1; omega
    have hkn : (S.pc / 4).toNat < n := by omega
    have hu := hC.word _ hkn
    have hg := HD.good _ hu
    generalize hd : D (f (S.pc / 4).toNat) = d at hg ⊢
    cases hok : d.ok
    · rw [if_neg (by simp), if_neg (by simp)]
      exact look_bad p S cb co n cp w h hn hp hL f hC _ hkk hkn HD d hd hok
    · obtain ⟨g1, g2, g3, g4, g5⟩ := hg hok
      cases hf : fbB d.op d.rs1 d.imm
      · rw [if_pos ⟨rfl, rfl⟩, if_pos ⟨rfl, rfl⟩]
        exact look_good p S cb co n cp w h hn hp hL f hC _ hkk hkn HD d hd hok hf g4 g5 hS _ _ rfl rfl
      · rw [if_neg (by simp), if_neg (by simp)]
        exact look_forb p S cb co n cp w h hn hp hL f hC _ hkk hkn HD d hd hok hf
  · rw [if_neg hk, if_neg hk]
    have e1 : S.fetchW n f = 0 := if_neg hk
    have e2 : S.fetchD D n f = noDec := if_neg hk
    rw [e1, e2]
    exact look_none p S cb co n cp w h hn hp hk
end Go.Proofs.YtengofkjlgajlaaGreatDoor
