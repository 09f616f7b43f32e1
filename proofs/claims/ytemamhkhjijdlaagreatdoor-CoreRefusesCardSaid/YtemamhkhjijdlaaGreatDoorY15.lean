import Derived.Test.YtemamhkhjijdlaaGreatDoorY13
/-
  PREDICT: how a predictor is made.
-/
namespace Go.Proofs.YtemamhkhjijdlaaGreatDoor
open Go Go.RowKit
theorem made_cell3 (a b c : Value) (n i : Nat) (h : i < n * 3) : (madeCells #[a, b, c] (n * 3))[i]? = some (if i % 3 = 0 then a else if i % 3 = 1 then b else c) := by
  have h3 : i % 3 = 0 ∨ i % 3 = 1 ∨ i % 3 = 2 := by omega
  rcases h3 with e | e | e <;> simp [madeCells, h, e]
theorem make_run3 {P : Program} (t e : TypeId) (a b c : Value) (bytes : Nat) (ht : P.underlying t = some (.slice e)) (hi : (P.info? e).map (fun i => (i.zero, i.size, i.bytes)) = some (some (.agg #[a, b, c]), 3, bytes)) (hz : (Value.agg #[a, b, c]).cells = #[a, b, c]) (n : Nat) (hb : (bytes : Int) * n ≤ 281474976710656) (hn : n ≤ 9223372036854775807) : ∀ u : World, (Instr.makeSlice t (.int .i64 n) (.int .i64 n)).run P u = .ok (.slice (some ⟨u.heap.size, 0, none⟩) n n) (u.alloc (.cells (madeCells #[a, b, c] (n * 3)) e)) := fun u => by
  obtain ⟨i, h1, h2, h3, h4⟩ := info_parts hi
  have q := run_make (P := P) u t e i (.agg #[a, b, c]) ht h1 h2 .i64 .i64 n n (by omega) (Int.le_refl _) (by rw [h4]; exact hb) (by omega)
  simpa [h3, hz] using q
theorem shl_is2 (k : Nat) (h : k ≤ 10) (m : Nat) (hm : m = 2 ^ k) : IntKind.i64.wrap ((2 : Int) ^ min k 64) = (m : Int) := by
  subst hm
  rw [Nat.min_eq_left (by omega)]
  have : k = 0 ∨ k = 1 ∨ k = 2 ∨ k = 3 ∨ k = 4 ∨ k = 5 ∨ k = 6 ∨ k = 7 ∨ k = 8 ∨ k = 9 ∨ k = 10 := by omega
  rcases this with rfl | rfl | rfl | rfl | rfl | rfl | rfl | rfl | rfl | rfl | rfl <;> decide +kernel
theorem new_bad_prd (kind bits hist tg ret : Int) (w : World) (h : gOk kind bits hist tg ret = false) : Calls Tryz.prog 34 #[.agg #[.int .i64 kind, .int .i64 bits, .int .i64 hist, .int .i64 tg, .int .i64 ret]] w fun e w' => e = .returned (.tuple #[.pointer none, .iface 33 (.int .i64 2)]) ∧ Below w.heap.size w w' := by
  have HG := Hid.in h
  clear h
  go_enter Tryz.func34, Tryz.ntmps34
  go_wp2_with (go_at_call 59; refine (isGuessing_any kind bits hist tg ret _).mono ?_; rintro e w1 ⟨rfl, hb1⟩; rw [HG.out]; obtain ⟨k1, k2, k3, k4⟩ := keepB hb1)
  exact bodyPost_ret (by simp [results, Tryz.results34, go_sem]) rfl ⟨rfl, k4⟩
def newS : PS := ⟨0, 0, fun _ => 0, fun _ => false, fun _ => 0, fun _ => 0, fun _ => 1⟩
theorem tgt_new (x : World) (nt : Nat) : CellsAt (nt * 3) (x.alloc (.cells (madeCells #[.bool false, .int .u32 0, .int .u32 0] (nt * 3)) 414)) x.heap.size (encG newS.tf newS.tp newS.tt) := cells_new x (fun i hi => (made_cell3 _ _ _ nt i hi).trans rfl)
theorem stk_new (x : World) (ret : Nat) : CellsAt ret (x.alloc (.cells (madeCells #[.int .u32 0] ret) 43)) x.heap.size (fun k => .int .u32 (newS.stack k)) := cells_new x (made_cell_prd _ ret)
theorem tgt_new1 (x : World) (o : Obj) (nt : Nat) : CellsAt (nt * 3) ((x.alloc o).alloc (.cells (madeCells #[.bool false, .int .u32 0, .int .u32 0] (nt * 3)) 414)) (x.heap.size + 1) (encG newS.tf newS.tp newS.tt) := by
  have := tgt_new (x.alloc o) nt
  rwa [World.size_alloc] at this
theorem stk_new1 (x : World) (o : Obj) (ret : Nat) : CellsAt ret ((x.alloc o).alloc (.cells (madeCells #[.int .u32 0] ret) 43)) (x.heap.size + 1) (fun k => .int .u32 (newS.stack k)) := by
  have := stk_new (x.alloc o) ret
  rwa [World.size_alloc] at this
theorem mk_new (w y0 : World) (kind : Int) (bits nt ret mask gc nc gt gs p : Nat) (hp : p = y0.heap.size) (dv : Value) (hdv : dv = .iface (dTy kind) (dVal kind gc nc)) (t : CellsAt (nt * 3) y0 gt (encG newS.tf newS.tp newS.tt)) (s : CellsAt ret y0 gs (fun k => .int .u32 (newS.stack k))) (c : CellsAt nc y0 gc (fun _ => .int .u8 1)) (ne : gt ≠ gs ∧ gt ≠ gc ∧ gs ≠ gc)
    (sz : 1 ≤ nt ∧ nt ≤ 256 ∧ 1 ≤ ret ∧ ret ≤ 16 ∧ nc ≤ 1024 ∧ mask ≤ 1023) (hm : ∀ y, y &&& mask = y % (mask + 1)) (hx : 2 ≤ kind → nc = 2 ^ bits) (b : Below w.heap.size w y0) (lo : w.heap.size ≤ gt ∧ w.heap.size ≤ gs ∧ w.heap.size ≤ gc) :
    ∃ G : PG, Ending.returned (.tuple #[.pointer (some ⟨p, 0, none⟩), .nilIface]) = .returned (.tuple #[.pointer (some ⟨G.p, 0, none⟩), .nilIface]) ∧ Pr (y0.alloc (.cells #[dv, .int .i64 0, .int .i64 mask, .slice (some ⟨gt, 0, none⟩) nt nt, .slice (some ⟨gs, 0, none⟩) ret ret, .int .i64 0] 179)) G newS ∧ G.ns = ret ∧ G.nt = nt ∧ G.mask = mask ∧ G.dv = .iface (dTy kind) (dVal kind G.gc G.nc) ∧ (2 ≤ kind → G.nc = 2 ^ bits) ∧ (w.heap.size ≤ G.p ∧ w.heap.size ≤ G.gt ∧ w.heap.size ≤ G.gs ∧ w.heap.size ≤ G.gc) ∧ Below w.heap.size w (y0.alloc (.cells #[dv, .int .i64 0, .int .i64 mask, .slice (some ⟨gt, 0, none⟩) nt nt, .slice (some ⟨gs, 0, none⟩) ret ret, .int .i64 0] 179)) := by
  subst hp
  have h1 := t.here
  have h2 := s.here
  have h3 := c.here
  refine ⟨⟨y0.heap.size, gt, nt, gs, ret, gc, nc, mask, dv⟩, rfl, ⟨cells_new y0 fun i hi => ?_, t.alloc _, s.alloc _, c.alloc _, ?_, ?_, sz, hm⟩, rfl, rfl, rfl, hdv, hx, ⟨b.size, lo⟩, b.alloc b.size _⟩
  · match i, hi with
    | 0, _ => rfl
    | 1, _ => rfl
    | 2, _ => rfl
    | 3, _ => rfl
    | 4, _ => rfl
    | 5, _ => rfl
  · show y0.heap.size ≠ gt ∧ y0.heap.size ≠ gs ∧ y0.heap.size ≠ gc ∧ gt ≠ gs ∧ gt ≠ gc ∧ gs ≠ gc
    omega
  · exact ⟨sz.2.2.1, Nat.zero_le _⟩
set_option maxRecDepth 20000 in
set_option maxHeartbeats 1000000 in
theorem new_good_prd (kind : Int) (bits hist tg ret nt mask : Nat) (hnt : nt = 2 ^ tg) (hmask : mask + 1 = 2 ^ hist) (w : World) (h : gOk kind bits hist tg ret = true) : Calls Tryz.prog 34 #[.agg #[.int .i64 kind, .int .i64 bits, .int .i64 hist, .int .i64 tg, .int .i64 ret]] w fun e w' => ∃ G : PG, e = .returned (.tuple #[.pointer (some ⟨G.p, 0, none⟩), .nilIface]) ∧ Pr w' G newS ∧ G.ns = ret ∧ G.nt = nt ∧ G.mask = mask ∧ G.dv = .iface (dTy kind) (dVal kind G.gc G.nc) ∧ (2 ≤ kind → G.nc = 2 ^ bits) ∧ (w.heap.size ≤ G.p ∧ w.heap.size ≤ G.gt ∧ w.heap.size ≤ G.gs ∧ w.heap.size ≤ G.gc) ∧ Below w.heap.size w w' := by
  obtain ⟨q1, q2, q3, q4, q5, q6, q7, q8⟩ : (0 ≤ kind ∧ kind ≤ 3) ∧ 1 ≤ bits ∧ bits ≤ 10 ∧ hist ≤ 10 ∧ hist ≤ bits ∧ tg ≤ 8 ∧ 1 ≤ ret ∧ ret ≤ 16 := by
    unfold gOk at h
    simp at h
    omega
  have HG := Hid.in h
  have HK := Hid.in q1
  have HB := Hid.in q3
  obtain ⟨m1, hm1⟩ : ∃ m1, m1 = mask + 1 := ⟨_, rfl⟩
  have HS1 := Hid.in (shl_is2 hist q4 m1 (hm1.trans hmask))
  have HS2 := Hid.in (shl_is2 tg (by omega) nt hnt)
  have m2 : 1 ≤ m1 := by omega
  have m3 : m1 ≤ 1024 := by have := (pow_le10 hist q4).2; omega
  obtain ⟨b1, b2⟩ : 1 ≤ nt ∧ nt ≤ 256 := hnt ▸ ⟨Nat.one_le_two_pow, Nat.pow_le_pow_right (n := 2) (by omega) q6⟩
  have b3 : mask ≤ 1023 := by have := (pow_le10 hist q4).2; omega
  have HS3 : Hid (IntKind.i64.wrap ((m1 : Int) - 1) = (mask : Int)) := by show _ = _; rw [IntKind.wrap_i64]; omega
  have HM : Hid (∀ y, y &&& mask = y % (mask + 1)) := fun y => by
    have : mask = 2 ^ hist - 1 := by omega
    rw [hmask, this]; exact Nat.and_two_pow_sub_one_eq_mod _ _
  have HM1 := Hid.in <| make_run3 (P := Tryz.prog) 177 414 (.bool false) (.int .u32 0) (.int .u32 0) 12 Tryz.underlying177 (by kernel_rfl) rfl nt (by omega) (by omega)
  have HM2 := Hid.in <| make_run_prd (P := Tryz.prog) 44 43 (.int .u32 0) 4 Tryz.underlying44 (by kernel_rfl) rfl ret (by omega) (by omega)
  clear h hnt hmask hm1 q1 q2 q3 q4 q5 q6
  go_enter Tryz.func34, Tryz.ntmps34
  go_wp2_with (go_at_call 59; refine (isGuessing_any kind bits hist tg ret _).mono ?_; rintro e w1 ⟨rfl, hb1⟩; rw [HG.out]; obtain ⟨k1, k2, k3, k4⟩ := keepB hb1)
  have hs1 := HS1.out
  have hs2 := HS2.out
  have hs3 := HS3.out
  have hm1 := HM1.out
  have hm2 := HM2.out
  have HK4 := Hid.in k4
  have HW1 : Hid (w.heap.size < w1.heap.size) := k3
  clear hb1 k4
  go_region_held3 (fun w' => w'.cell? ⟨w.heap.size, 0, none⟩ = some (.int .i64 kind) ∧ w'.cell? ⟨w.heap.size, 1, none⟩ = some (.int .i64 bits) ∧ w'.cell? ⟨w.heap.size, 2, none⟩ = some (.int .i64 hist) ∧ w'.cell? ⟨w.heap.size, 3, none⟩ = some (.int .i64 tg) ∧ w'.cell? ⟨w.heap.size, 4, none⟩ = some (.int .i64 ret)) (go_keep) ((go_at_call 60; refine (directionOf_any kind hist tg ret bits _ HK.out HB.out).mono ?_; rintro e w2 ⟨gc, nc, rfl, hc2, hg2, hn2, hx2, hb2⟩; have hB2 : Below w1.heap.size w1 w2 := (by refine Below.trans ?_ (hb2.mono (by simp <;> omega)); repeat (with_reducible first | exact Below.refl _ _ | refine Below.drew ?_ | refine Below.alloc ?_ (by simp <;> omega) _)); have k12 := fun i => (hB2.cell (p := ⟨w.heap.size, i, none⟩) k3).trans (k1 i); have hg3 : w1.heap.size ≤ gc := (by revert hg2; simp <;> omega); have HG2 := Hid.in hg2; have HC2 := Hid.in hc2; have HB2 := Hid.in hb2; have HBB := Hid.in hB2; clear hc2 hb2 hB2 hg2))
  · have z1 := HG2.out
    have z2 := HBB.out.size
    have z3 := HB2.out.size
    have z4 := HC2.out.here
    have z5 := HW1.out
    simp only [World.drew] at z1 z3
    go_wp2
    go_ret2
    refine mk_new w _ kind bits nt ret mask gc nc _ _ _ (by simp) _ rfl ((tgt_new w2 nt).alloc _) (stk_new1 w2 _ ret) ((HC2.out.alloc _).alloc _) (by omega) ⟨b1, b2, q7, q8, hn2, b3⟩ HM.out hx2 (((HK4.out.trans (HBB.out.mono HK4.out.size)).alloc (by omega) _).alloc (by simp; omega) _) (by omega)
  · have z1 := HG2.out
    have z2 := HBB.out.size
    have z3 := HB2.out.size
    have z4 := HC2.out.here
    have z5 := HW1.out
    simp only [World.drew] at z1 z3
    go_wp2
    go_ret2
    refine mk_new w _ kind bits nt ret mask gc nc _ _ _ (by simp) _ rfl (tgt_new1 w2 _ nt) ((stk_new w2 ret).alloc _) ((HC2.out.alloc _).alloc _) (by omega) ⟨b1, b2, q7, q8, hn2, b3⟩ HM.out hx2 (((HK4.out.trans (HBB.out.mono HK4.out.size)).alloc (by omega) _).alloc (by simp; omega) _) (by omega)
  · have z1 := HG2.out
    have z2 := HBB.out.size
    have z3 := HB2.out.size
    have z4 := HC2.out.here
    have z5 := HW1.out
    simp only [World.size_alloc, World.drew] at z1 z3
    go_wp2
    go_ret2
    refine mk_new w _ kind bits nt ret mask gc nc _ _ _ (by simp) _ rfl (((tgt_new w1 nt).drew.below HB2.out).alloc _) (stk_new w2 ret) (HC2.out.alloc _) (by omega) ⟨b1, b2, q7, q8, hn2, b3⟩ HM.out hx2 ((HK4.out.trans (HBB.out.mono HK4.out.size)).alloc (by omega) _) (by omega)
  · have z1 := HG2.out
    have z2 := HBB.out.size
    have z3 := HB2.out.size
    have z4 := HC2.out.here
    have z5 := HW1.out
    simp only [World.size_alloc, World.drew] at z1 z3
    go_wp2
    go_ret2
    refine mk_new w _ kind bits nt ret mask gc nc _ _ _ (by simp) _ rfl (((tgt_new w1 nt).alloc _).drew.below HB2.out) ((stk_new1 w1 _ ret).drew.below HB2.out) HC2.out (by omega) ⟨b1, b2, q7, q8, hn2, b3⟩ HM.out hx2 (HK4.out.trans (HBB.out.mono HK4.out.size)) (by omega)
  · have z1 := HG2.out
    have z2 := HBB.out.size
    have z3 := HB2.out.size
    have z4 := HC2.out.here
    have z5 := HW1.out
    simp only [World.size_alloc, World.drew] at z1 z3
    go_wp2
    go_ret2
    refine mk_new w _ kind bits nt ret mask gc nc _ _ _ (by simp) _ rfl (tgt_new w2 nt) (((stk_new w1 ret).drew.below HB2.out).alloc _) (HC2.out.alloc _) (by omega) ⟨b1, b2, q7, q8, hn2, b3⟩ HM.out hx2 ((HK4.out.trans (HBB.out.mono HK4.out.size)).alloc (by omega) _) (by omega)
  · have z1 := HG2.out
    have z2 := HBB.out.size
    have z3 := HB2.out.size
    have z4 := HC2.out.here
    have z5 := HW1.out
    simp only [World.size_alloc, World.drew] at z1 z3
    go_wp2
    go_ret2
    refine mk_new w _ kind bits nt ret mask gc nc _ _ _ (by simp) _ rfl ((tgt_new1 w1 _ nt).drew.below HB2.out) (((stk_new w1 ret).alloc _).drew.below HB2.out) HC2.out (by omega) ⟨b1, b2, q7, q8, hn2, b3⟩ HM.out hx2 (HK4.out.trans (HBB.out.mono HK4.out.size)) (by omega)
end Go.Proofs.YtemamhkhjijdlaaGreatDoor
