/-
  PREDICT's LAW PredictReturns: the walk.
-/
import Derived.Test.YtaioaakaffafoaaDoorDr
namespace Go.Proofs.YtaioaakaffafoaaDoor
open Go Go.RowKit
def callC : Nat → Value
  | 0 => .int .i64 3
  | 1 => .int .i64 1
  | 4 => .int .i64 400
  | _ => .int .i64 0
def backC : Nat → Value
  | 0 => .int .i64 4
  | 2 => .int .i64 1
  | _ => .int .i64 0
/-- the law's memory in the midst of its loops -/
structure St (B : Nat) (w x : World) (G : PG) (S : PS) (cb bb ab : Nat) (a : Nat → Int) : Prop where
  pr : Pr x G S
  atc : CellsAt 16 x ab (fun k => .int .u32 (a k))
  cl : CellsAt 5 x cb callC
  bk : CellsAt 5 x bb backC
  laid : Laid x
  gr : Below w.heap.size w x
  sz : B ≤ x.heap.size
  lt : G.p < B ∧ G.gt < B ∧ G.gs < B ∧ G.gc < B ∧ ab < B ∧ cb < B ∧ bb < B
  lo : w.heap.size ≤ B ∧ w.heap.size ≤ G.p ∧ w.heap.size ≤ G.gs
  ne : ab ≠ G.p ∧ ab ≠ G.gs ∧ cb ≠ G.p ∧ cb ≠ G.gs ∧ bb ≠ G.p ∧ bb ≠ G.gs
  off : Off G
  gl : ∀ k, k = 1 ∨ k = 2 ∨ k = 3 → k < B
theorem St.below {B : Nat} {w x y : World} {G : PG} {S : PS} {cb bb ab : Nat} {a : Nat → Int} (h : St B w x G S cb bb ab a) (c : Below B x y) : St B w y G S cb bb ab a := by
  obtain ⟨h1, h2, h3, h4, h5, h6, h7, h8, h9, h10, h11, h12⟩ := h
  have c2 : Turned (fun k => B ≤ k) x y := ⟨c.os, c.tape, c.output, c.size, fun k _ hk => c.block k (by omega)⟩
  exact ⟨h1.turned c2 (by omega) (by omega) (by omega) (by omega), c2.cells h2 (by omega), c2.cells h3 (by omega), c2.cells h4 (by omega), h5.turned c2 (fun k hk hq => by have := h12 k hk; omega), h6.trans (c.mono h9.1), Nat.le_trans h7 c.size, h8, h9, h10, h11, h12⟩
theorem St.step {B : Nat} {w x y : World} {G : PG} {S T : PS} {cb bb ab : Nat} {a : Nat → Int} (h : St B w x G S cb bb ab a) (c : Turned (fun k => k = G.p ∨ k = G.gs) x y) (p : Pr y G T) : St B w y G T cb bb ab a := by
  obtain ⟨h1, h2, h3, h4, h5, h6, h7, h8, h9, h10, h11, h12⟩ := h
  exact ⟨p, c.cells h2 (by omega), c.cells h3 (by omega), c.cells h4 (by omega), h5.turned c (fun k hk hq => by have := h11 k hk; omega), h6.trans (c.below h6.size (fun k hk => by omega)), Nat.le_trans h7 c.size, h8, h9, h10, h11, h12⟩
/-- behind k calls -/
def Deep (r k : Nat) (S : PS) (a : Nat → Int) : Prop := S.top = k % r ∧ ∀ i, i < k → S.stack ((i + 1) % r) = (a i + 4) % 4294967296
theorem deep_next (G : PG) (r k n : Nat) (S T : PS) (a : Nat → Int) (hns : G.ns = r) (h : Deep r k S a) (hk : k < n) (hn : n ≤ r) (ht : T.top = (S.top + 1) % G.ns) (hs : ∀ j, j ≠ (S.top + 1) % G.ns → T.stack j = S.stack j) (hv : T.stack ((S.top + 1) % G.ns) = (a k + 4) % 4294967296) : Deep r (k + 1) T a := by
  obtain ⟨h1, h2⟩ := h
  have e : (S.top + 1) % G.ns = (k + 1) % r := by rw [hns, h1, Nat.mod_eq_of_lt (show k < r by omega)]
  rw [e] at ht hs hv
  refine ⟨ht, fun i hi => ?_⟩
  by_cases q : i = k
  · rw [q]; exact hv
  · rw [hs _ ?_]
    · exact h2 i (by omega)
    · rw [Nat.mod_eq_of_lt (show i + 1 < r by omega)]
      by_cases q2 : k + 1 = r
      · rw [q2, Nat.mod_self]; omega
      · rw [Nat.mod_eq_of_lt (show k + 1 < r by omega)]; omega
theorem deep_back (r k : Nat) (S T : PS) (a : Nat → Int) (h : Deep r (k + 1) S a) (hr : k + 1 ≤ r) (ht : T.top = (S.top + r - 1) % r) (hs : T.stack = S.stack) : Deep r k T a := by
  obtain ⟨h1, h2⟩ := h
  refine ⟨?_, fun i hi => by rw [hs]; exact h2 i (by omega)⟩
  rw [ht, h1, Nat.mod_eq_of_lt (show k < r by omega)]
  by_cases q2 : k + 1 = r
  · rw [q2, Nat.mod_self, ← q2]
    rw [show 0 + (k + 1) - 1 = k by omega]
    exact Nat.mod_eq_of_lt (by omega)
  · rw [Nat.mod_eq_of_lt (show k + 1 < r by omega), show k + 1 + r - 1 = k + r by omega, Nat.add_mod_right]
    exact Nat.mod_eq_of_lt (by omega)
theorem deep_top (r k : Nat) (S : PS) (a : Nat → Int) (h : Deep r (k + 1) S a) : S.stack S.top = (a k + 4) % 4294967296 := by
  rw [h.1]; exact h.2 k (by omega)
theorem st_start {w w2 w3 : World} {G : PG} {a : Nat → Int} {t : TypeId} (hL : Laid w) (hP : Pr w2 G newS) (hlo : w.heap.size ≤ G.p ∧ w.heap.size ≤ G.gt ∧ w.heap.size ≤ G.gs ∧ w.heap.size ≤ G.gc) (hb2 : Below w.heap.size w w2) (hat : CellsAt 16 w3 ((w2.alloc (.cells #[.int .i64 3, .int .i64 1, .int .i64 0, .int .i64 0, .int .i64 400] t)).alloc (.cells #[.int .i64 4, .int .i64 0, .int .i64 1, .int .i64 0, .int .i64 0] t)).heap.size (fun k => .int .u32 (a k)))
    (hb3 : Below ((w2.alloc (.cells #[.int .i64 3, .int .i64 1, .int .i64 0, .int .i64 0, .int .i64 400] t)).alloc (.cells #[.int .i64 4, .int .i64 0, .int .i64 1, .int .i64 0, .int .i64 0] t)).heap.size ((w2.alloc (.cells #[.int .i64 3, .int .i64 1, .int .i64 0, .int .i64 0, .int .i64 400] t)).alloc (.cells #[.int .i64 4, .int .i64 0, .int .i64 1, .int .i64 0, .int .i64 0] t)) w3) : St w3.heap.size w w3 G newS w2.heap.size (w2.heap.size + 1) (w2.heap.size + 1 + 1) a := by
  have hs := hb3.size
  simp only [World.size_alloc] at hs hat
  obtain ⟨k1, k2, k3, k4⟩ := keepB2 hb3
  have p1 := hP.cells.here
  have p2 := hP.tgt.here
  have p3 := hP.stk.here
  have p4 := hP.ctr.here
  have p5 := hat.here
  have hz := hb2.size
  have f1 : ∀ i, w3.frozen? ⟨w2.heap.size, i, none⟩ = false := fun i => by
    rw [hb3.frozen (p := ⟨w2.heap.size, i, none⟩) (by simp; omega)]
    rw [((Below.refl _ _).alloc (Nat.le_refl _) _ : Below (w2.alloc (.cells #[.int .i64 3, .int .i64 1, .int .i64 0, .int .i64 0, .int .i64 400] t)).heap.size _ _).frozen (p := ⟨w2.heap.size, i, none⟩) (by simp)]
    exact World.frozen?_alloc_at _ _ _ i rfl
  have f2 : ∀ i, w3.frozen? ⟨w2.heap.size + 1, i, none⟩ = false := fun i => by
    rw [hb3.frozen (p := ⟨w2.heap.size + 1, i, none⟩) (by simp)]
    exact World.frozen?_alloc_at _ _ _ i (by simp)
  have gl : ∀ k, k = 1 ∨ k = 2 ∨ k = 3 → k < w.heap.size := fun k hk => by
    rcases hk with rfl | rfl | rfl
    · exact hL.zb
    · exact hL.zo
    · exact hL.zl
  refine ⟨hP.below k4, hat, ⟨by omega, fun o ho => ?_, f1⟩, ⟨by omega, fun o ho => ?_, f2⟩, hL.below (hb2.trans (k4.mono hz)), hb2.trans (k4.mono hz), Nat.le_refl _, by omega, by omega, by omega, fun k hk => ?_, fun k hk => ?_⟩
  · rw [k1 o]
    match o, ho with
    | 0, _ => rfl
    | 1, _ => rfl
    | 2, _ => rfl
    | 3, _ => rfl
    | 4, _ => rfl
  · rw [k2 o]
    match o, ho with
    | 0, _ => rfl
    | 1, _ => rfl
    | 2, _ => rfl
    | 3, _ => rfl
    | 4, _ => rfl
  · have := gl k hk
    omega
  · have := gl k hk
    omega
theorem back_call (t ns : Nat) (h : t < ns) : ((t + ns - 1) % ns + 1) % ns = t := by
  by_cases e : t = 0
  · subst e
    rw [show 0 + ns - 1 = ns - 1 by omega, Nat.mod_eq_of_lt (show ns - 1 < ns by omega), show ns - 1 + 1 = ns by omega, Nat.mod_self]
  · rw [show t + ns - 1 = (t - 1) + ns by omega, Nat.add_mod_right, Nat.mod_eq_of_lt (show t - 1 < ns by omega), show t - 1 + 1 = t by omega, Nat.mod_eq_of_lt h]
set_option maxRecDepth 20000 in
set_option maxHeartbeats 2000000 in
theorem returns_any (ret deep : Int) (pp : Option Addr) (m c : Nat) (g : Nat → Int) (w : World) (hr : I64 ret) (hd : I64 deep) (hw : Words w pp m g) (hL : Laid w) : Calls Tryd.prog 5 #[.int .i64 ret, .int .i64 deep, .slice pp m c] w fun e w' => e = .returned (.bool true) ∧ Below w.heap.size w w' := by
  have HR := Hid.in hr
  have HD := Hid.in hd
  have HW : Hid (∀ y, Below w.heap.size w y → Words y pp m g) := fun y hy i hi => by
    obtain ⟨b, o, e, h1, h2, h3⟩ := hw i hi
    exact ⟨b, o, e, Nat.lt_of_lt_of_le h1 hy.size, (hy.cell (p := ⟨b, o + i, none⟩) h1).trans h2, h3⟩
  have HL := Hid.in hL
  clear hr hd hw hL
  go_enter Tryd.func5, Tryd.ntmps5
  go_wp2_with (first
    | (go_at_call 18; have HX9 := HNS; refine (pick_any deep ((r : Int) + 1) _ HD.out (by omega)).mono ?_; rintro e w9 ⟨n, hn0, rfl, hw9⟩; have hw9' := hw9.symm; clear hw9; subst hw9')
    | (go_at_call 18; refine (pick_any ret 16 _ HR.out (by omega)).mono ?_; rintro e w1 ⟨k0, hk0, rfl, hw1⟩; have hw1' := hw1.symm; clear hw1; subst hw1'; obtain ⟨r, hr⟩ : ∃ r, r = 1 + k0 := ⟨_, rfl⟩; have hs : (1 : Int) + (k0 : Int) = (r : Int) := (by omega); have b1 : 1 ≤ r := (by omega); have b2 : r ≤ 16 := (by omega); clear hr)
    | (go_at_call 6; refine (new_ret r _ b1 b2).mono ?_; rintro e w2 ⟨G, rfl, hP2, hns, hmask, hDK, hlo, hb2⟩; have HP2 := Hid.in hP2; have HNS := Hid.in hns; have HMK := Hid.in hmask; have HDK := Hid.in hDK; have HLO := Hid.in hlo; have HB2 := Hid.in hb2; clear hP2 hns hmask hDK hlo hb2)
    | (go_at_call 19; refine (places_any pp m c g _ (HW.out _ (HB2.out.trans (by repeat (with_reducible first | exact Below.refl _ _ | refine Below.alloc ?_ (by have := HB2.out.size; simp <;> omega) _))))).mono ?_; rintro e w3 ⟨a, rfl, ha, hat, hb3⟩; have HA := Hid.in ha; have HAT := Hid.in hat; have HB3 := Hid.in hb3; clear ha hat hb3))
  have hst0 := st_start HL.out HP2.out HLO.out HB2.out HAT.out HB3.out
  have HN : Hid (n ≤ r) := by show _ ≤ _; omega
  clear HP2 HB2 HAT HB3 HX9 hs HW HL HR HD
  obtain ⟨B, hB⟩ : ∃ B, B = w3.heap.size := ⟨_, rfl⟩
  obtain ⟨cb, hcb⟩ : ∃ cb, cb = w2.heap.size := ⟨_, rfl⟩
  obtain ⟨bb, hbb⟩ : ∃ bb, bb = w2.heap.size + 1 := ⟨_, rfl⟩
  obtain ⟨ab, hab⟩ : ∃ ab, ab = w2.heap.size + 1 + 1 := ⟨_, rfl⟩
  rw [← hB, ← hab, ← hbb, ← hcb] at hst0
  rw [← hab, ← hbb, ← hcb]
  clear hB hcb hbb hab
  have ST0 := Hid.in hst0
  have hp9 : G.p < B := hst0.lt.1
  have hs9 : G.gs < B := hst0.lt.2.2.1
  clear hst0
  go_loopw [14] (fun v wr => ∃ (k : Nat) (S : PS), v = .int .i64 k ∧ k ≤ n ∧ St B w wr G S cb bb ab a ∧ Deep r k S a) (fun v _ => n + 1 - (intOf v).toNat)
  case atStart => exact ⟨0, newS, rfl, by omega, ST0.out, by show 0 = 0 % r; rw [Nat.zero_mod], fun i hi => by omega⟩
  case round =>
    obtain ⟨k, S, rfl, hk, hst, hdp⟩ := hrel
    have HDP := Hid.in hdp
    clear hdp
    by_cases hk2 : k < n
    · have hk16 : k < 16 := by have := HN.out; omega
      have hkn : (k : Int) < (n : Int) := by omega
      have hki : (k : Int) < 16 := by omega
      have hk0i : (0 : Int) ≤ (k : Int) := by omega
      have stwr := hst
      obtain ⟨u1, u2⟩ : 0 ≤ a k ∧ a k < 4294967296 := HA.out k
      have HS : Hid (S.top < G.ns) := stwr.pr.low.1
      have HT1 : Hid ((callS G S (a k)).top < G.ns) := Nat.mod_lt _ (by have := HS.out; omega)
      have STKy3 : Hid (∀ (v : Int) j, j ≠ (S.top + 1) % G.ns → upd (callS G S (a k)).stack (callS G S (a k)).top v j = S.stack j) := fun v j hj => (upd_other _ _ _ _ hj).trans (upd_other _ _ _ _ hj)
      have STKy4 : Hid (∀ (v : Int) j, j ≠ (S.top + 1) % G.ns → upd (callS G { callS G S (a k) with top := ((callS G S (a k)).top + G.ns - 1) % G.ns } ((a k + 408) % 4294967296)).stack (callS G S (a k)).top v j = S.stack j) := fun v j hj => (upd_other _ _ _ _ hj).trans (by
        have e := back_call (callS G S (a k)).top G.ns HT1.out
        show upd (callS G S (a k)).stack ((((callS G S (a k)).top + G.ns - 1) % G.ns + 1) % G.ns) _ j = S.stack j
        rw [e, upd_other _ _ _ _ (show j ≠ (callS G S (a k)).top from hj)]
        exact upd_other _ _ _ _ hj)
      have atwr : wr.cell? ⟨ab, k, none⟩ = some (.int .u32 (a k)) := stwr.atc.cell k hk16
      have cl0wr : wr.cell? ⟨cb, 0, none⟩ = some (.int .i64 3) := stwr.cl.cell 0 (by decide)
      have cl1wr : wr.cell? ⟨cb, 1, none⟩ = some (.int .i64 1) := stwr.cl.cell 1 (by decide)
      have cl2wr : wr.cell? ⟨cb, 2, none⟩ = some (.int .i64 0) := stwr.cl.cell 2 (by decide)
      have cl3wr : wr.cell? ⟨cb, 3, none⟩ = some (.int .i64 0) := stwr.cl.cell 3 (by decide)
      have cl4wr : wr.cell? ⟨cb, 4, none⟩ = some (.int .i64 400) := stwr.cl.cell 4 (by decide)
      have bk0wr : wr.cell? ⟨bb, 0, none⟩ = some (.int .i64 4) := stwr.bk.cell 0 (by decide)
      have bk1wr : wr.cell? ⟨bb, 1, none⟩ = some (.int .i64 0) := stwr.bk.cell 1 (by decide)
      have bk2wr : wr.cell? ⟨bb, 2, none⟩ = some (.int .i64 1) := stwr.bk.cell 2 (by decide)
      have bk3wr : wr.cell? ⟨bb, 3, none⟩ = some (.int .i64 0) := stwr.bk.cell 3 (by decide)
      have bk4wr : wr.cell? ⟨bb, 4, none⟩ = some (.int .i64 0) := stwr.bk.cell 4 (by decide)
      have zawr := stwr.atc.here
      have zcwr := stwr.cl.here
      have zbwr := stwr.bk.here
      have zzwr := stwr.sz
      have STwr : Hid (∀ y, Below B wr y → St B w y G _ cb bb ab a) := fun y hy => stwr.below hy
      clear stwr hst
      have nab : ¬ ab = wr.heap.size := by have := (STwr.out wr (Below.refl _ _)).lt; omega
      have ncb : ¬ cb = wr.heap.size := by have := (STwr.out wr (Below.refl _ _)).lt; omega
      have nbb : ¬ bb = wr.heap.size := by have := (STwr.out wr (Below.refl _ _)).lt; omega
      have nab' : ¬ wr.heap.size = ab := fun e => nab e.symm
      have ncb' : ¬ wr.heap.size = cb := fun e => ncb e.symm
      have nbb' : ¬ wr.heap.size = bb := fun e => nbb e.symm
      go_wp2
      go_region_held3 (fun w' => w'.cell? ⟨ab, k, none⟩ = some (.int .u32 (a k)) ∧ w'.cell? ⟨cb, 0, none⟩ = some (.int .i64 3) ∧ w'.cell? ⟨cb, 1, none⟩ = some (.int .i64 1) ∧ w'.cell? ⟨cb, 2, none⟩ = some (.int .i64 0) ∧ w'.cell? ⟨cb, 3, none⟩ = some (.int .i64 0) ∧ w'.cell? ⟨cb, 4, none⟩ = some (.int .i64 400)) (go_keep) ((go_at_call 11; refine (g_call G S (a k) _ HDK.out (STwr.out _ (by repeat (with_reducible first | exact Below.refl _ _ | refine Below.drew ?_ | refine Below.alloc ?_ (by first | omega | (simp <;> omega)) _ | refine Below.setCell ?_ (by first | omega | (simp <;> omega)) _))).pr (STwr.out _ (by repeat (with_reducible first | exact Below.refl _ _ | refine Below.drew ?_ | refine Below.alloc ?_ (by first | omega | (simp <;> omega)) _ | refine Below.setCell ?_ (by first | omega | (simp <;> omega)) _))).laid ⟨u1, u2⟩).mono ?_; rintro e y1 ⟨rfl, hP1, hT1⟩; have sty1 : St B w y1 G (callS G S (a k)) cb bb ab a := (STwr.out _ (by repeat (with_reducible first | exact Below.refl _ _ | refine Below.drew ?_ | refine Below.alloc ?_ (by first | omega | (simp <;> omega)) _ | refine Below.setCell ?_ (by first | omega | (simp <;> omega)) _))).step hT1 hP1; have aty1 : y1.cell? ⟨ab, k, none⟩ = some (.int .u32 (a k)) := sty1.atc.cell k hk16; have cl0y1 : y1.cell? ⟨cb, 0, none⟩ = some (.int .i64 3) := sty1.cl.cell 0 (by decide); have cl1y1 : y1.cell? ⟨cb, 1, none⟩ = some (.int .i64 1) := sty1.cl.cell 1 (by decide); have cl2y1 : y1.cell? ⟨cb, 2, none⟩ = some (.int .i64 0) := sty1.cl.cell 2 (by decide); have cl3y1 : y1.cell? ⟨cb, 3, none⟩ = some (.int .i64 0) := sty1.cl.cell 3 (by decide); have cl4y1 : y1.cell? ⟨cb, 4, none⟩ = some (.int .i64 400) := sty1.cl.cell 4 (by decide); have bk0y1 : y1.cell? ⟨bb, 0, none⟩ = some (.int .i64 4) := sty1.bk.cell 0 (by decide); have bk1y1 : y1.cell? ⟨bb, 1, none⟩ = some (.int .i64 0) := sty1.bk.cell 1 (by decide); have bk2y1 : y1.cell? ⟨bb, 2, none⟩ = some (.int .i64 1) := sty1.bk.cell 2 (by decide); have bk3y1 : y1.cell? ⟨bb, 3, none⟩ = some (.int .i64 0) := sty1.bk.cell 3 (by decide); have bk4y1 : y1.cell? ⟨bb, 4, none⟩ = some (.int .i64 0) := sty1.bk.cell 4 (by decide); have zay1 := sty1.atc.here; have zcy1 := sty1.cl.here; have zby1 := sty1.bk.here; have zzy1 := sty1.sz; have STy1 : Hid (∀ y, Below B y1 y → St B w y G _ cb bb ab a) := fun y hy => sty1.below hy; first | (have mz0 := hT1.to_cell (c := wr.heap.size) (o := 0) (by simp) (by omega) (World.cell?_alloc_new wr _ _ 0); have mz1 := hT1.to_cell (c := wr.heap.size) (o := 1) (by simp) (by omega) (World.cell?_alloc_new wr _ _ 1); have mz2 := hT1.to_cell (c := wr.heap.size) (o := 2) (by simp) (by omega) (World.cell?_alloc_new wr _ _ 2); have mzf : ∀ o, y1.frozen? ⟨wr.heap.size, o, none⟩ = false := fun o => (World.frozen?_of_block (hT1.block wr.heap.size (by simp) (by omega))).trans (World.frozen?_alloc_at _ _ _ o rfl); have mzz : wr.heap.size < y1.heap.size := Nat.lt_of_lt_of_le (by simp) hT1.size; clear sty1 hP1 hT1) | clear sty1 hP1 hT1))
      all_goals
        go_wp2_with (go_at_call 11; refine (g_branch G (callS G S (a k)) ((a k + 400) % 4294967296) _ HDK.out HMK.out (STy1.out _ (by repeat (with_reducible first | exact Below.refl _ _ | refine Below.drew ?_ | refine Below.alloc ?_ (by first | omega | (simp <;> omega)) _ | refine Below.setCell ?_ (by first | omega | (simp <;> omega)) _))).pr (STy1.out _ (by repeat (with_reducible first | exact Below.refl _ _ | refine Below.drew ?_ | refine Below.alloc ?_ (by first | omega | (simp <;> omega)) _ | refine Below.setCell ?_ (by first | omega | (simp <;> omega)) _))).laid (by omega)).mono ?_; rintro e y2 ⟨nx, rfl, hP2, hT2⟩; have sty2 : St B w y2 G (callS G S (a k)) cb bb ab a := (STy1.out _ (by repeat (with_reducible first | exact Below.refl _ _ | refine Below.drew ?_ | refine Below.alloc ?_ (by first | omega | (simp <;> omega)) _ | refine Below.setCell ?_ (by first | omega | (simp <;> omega)) _))).step hT2 hP2; have aty2 : y2.cell? ⟨ab, k, none⟩ = some (.int .u32 (a k)) := sty2.atc.cell k hk16; have cl0y2 : y2.cell? ⟨cb, 0, none⟩ = some (.int .i64 3) := sty2.cl.cell 0 (by decide); have cl1y2 : y2.cell? ⟨cb, 1, none⟩ = some (.int .i64 1) := sty2.cl.cell 1 (by decide); have cl2y2 : y2.cell? ⟨cb, 2, none⟩ = some (.int .i64 0) := sty2.cl.cell 2 (by decide); have cl3y2 : y2.cell? ⟨cb, 3, none⟩ = some (.int .i64 0) := sty2.cl.cell 3 (by decide); have cl4y2 : y2.cell? ⟨cb, 4, none⟩ = some (.int .i64 400) := sty2.cl.cell 4 (by decide); have bk0y2 : y2.cell? ⟨bb, 0, none⟩ = some (.int .i64 4) := sty2.bk.cell 0 (by decide); have bk1y2 : y2.cell? ⟨bb, 1, none⟩ = some (.int .i64 0) := sty2.bk.cell 1 (by decide); have bk2y2 : y2.cell? ⟨bb, 2, none⟩ = some (.int .i64 1) := sty2.bk.cell 2 (by decide); have bk3y2 : y2.cell? ⟨bb, 3, none⟩ = some (.int .i64 0) := sty2.bk.cell 3 (by decide); have bk4y2 : y2.cell? ⟨bb, 4, none⟩ = some (.int .i64 0) := sty2.bk.cell 4 (by decide); have zay2 := sty2.atc.here; have zcy2 := sty2.cl.here; have zby2 := sty2.bk.here; have zzy2 := sty2.sz; have STy2 : Hid (∀ y, Below B y2 y → St B w y G _ cb bb ab a) := fun y hy => sty2.below hy; clear sty2 hP2 hT2)
        go_region_held3 (fun w' => w'.cell? ⟨ab, k, none⟩ = some (.int .u32 (a k)) ∧ w'.cell? ⟨bb, 0, none⟩ = some (.int .i64 4) ∧ w'.cell? ⟨bb, 1, none⟩ = some (.int .i64 0) ∧ w'.cell? ⟨bb, 2, none⟩ = some (.int .i64 1) ∧ w'.cell? ⟨bb, 3, none⟩ = some (.int .i64 0) ∧ w'.cell? ⟨bb, 4, none⟩ = some (.int .i64 0)) (go_keep) ((go_at_call 11; refine (g_back G (callS G S (a k)) ((a k + 404) % 4294967296) _ HDK.out (STy2.out _ (by repeat (with_reducible first | exact Below.refl _ _ | refine Below.drew ?_ | refine Below.alloc ?_ (by first | omega | (simp <;> omega)) _ | refine Below.setCell ?_ (by first | omega | (simp <;> omega)) _))).pr (STy2.out _ (by repeat (with_reducible first | exact Below.refl _ _ | refine Below.drew ?_ | refine Below.alloc ?_ (by first | omega | (simp <;> omega)) _ | refine Below.setCell ?_ (by first | omega | (simp <;> omega)) _))).laid (by omega)).mono ?_; rintro e y3 ⟨rfl, hP3, hT3⟩; have sty3 := (STy2.out _ (by repeat (with_reducible first | exact Below.refl _ _ | refine Below.drew ?_ | refine Below.alloc ?_ (by first | omega | (simp <;> omega)) _ | refine Below.setCell ?_ (by first | omega | (simp <;> omega)) _))).step hT3 hP3; have aty3 : y3.cell? ⟨ab, k, none⟩ = some (.int .u32 (a k)) := sty3.atc.cell k hk16; have cl0y3 : y3.cell? ⟨cb, 0, none⟩ = some (.int .i64 3) := sty3.cl.cell 0 (by decide); have cl1y3 : y3.cell? ⟨cb, 1, none⟩ = some (.int .i64 1) := sty3.cl.cell 1 (by decide); have cl2y3 : y3.cell? ⟨cb, 2, none⟩ = some (.int .i64 0) := sty3.cl.cell 2 (by decide); have cl3y3 : y3.cell? ⟨cb, 3, none⟩ = some (.int .i64 0) := sty3.cl.cell 3 (by decide); have cl4y3 : y3.cell? ⟨cb, 4, none⟩ = some (.int .i64 400) := sty3.cl.cell 4 (by decide); have bk0y3 : y3.cell? ⟨bb, 0, none⟩ = some (.int .i64 4) := sty3.bk.cell 0 (by decide); have bk1y3 : y3.cell? ⟨bb, 1, none⟩ = some (.int .i64 0) := sty3.bk.cell 1 (by decide); have bk2y3 : y3.cell? ⟨bb, 2, none⟩ = some (.int .i64 1) := sty3.bk.cell 2 (by decide); have bk3y3 : y3.cell? ⟨bb, 3, none⟩ = some (.int .i64 0) := sty3.bk.cell 3 (by decide); have bk4y3 : y3.cell? ⟨bb, 4, none⟩ = some (.int .i64 0) := sty3.bk.cell 4 (by decide); have zay3 := sty3.atc.here; have zcy3 := sty3.cl.here; have zby3 := sty3.bk.here; have zzy3 := sty3.sz; have STy3 : Hid (∀ y, Below B y3 y → St B w y G _ cb bb ab a) := fun y hy => sty3.below hy; have m0y3 := hT3.to_cell (c := y2.heap.size) (o := 0) (by simp) (by omega) (World.cell?_alloc_new y2 _ _ 0); have m1y3 := hT3.to_cell (c := y2.heap.size) (o := 1) (by simp) (by omega) (World.cell?_alloc_new y2 _ _ 1); have m2y3 := hT3.to_cell (c := y2.heap.size) (o := 2) (by simp) (by omega) (World.cell?_alloc_new y2 _ _ 2); have mzy3 : y2.heap.size < y3.heap.size := Nat.lt_of_lt_of_le (by simp) hT3.size; clear sty3 hP3 hT3))
        go_wp2
        · go_region_held3 (fun w' => w'.cell? ⟨ab, k, none⟩ = some (.int .u32 (a k)) ∧ w'.cell? ⟨cb, 0, none⟩ = some (.int .i64 3) ∧ w'.cell? ⟨cb, 1, none⟩ = some (.int .i64 1) ∧ w'.cell? ⟨cb, 2, none⟩ = some (.int .i64 0) ∧ w'.cell? ⟨cb, 3, none⟩ = some (.int .i64 0) ∧ w'.cell? ⟨cb, 4, none⟩ = some (.int .i64 400)) (go_keep) ((go_at_call 11; refine (g_call G { callS G S (a k) with top := ((callS G S (a k)).top + G.ns - 1) % G.ns } ((a k + 408) % 4294967296) _ HDK.out (STy3.out _ (by repeat (with_reducible first | exact Below.refl _ _ | refine Below.drew ?_ | refine Below.alloc ?_ (by first | omega | (simp <;> omega)) _ | refine Below.setCell ?_ (by first | omega | (simp <;> omega)) _))).pr (STy3.out _ (by repeat (with_reducible first | exact Below.refl _ _ | refine Below.drew ?_ | refine Below.alloc ?_ (by first | omega | (simp <;> omega)) _ | refine Below.setCell ?_ (by first | omega | (simp <;> omega)) _))).laid (by omega)).mono ?_; rintro e y4 ⟨rfl, hP4, hT4⟩; have sty4 := (STy3.out _ (by repeat (with_reducible first | exact Below.refl _ _ | refine Below.drew ?_ | refine Below.alloc ?_ (by first | omega | (simp <;> omega)) _ | refine Below.setCell ?_ (by first | omega | (simp <;> omega)) _))).step hT4 hP4; have aty4 : y4.cell? ⟨ab, k, none⟩ = some (.int .u32 (a k)) := sty4.atc.cell k hk16; have cl0y4 : y4.cell? ⟨cb, 0, none⟩ = some (.int .i64 3) := sty4.cl.cell 0 (by decide); have cl1y4 : y4.cell? ⟨cb, 1, none⟩ = some (.int .i64 1) := sty4.cl.cell 1 (by decide); have cl2y4 : y4.cell? ⟨cb, 2, none⟩ = some (.int .i64 0) := sty4.cl.cell 2 (by decide); have cl3y4 : y4.cell? ⟨cb, 3, none⟩ = some (.int .i64 0) := sty4.cl.cell 3 (by decide); have cl4y4 : y4.cell? ⟨cb, 4, none⟩ = some (.int .i64 400) := sty4.cl.cell 4 (by decide); have bk0y4 : y4.cell? ⟨bb, 0, none⟩ = some (.int .i64 4) := sty4.bk.cell 0 (by decide); have bk1y4 : y4.cell? ⟨bb, 1, none⟩ = some (.int .i64 0) := sty4.bk.cell 1 (by decide); have bk2y4 : y4.cell? ⟨bb, 2, none⟩ = some (.int .i64 1) := sty4.bk.cell 2 (by decide); have bk3y4 : y4.cell? ⟨bb, 3, none⟩ = some (.int .i64 0) := sty4.bk.cell 3 (by decide); have bk4y4 : y4.cell? ⟨bb, 4, none⟩ = some (.int .i64 0) := sty4.bk.cell 4 (by decide); have zay4 := sty4.atc.here; have zcy4 := sty4.cl.here; have zby4 := sty4.bk.here; have zzy4 := sty4.sz; have STy4 : Hid (∀ y, Below B y4 y → St B w y G _ cb bb ab a) := fun y hy => sty4.below hy; have m0y4 := hT4.to_cell (c := y2.heap.size) (o := 0) mzy3 (by omega) m0y3; have m1y4 := hT4.to_cell (c := y2.heap.size) (o := 1) mzy3 (by omega) m1y3; have m2y4 := hT4.to_cell (c := y2.heap.size) (o := 2) mzy3 (by omega) m2y3; have mzy4 : y2.heap.size < y4.heap.size := Nat.lt_of_lt_of_le mzy3 hT4.size; clear sty4 hP4 hT4))
          go_wp2
          go_region_held3 (fun w' => w'.cell? ⟨ab, k, none⟩ = some (.int .u32 (a k)) ∧ w'.cell? ⟨y2.heap.size, 0, none⟩ = some (.int .i64 0) ∧ w'.cell? ⟨y2.heap.size, 1, none⟩ = some (.int .i64 (callS G S (a k)).top) ∧ w'.cell? ⟨y2.heap.size, 2, none⟩ = some (.int .u32 ((callS G S (a k)).stack (callS G S (a k)).top))) (go_keep) ((go_at_call 14; refine (r_branch G (callS G { callS G S (a k) with top := ((callS G S (a k)).top + G.ns - 1) % G.ns } ((a k + 408) % 4294967296)) (callS G S (a k)).top ((callS G S (a k)).stack (callS G S (a k)).top) ((a k + 400) % 4294967296) _ HMK.out (STy4.out _ (by repeat (with_reducible first | exact Below.refl _ _ | refine Below.drew ?_ | refine Below.alloc ?_ (by first | omega | (simp <;> omega)) _ | refine Below.setCell ?_ (by first | omega | (simp <;> omega)) _))).pr (STy4.out _ (by repeat (with_reducible first | exact Below.refl _ _ | refine Below.drew ?_ | refine Below.alloc ?_ (by first | omega | (simp <;> omega)) _ | refine Below.setCell ?_ (by first | omega | (simp <;> omega)) _))).laid (STy4.out _ (by repeat (with_reducible first | exact Below.refl _ _ | refine Below.drew ?_ | refine Below.alloc ?_ (by first | omega | (simp <;> omega)) _ | refine Below.setCell ?_ (by first | omega | (simp <;> omega)) _))).off (by omega) HT1.out).mono ?_; rintro e y5 ⟨rfl, hP5, hT5⟩; have sty5 := (STy4.out _ (by repeat (with_reducible first | exact Below.refl _ _ | refine Below.drew ?_ | refine Below.alloc ?_ (by first | omega | (simp <;> omega)) _ | refine Below.setCell ?_ (by first | omega | (simp <;> omega)) _))).step hT5 hP5; have aty5 : y5.cell? ⟨ab, k, none⟩ = some (.int .u32 (a k)) := sty5.atc.cell k hk16; have cl0y5 : y5.cell? ⟨cb, 0, none⟩ = some (.int .i64 3) := sty5.cl.cell 0 (by decide); have cl1y5 : y5.cell? ⟨cb, 1, none⟩ = some (.int .i64 1) := sty5.cl.cell 1 (by decide); have cl2y5 : y5.cell? ⟨cb, 2, none⟩ = some (.int .i64 0) := sty5.cl.cell 2 (by decide); have cl3y5 : y5.cell? ⟨cb, 3, none⟩ = some (.int .i64 0) := sty5.cl.cell 3 (by decide); have cl4y5 : y5.cell? ⟨cb, 4, none⟩ = some (.int .i64 400) := sty5.cl.cell 4 (by decide); have bk0y5 : y5.cell? ⟨bb, 0, none⟩ = some (.int .i64 4) := sty5.bk.cell 0 (by decide); have bk1y5 : y5.cell? ⟨bb, 1, none⟩ = some (.int .i64 0) := sty5.bk.cell 1 (by decide); have bk2y5 : y5.cell? ⟨bb, 2, none⟩ = some (.int .i64 1) := sty5.bk.cell 2 (by decide); have bk3y5 : y5.cell? ⟨bb, 3, none⟩ = some (.int .i64 0) := sty5.bk.cell 3 (by decide); have bk4y5 : y5.cell? ⟨bb, 4, none⟩ = some (.int .i64 0) := sty5.bk.cell 4 (by decide); have zay5 := sty5.atc.here; have zcy5 := sty5.cl.here; have zby5 := sty5.bk.here; have zzy5 := sty5.sz; have STy5 : Hid (∀ y, Below B y5 y → St B w y G _ cb bb ab a) := fun y hy => sty5.below hy; have q0 := hT5.to_cell (c := y2.heap.size) (o := 0) mzy4 (by omega) m0y4; have q1 := hT5.to_cell (c := y2.heap.size) (o := 1) mzy4 (by omega) m1y4; have q2 := hT5.to_cell (c := y2.heap.size) (o := 2) mzy4 (by omega) m2y4; clear sty5 hP5 hT5))
          go_wp2
          go_roundw
          case rel => exact ⟨k + 1, _, by go_num, by omega, STy5.out _ (by repeat (with_reducible first | exact Below.refl _ _ | refine Below.drew ?_ | refine Below.alloc ?_ (by first | omega | (simp <;> omega)) _ | refine Below.setCell ?_ (by first | omega | (simp <;> omega)) _)), deep_next G r k n S _ a HNS.out HDP.out hk2 HN.out rfl (STKy4.out _) ((upd_same _ _ _).trans (upd_same _ _ _))⟩
          case measure => simp [intOf]; omega
        · go_region_held3 (fun w' => w'.cell? ⟨ab, k, none⟩ = some (.int .u32 (a k)) ∧ w'.cell? ⟨y2.heap.size, 0, none⟩ = some (.int .i64 0) ∧ w'.cell? ⟨y2.heap.size, 1, none⟩ = some (.int .i64 (callS G S (a k)).top) ∧ w'.cell? ⟨y2.heap.size, 2, none⟩ = some (.int .u32 ((callS G S (a k)).stack (callS G S (a k)).top))) (go_keep) ((go_at_call 14; refine (r_branch G { callS G S (a k) with top := ((callS G S (a k)).top + G.ns - 1) % G.ns } (callS G S (a k)).top ((callS G S (a k)).stack (callS G S (a k)).top) ((a k + 400) % 4294967296) _ HMK.out (STy3.out _ (by repeat (with_reducible first | exact Below.refl _ _ | refine Below.drew ?_ | refine Below.alloc ?_ (by first | omega | (simp <;> omega)) _ | refine Below.setCell ?_ (by first | omega | (simp <;> omega)) _))).pr (STy3.out _ (by repeat (with_reducible first | exact Below.refl _ _ | refine Below.drew ?_ | refine Below.alloc ?_ (by first | omega | (simp <;> omega)) _ | refine Below.setCell ?_ (by first | omega | (simp <;> omega)) _))).laid (STy3.out _ (by repeat (with_reducible first | exact Below.refl _ _ | refine Below.drew ?_ | refine Below.alloc ?_ (by first | omega | (simp <;> omega)) _ | refine Below.setCell ?_ (by first | omega | (simp <;> omega)) _))).off (by omega) HT1.out).mono ?_; rintro e y5 ⟨rfl, hP5, hT5⟩; have sty5 := (STy3.out _ (by repeat (with_reducible first | exact Below.refl _ _ | refine Below.drew ?_ | refine Below.alloc ?_ (by first | omega | (simp <;> omega)) _ | refine Below.setCell ?_ (by first | omega | (simp <;> omega)) _))).step hT5 hP5; have aty5 : y5.cell? ⟨ab, k, none⟩ = some (.int .u32 (a k)) := sty5.atc.cell k hk16; have cl0y5 : y5.cell? ⟨cb, 0, none⟩ = some (.int .i64 3) := sty5.cl.cell 0 (by decide); have cl1y5 : y5.cell? ⟨cb, 1, none⟩ = some (.int .i64 1) := sty5.cl.cell 1 (by decide); have cl2y5 : y5.cell? ⟨cb, 2, none⟩ = some (.int .i64 0) := sty5.cl.cell 2 (by decide); have cl3y5 : y5.cell? ⟨cb, 3, none⟩ = some (.int .i64 0) := sty5.cl.cell 3 (by decide); have cl4y5 : y5.cell? ⟨cb, 4, none⟩ = some (.int .i64 400) := sty5.cl.cell 4 (by decide); have bk0y5 : y5.cell? ⟨bb, 0, none⟩ = some (.int .i64 4) := sty5.bk.cell 0 (by decide); have bk1y5 : y5.cell? ⟨bb, 1, none⟩ = some (.int .i64 0) := sty5.bk.cell 1 (by decide); have bk2y5 : y5.cell? ⟨bb, 2, none⟩ = some (.int .i64 1) := sty5.bk.cell 2 (by decide); have bk3y5 : y5.cell? ⟨bb, 3, none⟩ = some (.int .i64 0) := sty5.bk.cell 3 (by decide); have bk4y5 : y5.cell? ⟨bb, 4, none⟩ = some (.int .i64 0) := sty5.bk.cell 4 (by decide); have zay5 := sty5.atc.here; have zcy5 := sty5.cl.here; have zby5 := sty5.bk.here; have zzy5 := sty5.sz; have STy5 : Hid (∀ y, Below B y5 y → St B w y G _ cb bb ab a) := fun y hy => sty5.below hy; have q0 := hT5.to_cell (c := y2.heap.size) (o := 0) mzy3 (by omega) m0y3; have q1 := hT5.to_cell (c := y2.heap.size) (o := 1) mzy3 (by omega) m1y3; have q2 := hT5.to_cell (c := y2.heap.size) (o := 2) mzy3 (by omega) m2y3; clear sty5 hP5 hT5))
          go_wp2
          go_roundw
          case rel => exact ⟨k + 1, _, by go_num, by omega, STy5.out _ (by repeat (with_reducible first | exact Below.refl _ _ | refine Below.drew ?_ | refine Below.alloc ?_ (by first | omega | (simp <;> omega)) _ | refine Below.setCell ?_ (by first | omega | (simp <;> omega)) _)), deep_next G r k n S _ a HNS.out HDP.out hk2 HN.out rfl (STKy3.out _) ((upd_same _ _ _).trans (upd_same _ _ _))⟩
          case measure => simp [intOf]; omega
    · have hkn : ¬ (k : Int) < (n : Int) := by omega
      have hkk : k = n := by omega
      have HST := Hid.in hst
      have HKK := Hid.in hkk
      have hn16 : (n : Int) ≤ 16 := by have := HN.out; omega
      clear hst hkk
      go_wp2
      go_loopw [19] (fun v wr' => ∃ (j : Nat) (T : PS) (z : Int), v = .int .i64 z ∧ z = (j : Int) - 1 ∧ j ≤ n ∧ St B w wr' G T cb bb ab a ∧ Deep r j T a) (fun v _ => (intOf v + 1).toNat)
      case atStart =>
        have hkk := HKK.out
        exact ⟨n, S, _, rfl, rfl, Nat.le_refl _, HST.out, hkk ▸ HDP.out⟩
      case round =>
        obtain ⟨j, T, z, rfl, hz, hj, hst2, hd2⟩ := hrel
        clear HST HDP hkn hk HKK
        by_cases h0 : j = 0
        · have hz0 : z = -1 := by omega
          subst hz0
          have HGR := Hid.in hst2.gr
          clear hz hst2 hd2
          go_wp2
          go_ret
          exact ⟨rfl, HGR.out⟩
        · obtain ⟨k, hk⟩ : ∃ k, j = k + 1 := ⟨j - 1, by omega⟩
          subst hk
          obtain rfl : z = (k : Int) := by omega
          clear hz h0
          have hk16 : k < 16 := by omega
          have hki : (k : Int) < 16 := by omega
          have hk0i : (0 : Int) ≤ (k : Int) := by omega
          have stwr := hst2
          obtain ⟨u1, u2⟩ : 0 ≤ a k ∧ a k < 4294967296 := HA.out k
          have HTOP := Hid.in (deep_top r k T a hd2)
          have HD2 := Hid.in hd2
          have HJ := Hid.in hj
          have atwr : wr.cell? ⟨ab, k, none⟩ = some (.int .u32 (a k)) := stwr.atc.cell k hk16
          have cl0wr : wr.cell? ⟨cb, 0, none⟩ = some (.int .i64 3) := stwr.cl.cell 0 (by decide)
          have cl1wr : wr.cell? ⟨cb, 1, none⟩ = some (.int .i64 1) := stwr.cl.cell 1 (by decide)
          have cl2wr : wr.cell? ⟨cb, 2, none⟩ = some (.int .i64 0) := stwr.cl.cell 2 (by decide)
          have cl3wr : wr.cell? ⟨cb, 3, none⟩ = some (.int .i64 0) := stwr.cl.cell 3 (by decide)
          have cl4wr : wr.cell? ⟨cb, 4, none⟩ = some (.int .i64 400) := stwr.cl.cell 4 (by decide)
          have bk0wr : wr.cell? ⟨bb, 0, none⟩ = some (.int .i64 4) := stwr.bk.cell 0 (by decide)
          have bk1wr : wr.cell? ⟨bb, 1, none⟩ = some (.int .i64 0) := stwr.bk.cell 1 (by decide)
          have bk2wr : wr.cell? ⟨bb, 2, none⟩ = some (.int .i64 1) := stwr.bk.cell 2 (by decide)
          have bk3wr : wr.cell? ⟨bb, 3, none⟩ = some (.int .i64 0) := stwr.bk.cell 3 (by decide)
          have bk4wr : wr.cell? ⟨bb, 4, none⟩ = some (.int .i64 0) := stwr.bk.cell 4 (by decide)
          have zawr := stwr.atc.here
          have zcwr := stwr.cl.here
          have zbwr := stwr.bk.here
          have zzwr := stwr.sz
          have STwr : Hid (∀ y, Below B wr y → St B w y G _ cb bb ab a) := fun y hy => stwr.below hy
          clear stwr hst2 hd2 hj
          have nab : ¬ ab = wr.heap.size := by have := (STwr.out wr (Below.refl _ _)).lt; omega
          have nbb : ¬ bb = wr.heap.size := by have := (STwr.out wr (Below.refl _ _)).lt; omega
          have nab' : ¬ wr.heap.size = ab := fun e => nab e.symm
          have nbb' : ¬ wr.heap.size = bb := fun e => nbb e.symm
          go_wp2
          go_region_held3 (fun w' => w'.cell? ⟨ab, k, none⟩ = some (.int .u32 (a k)) ∧ w'.cell? ⟨bb, 0, none⟩ = some (.int .i64 4) ∧ w'.cell? ⟨bb, 1, none⟩ = some (.int .i64 0) ∧ w'.cell? ⟨bb, 2, none⟩ = some (.int .i64 1) ∧ w'.cell? ⟨bb, 3, none⟩ = some (.int .i64 0) ∧ w'.cell? ⟨bb, 4, none⟩ = some (.int .i64 0)) (go_keep) ((go_at_call 11; refine (g_back G T ((a k + 500) % 4294967296) _ HDK.out (STwr.out _ (by repeat (with_reducible first | exact Below.refl _ _ | refine Below.drew ?_ | refine Below.alloc ?_ (by first | omega | (simp <;> omega)) _ | refine Below.setCell ?_ (by first | omega | (simp <;> omega)) _))).pr (STwr.out _ (by repeat (with_reducible first | exact Below.refl _ _ | refine Below.drew ?_ | refine Below.alloc ?_ (by first | omega | (simp <;> omega)) _ | refine Below.setCell ?_ (by first | omega | (simp <;> omega)) _))).laid (by omega)).mono ?_; rintro e y1 ⟨he, hP1, hT1⟩; rw [HTOP.out] at he; subst he; have sty1 := (STwr.out _ (by repeat (with_reducible first | exact Below.refl _ _ | refine Below.drew ?_ | refine Below.alloc ?_ (by first | omega | (simp <;> omega)) _ | refine Below.setCell ?_ (by first | omega | (simp <;> omega)) _))).step hT1 hP1; have aty1 : y1.cell? ⟨ab, k, none⟩ = some (.int .u32 (a k)) := sty1.atc.cell k hk16; have cl0y1 : y1.cell? ⟨cb, 0, none⟩ = some (.int .i64 3) := sty1.cl.cell 0 (by decide); have cl1y1 : y1.cell? ⟨cb, 1, none⟩ = some (.int .i64 1) := sty1.cl.cell 1 (by decide); have cl2y1 : y1.cell? ⟨cb, 2, none⟩ = some (.int .i64 0) := sty1.cl.cell 2 (by decide); have cl3y1 : y1.cell? ⟨cb, 3, none⟩ = some (.int .i64 0) := sty1.cl.cell 3 (by decide); have cl4y1 : y1.cell? ⟨cb, 4, none⟩ = some (.int .i64 400) := sty1.cl.cell 4 (by decide); have bk0y1 : y1.cell? ⟨bb, 0, none⟩ = some (.int .i64 4) := sty1.bk.cell 0 (by decide); have bk1y1 : y1.cell? ⟨bb, 1, none⟩ = some (.int .i64 0) := sty1.bk.cell 1 (by decide); have bk2y1 : y1.cell? ⟨bb, 2, none⟩ = some (.int .i64 1) := sty1.bk.cell 2 (by decide); have bk3y1 : y1.cell? ⟨bb, 3, none⟩ = some (.int .i64 0) := sty1.bk.cell 3 (by decide); have bk4y1 : y1.cell? ⟨bb, 4, none⟩ = some (.int .i64 0) := sty1.bk.cell 4 (by decide); have zay1 := sty1.atc.here; have zcy1 := sty1.cl.here; have zby1 := sty1.bk.here; have zzy1 := sty1.sz; have STy1 : Hid (∀ y, Below B y1 y → St B w y G _ cb bb ab a) := fun y hy => sty1.below hy; first | (have mz0 := hT1.to_cell (c := wr.heap.size) (o := 0) (by simp) (by omega) (World.cell?_alloc_new wr _ _ 0); have mz1 := hT1.to_cell (c := wr.heap.size) (o := 1) (by simp) (by omega) (World.cell?_alloc_new wr _ _ 1); have mz2 := hT1.to_cell (c := wr.heap.size) (o := 2) (by simp) (by omega) (World.cell?_alloc_new wr _ _ 2); have mzf : ∀ o, y1.frozen? ⟨wr.heap.size, o, none⟩ = false := fun o => (World.frozen?_of_block (hT1.block wr.heap.size (by simp) (by omega))).trans (World.frozen?_alloc_at _ _ _ o rfl); have mzz : wr.heap.size < y1.heap.size := Nat.lt_of_lt_of_le (by simp) hT1.size; clear sty1 hP1 hT1) | clear sty1 hP1 hT1))
          all_goals
            go_wp2
            go_roundw
            case rel => exact ⟨k, _, _, rfl, rfl, by have := HJ.out; omega, STy1.out _ (by repeat (with_reducible first | exact Below.refl _ _ | refine Below.drew ?_ | refine Below.alloc ?_ (by first | omega | (simp <;> omega)) _ | refine Below.setCell ?_ (by first | omega | (simp <;> omega)) _)), deep_back r k T _ a HD2.out (by have := HJ.out; have := HN.out; omega) (by show (T.top + G.ns - 1) % G.ns = _; rw [HNS.out]) rfl⟩
            case measure => simp [intOf]
end Go.Proofs.YtaioaakaffafoaaDoor
