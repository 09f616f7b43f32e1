import Derived.Test.YtemamhkhjijdlaaGreatDoorY43
import Derived.Test.YtemamhkhjijdlaaGreatDoorY44
import Derived.Test.YtemamhkhjijdlaaGreatDoorY45
import Derived.Test.YtemamhkhjijdlaaGreatDoorY01
import Derived.JoinedCond
import Derived.LaidHandle
import Derived.Lib.SmallJoins
/-
  CORE's LAW CoreRefuses: the walk.
-/
namespace Go.Proofs.YtemamhkhjijdlaaGreatDoor
open Go Go.RowKit
theorem wrapsets {k : Nat} {c : Cf} {v : Int} (hB : okB c) (hv : I64 v) : -9223372036854775808 ≤ (c.turn v k).sets ∧ (c.turn v k).sets ≤ 9223372036854775807 := by
  have h1 : -9223372036854775808 ≤ c.sets ∧ c.sets ≤ 9223372036854775807 := by
    have := hB.1
    unfold isN at this
    omega
  unfold Cf.turn
  split <;> first
    | exact h1
    | exact hv
theorem six_new (hl : Bool) (cy : Int) (e1 : Option Addr) (e2 e3 : Nat) (st : ByteArray) (q : Option Addr) (k1 k2 : Nat) (d1 : Option Addr) (d2 d3 : Nat) (y : World) : (y.alloc (.cells #[.bool hl, .int .i64 cy, .slice e1 e2 e3, .string st, .slice q k1 k2, .slice d1 d2 d3] 38)).cell? ⟨y.heap.size, 0, none⟩ = some (.bool hl) ∧ (y.alloc (.cells #[.bool hl, .int .i64 cy, .slice e1 e2 e3, .string st, .slice q k1 k2, .slice d1 d2 d3] 38)).cell? ⟨y.heap.size, 1, none⟩ = some (.int .i64 cy) ∧ (y.alloc (.cells #[.bool hl, .int .i64 cy, .slice e1 e2 e3, .string st, .slice q k1 k2, .slice d1 d2 d3] 38)).cell? ⟨y.heap.size, 2, none⟩ = some (.slice e1 e2 e3) ∧ (y.alloc (.cells #[.bool hl, .int .i64 cy, .slice e1 e2 e3, .string st, .slice q k1 k2, .slice d1 d2 d3] 38)).cell? ⟨y.heap.size, 3, none⟩ = some (.string st) ∧ (y.alloc (.cells #[.bool hl, .int .i64 cy, .slice e1 e2 e3, .string st, .slice q k1 k2, .slice d1 d2 d3] 38)).cell? ⟨y.heap.size, 4, none⟩ = some (.slice q k1 k2) ∧ (y.alloc (.cells #[.bool hl, .int .i64 cy, .slice e1 e2 e3, .string st, .slice q k1 k2, .slice d1 d2 d3] 38)).cell? ⟨y.heap.size, 5, none⟩ = some (.slice d1 d2 d3) := by
  have h : CellsAt 6 (y.alloc (.cells #[.bool hl, .int .i64 cy, .slice e1 e2 e3, .string st, .slice q k1 k2, .slice d1 d2 d3] 38)) y.heap.size (fun i => (#[.bool hl, .int .i64 cy, .slice e1 e2 e3, .string st, .slice q k1 k2, .slice d1 d2 d3] : Array Value).getD i undef) := cells_new y (fun i hi => by
    match i, hi with
    | 0, _ => rfl
    | 1, _ => rfl
    | 2, _ => rfl
    | 3, _ => rfl
    | 4, _ => rfl
    | 5, _ => rfl)
  exact ⟨h.cell 0 (by decide), h.cell 1 (by decide), h.cell 2 (by decide), h.cell 3 (by decide), h.cell 4 (by decide), h.cell 5 (by decide)⟩
theorem m_in {n m : Int} {b2 : Bool} (h2 : decide (200 < n ∧ n ≤ 1000000) = b2) (hm : (bif b2 then 200 else n) = m) : (0 ≤ m ∧ m ≤ 1000000) ↔ (0 ≤ n ∧ n ≤ 1000000) := by
  cases b2
  · have e : n = m := hm
    rw [e]
  · have e : (200 : Int) = m := hm
    have q := of_decide_eq_true h2
    omega
theorem zc_below {Z z : World} {zb : Nat} {v0 v1 v2 v3 v4 v5 : Value} (h : Z.cell? ⟨zb, 0, none⟩ = some v0 ∧ Z.cell? ⟨zb, 1, none⟩ = some v1 ∧ Z.cell? ⟨zb, 2, none⟩ = some v2 ∧ Z.cell? ⟨zb, 3, none⟩ = some v3 ∧ Z.cell? ⟨zb, 4, none⟩ = some v4 ∧ Z.cell? ⟨zb, 5, none⟩ = some v5 ∧ zb < Z.heap.size) (b : Below Z.heap.size Z z) : z.cell? ⟨zb, 0, none⟩ = some v0 ∧ z.cell? ⟨zb, 1, none⟩ = some v1 ∧ z.cell? ⟨zb, 2, none⟩ = some v2 ∧ z.cell? ⟨zb, 3, none⟩ = some v3 ∧ z.cell? ⟨zb, 4, none⟩ = some v4 ∧ z.cell? ⟨zb, 5, none⟩ = some v5 ∧ zb < z.heap.size := by
  obtain ⟨z0, z1, z2, z3, z4, z5, zh⟩ := h
  exact ⟨(b.cell (p := ⟨zb, 0, none⟩) zh).trans z0, (b.cell (p := ⟨zb, 1, none⟩) zh).trans z1, (b.cell (p := ⟨zb, 2, none⟩) zh).trans z2, (b.cell (p := ⟨zb, 3, none⟩) zh).trans z3, (b.cell (p := ⟨zb, 4, none⟩) zh).trans z4, (b.cell (p := ⟨zb, 5, none⟩) zh).trans z5, Nat.lt_of_lt_of_le zh b.size⟩
set_option maxRecDepth 100000 in
set_option maxHeartbeats 4000000 in
theorem frefuses (s : Nat → Int) (bd : Bool) (hs : ∀ i, I64 (s i)) (f v n : Int) (hf : I64 f) (hv : I64 v) (w : World) (hL : Laid w) (hg : w.cell? ⟨0, 0, none⟩ = some (.iface 106 (.agg #[.pointer (some ⟨4, 40, none⟩)]))) : Calls Tryz.prog 3 #[.agg #[.int .i64 (s 0), .int .i64 (s 1), .int .i64 (s 2), .int .i64 (s 3), .int .i64 (s 4), .int .i64 (s 5), .int .i64 (s 6), .int .i64 (s 7), .int .i64 (s 8), .int .i64 (s 9), .int .i64 (s 10), .int .i64 (s 11), .int .i64 (s 12), .int .i64 (s 13), .bool bd], .int .i64 f, .int .i64 v, .int .i64 n] w fun e y => e = .returned (.bool true) ∧ Below w.heap.size w y := by
  have HS := Hid.in hs
  have HF := Hid.in hf
  have HV := Hid.in hv
  have HL := Hid.in hL
  have HGG := Hid.in hg
  clear hs hf hv hL hg
  obtain ⟨bo, hbo⟩ : ∃ bo, decide (¬ (0 ≤ n ∧ n ≤ 1000000)) = bo := ⟨_, rfl⟩
  obtain ⟨b2, hb2⟩ : ∃ b2, decide (200 < n ∧ n ≤ 1000000) = b2 := ⟨_, rfl⟩
  obtain ⟨m, hm⟩ : ∃ m : Int, (bif b2 then 200 else n) = m := ⟨_, rfl⟩
  have HBO := Hid.in hbo
  have HB2 := Hid.in hb2
  have HMM := Hid.in hm
  clear hbo hb2 hm
  go_enter Tryz.func3, Tryz.ntmps3
  go_upto_region 1 with fail
  obtain ⟨X, hX⟩ : ∃ X, w.alloc (.cells #[.int .i64 (s 0), .int .i64 (s 1), .int .i64 (s 2), .int .i64 (s 3), .int .i64 (s 4), .int .i64 (s 5), .int .i64 (s 6), .int .i64 (s 7), .int .i64 (s 8), .int .i64 (s 9), .int .i64 (s 10), .int .i64 (s 11), .int .i64 (s 12), .int .i64 (s 13), .bool bd] 23) = X := ⟨_, rfl⟩
  obtain ⟨sb, hsb⟩ : ∃ sb, w.heap.size = sb := ⟨_, rfl⟩
  have ks : CellsAt 15 X sb (suF s bd) := by rw [← hX, ← hsb]; exact cells_new w (su_new s bd)
  have bX : Below w.heap.size w X := by rw [← hX]; exact (Below.refl _ _).alloc (Nat.le_refl _) _
  rw [hX, hsb]
  have a0 : X.cell? ⟨sb, 0, none⟩ = some (.int .i64 (s 0)) := ks.cell 0 (by decide)
  have a1 : X.cell? ⟨sb, 1, none⟩ = some (.int .i64 (s 1)) := ks.cell 1 (by decide)
  have a2 : X.cell? ⟨sb, 2, none⟩ = some (.int .i64 (s 2)) := ks.cell 2 (by decide)
  have a3 : X.cell? ⟨sb, 3, none⟩ = some (.int .i64 (s 3)) := ks.cell 3 (by decide)
  have a4 : X.cell? ⟨sb, 4, none⟩ = some (.int .i64 (s 4)) := ks.cell 4 (by decide)
  have a5 : X.cell? ⟨sb, 5, none⟩ = some (.int .i64 (s 5)) := ks.cell 5 (by decide)
  have a6 : X.cell? ⟨sb, 6, none⟩ = some (.int .i64 (s 6)) := ks.cell 6 (by decide)
  have a7 : X.cell? ⟨sb, 7, none⟩ = some (.int .i64 (s 7)) := ks.cell 7 (by decide)
  have a8 : X.cell? ⟨sb, 8, none⟩ = some (.int .i64 (s 8)) := ks.cell 8 (by decide)
  have a9 : X.cell? ⟨sb, 9, none⟩ = some (.int .i64 (s 9)) := ks.cell 9 (by decide)
  have a10 : X.cell? ⟨sb, 10, none⟩ = some (.int .i64 (s 10)) := ks.cell 10 (by decide)
  have a11 : X.cell? ⟨sb, 11, none⟩ = some (.int .i64 (s 11)) := ks.cell 11 (by decide)
  have a12 : X.cell? ⟨sb, 12, none⟩ = some (.int .i64 (s 12)) := ks.cell 12 (by decide)
  have a13 : X.cell? ⟨sb, 13, none⟩ = some (.int .i64 (s 13)) := ks.cell 13 (by decide)
  have a14 : X.cell? ⟨sb, 14, none⟩ = some (.bool bd) := ks.cell 14 (by decide)
  have ah := ks.here
  have HB := Hid.in bX
  clear hX hsb ks bX
  go_upto_if 25 with (first
    | (go_at_call 5; go_must (refine (fconfig s bd HS.out X).mono ?_; rintro e y1 ⟨c, rfl, hB, hC, hb⟩; have HOB := Hid.in hB; have HOC := Hid.in hC; have HY1 := Hid.in hb; clear hB hC hb))
    | (go_at_call 4; go_must (refine (fturned c f v HF.out y1).mono ?_; rintro e y2 ⟨k, two, hk, h1, h2, rfl, hb⟩; have hr := tu_ok HOB.out HOC.out hk h1 h2; have h64 := wrapsets (k := k) HOB.out HV.out; generalize (decide (lowN k ≤ v) && decide (v ≤ highN c k) && two && decide ((c.turn v k).hist ≤ (c.turn v k).bits)) = r at hr ⊢; generalize c.turn v k = t at hr h64 ⊢; have HR := Hid.in hr; have H64 := Hid.in h64; have HY2 := Hid.in hb; clear hr h64 hk h1 h2 hb; unfold Cf.arr)))
  obtain ⟨Y, hY⟩ : ∃ Y, y2.alloc (.cells #[.int .i64 t.width, .int .i64 t.window, .int .i64 t.queue, .int .i64 t.regs, .int .i64 t.units, .int .i64 t.mul, .bool t.bold, .int .i64 t.kind, .int .i64 t.bits, .int .i64 t.hist, .int .i64 t.tg, .int .i64 t.ret, .int .i64 t.sets, .int .i64 t.ways, .int .i64 t.bus] 29) = Y := ⟨_, rfl⟩
  obtain ⟨tb, htb⟩ : ∃ tb, y2.heap.size = tb := ⟨_, rfl⟩
  have kT : CellsAt 15 Y tb t.at := by rw [← hY, ← htb]; exact cells_new y2 (cf_new t)
  have b1 : Below w.heap.size w y1 := HB.out.trans (HY1.out.mono HB.out.size)
  have b3 : Below w.heap.size w y2 := b1.trans (HY2.out.mono b1.size)
  have bY : Below w.heap.size w Y := by rw [← hY]; exact b3.alloc b3.size _
  rw [hY, htb]
  have HKT := Hid.in kT
  have HBY := Hid.in bY
  clear hY htb kT b1 b3 bY HB HY1 HY2 a0 a1 a2 a3 a4 a5 a6 a7 a8 a9 a10 a11 a12 a13 a14 ah HOB HOC HS
  go_cut [11] from 16 (fun u w' => u = .int .i64 (bif r then 0 else 2) ∧ w' = Y)
  case first =>
    cases r
    · go_wp2_with fail
      go_meet
      exact ⟨rfl, rfl⟩
    · go_wp2_with fail
      go_meet
      exact ⟨rfl, rfl⟩
  case rest =>
  obtain ⟨rfl, rfl⟩ := hcut
  obtain ⟨e0, he0⟩ : ∃ e0 : Int, (bif r then 0 else 2) = e0 := ⟨_, rfl⟩
  rw [he0]
  have HE0 := Hid.in he0
  clear he0
  go_upto_region 5 with fail
  go_cut [31] from 16 (fun u w' => u = .bool bo ∧ w' = wc)
  case first =>
    by_cases n1 : n < 0
    · go_wp2_with fail
      go_meet
      exact ⟨by rw [← HBO.out, decide_eq_true (by omega)], rfl⟩
    · have d1 : decide (n < 0) = false := decide_eq_false n1
      by_cases n2 : n > 1000000
      · go_wp2_with fail
        go_meet
        exact ⟨by rw [← HBO.out, decide_eq_true (by omega)], rfl⟩
      · have d2 : decide (n > 1000000) = false := decide_eq_false n2
        go_wp2_with fail
        go_meet
        exact ⟨by rw [← HBO.out, decide_eq_false (by omega)], rfl⟩
  case rest =>
  obtain ⟨rfl, rfl⟩ := hcut
  go_upto_if 31 with fail
  obtain ⟨e1, he1⟩ : ∃ e1 : Int, (bif bo then 3 else e0) = e1 := ⟨_, rfl⟩
  have HE1 := Hid.in he1
  clear he1
  go_cut [11] from 16 (fun u w' => u = .int .i64 e1 ∧ w' = wc)
  case first =>
    cases bo
    · go_wp2_with fail
      go_meet
      exact ⟨by rw [← HE1.out]; rfl, rfl⟩
    · go_wp2_with fail
      go_meet
      exact ⟨by rw [← HE1.out]; rfl, rfl⟩
  case rest =>
  obtain ⟨rfl, rfl⟩ := hcut
  go_upto_region 8 with fail
  go_cut [38] from 16 (fun u w' => u = .bool b2 ∧ w' = wc)
  case first =>
    by_cases n1 : n > 200
    · by_cases n2 : n ≤ 1000000
      · go_wp2_with fail
        go_meet
        exact ⟨by rw [← HB2.out, decide_eq_true (by omega)], rfl⟩
      · have d2 : decide (n ≤ 1000000) = false := decide_eq_false n2
        go_wp2_with fail
        go_meet
        exact ⟨by rw [← HB2.out, decide_eq_false (by omega)], rfl⟩
    · have d1 : decide (n > 200) = false := decide_eq_false n1
      go_wp2_with fail
      go_meet
      exact ⟨by rw [← HB2.out, decide_eq_false (by omega)], rfl⟩
  case rest =>
  obtain ⟨rfl, rfl⟩ := hcut
  go_upto_if 38 with fail
  go_cut [12] from 16 (fun u w' => u = .int .i64 m ∧ w' = wc)
  case first =>
    cases b2
    · go_wp2_with fail
      go_meet
      exact ⟨by rw [← HMM.out]; rfl, rfl⟩
    · go_wp2_with fail
      go_meet
      exact ⟨by rw [← HMM.out]; rfl, rfl⟩
  case rest =>
  obtain ⟨rfl, rfl⟩ := hcut
  obtain ⟨a0, a1, a2, a3, a4, a5, a6, a7, a8, a9, a10, a11, a12, a13, a14⟩ := cells15 HKT.out
  have ah := HKT.out.here
  have bV : Below wc.heap.size wc (wc.alloc (.cells #[.int .u32 1048691] 43)) := (Below.refl _ _).alloc (Nat.le_refl _) _
  have wV := HBY.out.trans (bV.mono HBY.out.size)
  have kV : CellsAt 1 (wc.alloc (.cells #[.int .u32 1048691] 43)) wc.heap.size (fun _ => .int .u32 1048691) := cells_new wc (fun i hi => by
    have : i = 0 := by omega
    subst this
    rfl)
  have q := fcrun _ (HL.out.below wV) wc.heap.size 1 t kV.here (kV.cell 0 (by decide)) H64.out m
  unfold Cf.arr at q
  have HRN := Hid.in q
  have HWV := Hid.in wV
  clear q wV kV bV
  go_upto_region 11 with (go_at_call 6; go_must (refine HRN.out.mono ?_; rintro e y ⟨hb, hl, cy, x1, x2, x3, st, q, k1, k2, d1, d2, d3, er, rfl, hr⟩; have HYB := Hid.in hb; have HRO := Hid.in hr; clear hb hr))
  clear a0 a1 a2 a3 a4 a5 a6 a7 a8 a9 a10 a11 a12 a13 a14 ah HRN
  obtain ⟨z0, z1, z2, z3, z4, z5⟩ := six_new hl cy x1 x2 x3 st q k1 k2 d1 d2 d3 y
  have by1 := HWV.out.trans (HYB.out.mono HWV.out.size)
  have bZ : Below w.heap.size w (y.alloc (.cells #[.bool hl, .int .i64 cy, .slice x1 x2 x3, .string st, .slice q k1 k2, .slice d1 d2 d3] 38)) := by1.alloc by1.size _
  have zh : y.heap.size < (y.alloc (.cells #[.bool hl, .int .i64 cy, .slice x1 x2 x3, .string st, .slice q k1 k2, .slice d1 d2 d3] 38)).heap.size := by simp
  obtain ⟨Z, hZ⟩ : ∃ Z, y.alloc (.cells #[.bool hl, .int .i64 cy, .slice x1 x2 x3, .string st, .slice q k1 k2, .slice d1 d2 d3] 38) = Z := ⟨_, rfl⟩
  obtain ⟨zb, hzb⟩ : ∃ zb, y.heap.size = zb := ⟨_, rfl⟩
  rw [hZ, hzb] at z0 z1 z2 z3 z4 z5 zh
  rw [hZ] at bZ
  rw [hZ, hzb]
  have HBZ := Hid.in bZ
  have HGZ := Hid.in ((bZ.cell (p := ⟨0, 0, none⟩) (cell_here HGG.out)).trans HGG.out)
  clear hZ hzb by1 bZ
  have HZC := Hid.in (⟨z0, z1, z2, z3, z4, z5, zh⟩ : Z.cell? ⟨zb, 0, none⟩ = some (.bool hl) ∧ Z.cell? ⟨zb, 1, none⟩ = some (.int .i64 cy) ∧ Z.cell? ⟨zb, 2, none⟩ = some (.slice x1 x2 x3) ∧ Z.cell? ⟨zb, 3, none⟩ = some (.string st) ∧ Z.cell? ⟨zb, 4, none⟩ = some (.slice q k1 k2) ∧ Z.cell? ⟨zb, 5, none⟩ = some (.slice d1 d2 d3) ∧ zb < Z.heap.size)
  clear z0 z1 z2 z3 z4 z5 zh
  have hmi := m_in HB2.out HMM.out
  have hro := HRO.out
  clear HRO HYB HWV HKT H64 HL
  unfold RunOk at hro
  rcases hro with ⟨hn, rfl, rfl, rfl, rfl, rfl, rfl, rfl⟩ | ⟨hn, ho, rfl, rfl, rfl, rfl, rfl, rfl, rfl⟩ | ⟨hn, ho, rfl, rfl, hh⟩
  · have hbo : bo = true := by rw [← HBO.out]; exact decide_eq_true (fun q => hn (hmi.2 q))
    have he := HE1.out
    rw [hbo] at he
    have he3 : e1 = 3 := he.symm
    subst he3
    clear he hbo hn hmi HE1 HE0 HBO HB2 HMM HR
    unfold errV
    go_wp2_with (go_at_call 7; go_must (refine (told_err 3 Z HGZ.out).mono ?_; rintro e z ⟨rfl, hb⟩; obtain ⟨z0, z1, z2, z3, z4, z5, zh⟩ := zc_below HZC.out hb; have HZB := Hid.in hb; clear hb))
    go_ret
    exact ⟨by simp, HBZ.out.trans (HZB.out.mono HBZ.out.size)⟩
  · have hbo : bo = false := by rw [← HBO.out]; exact decide_eq_false (fun q => q (hmi.1 hn))
    have hr0 : r = false := by
      cases hrr : r
      · rfl
      · exact absurd (HR.out.1 hrr) ho
    have he := HE1.out
    have he0 := HE0.out
    rw [hr0] at he0
    have he2 : e0 = 2 := he0.symm
    rw [hbo, he2] at he
    have he3 : e1 = 2 := he.symm
    subst he3
    clear he he0 he2 hr0 hbo hn hmi HE1 HE0 HBO HB2 HMM HR ho
    unfold errV
    go_wp2_with (go_at_call 7; go_must (refine (told_err 2 Z HGZ.out).mono ?_; rintro e z ⟨rfl, hb⟩; obtain ⟨z0, z1, z2, z3, z4, z5, zh⟩ := zc_below HZC.out hb; have HZB := Hid.in hb; clear hb))
    go_ret
    exact ⟨by simp, HBZ.out.trans (HZB.out.mono HBZ.out.size)⟩
  · have hbo : bo = false := by rw [← HBO.out]; exact decide_eq_false (fun q => q (hmi.1 hn))
    have hr0 : r = true := HR.out.2 ho
    have he := HE1.out
    have he0 := HE0.out
    rw [hr0] at he0
    have he2 : e0 = 0 := he0.symm
    rw [hbo, he2] at he
    have he3 : e1 = 0 := he.symm
    subst he3
    clear he he0 he2 hr0 hbo hn hmi HE1 HE0 HBO HB2 HMM HR ho
    cases hl
    · have hm2 : m < 200 := by
        rcases hh with h | h
        · exact absurd h (by decide)
        · omega
      clear hh
      go_wp2_with (go_at_call 7; go_must (refine (told_nil Z).mono ?_; rintro e z ⟨rfl, hb⟩; obtain ⟨z0, z1, z2, z3, z4, z5, zh⟩ := zc_below HZC.out hb; have HZB := Hid.in hb; clear hb))
      go_ret
      exact ⟨by simp, HBZ.out.trans (HZB.out.mono HBZ.out.size)⟩
    · clear hh
      go_wp2_with (go_at_call 7; go_must (refine (told_nil Z).mono ?_; rintro e z ⟨rfl, hb⟩; obtain ⟨z0, z1, z2, z3, z4, z5, zh⟩ := zc_below HZC.out hb; have HZB := Hid.in hb; clear hb))
      go_ret
      exact ⟨by simp, HBZ.out.trans (HZB.out.mono HBZ.out.size)⟩
end Go.Proofs.YtemamhkhjijdlaaGreatDoor
/-
  CORE's LAW: the four listed variables; what is handed in.
-/
namespace Go.Proofs.YtemamhkhjijdlaaGreatDoor
open Go Go.ChangeShapes Go.WideShapes Go.ChangeAt Go.RowKit
abbrev laid4 : List (String × DataW Unit) := ("errors.errorType", Rows.laid_errors_errorType) :: laid3
theorem laidOut : laidOutB Tryz.prog = true := by kernel_rfl
theorem et : Tryz.prog.globalNamed "errors.errorType" = some 0 := by kernel_rfl
theorem rt : (Tryz.prog.cutTypes.find? (·.1 == "internal/reflectlite.rtype")).map (·.2) = some 106 := by kernel_rfl
theorem oneRow : ((List.range 473).filter fun t => Tryz.prog.rowNamed t [101, 114, 114, 111, 114]) = [40] := by kernel_rfl
theorem tsize : Tryz.prog.types.size = 473 := by kernel_rfl
theorem parts_of_laid {W : World} (h : laidMetH Tryz.prog laid4 W) : Laid W ∧ W.cell? ⟨0, 0, none⟩ = some (.iface 106 (.agg #[.pointer (some ⟨4, 40, none⟩)])) := by
  have h' : laidMet Tryz.prog laid3 W ∧ handlesMet Tryz.prog [("errors.errorType", Rows.laid_errors_errorType)] W := h
  refine ⟨of_laid (by rw [MakeChecks.laidMetH_plain _ _ _ (by kernel_rfl)]; exact h'.1), ?_⟩
  obtain ⟨name, u, ty, e1, e2, e3, e4, e5⟩ := h'.2 _ (List.mem_singleton.2 rfl)
  have en : name = [101, 114, 114, 111, 114] := (Option.some.inj e1).symm
  subst en
  obtain rfl := Option.some.inj (rt.symm.trans e2)
  have hm : ty ∈ (List.range 473).filter fun t => Tryz.prog.rowNamed t [101, 114, 114, 111, 114] := List.mem_filter.2 ⟨List.mem_range.2 (by rw [← tsize]; exact e3), e4⟩
  rw [oneRow] at hm
  obtain rfl := List.mem_singleton.1 hm
  have hh : typeHandle Tryz.prog 40 = .pointer (some ⟨4, 40, none⟩) := by kernel_rfl
  rw [hh] at e5
  simpa using World.var?_cell et e5 0
theorem i64_of {x : Int} (h : (Lit.int .i64 x).wf = true) : I64 x := by
  unfold I64
  simp [Lit.wf, IntKind.min, IntKind.max, IntKind.signed, IntKind.bits] at h
  omega
def suTy (i : Nat) : TypeId := if i < 14 then 3 else 4
theorem su_fields : ∀ (fs : Array Field), Tryz.prog.underlying 23 = some (.struct fs) → fs.size = 15 ∧ ∀ (i : Nat) f, fs[i]? = some f → (f.offset = i ∧ Tryz.prog.cellsOf f.type = 1) ∧ f.type = suTy i := by
  intro fs hfs
  have h : (match Tryz.prog.underlying 23 with | some (.struct fs) => fs.size == 15 && (List.range 15).all fun i => (match fs[i]? with | some f => f.offset == i && Tryz.prog.cellsOf f.type == 1 && f.type == suTy i | none => true) | _ => false) = true := by kernel_rfl
  rw [hfs] at h
  simp only [Bool.and_eq_true, beq_iff_eq, List.all_eq_true, List.mem_range] at h
  refine ⟨h.1, fun i f hf => ?_⟩
  have hi : i < 15 := by rw [← h.1]; exact (Array.getElem?_eq_some_iff.1 hf).1
  have := h.2 i hi
  rw [hf] at this
  simp only [Bool.and_eq_true, beq_iff_eq] at this
  exact ⟨⟨this.1.1, this.1.2⟩, this.2⟩
theorem su_struct : ∃ fs, Tryz.prog.underlying 23 = some (.struct fs) := by
  have h : (match Tryz.prog.underlying 23 with | some (.struct _) => true | _ => false) = true := by kernel_rfl
  revert h
  generalize Tryz.prog.underlying 23 = u
  intro h
  match u, h with
  | some (.struct fs), _ => exact ⟨fs, rfl⟩
def numAt (cs : Array Value) (i : Nat) : Int := match cs[i]? with | some (.int _ n) => n | _ => 0
def flagAt (cs : Array Value) (i : Nat) : Bool := match cs[i]? with | some (.bool n) => n | _ => false
theorem array15 {cs : Array Value} {g : Nat → Value} (h : cs.size = 15) (hc : ∀ i, i < 15 → cs[i]? = some (g i)) : cs = #[g 0, g 1, g 2, g 3, g 4, g 5, g 6, g 7, g 8, g 9, g 10, g 11, g 12, g 13, g 14] := by
  apply Array.ext_getElem?
  intro i
  by_cases hi : i < 15
  · rw [hc i hi]
    have : i = 0 ∨ i = 1 ∨ i = 2 ∨ i = 3 ∨ i = 4 ∨ i = 5 ∨ i = 6 ∨ i = 7 ∨ i = 8 ∨ i = 9 ∨ i = 10 ∨ i = 11 ∨ i = 12 ∨ i = 13 ∨ i = 14 := by omega
    rcases this with rfl | rfl | rfl | rfl | rfl | rfl | rfl | rfl | rfl | rfl | rfl | rfl | rfl | rfl | rfl <;> rfl
  · rw [Array.getElem?_eq_none (by omega), Array.getElem?_eq_none (by simp; omega)]
set_option maxRecDepth 100000 in
theorem view_setup {H : Type} {enc : TypeId × Value → H} {W : World} {base : Nat} {v : Value} {d : DataW H} {ps : List MemPlace} (hv : Value.okWide Tryz.prog W .any base 23 v) (h : DataW.Trod enc Tryz.prog W 0 (fun _ => true) true 23 v d ps) : ∃ (s : Nat → Int) (bd : Bool), v = .agg #[.int .i64 (s 0), .int .i64 (s 1), .int .i64 (s 2), .int .i64 (s 3), .int .i64 (s 4), .int .i64 (s 5), .int .i64 (s 6), .int .i64 (s 7), .int .i64 (s 8), .int .i64 (s 9), .int .i64 (s 10), .int .i64 (s 11), .int .i64 (s 12), .int .i64 (s 13), .bool bd] ∧ ∀ i, I64 (s i) := by
  obtain ⟨fuel, hf⟩ := h
  obtain ⟨fs, hfs⟩ := su_struct
  obtain ⟨hn, hall⟩ := su_fields fs hfs
  obtain ⟨cs, rfl, hsz⟩ := okWide_struct hfs hv
  have h15 : cs.size = 15 := hsz.trans (by kernel_rfl)
  obtain ⟨xs, n, _, _, _, hlen, hf⟩ := DataW.trod_struct hfs hf
  have cell : ∀ i, i < 15 → ∃ y, DataW.trod enc Tryz.prog W 0 (fun _ => true) true n (suTy i) [cs[i]!] = some y := by
    intro i hi
    have hcf : fs[i]? = some fs[i] := by simp [hn, hi]
    have hfi := hf i fs[i] hcf
    obtain ⟨⟨q1, q2⟩, q3⟩ := hall i fs[i] hcf
    rw [q1, q2, q3] at hfi
    have hl : i < (Value.agg cs).cells.toList.length := by simp [Value.cells, h15, hi]
    have e1 : ((Value.agg cs).cells.toList.drop i).take 1 = [cs[i]!] := by
      rw [List.drop_eq_getElem_cons hl]
      simp [Value.cells, h15, hi]
    rw [e1, List.getElem?_eq_getElem (by omega)] at hfi
    exact ⟨_, hfi⟩
  have ci : ∀ i, i < 14 → cs[i]? = some (.int .i64 (numAt cs i)) ∧ I64 (numAt cs i) := by
    intro i hi
    obtain ⟨y, hy⟩ := cell i (by omega)
    rw [show suTy i = 3 from if_pos hi] at hy
    obtain ⟨k, h3, _, h4⟩ := DataW.trod_int Tryz.underlying3 hy
    simp only [List.cons.injEq, and_true] at h3
    have e2 : cs[i]? = some (.int .i64 k) := by
      rw [← h3]
      simp [h15, show i < 15 by omega]
    have e3 : numAt cs i = k := by unfold numAt; rw [e2]
    rw [e3]
    exact ⟨e2, i64_of h4⟩
  have cb : cs[14]? = some (.bool (flagAt cs 14)) := by
    obtain ⟨y, hy⟩ := cell 14 (by omega)
    rw [show suTy 14 = 4 from rfl] at hy
    obtain ⟨k, h3, _⟩ := DataW.trod_bool Tryz.underlying4 hy
    simp only [List.cons.injEq, and_true] at h3
    have e2 : cs[14]? = some (.bool k) := by
      rw [← h3]
      simp [h15]
    have e3 : flagAt cs 14 = k := by unfold flagAt; rw [e2]
    rw [e3]
    exact e2
  refine ⟨fun i => if i < 14 then numAt cs i else 0, flagAt cs 14, ?_, fun i => ?_⟩
  · have := array15 (cs := cs) (g := fun i => if i < 14 then .int .i64 (numAt cs i) else .bool (flagAt cs 14)) h15 (fun i hi => by
      by_cases q : i < 14
      · rw [(ci i q).1]; simp [q]
      · have : i = 14 := by omega
        subst this
        rw [cb]; simp)
    exact congrArg Value.agg this
  · show I64 (if i < 14 then numAt cs i else 0)
    by_cases q : i < 14
    · rw [if_pos q]; exact (ci i q).2
    · rw [if_neg q]; unfold I64; decide
end Go.Proofs.YtemamhkhjijdlaaGreatDoor
