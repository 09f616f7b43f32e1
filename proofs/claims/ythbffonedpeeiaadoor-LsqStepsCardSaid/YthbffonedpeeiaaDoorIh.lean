/-
  LSQ's LAW LsqSteps: the walk.
-/
import Derived.Test.YthbffonedpeeiaaDoorIu
import Derived.Deep.CutBlock
import Derived.Deep.DeepCutAuto
namespace Go.Proofs.YthbffonedpeeiaaDoor
open Go Go.RowKit
theorem wrap_le (x : Int) : wrap64 x ≤ 9223372036854775807 := by
  unfold wrap64
  omega
theorem box3 (w : World) (x y z : Value) (t : TypeId) : ∃ X, w.alloc (.cells #[x, y, z] t) = X ∧ Below w.heap.size w X ∧ (∀ W, Below X.heap.size X W → W.cell? ⟨w.heap.size, 0, none⟩ = some x ∧ W.cell? ⟨w.heap.size, 1, none⟩ = some y ∧ W.cell? ⟨w.heap.size, 2, none⟩ = some z ∧ w.heap.size < W.heap.size) := by
  refine ⟨_, rfl, (Below.refl _ _).alloc (Nat.le_refl _) _, fun W hb => ?_⟩
  have h1 : w.heap.size < (w.alloc (.cells #[x, y, z] t)).heap.size := by simp
  exact ⟨(hb.cell (p := ⟨w.heap.size, 0, none⟩) h1).trans (by rw [World.cell?_alloc_new]; rfl), (hb.cell (p := ⟨w.heap.size, 1, none⟩) h1).trans (by rw [World.cell?_alloc_new]; rfl), (hb.cell (p := ⟨w.heap.size, 2, none⟩) h1).trans (by rw [World.cell?_alloc_new]; rfl), Nat.lt_of_lt_of_le h1 hb.size⟩
/-- three cells of a block that nobody turns stay -/
theorem cells3 {Q : Nat → Prop} {x y : World} {b : Nat} {u1 u2 u3 : Value} (t : Turned Q x y) (hb : b < x.heap.size) (hq : ¬ Q b) (h : x.cell? ⟨b, 0, none⟩ = some u1 ∧ x.cell? ⟨b, 1, none⟩ = some u2 ∧ x.cell? ⟨b, 2, none⟩ = some u3) : y.cell? ⟨b, 0, none⟩ = some u1 ∧ y.cell? ⟨b, 1, none⟩ = some u2 ∧ y.cell? ⟨b, 2, none⟩ = some u3 ∧ b < y.heap.size :=
  ⟨t.to_cell hb hq h.1, t.to_cell hb hq h.2.1, t.to_cell hb hq h.2.2, Nat.lt_of_lt_of_le hb t.size⟩
set_option maxRecDepth 100000 in
set_option maxHeartbeats 20000000 in
theorem steps_good (n : Nat) (wp : Option Addr) (m cw : Nat) (g : Nat → Nat → Int) (w : World) (hn : 1 ≤ n ∧ n ≤ 32) (hw : OpsAt w wp m g) (hg : handleAt w) (hgs : 0 < w.heap.size) (hm : m ≤ 9223372036854775807) : Calls Tryd.prog 3 #[.int .i64 n, .slice wp m cw] w fun e w' => e = .returned (.bool true) ∧ Below w.heap.size w w' := by
  have HGR : Hid (∀ y, Below w.heap.size w y → handleAt y) := fun y hy => (hy.cell (p := ⟨0, 0, none⟩) hgs).trans hg
  have HW := Hid.in hw
  have HN := Hid.in hn
  clear hg hgs hw hn
  go_enter Tryd.func3, Tryd.ntmps3
  go_wp2_with (first
    | (go_at_call 5; refine (new_good w.heap.size n _ (Nat.le_refl _) HN.out).mono ?_; rintro e w1 ⟨rfl, k1, b1⟩; have HK1 := Hid.in k1; have HB1 := Hid.in b1; clear k1 b1)
    | (go_at_call 6; refine (rnew_good w.heap.size n _ HB1.out.size HN.out).mono ?_; rintro e w2 ⟨rfl, k2, b2⟩; have HK2 := Hid.in k2; have HB2 := Hid.in b2; clear k2 b2)
    | (go_at_call 7; refine (ltold_nil _).mono ?_; rintro e w3 ⟨rfl, hb⟩; have HB := Hid.in hb; clear hb))
  have hst : ∃ p q, w.heap.size = p ∧ w1.heap.size = q ∧ Lz w w3 p q (.slice none 0 0) (.slice none 0 0) ⟨n, []⟩ ⟨n, []⟩ := ⟨_, _, rfl, rfl, (lz_start HK1.out HB1.out rfl HK2.out HB2.out).below HB.out⟩
  obtain ⟨p, q, hp, hq, hst⟩ := hst
  rw [hp, hq]
  have HST := Hid.in hst
  have HIN := Hid.in (inv_start n HN.out.1)
  clear hp hq hst HK1 HB1 HK2 HB2 HB
  go_loopw [9, 10, 11] (fun okv nv kv wr => ∃ (k : Nat) (nx : Int) (v rv : Value) (S : QS) (R : RS), okv = .bool true ∧ nv = .int .i64 nx ∧ kv = .int .i64 k ∧ k ≤ m ∧ k ≤ 4096 ∧ Lz w wr p q v rv S R ∧ Same S R ∧ S.Inv) (fun _ _ kv _ => m + 1 - (intOf kv).toNat)
  case atStart => exact ⟨0, 0, _, _, _, _, rfl, rfl, rfl, Nat.zero_le _, Nat.zero_le _, HST.out, same_start n, HIN.out⟩
  case round =>
    obtain ⟨k, nx, v, rv, S, R, rfl, rfl, rfl, hk, hk4, hK, hS, hI⟩ := hrel
    have HK := Hid.in hK
    have HS := Hid.in hS
    have HI := Hid.in hI
    clear hK hS hI HST HIN
    by_cases hlt : k < m ∧ k < 4096
    · obtain ⟨hk1, hk2⟩ := hlt
      obtain ⟨sb, so, rfl, hsb, s0, s1, s2, s3⟩ := HW.out k hk1
      have e0 := (HK.out.low.cell (p := ⟨sb, so + k * 4, none⟩) hsb).trans s0
      have e1 := (HK.out.low.cell (p := ⟨sb, so + k * 4 + 1, none⟩) hsb).trans s1
      have e2 := (HK.out.low.cell (p := ⟨sb, so + k * 4 + 2, none⟩) hsb).trans s2
      have e3 := (HK.out.low.cell (p := ⟨sb, so + k * 4 + 3, none⟩) hsb).trans s3
      have hsb' : sb < wr.heap.size := Nat.lt_of_lt_of_le hsb HK.out.low.size
      generalize g k 0 = kd at e0
      generalize g k 1 = ga at e1
      generalize g k 2 = gb at e2
      generalize g k 3 = gc at e3
      clear hsb s0 s1 s2 s3
      go_upto_region 11 with fail
      obtain ⟨wq, hwq⟩ : ∃ x, x = wr.alloc (.cells #[.int .i64 kd, .int .i64 ga, .int .i64 gb, .int .i64 gc] 33) := ⟨_, rfl⟩
      rw [← hwq]
      have HQ : Hid (CellsAt 4 wq wr.heap.size (ov4 kd ga gb gc)) := by rw [hwq]; exact ov4_new wr kd ga gb gc
      have HK2 : Hid (Lz w wq p q v rv S R) := by rw [hwq]; exact HK.out.below ((Below.refl _ _).alloc (Nat.le_refl _) _)
      have HNT : Hid (¬ qmine p v S wr.heap.size) := fun t => by have := (HK.out.qm.low _ t).2; omega
      have HNQ : Hid (¬ rmine q rv wr.heap.size) := fun t => by have := (HK.out.rm.low _ t).2; omega
      clear hwq e0 e1 e2 e3 HK hsb'
      generalize wr.heap.size = ob at HQ HNT HNQ ⊢
      obtain ⟨c0, c1, c2, c3, c9⟩ := op_cells0 HQ.out
      obtain ⟨bn, hbn⟩ : ∃ bn : Nat, gb % 4294967296 = bn := ⟨(gb % 4294967296).toNat, by omega⟩
      have hbnl : bn < 4294967296 := by omega
      have HBN := Hid.in hbn
      clear hbn
      go_upto_block 2 with fail
      obtain ⟨sq, hsq⟩ : ∃ sq : Int, wrap64 (wrap64 (nx - 1) - ga) = sq := ⟨_, rfl⟩
      rw [hsq]
      clear c1 hsq
      go_cut [9, 10] (fun okv nv wd => ∃ (nx' : Int) (v' rv' : Value) (S' : QS) (R' : RS), okv = .bool true ∧ nv = .int .i64 nx' ∧ Lz w wd p q v' rv' S' R' ∧ Same S' R' ∧ S'.Inv)
      case first =>
        clear c0
        by_cases k0 : kd = 0
        · subst k0
          obtain ⟨sq0, hsq0⟩ : ∃ sq0 : Int, wrap64 (nx + gc) = sq0 := ⟨_, rfl⟩
          have hsq1 : IntKind.i64.wrap (nx + gc) = sq0 := by
            rw [← hsq0]
            unfold wrap64
            simp only [IntKind.wrap_i64]
          obtain ⟨st, hst⟩ : ∃ st : Bool, (gb == 1) = st := ⟨_, rfl⟩
          obtain ⟨S', R', er, hS', hI', hBB⟩ := both_enter HK2.out HS.out HI.out sq0 (by rw [← hsq0]; exact wrap_le _) st
          have HBB := Hid.in hBB
          have HS' := Hid.in hS'
          have HI' := Hid.in hI'
          clear hBB hS' hI'
          obtain ⟨ev, hev⟩ : ∃ ev, errOf er = ev := ⟨_, rfl⟩
          have HEV := Hid.in hev
          clear hev
          by_cases he : er = 0
          · subst he
            as_aux_lemma =>
              go_wp2_with (first
                | (go_at_call 8; refine HBB.out.1.mono ?_; rintro e y1 ⟨rfl, v1, st1⟩; rw [HEV.out]; have HY := Hid.in (HK2.out.onP st1); obtain ⟨c2, c3, c9⟩ := op_cells (st1.t.cells HQ.out HNT.out); clear st1)
                | (go_at_call 9; refine (HBB.out.2 _ HY.out.rm).mono ?_; rintro e z1 ⟨rfl, rv1, st2⟩; have HZ := Hid.in (HY.out.onR st2); clear st2)
                | (go_at_call 7; rw [← HEV.out]; refine (ltold_of 0 _ (HGR.out _ HZ.out.low)).mono ?_; rintro e z3 ⟨rfl, hb⟩; have HX := Hid.in (HZ.out.below hb); clear hb))
              go_meet
              exact ⟨_, _, _, S', R', rfl, rfl, HX.out, HS'.out, HI'.out⟩
          · as_aux_lemma =>
              go_wp2_with (first
                | (go_at_call 8; refine HBB.out.1.mono ?_; rintro e y1 ⟨rfl, v1, st1⟩; rw [HEV.out]; have HY := Hid.in (HK2.out.onP st1); obtain ⟨c2, c3, c9⟩ := op_cells (st1.t.cells HQ.out HNT.out); clear st1)
                | (go_at_call 9; refine (HBB.out.2 _ HY.out.rm).mono ?_; rintro e z1 ⟨rfl, rv1, st2⟩; have HZ := Hid.in (HY.out.onR st2); clear st2)
                | (go_at_call 7; rw [← HEV.out]; refine (ltold_of er _ (HGR.out _ HZ.out.low)).mono ?_; rintro e z3 ⟨rfl, hb⟩; have HX := Hid.in (HZ.out.below hb); clear hb))
              go_meet
              exact ⟨_, _, _, S', R', rfl, rfl, HX.out, HS'.out, HI'.out⟩
        · have kb0 : (kd == 0) = false := by simpa using k0
          clear k0
          by_cases k1 : kd = 1
          · subst k1
            as_aux_lemma =>
              obtain ⟨S', R', nn, er, hS', hI', hBB⟩ := both_address HK2.out HS.out HI.out sq bn gc hbnl
              have HBB := Hid.in hBB
              have HS' := Hid.in hS'
              have HI' := Hid.in hI'
              clear hBB hS' hI'
              obtain ⟨ev, hev⟩ : ∃ ev, errOf er = ev := ⟨_, rfl⟩
              have HEV := Hid.in hev
              clear hev
              go_wp2_with (first
                | (go_at_call 10; rw [HBN.out]; refine HBB.out.1.mono ?_; rintro e y1 ⟨rfl, v1, st1⟩; rw [HEV.out]; have HY := Hid.in (HK2.out.onP st1); obtain ⟨c2, c3, c9⟩ := op_cells (st1.t.cells HQ.out HNT.out); clear st1)
                | (go_at_call 11; rw [HBN.out]; refine (HBB.out.2 _ HY.out.rm).mono ?_; rintro e z1 ⟨rfl, rv1, st2⟩; have HZ := Hid.in (HY.out.onR st2); clear st2)
                | (go_at_call 7; rw [← HEV.out]; refine (ltold_of er _ (HGR.out _ HZ.out.low)).mono ?_; rintro e z3 ⟨rfl, hb⟩; have HX := Hid.in (HZ.out.below hb); clear hb))
              go_meet
              exact ⟨_, _, _, S', R', rfl, rfl, HX.out, HS'.out, HI'.out⟩
          · have kb1 : (kd == 1) = false := by simpa using k1
            clear k1
            by_cases k2 : kd = 2
            · subst k2
              as_aux_lemma =>
                obtain ⟨S', R', er, hS', hI', hBB⟩ := both_value HK2.out HS.out HI.out sq bn hbnl
                have HBB := Hid.in hBB
                have HS' := Hid.in hS'
                have HI' := Hid.in hI'
                clear hBB hS' hI'
                obtain ⟨ev, hev⟩ : ∃ ev, errOf er = ev := ⟨_, rfl⟩
                have HEV := Hid.in hev
                clear hev
                go_wp2_with (first
                  | (go_at_call 12; rw [HBN.out]; refine HBB.out.1.mono ?_; rintro e y1 ⟨rfl, v1, st1⟩; rw [HEV.out]; have HY := Hid.in (HK2.out.onP st1); obtain ⟨c2, c3, c9⟩ := op_cells (st1.t.cells HQ.out HNT.out); clear st1)
                  | (go_at_call 13; rw [HBN.out]; refine (HBB.out.2 _ HY.out.rm).mono ?_; rintro e z1 ⟨rfl, rv1, st2⟩; have HZ := Hid.in (HY.out.onR st2); clear st2)
                  | (go_at_call 7; rw [← HEV.out]; refine (ltold_of er _ (HGR.out _ HZ.out.low)).mono ?_; rintro e z3 ⟨rfl, hb⟩; have HX := Hid.in (HZ.out.below hb); clear hb))
                go_meet
                exact ⟨_, _, _, S', R', rfl, rfl, HX.out, HS'.out, HI'.out⟩
            · have kb2 : (kd == 2) = false := by simpa using k2
              clear k2
              by_cases k3 : kd = 3
              · subst k3
                as_aux_lemma =>
                  obtain ⟨bo, hbo⟩ : ∃ bo : Bool, (gb == 1) = bo := ⟨_, rfl⟩
                  obtain ⟨fb, fm, fu, er, hBB⟩ := both_search HK2.out HS.out HI.out sq bo
                  have HBB := Hid.in hBB
                  clear hBB
                  obtain ⟨ev, hev⟩ : ∃ ev, errOf er = ev := ⟨_, rfl⟩
                  have HEV := Hid.in hev
                  clear hev
                  go_upto_region 31 with (first
                    | (go_at_call 14; refine HBB.out.1.mono ?_; rintro e y1 ⟨rfl, v1, st1⟩; rw [HEV.out]; have HY := Hid.in (HK2.out.onP st1); have HQ1 := Hid.in (st1.t.cells HQ.out HNT.out); clear st1))
                  obtain ⟨Y2, hY2, bY2, hcY⟩ := box3 y1 (.bool fb) (.int .i64 fm) (.int .u32 fu) 44
                  rw [hY2]
                  have HK3 := Hid.in (HY.out.below bY2)
                  have HC3 := Hid.in (hcY Y2 (Below.refl _ _))
                  have hQ3 := (Turned.of_below (Q := fun _ => False) bY2).cells HQ1.out (fun q => q)
                  obtain ⟨c2, c3, c9⟩ := op_cells hQ3
                  have HNL : Hid (¬ rmine q rv y1.heap.size) := fun t => by have := (HY.out.rm.low _ t).2; omega
                  clear hQ3 HQ1 HY bY2 hY2 hcY
                  generalize y1.heap.size = lb at HC3 HNL ⊢
                  go_upto_region 32 with (first
                    | (go_at_call 15; refine (HBB.out.2 _ HK3.out.rm).mono ?_; rintro e z1 ⟨rfl, rv1, st2⟩; have HZ := Hid.in (HK3.out.onR st2); have HC4 := Hid.in (cells3 st2.t HC3.out.2.2.2 HNL.out ⟨HC3.out.1, HC3.out.2.1, HC3.out.2.2.1⟩); clear st2))
                  obtain ⟨Z2, hZ2, bZ2, hcZ⟩ := box3 z1 (.bool fb) (.int .i64 fm) (.int .u32 fu) 47
                  rw [hZ2]
                  have HK5 := Hid.in (HZ.out.below bZ2)
                  have HC5 := Hid.in (cells3 (Turned.of_below (Q := fun _ => False) bZ2) HC4.out.2.2.2 (fun q => q) ⟨HC4.out.1, HC4.out.2.1, HC4.out.2.2.1⟩)
                  have HC6 := Hid.in hcZ
                  clear hZ2 bZ2 hcZ HZ HC4 c2 c3 c9
                  generalize z1.heap.size = mb at HC6 ⊢
                  go_wp2_with (first
                    | (go_at_call 7; rw [← HEV.out]; refine (ltold_of er _ (HGR.out _ HK5.out.low)).mono ?_; rintro e z3 ⟨rfl, hb⟩; have HF := Hid.in (HK5.out.below hb); obtain ⟨a0, a1, a2, a3⟩ := cells3 (Turned.of_below (Q := fun _ => False) hb) HC5.out.2.2.2 (fun q => q) ⟨HC5.out.1, HC5.out.2.1, HC5.out.2.2.1⟩; obtain ⟨b0, b1, b2, b3⟩ := HC6.out _ hb; clear hb)
                    | (go_at_call 16; refine (found_same fb fm fu _).mono ?_; rintro e z4 ⟨rfl, hb⟩; have HX := Hid.in (HF.out.below hb); clear hb))
                  go_meet
                  exact ⟨_, _, _, S, R, rfl, rfl, HX.out, HS.out, HI.out⟩
              · have kb3 : (kd == 3) = false := by simpa using k3
                clear k3
                by_cases k4 : kd = 4
                · subst k4
                  obtain ⟨er, hB⟩ := both_loaded HK2.out HS.out HI.out sq
                  rcases hB with ⟨-, hBB⟩ | ⟨-, hBB⟩
                  · as_aux_lemma =>
                      have HBB := Hid.in hBB
                      clear hBB
                      obtain ⟨ev, hev⟩ : ∃ ev, errOf er = ev := ⟨_, rfl⟩
                      have HEV := Hid.in hev
                      clear hev
                      go_wp2_with (first
                        | (go_at_call 17; refine HBB.out.1.mono ?_; rintro e y1 ⟨rfl, v1, st1⟩; rw [HEV.out]; have HY := Hid.in (HK2.out.onP st1); obtain ⟨c2, c3, c9⟩ := op_cells (st1.t.cells HQ.out HNT.out); clear st1)
                        | (go_at_call 18; refine (HBB.out.2 _ HY.out.rm).mono ?_; rintro e z1 ⟨rfl, rv1, st2⟩; have HZ := Hid.in (HY.out.onR st2); clear st2)
                        | (go_at_call 7; rw [← HEV.out]; refine (ltold_of er _ (HGR.out _ HZ.out.low)).mono ?_; rintro e z3 ⟨rfl, hb⟩; have HX := Hid.in (HZ.out.below hb); clear hb))
                      go_meet
                      exact ⟨_, _, _, S, R, rfl, rfl, HX.out, HS.out, HI.out⟩
                  · as_aux_lemma =>
                      have HBB := Hid.in hBB
                      clear hBB
                      obtain ⟨ev, hev⟩ : ∃ ev, errOf er = ev := ⟨_, rfl⟩
                      have HEV := Hid.in hev
                      clear hev
                      go_wp2_with (first
                        | (go_at_call 17; refine HBB.out.mono ?_; rintro e y1 ⟨rfl, S', v1, st1, hI', R', hS', hr⟩; rw [HEV.out]; have HY := Hid.in (HK2.out.onP st1); have HS' := Hid.in hS'; have HI' := Hid.in hI'; have HRR := Hid.in hr; clear st1 hI' hS' hr)
                        | (go_at_call 18; refine (HRR.out _ HY.out.rm).mono ?_; rintro e z1 ⟨rfl, rv1, st2⟩; have HZ := Hid.in (HY.out.onR st2); clear st2)
                        | (go_at_call 7; rw [← HEV.out]; refine (ltold_of er _ (HGR.out _ HZ.out.low)).mono ?_; rintro e z3 ⟨rfl, hb⟩; have HX := Hid.in (HZ.out.below hb); clear hb))
                      go_meet
                      exact ⟨_, _, _, S', R', rfl, rfl, HX.out, HS'.out, HI'.out⟩
                · have kb4 : (kd == 4) = false := by simpa using k4
                  clear k4
                  by_cases k5 : kd = 5
                  · subst k5
                    by_cases hb1 : gb = 1
                    · subst hb1
                      as_aux_lemma =>
                        obtain ⟨S', R', er, hS', hI', hBB⟩ := both_retire HK2.out HS.out HI.out sq
                        have HBB := Hid.in hBB
                        have HS' := Hid.in hS'
                        have HI' := Hid.in hI'
                        clear hBB hS' hI'
                        obtain ⟨ev, hev⟩ : ∃ ev, errOf er = ev := ⟨_, rfl⟩
                        have HEV := Hid.in hev
                        clear hev
                        go_wp2_with (first
                          | (go_at_call 20; refine HBB.out.1.mono ?_; rintro e y1 ⟨rfl, v1, st1⟩; rw [HEV.out]; have HY := Hid.in (HK2.out.onP st1); obtain ⟨c2, c3, c9⟩ := op_cells (st1.t.cells HQ.out HNT.out); clear st1)
                          | (go_at_call 21; refine (HBB.out.2 _ HY.out.rm).mono ?_; rintro e z1 ⟨rfl, rv1, st2⟩; have HZ := Hid.in (HY.out.onR st2); clear st2)
                          | (go_at_call 7; rw [← HEV.out]; refine (ltold_of er _ (HGR.out _ HZ.out.low)).mono ?_; rintro e z3 ⟨rfl, hb⟩; have HX := Hid.in (HZ.out.below hb); clear hb))
                        go_meet
                        exact ⟨_, _, _, S', R', rfl, rfl, HX.out, HS'.out, HI'.out⟩
                    · as_aux_lemma =>
                        have HF := Hid.in (lfirst_any _ q rv R wq HK2.out.rm)
                        go_wp2_with (first
                          | (go_at_call 19; refine HF.out.mono ?_; rintro e y0 ⟨r0, rfl, -, hy0⟩; subst hy0; generalize R.num r0 = sq2; obtain ⟨S', R', er, hS', hI', hBB⟩ := both_retire HK2.out HS.out HI.out sq2; obtain ⟨ev, hev⟩ : ∃ ev, errOf er = ev := ⟨_, rfl⟩; have HEV := Hid.in hev; have HBB := Hid.in hBB; have HS' := Hid.in hS'; have HI' := Hid.in hI'; clear hBB hS' hI' hev)
                          | (go_at_call 20; refine HBB.out.1.mono ?_; rintro e y1 ⟨rfl, v1, st1⟩; rw [HEV.out]; have HY := Hid.in (HK2.out.onP st1); obtain ⟨c2, c3, c9⟩ := op_cells (st1.t.cells HQ.out HNT.out); clear st1)
                          | (go_at_call 21; refine (HBB.out.2 _ HY.out.rm).mono ?_; rintro e z1 ⟨rfl, rv1, st2⟩; have HZ := Hid.in (HY.out.onR st2); clear st2)
                          | (go_at_call 7; rw [← HEV.out]; refine (ltold_of er _ (HGR.out _ HZ.out.low)).mono ?_; rintro e z3 ⟨rfl, hb⟩; have HX := Hid.in (HZ.out.below hb); clear hb))
                        go_meet
                        exact ⟨_, _, _, S', R', rfl, rfl, HX.out, HS'.out, HI'.out⟩
                  · have kb5 : (kd == 5) = false := by simpa using k5
                    clear k5
                    by_cases k6 : kd = 6
                    · subst k6
                      obtain ⟨S', R', db, hS', hI', hBB⟩ := both_drain HK2.out HS.out HI.out
                      have HBB := Hid.in hBB
                      have HS' := Hid.in hS'
                      have HI' := Hid.in hI'
                      clear hBB hS' hI'
                      cases db
                      · as_aux_lemma =>
                          obtain ⟨ev, hev⟩ : ∃ ev, errOf 7 = ev := ⟨_, rfl⟩
                          have HEV := Hid.in hev
                          clear hev
                          go_wp2_with (first
                            | (go_at_call 22; refine HBB.out.1.mono ?_; rintro e y1 ⟨he1, v1, st1⟩; rw [he1, if_neg (by decide)]; clear he1; rw [HEV.out]; have HY := Hid.in (HK2.out.onP st1); obtain ⟨c2, c3, c9⟩ := op_cells (st1.t.cells HQ.out HNT.out); clear st1)
                            | (go_at_call 23; refine (HBB.out.2 _ HY.out.rm).mono ?_; rintro e z1 ⟨rfl, rv1, st2⟩; have HZ := Hid.in (HY.out.onR st2); clear st2)
                            | (go_at_call 24; rw [← HEV.out]; refine (ptold_of 7 _ (HGR.out _ HZ.out.low)).mono ?_; rintro e z3 ⟨rfl, hb⟩; have HX := Hid.in (HZ.out.below hb); clear hb))
                          go_meet
                          exact ⟨_, _, _, S', R', rfl, rfl, HX.out, HS'.out, HI'.out⟩
                      · as_aux_lemma =>
                          obtain ⟨ev, hev⟩ : ∃ ev, errOf 0 = ev := ⟨_, rfl⟩
                          have HEV := Hid.in hev
                          clear hev
                          go_wp2_with (first
                            | (go_at_call 22; refine HBB.out.1.mono ?_; rintro e y1 ⟨he1, v1, st1⟩; rw [he1, if_pos rfl]; clear he1; rw [HEV.out]; have HY := Hid.in (HK2.out.onP st1); obtain ⟨c2, c3, c9⟩ := op_cells (st1.t.cells HQ.out HNT.out); clear st1)
                            | (go_at_call 23; refine (HBB.out.2 _ HY.out.rm).mono ?_; rintro e z1 ⟨rfl, rv1, st2⟩; have HZ := Hid.in (HY.out.onR st2); clear st2)
                            | (go_at_call 24; rw [← HEV.out]; refine (ptold_of 0 _ (HGR.out _ HZ.out.low)).mono ?_; rintro e z3 ⟨rfl, hb⟩; have HX := Hid.in (HZ.out.below hb); clear hb))
                          go_meet
                          exact ⟨_, _, _, S', R', rfl, rfl, HX.out, HS'.out, HI'.out⟩
                    · have kb6 : (kd == 6) = false := by simpa using k6
                      clear k6
                      by_cases k7 : kd = 7
                      · subst k7
                        as_aux_lemma =>
                          obtain ⟨nn, hBB⟩ := both_spoil HK2.out HS.out HI.out bn hbnl
                          have HBB := Hid.in hBB
                          clear hBB
                          go_wp2_with (first
                            | (go_at_call 25; rw [HBN.out]; refine HBB.out.1.mono ?_; rintro e y1 ⟨rfl, v1, st1⟩; have HY := Hid.in (HK2.out.onP st1); obtain ⟨c2, c3, c9⟩ := op_cells (st1.t.cells HQ.out HNT.out); clear st1)
                            | (go_at_call 26; rw [HBN.out]; refine (HBB.out.2 _ HY.out.rm).mono ?_; rintro e z1 ⟨rfl, rv1, st2⟩; have HZ := Hid.in (HY.out.onR st2); clear st2))
                          go_meet
                          exact ⟨_, _, _, S, R, rfl, rfl, HZ.out, HS.out, HI.out⟩
                      · have kb7 : (kd == 7) = false := by simpa using k7
                        clear k7
                        by_cases k8 : kd = 8
                        · subst k8
                          as_aux_lemma =>
                            obtain ⟨S', R', hS', hI', hBB⟩ := both_squash HK2.out HS.out HI.out sq
                            have HBB := Hid.in hBB
                            have HS' := Hid.in hS'
                            have HI' := Hid.in hI'
                            clear hBB hS' hI'
                            go_wp2_with (first
                              | (go_at_call 27; refine HBB.out.1.mono ?_; rintro e y1 ⟨rfl, v1, st1⟩; have HY := Hid.in (HK2.out.onP st1); obtain ⟨c2, c3, c9⟩ := op_cells (st1.t.cells HQ.out HNT.out); clear st1)
                              | (go_at_call 28; refine (HBB.out.2 _ HY.out.rm).mono ?_; rintro e z1 ⟨rfl, rv1, st2⟩; have HZ := Hid.in (HY.out.onR st2); clear st2))
                            go_meet
                            exact ⟨_, _, _, S', R', rfl, rfl, HZ.out, HS'.out, HI'.out⟩
                        · have kb8 : (kd == 8) = false := by simpa using k8
                          clear k8
                          as_aux_lemma =>
                            go_wp2_with fail
                            go_meet
                            exact ⟨_, _, _, S, R, rfl, rfl, HK2.out, HS.out, HI.out⟩
      case rest =>
        obtain ⟨nx', v', rv', S', R', rfl, rfl, hK', hS', hI'⟩ := hcut
        as_aux_lemma =>
          have HO := Hid.in (loldest hK' hS' hI')
          have HK' := Hid.in hK'
          have HS' := Hid.in hS'
          have HI' := Hid.in hI'
          clear hK' hS' hI'
          go_wp2_with (first | (go_at_call 29; refine HO.out.mono ?_; rintro e wo ⟨rfl, hbo⟩; have HBO := Hid.in hbo; clear hbo))
          go_roundw
          case rel => exact ⟨k + 1, nx', v', rv', S', R', rfl, rfl, by simp, by omega, by omega, HK'.out.below HBO.out, HS'.out, HI'.out⟩
          case measure => simp [intOf]; omega
    · by_cases hk5 : k < m
      · obtain rfl : k = 4096 := by omega
        as_aux_lemma =>
          go_wp2
          go_ret
          exact ⟨rfl, HK.out.low⟩
      · have hk6 : ¬ (k : Int) < (m : Int) := by omega
        as_aux_lemma =>
          go_wp2
          go_ret
          exact ⟨rfl, HK.out.low⟩
end Go.Proofs.YthbffonedpeeiaaDoor
