/-
  WINDOW's LAW WindowSteps: the walk, New granted.
-/
import Derived.Test.YtckglpmjaplcnaaDoorUn
import Derived.Deep.CutBlock
import Derived.Deep.DeepCutAuto
namespace Go.Proofs.YtckglpmjaplcnaaDoor
open Go Go.RowKit
def ov5 (a b c d e : Int) : Nat → Value
  | 0 => .int .i64 a
  | 1 => .int .i64 b
  | 2 => .int .i64 c
  | 3 => .int .i64 d
  | _ => .int .i64 e
theorem ov5_new (w : World) (a b c d e : Int) : CellsAt 5 (w.alloc (.cells #[.int .i64 a, .int .i64 b, .int .i64 c, .int .i64 d, .int .i64 e] 34)) w.heap.size (ov5 a b c d e) := by
  refine cells_new w fun i hi => ?_
  match i, hi with
  | 0, _ => rfl
  | 1, _ => rfl
  | 2, _ => rfl
  | 3, _ => rfl
  | 4, _ => rfl
def nilP : Value × Value := (.slice none 0 0, .slice none 0 0)
theorem flatP_get (E : List (Value × Value)) (i j : Nat) (hi : i < E.length) (hj : j < 2) : (flatP E)[i * 2 + j]? = some (if j = 0 then (E.getD i nilP).1 else (E.getD i nilP).2) := by
  induction E generalizing i with
  | nil => simp at hi
  | cons e l ih =>
    have e1 : flatP (e :: l) = e.1 :: e.2 :: flatP l := rfl
    rw [e1]
    cases i with
    | zero =>
      match j, hj with
      | 0, _ => rfl
      | 1, _ => rfl
    | succ i =>
      have := ih i (by simpa using hi)
      rw [show (i + 1) * 2 + j = (i * 2 + j) + 1 + 1 by omega, List.getElem?_cons_succ, List.getElem?_cons_succ, this]
      rfl
theorem own_pairs {x : World} {B : Nat} {e : TypeId} {hv : Value} {E : List (Value × Value)} (h : x.ownsRow B e 2 hv E.length (flatP E)) : ∃ q cap, hv = .slice q E.length cap ∧ (E.length ≤ cap ∧ cap ≤ 9223372036854775807) ∧ ∀ i, i < E.length → ∃ g, q = some ⟨g, 0, none⟩ ∧ g < x.heap.size ∧ x.cell? ⟨g, i * 2, none⟩ = some (E.getD i nilP).1 ∧ x.cell? ⟨g, i * 2 + 1, none⟩ = some (E.getD i nilP).2 := by
  rcases h.2 with ⟨h1, h2⟩ | ⟨g, cap, cur, h1, h2, h3, h4, h5, h6⟩
  · exact ⟨none, 0, by rw [h1, h2], by omega, fun i hi => by omega⟩
  · refine ⟨some ⟨g, 0, none⟩, cap, h1, ⟨h4, by unfold maxLen at h5; omega⟩, fun i hi => ⟨g, rfl, (Array.getElem?_eq_some_iff.1 h3).1, ?_, ?_⟩⟩
    · have := World.ownsRow.cells (by rw [h1] at h; exact h) rfl (i * 2) _ (flatP_get E i 0 hi (by omega))
      rw [Addr.add_lit, Nat.zero_add] at this
      simpa using this
    · have := World.ownsRow.cells (by rw [h1] at h; exact h) rfl (i * 2 + 1) _ (flatP_get E i 1 hi (by omega))
      rw [Addr.add_lit, Nat.zero_add] at this
      simpa using this
theorem op_cells {x : World} {ob : Nat} {a b c d e : Int} (h : CellsAt 5 x ob (ov5 a b c d e)) : x.cell? ⟨ob, 1, none⟩ = some (.int .i64 b) ∧ x.cell? ⟨ob, 2, none⟩ = some (.int .i64 c) ∧ x.cell? ⟨ob, 3, none⟩ = some (.int .i64 d) ∧ x.cell? ⟨ob, 4, none⟩ = some (.int .i64 e) ∧ ob < x.heap.size :=
  ⟨h.cell 1 (by decide), h.cell 2 (by decide), h.cell 3 (by decide), h.cell 4 (by decide), h.here⟩
theorem op_cells0 {x : World} {ob : Nat} {a b c d e : Int} (h : CellsAt 5 x ob (ov5 a b c d e)) : x.cell? ⟨ob, 0, none⟩ = some (.int .i64 a) ∧ x.cell? ⟨ob, 1, none⟩ = some (.int .i64 b) ∧ x.cell? ⟨ob, 2, none⟩ = some (.int .i64 c) ∧ x.cell? ⟨ob, 3, none⟩ = some (.int .i64 d) ∧ x.cell? ⟨ob, 4, none⟩ = some (.int .i64 e) ∧ ob < x.heap.size :=
  ⟨h.cell 0 (by decide), op_cells h⟩
theorem head_any {B p h c : Nat} {v : Value} {S : WS} {w : World} (k : Win w B p h c v S) : Calls Tryd.prog 25 #[.pointer (some ⟨p, 0, none⟩)] w fun e y => ∃ (h0 : Int) (dn th : Bool), e = .returned (.tuple #[.int .i64 h0, .bool dn, .bool th]) ∧ Below w.heap.size w y ∧ ((0 < S.on.length ∧ h0 = S.num 0 ∧ dn = (S.st 0 == 2) ∧ th = true) ∨ (S.on.length = 0 ∧ h0 = 0 ∧ dn = false ∧ th = false)) := by
  by_cases hl : 0 < S.on.length
  · exact (head_some B p h c v S w k hl).mono fun _ _ a => ⟨_, _, _, a.1, a.2, Or.inl ⟨hl, rfl, rfl, rfl⟩⟩
  · exact (head_none B p h c v S w k (by omega)).mono fun _ _ a => ⟨_, _, _, a.1, by rw [a.2]; exact Below.refl _ _, Or.inr ⟨by omega, rfl, rfl, rfl⟩⟩
set_option maxRecDepth 100000 in
set_option maxHeartbeats 20000000 in
theorem steps_good (n r : Nat) (wp : Option Addr) (m cw : Nat) (g : Nat → Nat → Int) (w : World) (hn : 2 ≤ n ∧ n ≤ 64) (hr : 34 ≤ r ∧ r ≤ 128) (hw : OpsAt w wp m g) (hg : w.cell? ⟨0, 0, none⟩ = some (.iface 100 (.agg #[.pointer (some ⟨1, 25, none⟩)]))) (hgs : 0 < w.heap.size) (hm : m ≤ 9223372036854775807) : Calls Tryd.prog 3 #[.int .i64 n, .int .i64 r, .slice wp m cw] w fun e w' => e = .returned (.bool true) ∧ Below w.heap.size w w' := by
  have HGR : Hid (∀ y, Below w.heap.size w y → y.cell? ⟨0, 0, none⟩ = some (.iface 100 (.agg #[.pointer (some ⟨1, 25, none⟩)]))) := fun y hy => (hy.cell (p := ⟨0, 0, none⟩) hgs).trans hg
  have HW := Hid.in hw
  clear hg hgs hw
  go_enter Tryd.func3, Tryd.ntmps3
  go_wp2_with (first
    | (go_at_call 5; refine (new_good n r _ hn hr).mono ?_; rintro e w1 ⟨rfl, k1, b1⟩; have HK1 := Hid.in k1; have HB1 := Hid.in b1; clear k1 b1)
    | (go_at_call 6; refine (rnew_good n r _ hn hr).mono ?_; rintro e w2 ⟨rfl, k2, b2⟩; have HK2 := Hid.in k2; have HB2 := Hid.in b2; clear k2 b2)
    | (go_at_call 7; refine (ltold_nil _).mono ?_; rintro e w3 ⟨rfl, hb⟩; have HB := Hid.in hb; clear hb))
  have hst : ∃ p h q s, w.heap.size + 1 = p ∧ w1.heap.size + 1 = q ∧ Wl w w3 r p h q s (.slice none 0 0) (.slice none 0 0) (.slice none 0 0) (newW n r) (newW n r) [] := ⟨_, _, _, _, rfl, rfl, (wl_start HK1.out HB1.out HK2.out HB2.out).below HB.out⟩
  obtain ⟨p, h, q, s, hp, hq, hst⟩ := hst
  rw [hp, hq]
  have HST := Hid.in hst
  clear hp hq hst HK1 HB1 HK2 HB2 HB
  go_loopw [11, 12, 13] (fun okv hvv kv wr => ∃ (hv : Value) (k : Nat) (v rv : Value) (S : WS) (E : List (Value × Value)), hv = hvv ∧ okv = .bool true ∧ kv = .int .i64 k ∧ k ≤ m ∧ k ≤ 4096 ∧ S.Inv k ∧ E.length ≤ 2 * k ∧ Wl w wr r p h q s v rv hv S S E) (fun _ _ kv _ => m + 1 - (intOf kv).toNat)
  case atStart => exact ⟨_, 0, _, _, _, [], rfl, rfl, rfl, Nat.zero_le _, Nat.zero_le _, inv_start n r, Nat.le_refl _, HST.out⟩
  case round =>
    obtain ⟨hv, k, v, rv, S, E, rfl, rfl, rfl, hk, hk4, hI, hE, hK⟩ := hrel
    have HI := Hid.in hI
    have HE := Hid.in hE
    have HK := Hid.in hK
    clear hI hE hK HST
    by_cases hlt : k < m ∧ k < 4096
    · obtain ⟨hk1, hk2⟩ := hlt
      obtain ⟨sb, so, rfl, hsb, s0, s1, s2, s3, s4⟩ := HW.out k hk1
      have e0 := (HK.out.gr.cell (p := ⟨sb, so + k * 5, none⟩) hsb).trans s0
      have e1 := (HK.out.gr.cell (p := ⟨sb, so + k * 5 + 1, none⟩) hsb).trans s1
      have e2 := (HK.out.gr.cell (p := ⟨sb, so + k * 5 + 2, none⟩) hsb).trans s2
      have e3 := (HK.out.gr.cell (p := ⟨sb, so + k * 5 + 3, none⟩) hsb).trans s3
      have e4 := (HK.out.gr.cell (p := ⟨sb, so + k * 5 + 4, none⟩) hsb).trans s4
      have hsb' : sb < wr.heap.size := Nat.lt_of_lt_of_le hsb HK.out.gr.size
      generalize g k 0 = kd at e0
      generalize g k 1 = ga at e1
      generalize g k 2 = gb at e2
      generalize g k 3 = gc at e3
      generalize g k 4 = gd at e4
      clear hsb s0 s1 s2 s3 s4
      go_upto_region 11 with fail
      obtain ⟨wq, hwq⟩ : ∃ x, x = wr.alloc (.cells #[.int .i64 kd, .int .i64 ga, .int .i64 gb, .int .i64 gc, .int .i64 gd] 34) := ⟨_, rfl⟩
      rw [← hwq]
      have HQ : Hid (CellsAt 5 wq wr.heap.size (ov5 kd ga gb gc gd)) := by rw [hwq]; exact ov5_new wr kd ga gb gc gd
      have HK2 : Hid (Wl w wq r p h q s v rv hv S S E) := by rw [hwq]; exact HK.out.below ((Below.refl _ _).alloc (Nat.le_refl _) _)
      have HNT : Hid (¬ Tri p h v wr.heap.size) := fun t => by have := (HK.out.triP _ t).2; omega
      clear hwq e0 e1 e2 e3 e4 HK hsb'
      generalize wr.heap.size = ob at HQ HNT ⊢
      go_cut [15] (fun z wc => ∃ zz : Int, z = .int .i64 zz ∧ Below wq.heap.size wq wc)
      case first =>
        have c1 : wq.cell? ⟨ob, 1, none⟩ = some (.int .i64 ga) := HQ.out.cell 1 (by decide)
        have c9 := HQ.out.here
        obtain ⟨d0, -, d1, -⟩ := HK2.out.ans.cells
        generalize S.next = nx at d1
        as_aux_lemma =>
          go_quiet (fail)
          go_wp2
          go_meet
          exact ⟨_, rfl, rfl, rfl, rfl, Nat.le_refl _, fun _ _ => rfl⟩
      case rest =>
        obtain ⟨zz, rfl, hbl⟩ := hcut
        have HQ' : Hid (CellsAt 5 wc ob (ov5 kd ga gb gc gd)) := (Turned.of_below (Q := fun _ => False) hbl).cells HQ.out (fun q => q)
        have HK' : Hid (Wl w wc r p h q s v rv hv S S E) := HK2.out.below hbl
        clear HQ HK2 hbl
        rename Hid (CellsAt 5 wc ob (ov5 kd ga gb gc gd)) => HQ
        rename Hid (Wl w wc r p h q s v rv hv S S E) => HK2
        obtain ⟨c0, c1, c2, c3, c4, c9⟩ := op_cells0 HQ.out
        go_upto_block 2 with fail
        go_cut [11, 12] (fun okv hvv wd => ∃ (hv' v' rv' : Value) (S' : WS) (E' : List (Value × Value)), hv' = hvv ∧ okv = .bool true ∧ S'.Inv (k + 1) ∧ E'.length ≤ 2 * (k + 1) ∧ Wl w wd r p h q s v' rv' hv' S' S' E')
        case first =>
          clear c0
          by_cases k0 : kd = 0
          · subst k0
            as_aux_lemma =>
              obtain ⟨S', mm, er, hI', hB⟩ := both_enter HK2.out HI.out (by omega) ga gb gc gd
              have HI2 := Hid.in hI'
              have HBB := Hid.in hB
              clear hI' hB
              go_wp2_with (first
                | (go_at_call 8; refine HBB.out.1.mono ?_; rintro e y1 ⟨rfl, t1, v1, K1⟩; have HY := Hid.in K1; obtain ⟨c1, c2, c3, c4, c9⟩ := op_cells (t1.cells HQ.out HNT.out); clear t1; clear K1)
                | (go_at_call 9; refine (HBB.out.2 _ _ HY.out).mono ?_; rintro e z1 ⟨rfl, rv1, K2⟩; have HZ := Hid.in K2; clear K2)
                | (go_at_call 7; refine (ltold_of er _ (HGR.out _ HZ.out.gr)).mono ?_; rintro e z2 ⟨rfl, hb⟩; have HF := Hid.in (HZ.out.below hb); clear hb))
              go_meet
              exact ⟨_, _, _, S', E, rfl, rfl, HI2.out, by have := HE.out; omega, HF.out⟩
          · have kb0 : (kd == 0) = false := by simpa using k0
            clear k0
            by_cases k1 : kd = 1
            · subst k1
              as_aux_lemma =>
                obtain ⟨S', er, hI', hB⟩ := both_wake HK2.out HI.out ga
                have HI2 := Hid.in hI'
                have HBB := Hid.in hB
                clear hI' hB
                go_wp2_with (first
                  | (go_at_call 10; refine HBB.out.1.mono ?_; rintro e y1 ⟨rfl, t1, v1, K1⟩; have HY := Hid.in K1; obtain ⟨c1, c2, c3, c4, c9⟩ := op_cells (t1.cells HQ.out HNT.out); clear t1; clear K1)
                  | (go_at_call 11; refine (HBB.out.2 _ _ HY.out).mono ?_; rintro e z1 ⟨rfl, rv1, K2⟩; have HZ := Hid.in K2; clear K2)
                  | (go_at_call 7; refine (ltold_of er _ (HGR.out _ HZ.out.gr)).mono ?_; rintro e z2 ⟨rfl, hb⟩; have HF := Hid.in (HZ.out.below hb); clear hb))
                go_meet
                exact ⟨_, _, _, S', E, rfl, rfl, HI2.out, by have := HE.out; omega, HF.out⟩
            · have kb1 : (kd == 1) = false := by simpa using k1
              clear k1
              by_cases k2 : kd = 2
              · subst k2
                as_aux_lemma =>
                  obtain ⟨L, hL, hB⟩ := both_ready HK2.out ga gb
                  have HL := Hid.in hL
                  have HBB := Hid.in hB
                  clear hL hB
                  go_wp2_with (first
                    | (go_at_call 12; refine HBB.out.mono ?_; rintro e y1 ⟨u, rfl, t1, K1, K1b⟩; have HYb := Hid.in K1b; obtain ⟨c1, c2, c3, c4, c9⟩ := op_cells (t1.cells HQ.out HNT.out); clear t1; clear K1 K1b)
                    | (go_at_call 13; refine HYb.out.mono ?_; rintro e z1 ⟨u2, rfl, K2⟩; obtain ⟨uq, ucap, hu1, -⟩ := own_ints K2.a; obtain ⟨u2q, u2c, hu2, -⟩ := K2.b; subst hu1; subst hu2; have HZ := Hid.in K2; clear K2)
                    | (go_at_call 14; refine (two_same HZ.out).mono ?_; rintro e z2 ⟨rfl, K3⟩; have HF := Hid.in K3; clear K3)
                    | (go_at_call 15; refine (two_own HF.out HL.out (by have := HE.out; omega)).mono ?_; rintro e z3 ⟨hv4, E4, rfl, hl4, K4⟩; have HX := Hid.in K4; have HLL := Hid.in hl4; clear K4 hl4))
                  go_meet
                  exact ⟨_, _, _, S, E4, rfl, rfl, HI.out.mono (by omega), by have := HE.out; have := HLL.out; omega, HX.out⟩
              · have kb2 : (kd == 2) = false := by simpa using k2
                clear k2
                by_cases k3 : kd = 3
                · subst k3
                  as_aux_lemma =>
                    obtain ⟨S', er, hI', hB⟩ := both_issue HK2.out HI.out zz
                    have HI2 := Hid.in hI'
                    have HBB := Hid.in hB
                    clear hI' hB
                    go_wp2_with (first
                      | (go_at_call 16; refine HBB.out.1.mono ?_; rintro e y1 ⟨rfl, t1, v1, K1⟩; have HY := Hid.in K1; clear t1; clear K1)
                      | (go_at_call 17; refine (HBB.out.2 _ _ HY.out).mono ?_; rintro e z1 ⟨rfl, rv1, K2⟩; have HZ := Hid.in K2; clear K2)
                      | (go_at_call 7; refine (ltold_of er _ (HGR.out _ HZ.out.gr)).mono ?_; rintro e z2 ⟨rfl, hb⟩; have HF := Hid.in (HZ.out.below hb); clear hb))
                    go_meet
                    exact ⟨_, _, _, S', E, rfl, rfl, HI2.out, by have := HE.out; omega, HF.out⟩
                · have kb3 : (kd == 3) = false := by simpa using k3
                  clear k3
                  by_cases k4 : kd = 4
                  · subst k4
                    as_aux_lemma =>
                      obtain ⟨S', er, hI', hB⟩ := both_again HK2.out HI.out zz
                      have HI2 := Hid.in hI'
                      have HBB := Hid.in hB
                      clear hI' hB
                      go_wp2_with (first
                        | (go_at_call 18; refine HBB.out.1.mono ?_; rintro e y1 ⟨rfl, t1, v1, K1⟩; have HY := Hid.in K1; clear t1; clear K1)
                        | (go_at_call 17; refine (HBB.out.2 _ _ HY.out).mono ?_; rintro e z1 ⟨rfl, rv1, K2⟩; have HZ := Hid.in K2; clear K2)
                        | (go_at_call 7; refine (ltold_of er _ (HGR.out _ HZ.out.gr)).mono ?_; rintro e z2 ⟨rfl, hb⟩; have HF := Hid.in (HZ.out.below hb); clear hb))
                      go_meet
                      exact ⟨_, _, _, S', E, rfl, rfl, HI2.out, by have := HE.out; omega, HF.out⟩
                  · have kb4 : (kd == 4) = false := by simpa using k4
                    clear k4
                    by_cases k5 : kd = 5
                    · subst k5
                      as_aux_lemma =>
                        obtain ⟨S', er, hI', hB⟩ := both_done HK2.out HI.out zz
                        have HI2 := Hid.in hI'
                        have HBB := Hid.in hB
                        clear hI' hB
                        go_wp2_with (first
                          | (go_at_call 19; refine HBB.out.1.mono ?_; rintro e y1 ⟨rfl, t1, v1, K1⟩; have HY := Hid.in K1; clear t1; clear K1)
                          | (go_at_call 17; refine (HBB.out.2 _ _ HY.out).mono ?_; rintro e z1 ⟨rfl, rv1, K2⟩; have HZ := Hid.in K2; clear K2)
                          | (go_at_call 7; refine (ltold_of er _ (HGR.out _ HZ.out.gr)).mono ?_; rintro e z2 ⟨rfl, hb⟩; have HF := Hid.in (HZ.out.below hb); clear hb))
                        go_meet
                        exact ⟨_, _, _, S', E, rfl, rfl, HI2.out, by have := HE.out; omega, HF.out⟩
                    · have kb5 : (kd == 5) = false := by simpa using k5
                      clear k5
                      by_cases k6 : kd = 6
                      · subst k6
                        as_aux_lemma =>
                          obtain ⟨S', mm, er, hI', hB⟩ := both_retire HK2.out HI.out
                          have HI2 := Hid.in hI'
                          have HBB := Hid.in hB
                          clear hI' hB
                          go_wp2_with (first
                            | (go_at_call 20; refine HBB.out.1.mono ?_; rintro e y1 ⟨rfl, t1, v1, K1⟩; have HY := Hid.in K1; clear t1; clear K1)
                            | (go_at_call 21; refine (HBB.out.2 _ _ HY.out).mono ?_; rintro e z1 ⟨rfl, rv1, K2⟩; have HZ := Hid.in K2; clear K2)
                            | (go_at_call 7; refine (ltold_of er _ (HGR.out _ HZ.out.gr)).mono ?_; rintro e z2 ⟨rfl, hb⟩; have HF := Hid.in (HZ.out.below hb); clear hb))
                          go_meet
                          exact ⟨_, _, _, S', E, rfl, rfl, HI2.out, by have := HE.out; omega, HF.out⟩
                      · have kb6 : (kd == 6) = false := by simpa using k6
                        clear k6
                        by_cases k7 : kd = 7
                        · subst k7
                          as_aux_lemma =>
                            obtain ⟨S', L, hI', hL, hB⟩ := both_squash HK2.out HI.out zz
                            have HI2 := Hid.in hI'
                            have HL := Hid.in hL
                            have HBB := Hid.in hB
                            clear hI' hL hB
                            go_wp2_with (first
                              | (go_at_call 22; refine HBB.out.mono ?_; rintro e y1 ⟨u, v1, rfl, K1, K1b⟩; have HYb := Hid.in K1b; clear K1 K1b)
                              | (go_at_call 23; refine HYb.out.mono ?_; rintro e z1 ⟨u2, rv1, rfl, K2⟩; obtain ⟨uq, ucap, hu1, -⟩ := own_ints K2.a; obtain ⟨u2q, u2c, hu2, -⟩ := K2.b; subst hu1; subst hu2; have HZ := Hid.in K2; clear K2)
                              | (go_at_call 14; refine (two_same HZ.out).mono ?_; rintro e z2 ⟨rfl, K3⟩; have HF := Hid.in K3; clear K3)
                              | (go_at_call 15; refine (two_own HF.out HL.out (by have := HE.out; omega)).mono ?_; rintro e z3 ⟨hv4, E4, rfl, hl4, K4⟩; have HX := Hid.in K4; have HLL := Hid.in hl4; clear K4 hl4))
                            go_meet
                            exact ⟨_, _, _, S', E4, rfl, rfl, HI2.out.mono (by omega), by have := HE.out; have := HLL.out; omega, HX.out⟩
                        · have kb7 : (kd == 7) = false := by simpa using k7
                          clear k7
                          as_aux_lemma =>
                            go_wp2_with fail
                            go_meet
                            exact ⟨_, _, _, S, E, rfl, rfl, HI.out.mono (by omega), by have := HE.out; omega, HK2.out⟩
        case rest =>
          clear HK2 HQ HNT HI HE c0 c1 c2 c3 c4 c9
          obtain ⟨hv', v', rv', S', E', rfl, rfl, hI', hE', hK'⟩ := hcut
          have HI := Hid.in hI'
          have HE := Hid.in hE'
          have HK := Hid.in hK'
          clear hI' hE' hK'
          have hEn : E'.length ≤ 8194 := by have := HE.out; omega
          as_aux_lemma =>
            go_upto_region 51 with (first
              | (go_at_call 24; refine (len_any _ _ _ _ _ _ _ HK.out.win).mono ?_; rintro e w4 ⟨rfl, hww⟩; have hww2 := hww.symm; clear hww; subst hww2)
              | (go_at_call 25; refine (head_any HK.out.win).mono ?_; rintro e w5 ⟨h0, dn, th, rfl, hb, hc⟩; have HK5 := Hid.in (HK.out.below hb); have HC := Hid.in hc; clear hb hc HK))
            obtain ⟨ln, hln⟩ : ∃ ln, ln = S'.on.length := ⟨_, rfl⟩
            rw [← hln]
            have HLN := Hid.in hln
            clear hln
            go_cut [296] (fun c wx => c = .bool false ∧ w5 = wx)
            case first =>
              obtain ⟨rq, rcap, hrv, rhc, rel⟩ := HK5.out.ans.see
              obtain ⟨d0, -, -, d2, -, -⟩ := HK5.out.ans.cells
              rw [hrv, ← HLN.out] at d2
              have hse := HK5.out.ans.small.1
              rw [← HLN.out] at hse rhc
              rcases HC.out with ⟨a1, a2, a3, a4⟩ | ⟨a1, a2, a3, a4⟩
              · obtain ⟨gg, e1, hgg, r0, -, -, -, r4, -⟩ := rel 0 a1
                subst e1
                simp only [Nat.zero_mul, Nat.zero_add] at r0 r4
                have r0' : w5.cell? ⟨gg, 0, none⟩ = some (.int .i64 h0) := by rw [a2]; exact r0
                obtain ⟨s0, hs0⟩ : ∃ s0, s0 = S'.st 0 := ⟨_, rfl⟩
                have r4' : w5.cell? ⟨gg, 4, none⟩ = some (.int .i64 s0) := by rw [hs0]; exact r4
                rw [← hs0] at a3
                have hl1 : (0 : Int) < (ln : Int) := by have := HLN.out; omega
                clear rel r0 r4 a1 a2 hs0 hrv HC
                subst a4
                by_cases hs2 : s0 = 2
                · subst hs2
                  obtain rfl : dn = true := by rw [a3]; rfl
                  clear a3
                  as_aux_lemma =>
                    go_wp2
                    go_meet
                    exact ⟨rfl, by first | rfl | trivial⟩
                · have hs3 : (s0 == 2) = false := by simpa using hs2
                  rw [hs3] at a3
                  subst a3
                  as_aux_lemma =>
                    go_wp2
                    go_meet
                    exact ⟨rfl, by first | rfl | trivial⟩
              · have hl0 : ln = 0 := by rw [HLN.out, a1]
                clear rel hrv HC a1
                subst hl0
                subst a2
                subst a3
                subst a4
                as_aux_lemma =>
                  go_wp2
                  go_meet
                  exact ⟨rfl, by first | rfl | trivial⟩
            case rest =>
              obtain ⟨rfl, rfl⟩ := hcut
              clear HC HLN
              obtain ⟨hq', hcap', hhv, hhc, -⟩ := own_pairs HK5.out.hs
              subst hhv
              as_aux_lemma =>
                go_wp2_with fail
                go_loopw [40] (fun iv wi => ∃ i : Nat, iv = .int .i64 i ∧ i ≤ E'.length ∧ Wl w wi r p h q s v' rv' (.slice hq' E'.length hcap') S' S' E') (fun iv _ => E'.length + 1 - (intOf iv).toNat)
                case atStart => exact ⟨0, rfl, Nat.zero_le _, HK5.out⟩
                case round =>
                  rename_i wi
                  obtain ⟨i, rfl, hi, hKi⟩ := hrel
                  have HKI := Hid.in hKi
                  clear hKi HK5
                  by_cases hil : i < E'.length
                  · obtain ⟨q3, c3, e3, -, hel⟩ := own_pairs HKI.out.hs
                    obtain ⟨g3, e4, hg3, a1, a2⟩ := hel i hil
                    have e5 : hq' = some ⟨g3, 0, none⟩ := by
                      simp only [Value.slice.injEq] at e3
                      rw [e3.1, e4]
                    subst e5
                    have hmem : E'.getD i nilP ∈ E' := by
                      rw [List.getD_eq_getElem?_getD, List.getElem?_eq_getElem hil]
                      exact List.getElem_mem hil
                    obtain ⟨⟨n3, F3, R1, R2⟩, -⟩ := HKI.out.el _ hmem
                    clear hel hmem e3 e4
                    generalize E'.getD i nilP = ee at a1 a2 R1 R2
                    obtain ⟨ea, eb⟩ := ee
                    dsimp only at a1 a2 R1 R2
                    have HR1 := R1
                    have HR2 := R2
                    obtain ⟨qa, ca, ha, -⟩ := R1
                    obtain ⟨qb, cb, hb, -⟩ := R2
                    subst ha
                    subst hb
                    have HR1 := Hid.in HR1
                    have HR2 := Hid.in HR2
                    rename_i hr1x hr2x
                    clear hr1x hr2x
                    as_aux_lemma =>
                      go_wp2_with (go_at_call 14; refine (same_any _ _ n3 F3 _ HR1.out HR2.out).mono ?_; rintro e y3 ⟨rfl, hb⟩; have HN3 := Hid.in (HKI.out.below hb); clear hb)
                      go_roundw
                      case rel => exact ⟨i + 1, by simp, by omega, HN3.out⟩
                      case measure => simp [intOf]; omega
                  · have hid : ¬ (i : Int) < (E'.length : Int) := by omega
                    as_aux_lemma =>
                      go_wp2
                      go_roundw
                      case rel => exact ⟨_, k + 1, v', rv', S', E', rfl, rfl, by simp, by omega, by omega, HI.out, HE.out, HKI.out⟩
                      case measure => simp [intOf]; omega
    · by_cases hk5 : k < m
      · obtain rfl : k = 4096 := by omega
        as_aux_lemma =>
          go_wp2
          go_ret
          exact ⟨rfl, HK.out.gr⟩
      · have hk6 : ¬ (k : Int) < (m : Int) := by omega
        as_aux_lemma =>
          go_wp2
          go_ret
          exact ⟨rfl, HK.out.gr⟩
end Go.Proofs.YtckglpmjaplcnaaDoor
