/-
  CACHE's LAW CacheSteps: the walk.
-/
import Derived.Test.YtljmmepjknfmcaaDoorLg
import Derived.Deep.CutBlock
import Derived.Deep.DeepCutAuto
import Derived.Deep.RegionHeld3
namespace Go.Proofs.YtljmmepjknfmcaaDoor
open Go Go.RowKit
set_option maxRecDepth 100000 in
set_option maxHeartbeats 20000000 in
theorem steps_good (n r : Nat) (wp : Option Addr) (m cw : Nat) (g : Nat → Nat → Int) (w : World) (hn : n = 1 ∨ n = 2 ∨ n = 4 ∨ n = 8 ∨ n = 16) (hr : 1 ≤ r ∧ r ≤ 4) (hw : OpsAt w wp m g) (hg : handleAt w) (hgs : 0 < w.heap.size) (hm : m ≤ 9223372036854775807) : Calls Tryd.prog 3 #[.int .i64 n, .int .i64 r, .slice wp m cw] w fun e w' => e = .returned (.bool true) ∧ Below w.heap.size w w' := by
  have HGR : Hid (∀ y, Below w.heap.size w y → handleAt y) := fun y hy => (hy.cell (p := ⟨0, 0, none⟩) hgs).trans hg
  have HW := Hid.in hw
  have HN := Hid.in hn
  have HR := Hid.in hr
  clear hg hgs hw hn hr
  go_enter Tryd.func3, Tryd.ntmps3
  go_wp2_with (first
    | (go_at_call 4; refine (new_good w.heap.size n r _ (Nat.le_refl _) HN.out HR.out).mono ?_; rintro e w1 ⟨p, h, rfl, k1, b1, -, -⟩; have HK1 := Hid.in k1; have HB1 := Hid.in b1; clear k1 b1)
    | (go_at_call 5; refine (rnew_good w.heap.size n r _ HB1.out.size HN.out HR.out).mono ?_; rintro e w2 ⟨rfl, k2, b2⟩; have HK2 := Hid.in k2; have HB2 := Hid.in b2; clear k2 b2)
    | (go_at_call 6; refine (ltold_nil _).mono ?_; rintro e w3 ⟨rfl, hb⟩; have HB := Hid.in hb; clear hb))
  have hst : ∃ q, w1.heap.size = q ∧ Lz w w3 p h n q (fun _ => .slice none 0 0) (.slice none 0 0) ⟨r, n, fun _ => []⟩ [] := ⟨_, rfl, (lz_start HK1.out HB1.out HK2.out HB2.out).below HB.out⟩
  obtain ⟨q, hq, hst⟩ := hst
  rw [hq]
  have HST := Hid.in hst
  have HSA : Hid (Same ⟨r, n, fun _ => []⟩ []) := Same.start n r (by have := HN.out; omega) HR.out
  clear hq hst HK1 HB1 HK2 HB2 HB
  go_loopw [11, 12] (fun okv kv wr => ∃ (k : Nat) (V : Nat → Value) (rv : Value) (S : CS) (R : List Ln), okv = .bool true ∧ kv = .int .i64 k ∧ k ≤ m ∧ k ≤ 4096 ∧ Lz w wr p h n q V rv S R ∧ Same S R) (fun _ kv _ => m + 1 - (intOf kv).toNat)
  case atStart => exact ⟨0, _, _, _, _, rfl, rfl, Nat.zero_le _, Nat.zero_le _, HST.out, HSA.out⟩
  case round =>
    obtain ⟨k, V, rv, S, R, rfl, rfl, hk, hk4, hK, hS⟩ := hrel
    have HK := Hid.in hK
    have HS := Hid.in hS
    clear hK hS HST HSA
    by_cases hlt : k < m ∧ k < 4096
    · obtain ⟨hk1, hk2⟩ := hlt
      obtain ⟨sb, so, rfl, hsb, s0, s1, s2, s3⟩ := HW.out k hk1
      have e0 := (HK.out.low.cell (p := ⟨sb, so + k * 4, none⟩) hsb).trans s0
      have e1 := (HK.out.low.cell (p := ⟨sb, so + k * 4 + 1, none⟩) hsb).trans s1
      have e2 := (HK.out.low.cell (p := ⟨sb, so + k * 4 + 2, none⟩) hsb).trans s2
      have e3 := (HK.out.low.cell (p := ⟨sb, so + k * 4 + 3, none⟩) hsb).trans s3
      have hsb' : sb < wr.heap.size := Nat.lt_of_lt_of_le hsb HK.out.low.size
      generalize g k 0 = kd at e0
      generalize g k 1 = ga at e1
      generalize g k 2 = gb at e2
      generalize g k 3 = gc at e3
      clear hsb s0 s1 s2 s3
      go_upto_region 10 with fail
      obtain ⟨wq, hwq⟩ : ∃ x, x = wr.alloc (.cells #[.int .i64 kd, .int .i64 ga, .int .i64 gb, .int .i64 gc] 35) := ⟨_, rfl⟩
      rw [← hwq]
      have HQ : Hid (CellsAt 4 wq wr.heap.size (ov4 kd ga gb gc)) := by rw [hwq]; exact ov4_new wr kd ga gb gc
      have HK2 : Hid (Lz w wq p h n q V rv S R) := by rw [hwq]; exact HK.out.below ((Below.refl _ _).alloc (Nat.le_refl _) _)
      have HNT : Hid (¬ mine p h S.n V wr.heap.size) := fun t => by have := (HK.out.mineLo _ t).2; omega
      have HNQ : Hid (¬ (wr.heap.size = q ∨ rv.ownBlock = some wr.heap.size)) := fun t => by
        rcases t with t | t
        · have := HK.out.rc.c.here
          omega
        · have := (HK.out.rvLo _ t).2
          omega
      clear hwq e0 e1 e2 e3 HK hsb'
      generalize wr.heap.size = ob at HQ HNT HNQ ⊢
      obtain ⟨c0, c1, c2, c3, c9⟩ := op_cells0 HQ.out
      obtain ⟨an, han⟩ : ∃ an : Nat, ga % 4294967296 = an := ⟨(ga % 4294967296).toNat, by omega⟩
      have hanl : an < 4294967296 := by omega
      obtain ⟨dn, hdn⟩ : ∃ dn : Nat, gc % 4294967296 = dn := ⟨(gc % 4294967296).toNat, by omega⟩
      have hdnl : dn < 4294967296 := by omega
      have HDN := Hid.in hdn
      clear hdn
      go_upto_block 2 with fail
      rw [han]
      clear c1 han
      go_cut [11] (fun okv wd => ∃ (V' : Nat → Value) (rv' : Value) (S' : CS) (R' : List Ln), okv = .bool true ∧ Lz w wd p h n q V' rv' S' R' ∧ Same S' R')
      case first =>
        clear c0
        by_cases k0 : kd = 0
        · subst k0
          as_aux_lemma =>
            obtain ⟨s, hB⟩ := both_state HK2.out HS.out an hanl
            have HBB := Hid.in hB
            clear hB
            go_wp2_with (first
              | (go_at_call 7; refine HBB.out.1.mono ?_; rintro e y1 ⟨rfl, t1, V1, K1, -⟩; have HY := Hid.in K1; clear t1 K1)
              | (go_at_call 8; refine (HBB.out.2 _ _ HY.out).mono ?_; rintro e z1 ⟨rfl, t2, rv1, K2, -⟩; have HZ := Hid.in K2; clear t2 K2))
            go_meet
            exact ⟨_, _, S, R, rfl, HZ.out, HS.out⟩
        · have kb0 : (kd == 0) = false := by simpa using k0
          clear k0
          by_cases k1 : kd = 1
          · subst k1
            as_aux_lemma =>
              obtain ⟨S', R', v, ok, hS', hB⟩ := both_read HK2.out HS.out an gb hanl
              have HBB := Hid.in hB
              have HS' := Hid.in hS'
              clear hB hS'
              go_wp2_with (first
                | (go_at_call 9; refine HBB.out.1.mono ?_; rintro e y1 ⟨rfl, t1, V1, K1, -⟩; have HY := Hid.in K1; obtain ⟨c2, c3, c9⟩ := op_cells (t1.cells HQ.out HNT.out); clear t1 K1)
                | (go_at_call 10; refine (HBB.out.2 _ _ HY.out).mono ?_; rintro e z1 ⟨rfl, t2, rv1, K2, -⟩; have HZ := Hid.in K2; clear t2 K2))
              go_meet
              exact ⟨_, _, S', R', rfl, HZ.out, HS'.out⟩
          · have kb1 : (kd == 1) = false := by simpa using k1
            clear k1
            by_cases k2 : kd = 2
            · subst k2
              as_aux_lemma =>
                obtain ⟨S', R', ok, hS', hB⟩ := both_write HK2.out HS.out an gb dn hanl hdnl
                have HBB := Hid.in hB
                have HS' := Hid.in hS'
                clear hB hS'
                go_wp2_with (first
                  | (go_at_call 11; rw [HDN.out]; refine HBB.out.1.mono ?_; rintro e y1 ⟨rfl, t1, V1, K1, -⟩; have HY := Hid.in K1; obtain ⟨c2, c3, c9⟩ := op_cells (t1.cells HQ.out HNT.out); clear t1 K1)
                  | (go_at_call 12; rw [HDN.out]; refine (HBB.out.2 _ _ HY.out).mono ?_; rintro e z1 ⟨rfl, t2, rv1, K2, -⟩; have HZ := Hid.in K2; clear t2 K2))
                go_meet
                exact ⟨_, _, S', R', rfl, HZ.out, HS'.out⟩
            · have kb2 : (kd == 2) = false := by simpa using k2
              clear k2
              by_cases k3 : kd = 3
              · subst k3
                as_aux_lemma =>
                  have bd : Below wq.heap.size wq wq.drew := ((Turned.refl (fun _ => False) wq).drew).below (Nat.le_refl _) (fun _ q => q.elim)
                  have HKD := Hid.in (HK2.out.below bd)
                  have hQD := (Turned.of_below (Q := fun _ => False) bd).cells HQ.out (fun q => q)
                  clear bd
                  go_upto_region 26 with fail
                  go_cut [24, 25, 26] (fun l f er wd => M1 w p h n q rv R ob ga gb gc an l f er wd)
                  case first =>
                    as_aux_lemma =>
                      clear c2 c3
                      obtain ⟨c2, c3, c9⟩ := op_cells hQD
                      have HQD := Hid.in hQD
                      clear hQD
                      refine wp_region_held_drew (S := fun w' => w'.cell? ⟨ob, 2, none⟩ = some (.int .i64 gb) ∧ w'.cell? ⟨ob, 3, none⟩ = some (.int .i64 gc)) (by kernel_rfl) ?_ (fun hHeld => ?_)
                      · exact ⟨c2, c3⟩
                      generalize wq.drew = W0 at HKD HQD hHeld ⊢
                      clear c2 c3 c9 HK2 HQ
                      refine wpAnyH_take (i := 0) (oi := { dst := some 146, op := Op.move (Operand.tmp 7), type := 23, pos := "law.go:63", after := #[], guard := none }) (v := ?_) rfl (by kernel_rfl) (by kernel_rfl) (by kernel_rfl) (fun _ _ _ h => h) (Or.inl ⟨by rfl, ?_⟩) (by assumption) ?_
                      rotate_left
                      · (intro w hSw; (try dsimp only at hSw); (go_simp <;> with_reducible rfl))
                      try simp only [Act.put, List.setIfInBounds_toArray, List.set_cons_zero, List.set_cons_succ]
                      refine wpAnyH_take (i := 1) (oi := { dst := some 147, op := Op.move (Operand.tmp 14), type := 36, pos := "law.go:63", after := #[], guard := none }) (v := ?_) rfl (by kernel_rfl) (by kernel_rfl) (by kernel_rfl) (fun _ _ _ h => h) (Or.inl ⟨by rfl, ?_⟩) (by assumption) ?_
                      rotate_left
                      · (intro w hSw; (try dsimp only at hSw); (go_simp <;> with_reducible rfl))
                      try simp only [Act.put, List.setIfInBounds_toArray, List.set_cons_zero, List.set_cons_succ]
                      refine wpAnyH_take (i := 2) (oi := { dst := some 148, op := Op.fieldAddr 35 (Operand.tmp 13) 2, type := 0, pos := "law.go:63", after := #[], guard := none }) (v := ?_) rfl (by kernel_rfl) (by kernel_rfl) (by kernel_rfl) (fun _ _ _ h => h) (Or.inl ⟨by rfl, ?_⟩) (by assumption) ?_
                      rotate_left
                      · (intro w hSw; (try dsimp only at hSw); (go_simp <;> with_reducible rfl))
                      try simp only [Act.put, List.setIfInBounds_toArray, List.set_cons_zero, List.set_cons_succ]
                      refine wpAnyH_take (i := 3) (oi := { dst := some 149, op := Op.load 3 (Operand.tmp 148), type := 3, pos := "law.go:63", after := #[{ on := 2, ground := Go.Ground.data }], guard := none }) (v := ?_) rfl (by kernel_rfl) (by kernel_rfl) (by kernel_rfl) (fun _ _ _ h => h) (Or.inl ⟨by rfl, ?_⟩) (by assumption) ?_
                      rotate_left
                      · (intro w hSw; (try dsimp only at hSw); (go_simp <;> with_reducible rfl))
                      try simp only [Act.put, List.setIfInBounds_toArray, List.set_cons_zero, List.set_cons_succ]
                      refine wpAnyH_take (i := 5) (oi := { dst := some 151, op := Op.fieldAddr 35 (Operand.tmp 13) 3, type := 0, pos := "law.go:63", after := #[], guard := none }) (v := ?_) rfl (by kernel_rfl) (by kernel_rfl) (by kernel_rfl) (fun _ _ _ h => h) (Or.inl ⟨by rfl, ?_⟩) (by assumption) ?_
                      rotate_left
                      · (intro w hSw; (try dsimp only at hSw); (go_simp <;> with_reducible rfl))
                      try simp only [Act.put, List.setIfInBounds_toArray, List.set_cons_zero, List.set_cons_succ]
                      refine wpAnyH_take (i := 6) (oi := { dst := some 152, op := Op.load 3 (Operand.tmp 151), type := 3, pos := "law.go:63", after := #[{ on := 5, ground := Go.Ground.data }], guard := none }) (v := ?_) rfl (by kernel_rfl) (by kernel_rfl) (by kernel_rfl) (fun _ _ _ h => h) (Or.inl ⟨by rfl, ?_⟩) (by assumption) ?_
                      rotate_left
                      · (intro w hSw; (try dsimp only at hSw); (go_simp <;> with_reducible rfl))
                      try simp only [Act.put, List.setIfInBounds_toArray, List.set_cons_zero, List.set_cons_succ]
                      refine wpAnyH_ready (rs := [4, 12]) (by kernel_rfl) (by simp) ?_
                      refine AllReadyH.cons (o := { dst := some 150, op := Op.call { callee := Callee.value (Operand.func 14), args := #[Operand.tmp 149], argTypes := #[3] }, type := 45, pos := "law.go:63", after := #[{ on := 3, ground := Go.Ground.data }], guard := none }) rfl (fun K hK => ?_) ?_
                      · go_simp
                        go_at_call 14
                        refine (made_any gb _).mono ?_
                        rintro e y0 ⟨rfl, hb0⟩
                        have HK0 : Hid (Lz w y0 p h n q V rv S R) := HKD.out.below hb0
                        have HQ0 : Hid (CellsAt 4 y0 ob (ov4 3 ga gb gc)) := (Turned.of_below (Q := fun _ => False) hb0).cells HQD.out (fun q => q)
                        clear hb0
                        go_wp2_with fail
                        refine hK.out _ _ ?_ (fun hHeld2 => ?_)
                        · exact ⟨(op_cells HQ0.out).1, (op_cells HQ0.out).2.1⟩
                        clear hK K hHeld
                        have hHeld := hHeld2
                        clear hHeld2
                        try simp only [Act.put, List.setIfInBounds_toArray, List.set_cons_zero, List.set_cons_succ]
                        refine wpAnyH_ready (rs := [7, 12]) (by kernel_rfl) (by simp) ?_
                        refine AllReadyH.cons (o := { dst := some 153, op := Op.call { callee := Callee.value (Operand.func 13), args := #[Operand.tmp 146, Operand.tmp 147, Operand.tmp 150, Operand.tmp 152], argTypes := #[23, 36, 45, 37] }, type := 48, pos := "law.go:63", after := #[{ on := 0, ground := Go.Ground.data }, { on := 1, ground := Go.Ground.data }, { on := 4, ground := Go.Ground.data }, { on := 6, ground := Go.Ground.data }, { on := 4, ground := Go.Ground.chain }], guard := none }) rfl (fun K hK => ?_) ?_
                        · go_simp
                          go_at_call 13
                          obtain ⟨E, fl, e, hF⟩ := m1_fill HK0.out HS.out ob ga gb gc an hanl HQ0.out HNT.out
                          refine hF.mono ?_
                          clear hF
                          rintro e1 y1 ⟨rfl, ho1, hA, hN⟩
                          obtain ⟨ea, hea⟩ : ∃ ea, E.vs.toArray = ea := ⟨_, rfl⟩
                          obtain ⟨ev, hev⟩ : ∃ ev, errOf e = ev := ⟨_, rfl⟩
                          have HO1 := Hid.in ho1
                          have HG := Hid.in (hN zl 47 rfl)
                          rw [hea, hev]
                          have HEA := Hid.in hea
                          have HEV := Hid.in hev
                          clear hA hN ho1 hea hev
                          go_wp2_with fail
                          refine hK.out _ _ ?_ (fun hHeld2 => ?_)
                          · exact ⟨(op_cells HO1.out).1, (op_cells HO1.out).2.1⟩
                          clear hK K hHeld
                          have hHeld := hHeld2
                          clear hHeld2
                          try simp only [Act.put, List.setIfInBounds_toArray, List.set_cons_zero, List.set_cons_succ]
                          refine wpAnyH_take (i := 8) (oi := { dst := some 145, op := Op.move (Operand.tmp 153), type := 48, pos := "law.go:63", after := #[{ on := 7, ground := Go.Ground.data }], guard := none }) (v := ?_) rfl (by kernel_rfl) (by kernel_rfl) (by kernel_rfl) (fun _ _ _ h => h) (Or.inl ⟨by rfl, ?_⟩) (by assumption) ?_
                          rotate_left
                          · (intro w hSw; (try dsimp only at hSw); (go_simp <;> with_reducible rfl))
                          try simp only [Act.put, List.setIfInBounds_toArray, List.set_cons_zero, List.set_cons_succ]
                          refine wpAnyH_take (i := 9) (oi := { dst := some 154, op := Op.extract (Operand.tmp 145) 0, type := 47, pos := "law.go:63", after := #[{ on := 8, ground := Go.Ground.data }], guard := none }) (v := ?_) rfl (by kernel_rfl) (by kernel_rfl) (by kernel_rfl) (fun _ _ _ h => h) (Or.inl ⟨by rfl, ?_⟩) (by assumption) ?_
                          rotate_left
                          · (intro w hSw; (try dsimp only at hSw); (go_simp <;> with_reducible rfl))
                          try simp only [Act.put, List.setIfInBounds_toArray, List.set_cons_zero, List.set_cons_succ]
                          refine wpAnyH_take (i := 10) (oi := { dst := some 155, op := Op.extract (Operand.tmp 145) 1, type := 4, pos := "law.go:63", after := #[{ on := 8, ground := Go.Ground.data }, { on := 13, ground := Go.Ground.gcOnly Go.Departure.lateStores }], guard := none }) (v := ?_) rfl (by kernel_rfl) (by kernel_rfl) (by kernel_rfl) (fun _ _ _ h => h) (Or.inl ⟨by rfl, ?_⟩) (by assumption) ?_
                          rotate_left
                          · (intro w hSw; (try dsimp only at hSw); (go_simp <;> with_reducible rfl))
                          try simp only [Act.put, List.setIfInBounds_toArray, List.set_cons_zero, List.set_cons_succ]
                          refine wpAnyH_take (i := 11) (oi := { dst := some 156, op := Op.extract (Operand.tmp 145) 2, type := 25, pos := "law.go:63", after := #[{ on := 8, ground := Go.Ground.data }, { on := 14, ground := Go.Ground.gcOnly Go.Departure.lateStores }], guard := none }) (v := ?_) rfl (by kernel_rfl) (by kernel_rfl) (by kernel_rfl) (fun _ _ _ h => h) (Or.inl ⟨by rfl, ?_⟩) (by assumption) ?_
                          rotate_left
                          · (intro w hSw; (try dsimp only at hSw); (go_simp <;> with_reducible rfl))
                          try simp only [Act.put, List.setIfInBounds_toArray, List.set_cons_zero, List.set_cons_succ]
                          refine wpAnyH_ready (rs := [12]) (by kernel_rfl) (by simp) ?_
                          refine AllReadyH.cons (o := { dst := some 24, op := Op.alloc 47, type := 0, pos := "law.go:63", after := #[], guard := none }) rfl (fun K hK => ?_) ?_
                          · go_simp
                            refine hK.out _ _ ?_ (fun hHeld2 => ?_)
                            · exact ⟨(op_cells ((Turned.of_below (Q := fun _ => False) ((Below.refl _ _).alloc (Nat.le_refl _) _)).cells HO1.out (fun q => q))).1, (op_cells ((Turned.of_below (Q := fun _ => False) ((Below.refl _ _).alloc (Nat.le_refl _) _)).cells HO1.out (fun q => q))).2.1⟩
                            clear hK K hHeld
                            have hHeld := hHeld2
                            clear hHeld2
                            try simp only [Act.put, List.setIfInBounds_toArray, List.set_cons_zero, List.set_cons_succ]
                            refine wpAnyH_ready (rs := [13]) (by kernel_rfl) (by simp) ?_
                            refine AllReadyH.cons (o := { dst := none, op := Op.store 47 (Operand.tmp 24) (Operand.tmp 154), type := 0, pos := "law.go:63", after := #[{ on := 12, ground := Go.Ground.data }, { on := 9, ground := Go.Ground.data }, { on := 7, ground := Go.Ground.chain }, { on := 0, ground := Go.Ground.phase }, { on := 1, ground := Go.Ground.phase }, { on := 2, ground := Go.Ground.phase }, { on := 3, ground := Go.Ground.phase }, { on := 4, ground := Go.Ground.phase }, { on := 5, ground := Go.Ground.phase }, { on := 6, ground := Go.Ground.phase }, { on := 7, ground := Go.Ground.phase }, { on := 8, ground := Go.Ground.phase }, { on := 9, ground := Go.Ground.phase }, { on := 10, ground := Go.Ground.textOnly Go.Departure.lateStores }, { on := 11, ground := Go.Ground.textOnly Go.Departure.lateStores }, { on := 12, ground := Go.Ground.phase }], guard := none }) rfl (fun K hK => ?_) ?_
                            · rw [if_pos (by rfl)]
                              refine wp_store_mid _ _ _ rfl _ _ ea rfl rfl ?_ ?_ ?_ ?_
                              · (rw [← HEA.out, Ln.sizeA]; exact HG.out.1)
                              · (rw [line_info, ← HEA.out, Ln.sizeA])
                              · (rw [← HEA.out]; exact E.oneA)
                              rw [← HEA.out, List.toList_toArray]
                              refine hK.out _ _ ?_ (fun hHeld2 => ?_)
                              · exact ⟨(op_cells HG.out.2.2.1).1, (op_cells HG.out.2.2.1).2.1⟩
                              clear hK K hHeld
                              have hHeld := hHeld2
                              clear hHeld2
                              simp only [Act.put]
                              refine wpAnyH_take (i := 14) (oi := { dst := some 25, op := Op.assign (Operand.tmp 155), type := 4, pos := "law.go:63", after := #[{ on := 10, ground := Go.Ground.data }, { on := 13, ground := Go.Ground.chain }, { on := 0, ground := Go.Ground.phase }, { on := 1, ground := Go.Ground.phase }, { on := 2, ground := Go.Ground.phase }, { on := 3, ground := Go.Ground.phase }, { on := 4, ground := Go.Ground.phase }, { on := 5, ground := Go.Ground.phase }, { on := 6, ground := Go.Ground.phase }, { on := 7, ground := Go.Ground.phase }, { on := 8, ground := Go.Ground.phase }, { on := 9, ground := Go.Ground.phase }, { on := 10, ground := Go.Ground.phase }, { on := 11, ground := Go.Ground.textOnly Go.Departure.lateStores }, { on := 12, ground := Go.Ground.phase }, { on := 13, ground := Go.Ground.phase }], guard := none }) (v := ?_) rfl (by kernel_rfl) (by kernel_rfl) (by kernel_rfl) (fun _ _ _ h => h) (Or.inl ⟨by rfl, ?_⟩) (by assumption) ?_
                              rotate_left
                              · (intro w hSw; (try dsimp only at hSw); (go_simp <;> with_reducible rfl))
                              try simp only [Act.put, List.setIfInBounds_toArray, List.set_cons_zero, List.set_cons_succ]
                              refine wpAnyH_take (i := 15) (oi := { dst := some 26, op := Op.assign (Operand.tmp 156), type := 25, pos := "law.go:63", after := #[{ on := 11, ground := Go.Ground.data }, { on := 14, ground := Go.Ground.chain }, { on := 0, ground := Go.Ground.phase }, { on := 1, ground := Go.Ground.phase }, { on := 2, ground := Go.Ground.phase }, { on := 3, ground := Go.Ground.phase }, { on := 4, ground := Go.Ground.phase }, { on := 5, ground := Go.Ground.phase }, { on := 6, ground := Go.Ground.phase }, { on := 7, ground := Go.Ground.phase }, { on := 8, ground := Go.Ground.phase }, { on := 9, ground := Go.Ground.phase }, { on := 10, ground := Go.Ground.phase }, { on := 11, ground := Go.Ground.phase }, { on := 12, ground := Go.Ground.phase }, { on := 13, ground := Go.Ground.phase }, { on := 14, ground := Go.Ground.phase }], guard := none }) (v := ?_) rfl (by kernel_rfl) (by kernel_rfl) (by kernel_rfl) (fun _ _ _ h => h) (Or.inl ⟨by rfl, ?_⟩) (by assumption) ?_
                              rotate_left
                              · (intro w hSw; (try dsimp only at hSw); (go_simp <;> with_reducible rfl))
                              try simp only [Act.put, List.setIfInBounds_toArray, List.set_cons_zero, List.set_cons_succ]
                              refine wpAnyH_done (by kernel_rfl) ?_ _
                              go_wp2_with fail
                              go_meet
                              rw [← HEV.out]
                              exact HG.out.2.2.2
                            exact AllReadyH.nil
                          exact AllReadyH.nil
                        refine AllReadyH.cons (o := { dst := some 24, op := Op.alloc 47, type := 0, pos := "law.go:63", after := #[], guard := none }) rfl (fun K hK => ?_) ?_
                        · go_simp
                          refine hK.out _ _ ?_ (fun hHeld2 => ?_)
                          · exact ⟨(op_cells ((Turned.of_below (Q := fun _ => False) ((Below.refl _ _).alloc (Nat.le_refl _) _)).cells HQ0.out (fun q => q))).1, (op_cells ((Turned.of_below (Q := fun _ => False) ((Below.refl _ _).alloc (Nat.le_refl _) _)).cells HQ0.out (fun q => q))).2.1⟩
                          clear hK K hHeld
                          have hHeld := hHeld2
                          clear hHeld2
                          try simp only [Act.put, List.setIfInBounds_toArray, List.set_cons_zero, List.set_cons_succ]
                          refine wpAnyH_ready (rs := [7]) (by kernel_rfl) (by simp) ?_
                          refine AllReadyH.cons (o := { dst := some 153, op := Op.call { callee := Callee.value (Operand.func 13), args := #[Operand.tmp 146, Operand.tmp 147, Operand.tmp 150, Operand.tmp 152], argTypes := #[23, 36, 45, 37] }, type := 48, pos := "law.go:63", after := #[{ on := 0, ground := Go.Ground.data }, { on := 1, ground := Go.Ground.data }, { on := 4, ground := Go.Ground.data }, { on := 6, ground := Go.Ground.data }, { on := 4, ground := Go.Ground.chain }], guard := none }) rfl (fun K hK => ?_) ?_
                          · go_simp
                            go_at_call 13
                            obtain ⟨E, fl, e, hF⟩ := m1_fill (HK0.out.below ((Below.refl _ _).alloc (Nat.le_refl _) (.cells zl 47))) HS.out ob ga gb gc an hanl ((Turned.of_below (Q := fun _ => False) ((Below.refl _ _).alloc (Nat.le_refl _) _)).cells HQ0.out (fun q => q)) HNT.out
                            refine hF.mono ?_
                            clear hF
                            rintro e1 y1 ⟨rfl, ho1, hA, hN⟩
                            obtain ⟨ea, hea⟩ : ∃ ea, E.vs.toArray = ea := ⟨_, rfl⟩
                            obtain ⟨ev, hev⟩ : ∃ ev, errOf e = ev := ⟨_, rfl⟩
                            have HO1 := Hid.in ho1
                            have HG := Hid.in (hA _ (Fr.new HK0.out zl rfl 47) (by have := HQ0.out.here; omega))
                            rw [hea, hev]
                            have HEA := Hid.in hea
                            have HEV := Hid.in hev
                            clear hA hN ho1 hea hev
                            go_wp2_with fail
                            refine hK.out _ _ ?_ (fun hHeld2 => ?_)
                            · exact ⟨(op_cells HO1.out).1, (op_cells HO1.out).2.1⟩
                            clear hK K hHeld
                            have hHeld := hHeld2
                            clear hHeld2
                            try simp only [Act.put, List.setIfInBounds_toArray, List.set_cons_zero, List.set_cons_succ]
                            refine wpAnyH_take (i := 8) (oi := { dst := some 145, op := Op.move (Operand.tmp 153), type := 48, pos := "law.go:63", after := #[{ on := 7, ground := Go.Ground.data }], guard := none }) (v := ?_) rfl (by kernel_rfl) (by kernel_rfl) (by kernel_rfl) (fun _ _ _ h => h) (Or.inl ⟨by rfl, ?_⟩) (by assumption) ?_
                            rotate_left
                            · (intro w hSw; (try dsimp only at hSw); (go_simp <;> with_reducible rfl))
                            try simp only [Act.put, List.setIfInBounds_toArray, List.set_cons_zero, List.set_cons_succ]
                            refine wpAnyH_take (i := 9) (oi := { dst := some 154, op := Op.extract (Operand.tmp 145) 0, type := 47, pos := "law.go:63", after := #[{ on := 8, ground := Go.Ground.data }], guard := none }) (v := ?_) rfl (by kernel_rfl) (by kernel_rfl) (by kernel_rfl) (fun _ _ _ h => h) (Or.inl ⟨by rfl, ?_⟩) (by assumption) ?_
                            rotate_left
                            · (intro w hSw; (try dsimp only at hSw); (go_simp <;> with_reducible rfl))
                            try simp only [Act.put, List.setIfInBounds_toArray, List.set_cons_zero, List.set_cons_succ]
                            refine wpAnyH_take (i := 10) (oi := { dst := some 155, op := Op.extract (Operand.tmp 145) 1, type := 4, pos := "law.go:63", after := #[{ on := 8, ground := Go.Ground.data }, { on := 13, ground := Go.Ground.gcOnly Go.Departure.lateStores }], guard := none }) (v := ?_) rfl (by kernel_rfl) (by kernel_rfl) (by kernel_rfl) (fun _ _ _ h => h) (Or.inl ⟨by rfl, ?_⟩) (by assumption) ?_
                            rotate_left
                            · (intro w hSw; (try dsimp only at hSw); (go_simp <;> with_reducible rfl))
                            try simp only [Act.put, List.setIfInBounds_toArray, List.set_cons_zero, List.set_cons_succ]
                            refine wpAnyH_take (i := 11) (oi := { dst := some 156, op := Op.extract (Operand.tmp 145) 2, type := 25, pos := "law.go:63", after := #[{ on := 8, ground := Go.Ground.data }, { on := 14, ground := Go.Ground.gcOnly Go.Departure.lateStores }], guard := none }) (v := ?_) rfl (by kernel_rfl) (by kernel_rfl) (by kernel_rfl) (fun _ _ _ h => h) (Or.inl ⟨by rfl, ?_⟩) (by assumption) ?_
                            rotate_left
                            · (intro w hSw; (try dsimp only at hSw); (go_simp <;> with_reducible rfl))
                            try simp only [Act.put, List.setIfInBounds_toArray, List.set_cons_zero, List.set_cons_succ]
                            refine wpAnyH_ready (rs := [13]) (by kernel_rfl) (by simp) ?_
                            refine AllReadyH.cons (o := { dst := none, op := Op.store 47 (Operand.tmp 24) (Operand.tmp 154), type := 0, pos := "law.go:63", after := #[{ on := 12, ground := Go.Ground.data }, { on := 9, ground := Go.Ground.data }, { on := 7, ground := Go.Ground.chain }, { on := 0, ground := Go.Ground.phase }, { on := 1, ground := Go.Ground.phase }, { on := 2, ground := Go.Ground.phase }, { on := 3, ground := Go.Ground.phase }, { on := 4, ground := Go.Ground.phase }, { on := 5, ground := Go.Ground.phase }, { on := 6, ground := Go.Ground.phase }, { on := 7, ground := Go.Ground.phase }, { on := 8, ground := Go.Ground.phase }, { on := 9, ground := Go.Ground.phase }, { on := 10, ground := Go.Ground.textOnly Go.Departure.lateStores }, { on := 11, ground := Go.Ground.textOnly Go.Departure.lateStores }, { on := 12, ground := Go.Ground.phase }], guard := none }) rfl (fun K hK => ?_) ?_
                            · rw [if_pos (by rfl)]
                              refine wp_store_mid _ _ _ rfl _ _ ea rfl rfl ?_ ?_ ?_ ?_
                              · (rw [← HEA.out, Ln.sizeA]; exact HG.out.1)
                              · (rw [line_info, ← HEA.out, Ln.sizeA])
                              · (rw [← HEA.out]; exact E.oneA)
                              rw [← HEA.out, List.toList_toArray]
                              refine hK.out _ _ ?_ (fun hHeld2 => ?_)
                              · exact ⟨(op_cells HG.out.2.1).1, (op_cells HG.out.2.1).2.1⟩
                              clear hK K hHeld
                              have hHeld := hHeld2
                              clear hHeld2
                              simp only [Act.put]
                              refine wpAnyH_take (i := 14) (oi := { dst := some 25, op := Op.assign (Operand.tmp 155), type := 4, pos := "law.go:63", after := #[{ on := 10, ground := Go.Ground.data }, { on := 13, ground := Go.Ground.chain }, { on := 0, ground := Go.Ground.phase }, { on := 1, ground := Go.Ground.phase }, { on := 2, ground := Go.Ground.phase }, { on := 3, ground := Go.Ground.phase }, { on := 4, ground := Go.Ground.phase }, { on := 5, ground := Go.Ground.phase }, { on := 6, ground := Go.Ground.phase }, { on := 7, ground := Go.Ground.phase }, { on := 8, ground := Go.Ground.phase }, { on := 9, ground := Go.Ground.phase }, { on := 10, ground := Go.Ground.phase }, { on := 11, ground := Go.Ground.textOnly Go.Departure.lateStores }, { on := 12, ground := Go.Ground.phase }, { on := 13, ground := Go.Ground.phase }], guard := none }) (v := ?_) rfl (by kernel_rfl) (by kernel_rfl) (by kernel_rfl) (fun _ _ _ h => h) (Or.inl ⟨by rfl, ?_⟩) (by assumption) ?_
                              rotate_left
                              · (intro w hSw; (try dsimp only at hSw); (go_simp <;> with_reducible rfl))
                              try simp only [Act.put, List.setIfInBounds_toArray, List.set_cons_zero, List.set_cons_succ]
                              refine wpAnyH_take (i := 15) (oi := { dst := some 26, op := Op.assign (Operand.tmp 156), type := 25, pos := "law.go:63", after := #[{ on := 11, ground := Go.Ground.data }, { on := 14, ground := Go.Ground.chain }, { on := 0, ground := Go.Ground.phase }, { on := 1, ground := Go.Ground.phase }, { on := 2, ground := Go.Ground.phase }, { on := 3, ground := Go.Ground.phase }, { on := 4, ground := Go.Ground.phase }, { on := 5, ground := Go.Ground.phase }, { on := 6, ground := Go.Ground.phase }, { on := 7, ground := Go.Ground.phase }, { on := 8, ground := Go.Ground.phase }, { on := 9, ground := Go.Ground.phase }, { on := 10, ground := Go.Ground.phase }, { on := 11, ground := Go.Ground.phase }, { on := 12, ground := Go.Ground.phase }, { on := 13, ground := Go.Ground.phase }, { on := 14, ground := Go.Ground.phase }], guard := none }) (v := ?_) rfl (by kernel_rfl) (by kernel_rfl) (by kernel_rfl) (fun _ _ _ h => h) (Or.inl ⟨by rfl, ?_⟩) (by assumption) ?_
                              rotate_left
                              · (intro w hSw; (try dsimp only at hSw); (go_simp <;> with_reducible rfl))
                              try simp only [Act.put, List.setIfInBounds_toArray, List.set_cons_zero, List.set_cons_succ]
                              refine wpAnyH_done (by kernel_rfl) ?_ _
                              go_wp2_with fail
                              go_meet
                              rw [← HEV.out]
                              exact HG.out.2.2
                            exact AllReadyH.nil
                          exact AllReadyH.nil
                        exact AllReadyH.nil
                      refine AllReadyH.cons (o := { dst := some 24, op := Op.alloc 47, type := 0, pos := "law.go:63", after := #[], guard := none }) rfl (fun K hK => ?_) ?_
                      · go_simp
                        refine hK.out _ _ ?_ (fun hHeld2 => ?_)
                        · exact ⟨(op_cells ((Turned.of_below (Q := fun _ => False) ((Below.refl _ _).alloc (Nat.le_refl _) _)).cells HQD.out (fun q => q))).1, (op_cells ((Turned.of_below (Q := fun _ => False) ((Below.refl _ _).alloc (Nat.le_refl _) _)).cells HQD.out (fun q => q))).2.1⟩
                        clear hK K hHeld
                        have hHeld := hHeld2
                        clear hHeld2
                        try simp only [Act.put, List.setIfInBounds_toArray, List.set_cons_zero, List.set_cons_succ]
                        refine wpAnyH_ready (rs := [4]) (by kernel_rfl) (by simp) ?_
                        refine AllReadyH.cons (o := { dst := some 150, op := Op.call { callee := Callee.value (Operand.func 14), args := #[Operand.tmp 149], argTypes := #[3] }, type := 45, pos := "law.go:63", after := #[{ on := 3, ground := Go.Ground.data }], guard := none }) rfl (fun K hK => ?_) ?_
                        · go_simp
                          go_at_call 14
                          refine (made_any gb _).mono ?_
                          rintro e y0 ⟨rfl, hb0⟩
                          have HK0 : Hid (Lz w y0 p h n q V rv S R) := (HKD.out.below ((Below.refl _ _).alloc (Nat.le_refl _) _)).below hb0
                          have HQ0 : Hid (CellsAt 4 y0 ob (ov4 3 ga gb gc)) := (Turned.of_below (Q := fun _ => False) hb0).cells ((Turned.of_below (Q := fun _ => False) ((Below.refl _ _).alloc (Nat.le_refl _) _)).cells HQD.out (fun q => q)) (fun q => q)
                          have HF0 := Hid.in ((Fr.new HKD.out zl rfl 47).below hb0)
                          clear hb0
                          go_wp2_with fail
                          refine hK.out _ _ ?_ (fun hHeld2 => ?_)
                          · exact ⟨(op_cells HQ0.out).1, (op_cells HQ0.out).2.1⟩
                          clear hK K hHeld
                          have hHeld := hHeld2
                          clear hHeld2
                          try simp only [Act.put, List.setIfInBounds_toArray, List.set_cons_zero, List.set_cons_succ]
                          refine wpAnyH_ready (rs := [7]) (by kernel_rfl) (by simp) ?_
                          refine AllReadyH.cons (o := { dst := some 153, op := Op.call { callee := Callee.value (Operand.func 13), args := #[Operand.tmp 146, Operand.tmp 147, Operand.tmp 150, Operand.tmp 152], argTypes := #[23, 36, 45, 37] }, type := 48, pos := "law.go:63", after := #[{ on := 0, ground := Go.Ground.data }, { on := 1, ground := Go.Ground.data }, { on := 4, ground := Go.Ground.data }, { on := 6, ground := Go.Ground.data }, { on := 4, ground := Go.Ground.chain }], guard := none }) rfl (fun K hK => ?_) ?_
                          · go_simp
                            go_at_call 13
                            obtain ⟨E, fl, e, hF⟩ := m1_fill HK0.out HS.out ob ga gb gc an hanl HQ0.out HNT.out
                            refine hF.mono ?_
                            clear hF
                            rintro e1 y1 ⟨rfl, ho1, hA, hN⟩
                            obtain ⟨ea, hea⟩ : ∃ ea, E.vs.toArray = ea := ⟨_, rfl⟩
                            obtain ⟨ev, hev⟩ : ∃ ev, errOf e = ev := ⟨_, rfl⟩
                            have HO1 := Hid.in ho1
                            have HG := Hid.in (hA _ HF0.out (by have := HQD.out.here; omega))
                            rw [hea, hev]
                            have HEA := Hid.in hea
                            have HEV := Hid.in hev
                            clear hA hN ho1 hea hev
                            go_wp2_with fail
                            refine hK.out _ _ ?_ (fun hHeld2 => ?_)
                            · exact ⟨(op_cells HO1.out).1, (op_cells HO1.out).2.1⟩
                            clear hK K hHeld
                            have hHeld := hHeld2
                            clear hHeld2
                            try simp only [Act.put, List.setIfInBounds_toArray, List.set_cons_zero, List.set_cons_succ]
                            refine wpAnyH_take (i := 8) (oi := { dst := some 145, op := Op.move (Operand.tmp 153), type := 48, pos := "law.go:63", after := #[{ on := 7, ground := Go.Ground.data }], guard := none }) (v := ?_) rfl (by kernel_rfl) (by kernel_rfl) (by kernel_rfl) (fun _ _ _ h => h) (Or.inl ⟨by rfl, ?_⟩) (by assumption) ?_
                            rotate_left
                            · (intro w hSw; (try dsimp only at hSw); (go_simp <;> with_reducible rfl))
                            try simp only [Act.put, List.setIfInBounds_toArray, List.set_cons_zero, List.set_cons_succ]
                            refine wpAnyH_take (i := 9) (oi := { dst := some 154, op := Op.extract (Operand.tmp 145) 0, type := 47, pos := "law.go:63", after := #[{ on := 8, ground := Go.Ground.data }], guard := none }) (v := ?_) rfl (by kernel_rfl) (by kernel_rfl) (by kernel_rfl) (fun _ _ _ h => h) (Or.inl ⟨by rfl, ?_⟩) (by assumption) ?_
                            rotate_left
                            · (intro w hSw; (try dsimp only at hSw); (go_simp <;> with_reducible rfl))
                            try simp only [Act.put, List.setIfInBounds_toArray, List.set_cons_zero, List.set_cons_succ]
                            refine wpAnyH_take (i := 10) (oi := { dst := some 155, op := Op.extract (Operand.tmp 145) 1, type := 4, pos := "law.go:63", after := #[{ on := 8, ground := Go.Ground.data }, { on := 13, ground := Go.Ground.gcOnly Go.Departure.lateStores }], guard := none }) (v := ?_) rfl (by kernel_rfl) (by kernel_rfl) (by kernel_rfl) (fun _ _ _ h => h) (Or.inl ⟨by rfl, ?_⟩) (by assumption) ?_
                            rotate_left
                            · (intro w hSw; (try dsimp only at hSw); (go_simp <;> with_reducible rfl))
                            try simp only [Act.put, List.setIfInBounds_toArray, List.set_cons_zero, List.set_cons_succ]
                            refine wpAnyH_take (i := 11) (oi := { dst := some 156, op := Op.extract (Operand.tmp 145) 2, type := 25, pos := "law.go:63", after := #[{ on := 8, ground := Go.Ground.data }, { on := 14, ground := Go.Ground.gcOnly Go.Departure.lateStores }], guard := none }) (v := ?_) rfl (by kernel_rfl) (by kernel_rfl) (by kernel_rfl) (fun _ _ _ h => h) (Or.inl ⟨by rfl, ?_⟩) (by assumption) ?_
                            rotate_left
                            · (intro w hSw; (try dsimp only at hSw); (go_simp <;> with_reducible rfl))
                            try simp only [Act.put, List.setIfInBounds_toArray, List.set_cons_zero, List.set_cons_succ]
                            refine wpAnyH_ready (rs := [13]) (by kernel_rfl) (by simp) ?_
                            refine AllReadyH.cons (o := { dst := none, op := Op.store 47 (Operand.tmp 24) (Operand.tmp 154), type := 0, pos := "law.go:63", after := #[{ on := 12, ground := Go.Ground.data }, { on := 9, ground := Go.Ground.data }, { on := 7, ground := Go.Ground.chain }, { on := 0, ground := Go.Ground.phase }, { on := 1, ground := Go.Ground.phase }, { on := 2, ground := Go.Ground.phase }, { on := 3, ground := Go.Ground.phase }, { on := 4, ground := Go.Ground.phase }, { on := 5, ground := Go.Ground.phase }, { on := 6, ground := Go.Ground.phase }, { on := 7, ground := Go.Ground.phase }, { on := 8, ground := Go.Ground.phase }, { on := 9, ground := Go.Ground.phase }, { on := 10, ground := Go.Ground.textOnly Go.Departure.lateStores }, { on := 11, ground := Go.Ground.textOnly Go.Departure.lateStores }, { on := 12, ground := Go.Ground.phase }], guard := none }) rfl (fun K hK => ?_) ?_
                            · rw [if_pos (by rfl)]
                              refine wp_store_mid _ _ _ rfl _ _ ea rfl rfl ?_ ?_ ?_ ?_
                              · (rw [← HEA.out, Ln.sizeA]; exact HG.out.1)
                              · (rw [line_info, ← HEA.out, Ln.sizeA])
                              · (rw [← HEA.out]; exact E.oneA)
                              rw [← HEA.out, List.toList_toArray]
                              refine hK.out _ _ ?_ (fun hHeld2 => ?_)
                              · exact ⟨(op_cells HG.out.2.1).1, (op_cells HG.out.2.1).2.1⟩
                              clear hK K hHeld
                              have hHeld := hHeld2
                              clear hHeld2
                              simp only [Act.put]
                              refine wpAnyH_take (i := 14) (oi := { dst := some 25, op := Op.assign (Operand.tmp 155), type := 4, pos := "law.go:63", after := #[{ on := 10, ground := Go.Ground.data }, { on := 13, ground := Go.Ground.chain }, { on := 0, ground := Go.Ground.phase }, { on := 1, ground := Go.Ground.phase }, { on := 2, ground := Go.Ground.phase }, { on := 3, ground := Go.Ground.phase }, { on := 4, ground := Go.Ground.phase }, { on := 5, ground := Go.Ground.phase }, { on := 6, ground := Go.Ground.phase }, { on := 7, ground := Go.Ground.phase }, { on := 8, ground := Go.Ground.phase }, { on := 9, ground := Go.Ground.phase }, { on := 10, ground := Go.Ground.phase }, { on := 11, ground := Go.Ground.textOnly Go.Departure.lateStores }, { on := 12, ground := Go.Ground.phase }, { on := 13, ground := Go.Ground.phase }], guard := none }) (v := ?_) rfl (by kernel_rfl) (by kernel_rfl) (by kernel_rfl) (fun _ _ _ h => h) (Or.inl ⟨by rfl, ?_⟩) (by assumption) ?_
                              rotate_left
                              · (intro w hSw; (try dsimp only at hSw); (go_simp <;> with_reducible rfl))
                              try simp only [Act.put, List.setIfInBounds_toArray, List.set_cons_zero, List.set_cons_succ]
                              refine wpAnyH_take (i := 15) (oi := { dst := some 26, op := Op.assign (Operand.tmp 156), type := 25, pos := "law.go:63", after := #[{ on := 11, ground := Go.Ground.data }, { on := 14, ground := Go.Ground.chain }, { on := 0, ground := Go.Ground.phase }, { on := 1, ground := Go.Ground.phase }, { on := 2, ground := Go.Ground.phase }, { on := 3, ground := Go.Ground.phase }, { on := 4, ground := Go.Ground.phase }, { on := 5, ground := Go.Ground.phase }, { on := 6, ground := Go.Ground.phase }, { on := 7, ground := Go.Ground.phase }, { on := 8, ground := Go.Ground.phase }, { on := 9, ground := Go.Ground.phase }, { on := 10, ground := Go.Ground.phase }, { on := 11, ground := Go.Ground.phase }, { on := 12, ground := Go.Ground.phase }, { on := 13, ground := Go.Ground.phase }, { on := 14, ground := Go.Ground.phase }], guard := none }) (v := ?_) rfl (by kernel_rfl) (by kernel_rfl) (by kernel_rfl) (fun _ _ _ h => h) (Or.inl ⟨by rfl, ?_⟩) (by assumption) ?_
                              rotate_left
                              · (intro w hSw; (try dsimp only at hSw); (go_simp <;> with_reducible rfl))
                              try simp only [Act.put, List.setIfInBounds_toArray, List.set_cons_zero, List.set_cons_succ]
                              refine wpAnyH_done (by kernel_rfl) ?_ _
                              go_wp2_with fail
                              go_meet
                              rw [← HEV.out]
                              exact HG.out.2.2
                            exact AllReadyH.nil
                          exact AllReadyH.nil
                        exact AllReadyH.nil
                      exact AllReadyH.nil
                  case rest =>
                    obtain ⟨lb, fl, er, S', R', E, V', rfl, rfl, hev, hS', hEa, hEb, hfl, hk', hr, hlb, hnl, hob, hc⟩ := hcut
                    have HEV := Hid.in hev
                    have HS1 := Hid.in hS'
                    have HE1 := Hid.in hEa
                    have HE2 := Hid.in hEb
                    have HFL := Hid.in hfl
                    have HC := Hid.in hc
                    have HXX : Hid (X2 w _ p h n q V' rv S' R lb E ob ga gb gc) := ⟨hk', hr, hlb, hnl, hob⟩
                    clear hev hS' hEa hEb hfl hc hk' hr hlb hnl hob hQD HKD HK2 HQ c2 c3 c9
                    have hxd := HXX.out.drew
                    have HXD := Hid.in hxd
                    have HKD := Hid.in hxd.lz
                    obtain ⟨c2, c3, c9⟩ := op_cells hxd.ob
                    clear hxd
                    go_upto_region 27 with fail
                    go_cut [24, 25, 26, 27, 28] (fun l f er l2 er2 wd => M2 w p h n q l f er l2 er2 wd)
                    case first =>
                      as_aux_lemma =>
                        refine wp_region_held_drew (S := fun w' => w'.cell? ⟨ob, 2, none⟩ = some (.int .i64 gb) ∧ w'.cell? ⟨ob, 3, none⟩ = some (.int .i64 gc)) (by kernel_rfl) ?_ (fun hHeld => ?_)
                        · exact ⟨c2, c3⟩
                        clear c2 c3 c9 HXX
                        generalize World.drew _ = W0 at HKD HXD hHeld ⊢
                        refine wpAnyH_take (i := 0) (oi := { dst := some 158, op := Op.move (Operand.tmp 9), type := 30, pos := "law.go:64", after := #[], guard := none }) (v := ?_) rfl (by kernel_rfl) (by kernel_rfl) (by kernel_rfl) (fun _ _ _ h => h) (Or.inl ⟨by rfl, ?_⟩) (by assumption) ?_
                        rotate_left
                        · (intro w hSw; (try dsimp only at hSw); (go_simp <;> with_reducible rfl))
                        try simp only [Act.put, List.setIfInBounds_toArray, List.set_cons_zero, List.set_cons_succ]
                        refine wpAnyH_take (i := 1) (oi := { dst := some 159, op := Op.move (Operand.tmp 15), type := 3, pos := "law.go:64", after := #[], guard := none }) (v := ?_) rfl (by kernel_rfl) (by kernel_rfl) (by kernel_rfl) (fun _ _ _ h => h) (Or.inl ⟨by rfl, ?_⟩) (by assumption) ?_
                        rotate_left
                        · (intro w hSw; (try dsimp only at hSw); (go_simp <;> with_reducible rfl))
                        try simp only [Act.put, List.setIfInBounds_toArray, List.set_cons_zero, List.set_cons_succ]
                        refine wpAnyH_take (i := 2) (oi := { dst := some 160, op := Op.fieldAddr 35 (Operand.tmp 13) 2, type := 0, pos := "law.go:64", after := #[], guard := none }) (v := ?_) rfl (by kernel_rfl) (by kernel_rfl) (by kernel_rfl) (fun _ _ _ h => h) (Or.inl ⟨by rfl, ?_⟩) (by assumption) ?_
                        rotate_left
                        · (intro w hSw; (try dsimp only at hSw); (go_simp <;> with_reducible rfl))
                        try simp only [Act.put, List.setIfInBounds_toArray, List.set_cons_zero, List.set_cons_succ]
                        refine wpAnyH_take (i := 3) (oi := { dst := some 161, op := Op.load 3 (Operand.tmp 160), type := 3, pos := "law.go:64", after := #[{ on := 2, ground := Go.Ground.data }], guard := none }) (v := ?_) rfl (by kernel_rfl) (by kernel_rfl) (by kernel_rfl) (fun _ _ _ h => h) (Or.inl ⟨by rfl, ?_⟩) (by assumption) ?_
                        rotate_left
                        · (intro w hSw; (try dsimp only at hSw); (go_simp <;> with_reducible rfl))
                        try simp only [Act.put, List.setIfInBounds_toArray, List.set_cons_zero, List.set_cons_succ]
                        refine wpAnyH_take (i := 5) (oi := { dst := some 163, op := Op.fieldAddr 35 (Operand.tmp 13) 3, type := 0, pos := "law.go:64", after := #[], guard := none }) (v := ?_) rfl (by kernel_rfl) (by kernel_rfl) (by kernel_rfl) (fun _ _ _ h => h) (Or.inl ⟨by rfl, ?_⟩) (by assumption) ?_
                        rotate_left
                        · (intro w hSw; (try dsimp only at hSw); (go_simp <;> with_reducible rfl))
                        try simp only [Act.put, List.setIfInBounds_toArray, List.set_cons_zero, List.set_cons_succ]
                        refine wpAnyH_take (i := 6) (oi := { dst := some 164, op := Op.load 3 (Operand.tmp 163), type := 3, pos := "law.go:64", after := #[{ on := 5, ground := Go.Ground.data }], guard := none }) (v := ?_) rfl (by kernel_rfl) (by kernel_rfl) (by kernel_rfl) (fun _ _ _ h => h) (Or.inl ⟨by rfl, ?_⟩) (by assumption) ?_
                        rotate_left
                        · (intro w hSw; (try dsimp only at hSw); (go_simp <;> with_reducible rfl))
                        try simp only [Act.put, List.setIfInBounds_toArray, List.set_cons_zero, List.set_cons_succ]
                        refine wpAnyH_ready (rs := [4, 11]) (by kernel_rfl) (by simp) ?_
                        refine AllReadyH.cons (o := { dst := some 162, op := Op.call { callee := Callee.value (Operand.func 14), args := #[Operand.tmp 161], argTypes := #[3] }, type := 45, pos := "law.go:64", after := #[{ on := 3, ground := Go.Ground.data }], guard := none }) rfl (fun K hK => ?_) ?_
                        · go_simp
                          go_at_call 14
                          refine (made_any gb _).mono ?_
                          rintro e0 y0 ⟨rfl, hb0⟩
                          have HX0 := Hid.in (HXD.out.below hb0)
                          have HQ0 := Hid.in HX0.out.ob
                          have HK0 := Hid.in HX0.out.lz
                          clear hb0
                          go_wp2_with fail
                          refine hK.out _ _ ?_ (fun hHeld2 => ?_)
                          · exact ⟨(op_cells HQ0.out).1, (op_cells HQ0.out).2.1⟩
                          clear hK K hHeld
                          have hHeld := hHeld2
                          clear hHeld2
                          try simp only [Act.put, List.setIfInBounds_toArray, List.set_cons_zero, List.set_cons_succ]
                          refine wpAnyH_ready (rs := [7, 11]) (by kernel_rfl) (by simp) ?_
                          refine AllReadyH.cons (o := { dst := some 165, op := Op.call { callee := Callee.value (Operand.func 15), args := #[Operand.tmp 158, Operand.tmp 159, Operand.tmp 162, Operand.tmp 164], argTypes := #[30, 3, 45, 3] }, type := 53, pos := "law.go:64", after := #[{ on := 0, ground := Go.Ground.data }, { on := 1, ground := Go.Ground.data }, { on := 4, ground := Go.Ground.data }, { on := 6, ground := Go.Ground.data }, { on := 4, ground := Go.Ground.chain }], guard := none }) rfl (fun K hK => ?_) ?_
                          · go_simp
                            go_at_call 15
                            refine (m2_fill ob ga gb gc an HS1.out HE1.out HE2.out HFL.out HX0.out.lz HX0.out.hr HX0.out.hl HX0.out.nl HX0.out.ob HNQ.out HC.out).mono ?_
                            rintro e1 y1 ⟨rfl, ho1, hA, hN⟩
                            obtain ⟨ea, hea⟩ : ∃ ea, E.rv.toArray = ea := ⟨_, rfl⟩
                            have HO1 := Hid.in ho1
                            have HG := Hid.in (hN zr 52 rfl)
                            rw [hea]
                            have HEA := Hid.in hea
                            clear hA hN ho1 hea
                            go_wp2_with fail
                            refine hK.out _ _ ?_ (fun hHeld2 => ?_)
                            · exact ⟨(op_cells HO1.out).1, (op_cells HO1.out).2.1⟩
                            clear hK K hHeld
                            have hHeld := hHeld2
                            clear hHeld2
                            try simp only [Act.put, List.setIfInBounds_toArray, List.set_cons_zero, List.set_cons_succ]
                            refine wpAnyH_take (i := 8) (oi := { dst := some 157, op := Op.move (Operand.tmp 165), type := 53, pos := "law.go:64", after := #[{ on := 7, ground := Go.Ground.data }], guard := none }) (v := ?_) rfl (by kernel_rfl) (by kernel_rfl) (by kernel_rfl) (fun _ _ _ h => h) (Or.inl ⟨by rfl, ?_⟩) (by assumption) ?_
                            rotate_left
                            · (intro w hSw; (try dsimp only at hSw); (go_simp <;> with_reducible rfl))
                            try simp only [Act.put, List.setIfInBounds_toArray, List.set_cons_zero, List.set_cons_succ]
                            refine wpAnyH_take (i := 9) (oi := { dst := some 166, op := Op.extract (Operand.tmp 157) 0, type := 52, pos := "law.go:64", after := #[{ on := 8, ground := Go.Ground.data }], guard := none }) (v := ?_) rfl (by kernel_rfl) (by kernel_rfl) (by kernel_rfl) (fun _ _ _ h => h) (Or.inl ⟨by rfl, ?_⟩) (by assumption) ?_
                            rotate_left
                            · (intro w hSw; (try dsimp only at hSw); (go_simp <;> with_reducible rfl))
                            try simp only [Act.put, List.setIfInBounds_toArray, List.set_cons_zero, List.set_cons_succ]
                            refine wpAnyH_take (i := 10) (oi := { dst := some 167, op := Op.extract (Operand.tmp 157) 1, type := 3, pos := "law.go:64", after := #[{ on := 8, ground := Go.Ground.data }, { on := 12, ground := Go.Ground.gcOnly Go.Departure.lateStores }], guard := none }) (v := ?_) rfl (by kernel_rfl) (by kernel_rfl) (by kernel_rfl) (fun _ _ _ h => h) (Or.inl ⟨by rfl, ?_⟩) (by assumption) ?_
                            rotate_left
                            · (intro w hSw; (try dsimp only at hSw); (go_simp <;> with_reducible rfl))
                            try simp only [Act.put, List.setIfInBounds_toArray, List.set_cons_zero, List.set_cons_succ]
                            refine wpAnyH_ready (rs := [11]) (by kernel_rfl) (by simp) ?_
                            refine AllReadyH.cons (o := { dst := some 27, op := Op.alloc 52, type := 0, pos := "law.go:64", after := #[], guard := none }) rfl (fun K hK => ?_) ?_
                            · go_simp
                              refine hK.out _ _ ?_ (fun hHeld2 => ?_)
                              · exact ⟨(op_cells ((Turned.of_below (Q := fun _ => False) ((Below.refl _ _).alloc (Nat.le_refl _) _)).cells HO1.out (fun q => q))).1, (op_cells ((Turned.of_below (Q := fun _ => False) ((Below.refl _ _).alloc (Nat.le_refl _) _)).cells HO1.out (fun q => q))).2.1⟩
                              clear hK K hHeld
                              have hHeld := hHeld2
                              clear hHeld2
                              try simp only [Act.put, List.setIfInBounds_toArray, List.set_cons_zero, List.set_cons_succ]
                              refine wpAnyH_ready (rs := [12]) (by kernel_rfl) (by simp) ?_
                              refine AllReadyH.cons (o := { dst := none, op := Op.store 52 (Operand.tmp 27) (Operand.tmp 166), type := 0, pos := "law.go:64", after := #[{ on := 11, ground := Go.Ground.data }, { on := 9, ground := Go.Ground.data }, { on := 7, ground := Go.Ground.chain }, { on := 0, ground := Go.Ground.phase }, { on := 1, ground := Go.Ground.phase }, { on := 2, ground := Go.Ground.phase }, { on := 3, ground := Go.Ground.phase }, { on := 4, ground := Go.Ground.phase }, { on := 5, ground := Go.Ground.phase }, { on := 6, ground := Go.Ground.phase }, { on := 7, ground := Go.Ground.phase }, { on := 8, ground := Go.Ground.phase }, { on := 9, ground := Go.Ground.phase }, { on := 10, ground := Go.Ground.textOnly Go.Departure.lateStores }, { on := 11, ground := Go.Ground.phase }], guard := none }) rfl (fun K hK => ?_) ?_
                              · rw [if_pos (by rfl)]
                                refine wp_store_mid _ _ _ rfl _ _ ea rfl rfl ?_ ?_ ?_ ?_
                                · (rw [← HEA.out, Ln.rsizeA]; exact HG.out.1)
                                · (rw [rline_info, ← HEA.out, Ln.rsizeA])
                                · (rw [← HEA.out]; exact E.roneA)
                                rw [← HEA.out, List.toList_toArray]
                                refine hK.out _ _ ?_ (fun hHeld2 => ?_)
                                · exact ⟨(op_cells HG.out.2.2.1).1, (op_cells HG.out.2.2.1).2.1⟩
                                clear hK K hHeld
                                have hHeld := hHeld2
                                clear hHeld2
                                simp only [Act.put]
                                refine wpAnyH_take (i := 13) (oi := { dst := some 28, op := Op.assign (Operand.tmp 167), type := 3, pos := "law.go:64", after := #[{ on := 10, ground := Go.Ground.data }, { on := 12, ground := Go.Ground.chain }, { on := 0, ground := Go.Ground.phase }, { on := 1, ground := Go.Ground.phase }, { on := 2, ground := Go.Ground.phase }, { on := 3, ground := Go.Ground.phase }, { on := 4, ground := Go.Ground.phase }, { on := 5, ground := Go.Ground.phase }, { on := 6, ground := Go.Ground.phase }, { on := 7, ground := Go.Ground.phase }, { on := 8, ground := Go.Ground.phase }, { on := 9, ground := Go.Ground.phase }, { on := 10, ground := Go.Ground.phase }, { on := 11, ground := Go.Ground.phase }, { on := 12, ground := Go.Ground.phase }], guard := none }) (v := ?_) rfl (by kernel_rfl) (by kernel_rfl) (by kernel_rfl) (fun _ _ _ h => h) (Or.inl ⟨by rfl, ?_⟩) (by assumption) ?_
                                rotate_left
                                · (intro w hSw; (try dsimp only at hSw); (go_simp <;> with_reducible rfl))
                                try simp only [Act.put, List.setIfInBounds_toArray, List.set_cons_zero, List.set_cons_succ]
                                refine wpAnyH_done (by kernel_rfl) ?_ _
                                go_wp2_with fail
                                go_meet
                                rw [HEV.out]
                                exact HG.out.2.2.2
                              exact AllReadyH.nil
                            exact AllReadyH.nil
                          refine AllReadyH.cons (o := { dst := some 27, op := Op.alloc 52, type := 0, pos := "law.go:64", after := #[], guard := none }) rfl (fun K hK => ?_) ?_
                          · go_simp
                            refine hK.out _ _ ?_ (fun hHeld2 => ?_)
                            · exact ⟨(op_cells (HX0.out.below ((Below.refl _ _).alloc (Nat.le_refl _) _)).ob).1, (op_cells (HX0.out.below ((Below.refl _ _).alloc (Nat.le_refl _) _)).ob).2.1⟩
                            clear hK K hHeld
                            have hHeld := hHeld2
                            clear hHeld2
                            try simp only [Act.put, List.setIfInBounds_toArray, List.set_cons_zero, List.set_cons_succ]
                            refine wpAnyH_ready (rs := [7]) (by kernel_rfl) (by simp) ?_
                            refine AllReadyH.cons (o := { dst := some 165, op := Op.call { callee := Callee.value (Operand.func 15), args := #[Operand.tmp 158, Operand.tmp 159, Operand.tmp 162, Operand.tmp 164], argTypes := #[30, 3, 45, 3] }, type := 53, pos := "law.go:64", after := #[{ on := 0, ground := Go.Ground.data }, { on := 1, ground := Go.Ground.data }, { on := 4, ground := Go.Ground.data }, { on := 6, ground := Go.Ground.data }, { on := 4, ground := Go.Ground.chain }], guard := none }) rfl (fun K hK => ?_) ?_
                            · go_simp
                              go_at_call 15
                              have HX1 := Hid.in (HX0.out.below ((Below.refl _ _).alloc (Nat.le_refl _) (.cells zr 52)))
                              refine (m2_fill ob ga gb gc an HS1.out HE1.out HE2.out HFL.out HX1.out.lz HX1.out.hr HX1.out.hl HX1.out.nl HX1.out.ob HNQ.out HC.out).mono ?_
                              rintro e1 y1 ⟨rfl, ho1, hA, hN⟩
                              obtain ⟨ea, hea⟩ : ∃ ea, E.rv.toArray = ea := ⟨_, rfl⟩
                              have HO1 := Hid.in ho1
                              have HG := Hid.in (hA _ (Fr.new HK0.out zr rfl 52) (by have := HQ0.out.here; omega) (by have := HX0.out.hl; omega))
                              rw [hea]
                              have HEA := Hid.in hea
                              clear hA hN ho1 hea
                              go_wp2_with fail
                              refine hK.out _ _ ?_ (fun hHeld2 => ?_)
                              · exact ⟨(op_cells HO1.out).1, (op_cells HO1.out).2.1⟩
                              clear hK K hHeld
                              have hHeld := hHeld2
                              clear hHeld2
                              try simp only [Act.put, List.setIfInBounds_toArray, List.set_cons_zero, List.set_cons_succ]
                              refine wpAnyH_take (i := 8) (oi := { dst := some 157, op := Op.move (Operand.tmp 165), type := 53, pos := "law.go:64", after := #[{ on := 7, ground := Go.Ground.data }], guard := none }) (v := ?_) rfl (by kernel_rfl) (by kernel_rfl) (by kernel_rfl) (fun _ _ _ h => h) (Or.inl ⟨by rfl, ?_⟩) (by assumption) ?_
                              rotate_left
                              · (intro w hSw; (try dsimp only at hSw); (go_simp <;> with_reducible rfl))
                              try simp only [Act.put, List.setIfInBounds_toArray, List.set_cons_zero, List.set_cons_succ]
                              refine wpAnyH_take (i := 9) (oi := { dst := some 166, op := Op.extract (Operand.tmp 157) 0, type := 52, pos := "law.go:64", after := #[{ on := 8, ground := Go.Ground.data }], guard := none }) (v := ?_) rfl (by kernel_rfl) (by kernel_rfl) (by kernel_rfl) (fun _ _ _ h => h) (Or.inl ⟨by rfl, ?_⟩) (by assumption) ?_
                              rotate_left
                              · (intro w hSw; (try dsimp only at hSw); (go_simp <;> with_reducible rfl))
                              try simp only [Act.put, List.setIfInBounds_toArray, List.set_cons_zero, List.set_cons_succ]
                              refine wpAnyH_take (i := 10) (oi := { dst := some 167, op := Op.extract (Operand.tmp 157) 1, type := 3, pos := "law.go:64", after := #[{ on := 8, ground := Go.Ground.data }, { on := 12, ground := Go.Ground.gcOnly Go.Departure.lateStores }], guard := none }) (v := ?_) rfl (by kernel_rfl) (by kernel_rfl) (by kernel_rfl) (fun _ _ _ h => h) (Or.inl ⟨by rfl, ?_⟩) (by assumption) ?_
                              rotate_left
                              · (intro w hSw; (try dsimp only at hSw); (go_simp <;> with_reducible rfl))
                              try simp only [Act.put, List.setIfInBounds_toArray, List.set_cons_zero, List.set_cons_succ]
                              refine wpAnyH_ready (rs := [12]) (by kernel_rfl) (by simp) ?_
                              refine AllReadyH.cons (o := { dst := none, op := Op.store 52 (Operand.tmp 27) (Operand.tmp 166), type := 0, pos := "law.go:64", after := #[{ on := 11, ground := Go.Ground.data }, { on := 9, ground := Go.Ground.data }, { on := 7, ground := Go.Ground.chain }, { on := 0, ground := Go.Ground.phase }, { on := 1, ground := Go.Ground.phase }, { on := 2, ground := Go.Ground.phase }, { on := 3, ground := Go.Ground.phase }, { on := 4, ground := Go.Ground.phase }, { on := 5, ground := Go.Ground.phase }, { on := 6, ground := Go.Ground.phase }, { on := 7, ground := Go.Ground.phase }, { on := 8, ground := Go.Ground.phase }, { on := 9, ground := Go.Ground.phase }, { on := 10, ground := Go.Ground.textOnly Go.Departure.lateStores }, { on := 11, ground := Go.Ground.phase }], guard := none }) rfl (fun K hK => ?_) ?_
                              · rw [if_pos (by rfl)]
                                refine wp_store_mid _ _ _ rfl _ _ ea rfl rfl ?_ ?_ ?_ ?_
                                · (rw [← HEA.out, Ln.rsizeA]; exact HG.out.1)
                                · (rw [rline_info, ← HEA.out, Ln.rsizeA])
                                · (rw [← HEA.out]; exact E.roneA)
                                rw [← HEA.out, List.toList_toArray]
                                refine hK.out _ _ ?_ (fun hHeld2 => ?_)
                                · exact ⟨(op_cells HG.out.2.1).1, (op_cells HG.out.2.1).2.1⟩
                                clear hK K hHeld
                                have hHeld := hHeld2
                                clear hHeld2
                                simp only [Act.put]
                                refine wpAnyH_take (i := 13) (oi := { dst := some 28, op := Op.assign (Operand.tmp 167), type := 3, pos := "law.go:64", after := #[{ on := 10, ground := Go.Ground.data }, { on := 12, ground := Go.Ground.chain }, { on := 0, ground := Go.Ground.phase }, { on := 1, ground := Go.Ground.phase }, { on := 2, ground := Go.Ground.phase }, { on := 3, ground := Go.Ground.phase }, { on := 4, ground := Go.Ground.phase }, { on := 5, ground := Go.Ground.phase }, { on := 6, ground := Go.Ground.phase }, { on := 7, ground := Go.Ground.phase }, { on := 8, ground := Go.Ground.phase }, { on := 9, ground := Go.Ground.phase }, { on := 10, ground := Go.Ground.phase }, { on := 11, ground := Go.Ground.phase }, { on := 12, ground := Go.Ground.phase }], guard := none }) (v := ?_) rfl (by kernel_rfl) (by kernel_rfl) (by kernel_rfl) (fun _ _ _ h => h) (Or.inl ⟨by rfl, ?_⟩) (by assumption) ?_
                                rotate_left
                                · (intro w hSw; (try dsimp only at hSw); (go_simp <;> with_reducible rfl))
                                try simp only [Act.put, List.setIfInBounds_toArray, List.set_cons_zero, List.set_cons_succ]
                                refine wpAnyH_done (by kernel_rfl) ?_ _
                                go_wp2_with fail
                                go_meet
                                rw [HEV.out]
                                exact HG.out.2.2
                              exact AllReadyH.nil
                            exact AllReadyH.nil
                          exact AllReadyH.nil
                        refine AllReadyH.cons (o := { dst := some 27, op := Op.alloc 52, type := 0, pos := "law.go:64", after := #[], guard := none }) rfl (fun K hK => ?_) ?_
                        · go_simp
                          refine hK.out _ _ ?_ (fun hHeld2 => ?_)
                          · exact ⟨(op_cells (HXD.out.below ((Below.refl _ _).alloc (Nat.le_refl _) _)).ob).1, (op_cells (HXD.out.below ((Below.refl _ _).alloc (Nat.le_refl _) _)).ob).2.1⟩
                          clear hK K hHeld
                          have hHeld := hHeld2
                          clear hHeld2
                          try simp only [Act.put, List.setIfInBounds_toArray, List.set_cons_zero, List.set_cons_succ]
                          refine wpAnyH_ready (rs := [4]) (by kernel_rfl) (by simp) ?_
                          refine AllReadyH.cons (o := { dst := some 162, op := Op.call { callee := Callee.value (Operand.func 14), args := #[Operand.tmp 161], argTypes := #[3] }, type := 45, pos := "law.go:64", after := #[{ on := 3, ground := Go.Ground.data }], guard := none }) rfl (fun K hK => ?_) ?_
                          · go_simp
                            go_at_call 14
                            refine (made_any gb _).mono ?_
                            rintro e0 y0 ⟨rfl, hb0⟩
                            have HF0 := Hid.in ((Fr.new HKD.out zr rfl 52).below hb0)
                            have HX0 := Hid.in ((HXD.out.below ((Below.refl _ _).alloc (Nat.le_refl _) _)).below hb0)
                            have HQ0 := Hid.in HX0.out.ob
                            have HK0 := Hid.in HX0.out.lz
                            clear hb0
                            go_wp2_with fail
                            refine hK.out _ _ ?_ (fun hHeld2 => ?_)
                            · exact ⟨(op_cells HQ0.out).1, (op_cells HQ0.out).2.1⟩
                            clear hK K hHeld
                            have hHeld := hHeld2
                            clear hHeld2
                            try simp only [Act.put, List.setIfInBounds_toArray, List.set_cons_zero, List.set_cons_succ]
                            refine wpAnyH_ready (rs := [7]) (by kernel_rfl) (by simp) ?_
                            refine AllReadyH.cons (o := { dst := some 165, op := Op.call { callee := Callee.value (Operand.func 15), args := #[Operand.tmp 158, Operand.tmp 159, Operand.tmp 162, Operand.tmp 164], argTypes := #[30, 3, 45, 3] }, type := 53, pos := "law.go:64", after := #[{ on := 0, ground := Go.Ground.data }, { on := 1, ground := Go.Ground.data }, { on := 4, ground := Go.Ground.data }, { on := 6, ground := Go.Ground.data }, { on := 4, ground := Go.Ground.chain }], guard := none }) rfl (fun K hK => ?_) ?_
                            · go_simp
                              go_at_call 15
                              refine (m2_fill ob ga gb gc an HS1.out HE1.out HE2.out HFL.out HX0.out.lz HX0.out.hr HX0.out.hl HX0.out.nl HX0.out.ob HNQ.out HC.out).mono ?_
                              rintro e1 y1 ⟨rfl, ho1, hA, hN⟩
                              obtain ⟨ea, hea⟩ : ∃ ea, E.rv.toArray = ea := ⟨_, rfl⟩
                              have HO1 := Hid.in ho1
                              have HG := Hid.in (hA _ HF0.out (by have := HXD.out.ob.here; omega) (by have := HXD.out.hl; omega))
                              rw [hea]
                              have HEA := Hid.in hea
                              clear hA hN ho1 hea
                              go_wp2_with fail
                              refine hK.out _ _ ?_ (fun hHeld2 => ?_)
                              · exact ⟨(op_cells HO1.out).1, (op_cells HO1.out).2.1⟩
                              clear hK K hHeld
                              have hHeld := hHeld2
                              clear hHeld2
                              try simp only [Act.put, List.setIfInBounds_toArray, List.set_cons_zero, List.set_cons_succ]
                              refine wpAnyH_take (i := 8) (oi := { dst := some 157, op := Op.move (Operand.tmp 165), type := 53, pos := "law.go:64", after := #[{ on := 7, ground := Go.Ground.data }], guard := none }) (v := ?_) rfl (by kernel_rfl) (by kernel_rfl) (by kernel_rfl) (fun _ _ _ h => h) (Or.inl ⟨by rfl, ?_⟩) (by assumption) ?_
                              rotate_left
                              · (intro w hSw; (try dsimp only at hSw); (go_simp <;> with_reducible rfl))
                              try simp only [Act.put, List.setIfInBounds_toArray, List.set_cons_zero, List.set_cons_succ]
                              refine wpAnyH_take (i := 9) (oi := { dst := some 166, op := Op.extract (Operand.tmp 157) 0, type := 52, pos := "law.go:64", after := #[{ on := 8, ground := Go.Ground.data }], guard := none }) (v := ?_) rfl (by kernel_rfl) (by kernel_rfl) (by kernel_rfl) (fun _ _ _ h => h) (Or.inl ⟨by rfl, ?_⟩) (by assumption) ?_
                              rotate_left
                              · (intro w hSw; (try dsimp only at hSw); (go_simp <;> with_reducible rfl))
                              try simp only [Act.put, List.setIfInBounds_toArray, List.set_cons_zero, List.set_cons_succ]
                              refine wpAnyH_take (i := 10) (oi := { dst := some 167, op := Op.extract (Operand.tmp 157) 1, type := 3, pos := "law.go:64", after := #[{ on := 8, ground := Go.Ground.data }, { on := 12, ground := Go.Ground.gcOnly Go.Departure.lateStores }], guard := none }) (v := ?_) rfl (by kernel_rfl) (by kernel_rfl) (by kernel_rfl) (fun _ _ _ h => h) (Or.inl ⟨by rfl, ?_⟩) (by assumption) ?_
                              rotate_left
                              · (intro w hSw; (try dsimp only at hSw); (go_simp <;> with_reducible rfl))
                              try simp only [Act.put, List.setIfInBounds_toArray, List.set_cons_zero, List.set_cons_succ]
                              refine wpAnyH_ready (rs := [12]) (by kernel_rfl) (by simp) ?_
                              refine AllReadyH.cons (o := { dst := none, op := Op.store 52 (Operand.tmp 27) (Operand.tmp 166), type := 0, pos := "law.go:64", after := #[{ on := 11, ground := Go.Ground.data }, { on := 9, ground := Go.Ground.data }, { on := 7, ground := Go.Ground.chain }, { on := 0, ground := Go.Ground.phase }, { on := 1, ground := Go.Ground.phase }, { on := 2, ground := Go.Ground.phase }, { on := 3, ground := Go.Ground.phase }, { on := 4, ground := Go.Ground.phase }, { on := 5, ground := Go.Ground.phase }, { on := 6, ground := Go.Ground.phase }, { on := 7, ground := Go.Ground.phase }, { on := 8, ground := Go.Ground.phase }, { on := 9, ground := Go.Ground.phase }, { on := 10, ground := Go.Ground.textOnly Go.Departure.lateStores }, { on := 11, ground := Go.Ground.phase }], guard := none }) rfl (fun K hK => ?_) ?_
                              · rw [if_pos (by rfl)]
                                refine wp_store_mid _ _ _ rfl _ _ ea rfl rfl ?_ ?_ ?_ ?_
                                · (rw [← HEA.out, Ln.rsizeA]; exact HG.out.1)
                                · (rw [rline_info, ← HEA.out, Ln.rsizeA])
                                · (rw [← HEA.out]; exact E.roneA)
                                rw [← HEA.out, List.toList_toArray]
                                refine hK.out _ _ ?_ (fun hHeld2 => ?_)
                                · exact ⟨(op_cells HG.out.2.1).1, (op_cells HG.out.2.1).2.1⟩
                                clear hK K hHeld
                                have hHeld := hHeld2
                                clear hHeld2
                                simp only [Act.put]
                                refine wpAnyH_take (i := 13) (oi := { dst := some 28, op := Op.assign (Operand.tmp 167), type := 3, pos := "law.go:64", after := #[{ on := 10, ground := Go.Ground.data }, { on := 12, ground := Go.Ground.chain }, { on := 0, ground := Go.Ground.phase }, { on := 1, ground := Go.Ground.phase }, { on := 2, ground := Go.Ground.phase }, { on := 3, ground := Go.Ground.phase }, { on := 4, ground := Go.Ground.phase }, { on := 5, ground := Go.Ground.phase }, { on := 6, ground := Go.Ground.phase }, { on := 7, ground := Go.Ground.phase }, { on := 8, ground := Go.Ground.phase }, { on := 9, ground := Go.Ground.phase }, { on := 10, ground := Go.Ground.phase }, { on := 11, ground := Go.Ground.phase }, { on := 12, ground := Go.Ground.phase }], guard := none }) (v := ?_) rfl (by kernel_rfl) (by kernel_rfl) (by kernel_rfl) (fun _ _ _ h => h) (Or.inl ⟨by rfl, ?_⟩) (by assumption) ?_
                                rotate_left
                                · (intro w hSw; (try dsimp only at hSw); (go_simp <;> with_reducible rfl))
                                try simp only [Act.put, List.setIfInBounds_toArray, List.set_cons_zero, List.set_cons_succ]
                                refine wpAnyH_done (by kernel_rfl) ?_ _
                                go_wp2_with fail
                                go_meet
                                rw [HEV.out]
                                exact HG.out.2.2
                              exact AllReadyH.nil
                            exact AllReadyH.nil
                          exact AllReadyH.nil
                        exact AllReadyH.nil
                    case rest =>
                      obtain ⟨lb2, mb, fl2, er2, S2, R2, E2, V2, rv2, rfl, rfl, hev2, rfl, rfl, hS2, hEa2, hEb2, hfl2, hK5, hRA, hLA, hRB, hLB⟩ := hcut
                      clear HXX HXD HKD HEV HS1 HE1 HE2 HFL HC c2 c3 c9
                      have HEV := Hid.in hev2
                      have HS' := Hid.in hS2
                      have HEA := Hid.in hEa2
                      have HEB := Hid.in hEb2
                      have HFL := Hid.in hfl2
                      have HK5 := Hid.in hK5
                      have HR6 := Hid.in hRA
                      have HL6 := Hid.in hLA
                      have HR5 := Hid.in hRB
                      have HL5 := Hid.in hLB
                      clear hev2 hS2 hEa2 hEb2 hfl2 hK5 hRA hLA hRB hLB
                      go_wp2_with (first
                        | (go_at_call 6
                           rw [HEV.out]
                           refine (ltold_of er2 _ (HGR.out _ HK5.out.low)).mono ?_
                           rintro e z3 ⟨rfl, hb⟩
                           have HF := Hid.in (HK5.out.below hb)
                           have RA := range_turned HR6.out (Turned.of_below (Q := fun _ => False) hb) HL6.out (fun q => q)
                           have RB := range_turned HR5.out (Turned.of_below (Q := fun _ => False) hb) HL5.out (fun q => q)
                           have HL7 := Hid.in (Nat.lt_of_lt_of_le HL5.out hb.size)
                           clear hb)
                        | (refine ld_line lb2 0 E2 RA rfl _ rfl rfl ?_)
                        | (refine rld mb 0 E2 RB rfl _ rfl rfl ?_)
                        | (go_at_call 16; refine (line_same E2 _ HEA.out HEB.out).mono ?_; rintro e z4 ⟨rfl, hb⟩; have HX := Hid.in (HF.out.below hb); have c1 : z4.cell? ⟨mb, 1, none⟩ = some (.int .i64 E2.s) := range_turned RB (Turned.of_below (Q := fun _ => False) hb) HL7.out (fun q => q) 1 _ rfl; clear hb RA RB))
                      go_meet
                      exact ⟨_, _, S2, R2, fl_is HFL.out, HX.out, HS'.out⟩
              · have kb3 : (kd == 3) = false := by simpa using k3
                clear k3
                by_cases k4 : kd = 4
                · subst k4
                  as_aux_lemma =>
                    obtain ⟨S', R', E, er, hS', hEa, hEb, hB⟩ := both_lower HK2.out HS.out an gc hanl
                    have HBB := Hid.in hB
                    have HS' := Hid.in hS'
                    have HEA := Hid.in hEa
                    have HEB := Hid.in hEb
                    clear hB hS' hEa hEb
                    obtain ⟨ev, hev⟩ : ∃ ev, errOf er = ev := ⟨_, rfl⟩
                    have HEV := Hid.in hev
                    clear hev
                    go_upto_region 33 with (first
                      | (go_at_call 17; refine HBB.out.1.mono ?_; rintro e y1 ⟨rfl, t1, V1, K1, -⟩; rw [HEV.out]; have HY := Hid.in K1; have HQ1 := Hid.in (t1.cells HQ.out HNT.out); clear t1 K1)
                      | (refine st_new y1 E zl rfl y1.heap.size rfl rfl rfl _ _ rfl rfl rfl ?_))
                    obtain ⟨Y2, hY2⟩ : ∃ Y2, y1.alloc (.cells E.vs.toArray 47) = Y2 := ⟨_, rfl⟩
                    obtain ⟨lb, hlb⟩ : ∃ lb, y1.heap.size = lb := ⟨_, rfl⟩
                    have b2 : Below y1.heap.size y1 Y2 := by rw [← hY2]; exact (Below.refl _ _).alloc (Nat.le_refl _) _
                    have HK3 := Hid.in (HY.out.below b2)
                    have HR3 : Hid (Y2.rangeAt lb 0 E.vs) := by rw [← hY2, ← hlb]; exact range_new y1 E _
                    have HL3 : Hid (lb < Y2.heap.size) := by show _ < _; rw [← hY2, ← hlb]; simp
                    have HQ3 := (Turned.of_below (Q := fun _ => False) b2).cells HQ1.out (fun q => q)
                    have HNL : Hid (¬ (lb = q ∨ rv.ownBlock = some lb)) := fun t => by
                      rcases t with t | t
                      · have := HY.out.rc.c.here
                        omega
                      · have := (HY.out.rvLo _ t).2
                        omega
                    obtain ⟨c2, c3, c9⟩ := op_cells HQ3
                    rw [hY2, hlb]
                    clear HQ3 HQ1 HY b2 hY2 hlb
                    go_upto_region 34 with (first
                      | (go_at_call 18; refine (HBB.out.2 _ _ HK3.out).mono ?_; rintro e z1 ⟨rfl, t2, rv1, K2, -⟩; have HZ := Hid.in K2; have HR4 := Hid.in (range_turned HR3.out t2 HL3.out HNL.out); have HL4 := Hid.in (Nat.lt_of_lt_of_le HL3.out t2.size); clear t2 K2)
                      | (refine rstn z1 E zr rfl z1.heap.size rfl rfl rfl _ _ rfl rfl rfl ?_))
                    obtain ⟨Z2, hZ2⟩ : ∃ Z2, z1.alloc (.cells E.rv.toArray 52) = Z2 := ⟨_, rfl⟩
                    obtain ⟨mb, hmb⟩ : ∃ mb, z1.heap.size = mb := ⟨_, rfl⟩
                    have b3 : Below z1.heap.size z1 Z2 := by rw [← hZ2]; exact (Below.refl _ _).alloc (Nat.le_refl _) _
                    have HK5 := Hid.in (HZ.out.below b3)
                    have HR5 : Hid (Z2.rangeAt mb 0 E.rv) := by rw [← hZ2, ← hmb]; exact rrange_new z1 E _
                    have HL5 : Hid (mb < Z2.heap.size) := by show _ < _; rw [← hZ2, ← hmb]; simp
                    have HR6 := Hid.in (range_turned HR4.out (Turned.of_below (Q := fun _ => False) b3) HL4.out (fun q => q))
                    have HL6 := Hid.in (Nat.lt_of_lt_of_le HL4.out b3.size)
                    rw [hZ2, hmb]
                    clear HZ b3 hZ2 hmb HR4 HL4
                    go_wp2_with (first
                      | (go_at_call 6
                         rw [← HEV.out]
                         refine (ltold_of er _ (HGR.out _ HK5.out.low)).mono ?_
                         rintro e z3 ⟨rfl, hb⟩
                         have HF := Hid.in (HK5.out.below hb)
                         have RA := range_turned HR6.out (Turned.of_below (Q := fun _ => False) hb) HL6.out (fun q => q)
                         have RB := range_turned HR5.out (Turned.of_below (Q := fun _ => False) hb) HL5.out (fun q => q)
                         clear hb)
                      | (refine ld_line lb 0 E RA rfl _ rfl rfl ?_)
                      | (refine rld mb 0 E RB rfl _ rfl rfl ?_)
                      | (go_at_call 16; refine (line_same E _ HEA.out HEB.out).mono ?_; rintro e z4 ⟨rfl, hb⟩; have HX := Hid.in (HF.out.below hb); clear hb))
                    go_meet
                    exact ⟨_, _, S', R', rfl, HX.out, HS'.out⟩
                · have kb4 : (kd == 4) = false := by simpa using k4
                  clear k4
                  as_aux_lemma =>
                    go_wp2_with fail
                    go_meet
                    exact ⟨_, _, S, R, rfl, HK2.out, HS.out⟩
      case rest =>
        obtain ⟨V', rv', S', R', rfl, hK', hS'⟩ := hcut
        as_aux_lemma =>
          go_wp2
          go_roundw
          case rel => exact ⟨k + 1, V', rv', S', R', rfl, by simp, by omega, by omega, hK', hS'⟩
          case measure => simp [intOf]; omega
    · by_cases hk5 : k < m
      · obtain rfl : k = 4096 := by omega
        as_aux_lemma =>
          go_wp2
          go_ret
          exact ⟨rfl, HK.out.low⟩
      · have hk6 : ¬ (k : Int) < (m : Int) := by omega
        as_aux_lemma =>
          go_wp2
          go_ret
          exact ⟨rfl, HK.out.low⟩
end Go.Proofs.YtljmmepjknfmcaaDoor
