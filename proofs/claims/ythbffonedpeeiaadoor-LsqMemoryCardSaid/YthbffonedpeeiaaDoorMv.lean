/-
  LSQ: Oldest, where there is one.
-/
import Derived.Test.YthbffonedpeeiaaDoorMu
namespace Go.Proofs.YthbffonedpeeiaaDoor
open Go Go.RowKit
set_option maxRecDepth 100000 in
set_option maxHeartbeats 2000000 in
theorem oldest_yes (B p : Nat) (v : Value) (S : QS) (w : World) (k : Qm w B p v S) (h : S.top = true) (hz : 0 < (S.at 0).z) : Calls Tryd.prog 56 #[.pointer (some ⟨p, 0, none⟩)] w fun e w' => e = .returned (.tuple #[.agg #[.int .u32 (S.at 0).a, .int .i64 (S.at 0).z, .int .u32 ((S.at 0).d % 256 ^ (S.at 0).z : Nat)], .bool true]) ∧ Below w.heap.size w w' := by
  obtain ⟨X, hX, hb, cX, hsX⟩ := boxW w
  have kX := k.below hb
  unfold QS.top at h
  simp only [Bool.and_eq_true, decide_eq_true_eq] at h
  obtain ⟨hl0, hrt⟩ := h
  obtain ⟨g, cap, hv, hpg, hrow⟩ := kX.rows 0 hl0
  obtain ⟨x1, x2, x3, x4⟩ := hrow X (Below.refl _ _)
  have fit := k.fit 0 hl0
  obtain ⟨e, he⟩ : ∃ e, S.at 0 = e := ⟨_, rfl⟩
  rw [he] at x2 hrt fit hz ⊢
  rw [Nat.zero_mul] at x2
  obtain ⟨-, -, -, -, -, -, y6, -⟩ := row_cells0 x2
  rw [hrt] at y6
  have hlz : ((S.on.length : Int) == 0) = false := by
    rw [beq_eq_false_iff_ne]
    omega
  have HX := Hid.in hX
  have HB := Hid.in hb
  have HCX := Hid.in cX
  have X2 := Hid.in x2
  have HZ3 : Hid (e.z = 1 ∨ e.z = 2 ∨ e.z = 4) := by
    show _ ∨ _ ∨ _
    have := fit.z
    omega
  have HDL := Hid.in fit.d
  clear k kX hX hb cX hrow x2 x3 hv he fit hrt hz
  go_enter Tryd.func56, Tryd.ntmps56
  go_upto_region 1 with fail
  rw [HX.out]
  go_upto_region 4 with (first
    | (refine ld_accG g 0 e X2.out rfl _ rfl rfl ?_)
    | (refine ld_new e za rfl X.heap.size rfl rfl rfl _ _ rfl (by first | rfl | (simp only [hsX]; rfl)) rfl ?_))
  clear x1 x4 y6
  obtain ⟨Y, hY, rY, bY, hsY⟩ := boxed e X 86
  rw [hY]
  have HBY : Hid (Below w.heap.size w Y) := below2 HB.out bY
  have cY := HCX.out.below bY
  clear hY
  obtain ⟨bb, hbb⟩ : ∃ bb, X.heap.size = bb := ⟨_, rfl⟩
  rw [hbb] at rY
  have hbb2 : bb = w.heap.size + 1 := by omega
  rw [← hbb2]
  have rYd := range_turned rY (Turned.of_below (Q := fun _ => False) (Below.refl _ Y).drew) (by omega) (fun q => q)
  obtain ⟨-, -, a2, a3, -⟩ := row_cells0 rYd
  refine wp_region_held_drew (S := fun w' => w'.cell? ⟨bb, 2, none⟩ = some (.int .u32 e.a) ∧ w'.cell? ⟨bb, 3, none⟩ = some (.int .i64 e.z) ∧ w'.rangeAt bb 0 e.vs) (by kernel_rfl) ?_ (fun hHeld => ?_)
  · exact ⟨a2, a3, rYd⟩
  have cW := cY.drew
  have hbW : Below w.heap.size w Y.drew := HBY.out.drew
  have hlW : bb < Y.drew.heap.size := by show bb < Y.heap.size; omega
  clear rY cY bY a2 a3
  generalize Y.drew = W at cW hbW hlW hHeld rYd ⊢
  have HBW := Hid.in hbW
  have HDD : Hid (∀ w5, Below W.heap.size W w5 → CellsAt 3 w5 w.heap.size (wrt 0 0 0) ∧ w5.cell? ⟨bb, 2, none⟩ = some (.int .u32 e.a) ∧ w5.cell? ⟨bb, 3, none⟩ = some (.int .i64 e.z) ∧ w5.rangeAt bb 0 e.vs) := fun w5 hb => by
    have r := range_turned rYd (Turned.of_below (Q := fun _ => False) hb) hlW (fun q => q)
    obtain ⟨-, -, a2, a3, -⟩ := row_cells0 r
    exact ⟨cW.below hb, a2, a3, r⟩
  have HKP : Hid (∀ (x : World), (x.cell? ⟨bb, 2, none⟩ = some (.int .u32 e.a) ∧ x.cell? ⟨bb, 3, none⟩ = some (.int .i64 e.z) ∧ x.rangeAt bb 0 e.vs) → ∀ {u1 u2 u3 : Value}, ((((x.setCell ⟨w.heap.size, 0, none⟩ u1).setCell ⟨w.heap.size, 1, none⟩ u2).setCell ⟨w.heap.size, 2, none⟩ u3).cell? ⟨bb, 2, none⟩ = some (.int .u32 e.a) ∧ (((x.setCell ⟨w.heap.size, 0, none⟩ u1).setCell ⟨w.heap.size, 1, none⟩ u2).setCell ⟨w.heap.size, 2, none⟩ u3).cell? ⟨bb, 3, none⟩ = some (.int .i64 e.z) ∧ (((x.setCell ⟨w.heap.size, 0, none⟩ u1).setCell ⟨w.heap.size, 1, none⟩ u2).setCell ⟨w.heap.size, 2, none⟩ u3).rangeAt bb 0 e.vs)) := fun x hx u1 u2 u3 => by
    have c : ∀ o u, x.cell? ⟨bb, o, none⟩ = some u → (((x.setCell ⟨w.heap.size, 0, none⟩ u1).setCell ⟨w.heap.size, 1, none⟩ u2).setCell ⟨w.heap.size, 2, none⟩ u3).cell? ⟨bb, o, none⟩ = some u := fun o u h => by
      rw [World.cell?_setCell_far _ _ _ _ (show w.heap.size ≠ bb by omega), World.cell?_setCell_far _ _ _ _ (show w.heap.size ≠ bb by omega), World.cell?_setCell_far _ _ _ _ (show w.heap.size ≠ bb by omega)]
      exact h
    exact ⟨c 2 _ hx.1, c 3 _ hx.2.1, fun j u hj => c (0 + j) u (hx.2.2 j u hj)⟩
  clear cW hbW rYd hbb hbb2 hsX hsY
  refine wpAnyH_take (i := 0) (oi := { dst := some 28, op := Op.fieldAddr 86 (Operand.tmp 4) 2, type := 0, pos := "lsq.go:117", after := #[], guard := none }) (v := ?_) rfl (by kernel_rfl) (by kernel_rfl) (by kernel_rfl) (fun _ _ _ h => h) (Or.inl ⟨by rfl, ?_⟩) (by assumption) ?_
  rotate_left
  · (intro w hSw; (try dsimp only at hSw); (go_simp <;> with_reducible rfl))
  try simp only [Act.put, List.setIfInBounds_toArray, List.set_cons_zero, List.set_cons_succ]
  refine wpAnyH_take (i := 1) (oi := { dst := some 29, op := Op.load 38 (Operand.tmp 28), type := 38, pos := "lsq.go:117", after := #[{ on := 0, ground := Go.Ground.data }], guard := none }) (v := ?_) rfl (by kernel_rfl) (by kernel_rfl) (by kernel_rfl) (fun _ _ _ h => h) (Or.inl ⟨by rfl, ?_⟩) (by assumption) ?_
  rotate_left
  · (intro w hSw; (try dsimp only at hSw); (go_simp <;> with_reducible rfl))
  try simp only [Act.put, List.setIfInBounds_toArray, List.set_cons_zero, List.set_cons_succ]
  refine wpAnyH_take (i := 2) (oi := { dst := some 30, op := Op.fieldAddr 86 (Operand.tmp 4) 3, type := 0, pos := "lsq.go:117", after := #[], guard := none }) (v := ?_) rfl (by kernel_rfl) (by kernel_rfl) (by kernel_rfl) (fun _ _ _ h => h) (Or.inl ⟨by rfl, ?_⟩) (by assumption) ?_
  rotate_left
  · (intro w hSw; (try dsimp only at hSw); (go_simp <;> with_reducible rfl))
  try simp only [Act.put, List.setIfInBounds_toArray, List.set_cons_zero, List.set_cons_succ]
  refine wpAnyH_take (i := 3) (oi := { dst := some 31, op := Op.load 3 (Operand.tmp 30), type := 3, pos := "lsq.go:117", after := #[{ on := 2, ground := Go.Ground.data }], guard := none }) (v := ?_) rfl (by kernel_rfl) (by kernel_rfl) (by kernel_rfl) (fun _ _ _ h => h) (Or.inl ⟨by rfl, ?_⟩) (by assumption) ?_
  rotate_left
  · (intro w hSw; (try dsimp only at hSw); (go_simp <;> with_reducible rfl))
  try simp only [Act.put, List.setIfInBounds_toArray, List.set_cons_zero, List.set_cons_succ]
  refine wpAnyH_take (i := 4) (oi := { dst := some 32, op := Op.load 86 (Operand.tmp 4), type := 86, pos := "lsq.go:117", after := #[], guard := none }) (v := .agg e.vs.toArray) rfl (by kernel_rfl) (by kernel_rfl) (by kernel_rfl) (fun _ _ _ h => h) (yieldsIf_load_mid (by rfl) _ _ rfl bb 0 rfl e.vs _ (fun w hw => hw.2.2) Tryd.underlying86 rfl (by rw [acc_info]; rfl)) (by assumption) ?_
  try simp only [Act.put, List.setIfInBounds_toArray, List.set_cons_zero, List.set_cons_succ]
  refine wpAnyH_ready (rs := [5]) (by kernel_rfl) (by simp) ?_
  refine AllReadyH.cons (o := { dst := some 33, op := Op.call { callee := Callee.value (Operand.func 77), args := #[Operand.tmp 32], argTypes := #[86] }, type := 38, pos := "lsq.go:117", after := #[{ on := 4, ground := Go.Ground.data }], guard := none }) rfl (fun K hK => ?_) ?_
  · go_simp
    go_at_call 77
    refine (lowBytes_any e _ HZ3.out HDL.out).mono ?_
    rintro r w5 ⟨rfl, hb5⟩
    have HB5 := Hid.in hb5
    have HHE := Hid.in (HDD.out w5 hb5)
    have hcc := HHE.out.1
    have y0 := hcc.cell 0 (by decide)
    have y1 := hcc.cell 1 (by decide)
    have y2 := hcc.cell 2 (by decide)
    have f0 := hcc.free 0
    have f1 := hcc.free 1
    have f2 := hcc.free 2
    simp only [wrt] at y0 y1 y2
    clear hb5 hcc
    go_wp2_with fail
    refine hK.out _ _ ?_ (fun hHeld2 => ?_)
    · exact HHE.out.2
    clear hK K hHeld
    have hHeld := hHeld2
    clear hHeld2
    try simp only [Act.put, List.setIfInBounds_toArray, List.set_cons_zero, List.set_cons_succ]
    refine wpAnyH_take (i := 6) (oi := { dst := some 34, op := Op.build 99 #[(0, Operand.tmp 29), (1, Operand.tmp 31), (2, Operand.tmp 33)], type := 99, pos := "lsq.go:117", after := #[{ on := 1, ground := Go.Ground.data }, { on := 3, ground := Go.Ground.data }, { on := 5, ground := Go.Ground.data }], guard := none }) (v := ?_) rfl (by kernel_rfl) (by kernel_rfl) (by kernel_rfl) (fun _ _ _ h => h) (Or.inl ⟨by rfl, ?_⟩) (by assumption) ?_
    rotate_left
    · (intro w hSw; (try dsimp only at hSw); (go_simp <;> with_reducible rfl))
    try simp only [Act.put, List.setIfInBounds_toArray, List.set_cons_zero, List.set_cons_succ]
    refine wpAnyH_ready (rs := [7]) (by kernel_rfl) (by simp) ?_
    refine AllReadyH.cons (o := { dst := none, op := Op.store 99 (Operand.tmp 2) (Operand.tmp 34), type := 0, pos := "lsq.go:117", after := #[{ on := 6, ground := Go.Ground.data }, { on := 5, ground := Go.Ground.chain }, { on := 0, ground := Go.Ground.phase }, { on := 1, ground := Go.Ground.phase }, { on := 2, ground := Go.Ground.phase }, { on := 3, ground := Go.Ground.phase }, { on := 4, ground := Go.Ground.phase }, { on := 5, ground := Go.Ground.phase }, { on := 6, ground := Go.Ground.phase }], guard := none }) rfl (fun K hK => ?_) ?_
    · go_simp
      refine hK.out _ _ ?_ (fun hHeld2 => ?_)
      · exact HKP.out _ hHeld
      clear hK K hHeld
      have hHeld := hHeld2
      clear hHeld2
      try simp only [Act.put, List.setIfInBounds_toArray, List.set_cons_zero, List.set_cons_succ]
      refine wpAnyH_take (i := 8) (oi := { dst := some 3, op := Op.assign (Operand.const (Value.bool true)), type := 4, pos := "lsq.go:117", after := #[{ on := 7, ground := Go.Ground.chain }, { on := 0, ground := Go.Ground.phase }, { on := 1, ground := Go.Ground.phase }, { on := 2, ground := Go.Ground.phase }, { on := 3, ground := Go.Ground.phase }, { on := 4, ground := Go.Ground.phase }, { on := 5, ground := Go.Ground.phase }, { on := 6, ground := Go.Ground.phase }, { on := 7, ground := Go.Ground.phase }], guard := none }) (v := ?_) rfl (by kernel_rfl) (by kernel_rfl) (by kernel_rfl) (fun _ _ _ h => h) (Or.inl ⟨by rfl, ?_⟩) (by assumption) ?_
      rotate_left
      · (intro w hSw; (try dsimp only at hSw); (go_simp <;> with_reducible rfl))
      try simp only [Act.put, List.setIfInBounds_toArray, List.set_cons_zero, List.set_cons_succ]
      refine wpAnyH_done (by kernel_rfl) ?_ _
      go_wp2_with fail
      have z := ((HHE.out.1.set 0 (by decide) (.int .u32 e.a)).set 1 (by decide) (.int .i64 e.z)).set 2 (by decide) (.int .u32 (e.d % 256 ^ e.z : Nat))
      refine bodyPost_ret (results_wr Tryd.results56 _ _ w.heap.size _ _ _ _ rfl rfl (z.cell 0 (by decide)) (z.cell 1 (by decide)) (z.cell 2 (by decide))) rfl ⟨rfl, ?_⟩
      have t : Turned (fun j => w.heap.size ≤ j) w w5 := Turned.of_below (below2 HBW.out HB5.out)
      exact (((t.set (b := w.heap.size) (Nat.le_refl _) 0 _).set (b := w.heap.size) (Nat.le_refl _) 1 _).set (b := w.heap.size) (Nat.le_refl _) 2 _).below (Nat.le_refl _) (fun j e => e)
    exact AllReadyH.nil
  exact AllReadyH.nil
end Go.Proofs.YthbffonedpeeiaaDoor
