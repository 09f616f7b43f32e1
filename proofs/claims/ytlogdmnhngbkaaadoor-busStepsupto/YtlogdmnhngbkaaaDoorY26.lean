import Derived.Test.YtlogdmnhngbkaaaDoorY24
import Derived.Test.YtlogdmnhngbkaaaDoorY25
import Derived.Deep.RegionHeld3
/-
  BUS: the answer's done: the line is filled in.
-/
namespace Go.Proofs.YtlogdmnhngbkaaaDoor
open Go Go.RowKit
theorem fin24 {ya : World} {g : Rn} {F : Nat → Prop} {D : BS} {lb : Nat} {lf : Ln} (hu : Ru ya g (fun j => F j ∨ j = lb) D) (th : ya.there lb 0 18) : (ya.setCells lb 0 lf.rv).rangeAt lb 0 lf.rv ∧ Ru (ya.setCells lb 0 lf.rv) g (fun j => F j ∨ j = lb) D ∧ Turned (fun j => j = lb) ya (ya.setCells lb 0 lf.rv) := by
  have t : Turned (fun j => j = lb) ya (ya.setCells lb 0 lf.rv) := turned_setCells _ _ _
  exact ⟨World.rangeAt_setCells_same _ _ _ _ (by rw [Ln.rlen]; exact th), (hu.turn t (fun z hz _ => Or.inr hz)).less (fun z hz => Or.inl hz), t⟩
theorem rzr_there (w : World) : (w.alloc (.cells zr 104)).there w.heap.size 0 18 := fun j hj => by
  refine ⟨?_, World.frozen?_alloc_at _ _ _ _ rfl⟩
  rw [World.cell?_alloc_new, Nat.zero_add, Array.getElem?_eq_getElem (by show j < 18; exact hj)]
  rfl
set_option maxRecDepth 100000 in
set_option maxHeartbeats 4000000 in
theorem dreg24 {u3 u4 u5 u6 u7 u8 u9 u11 u12 u13 u14 u15 u16 u18 u19 u20 u21 u22 u23 u24 u25 u26 u27 u28 u29 u30 u31 u32 u33 u34 u35 u36 u37 u38 u39 u40 u41 u42 u43 u44 u45 u46 u47 u48 u49 u50 u51 u52 u53 u54 u55 u56 u57 u58 u59 u60 u61 u62 u63 u64 u65 u66 u67 u68 u69 u70 u71 u72 u73 u74 u75 u76 u77 u78 u79 u80 u81 u82 u83 u84 u85 u86 u87 u88 u89 u90 u91 u92 u93 u94 u95 u96 u97 u98 u99 u100 u101 u102 u103 u104 u105 u106 u107 u108 u109 u110 u111 u112 u113 u114 u115 u116 u117 u118 u119 u120 u121 u122 u123 u124 u125 u126 u127 u128 u129 u130 u131 u132 u133 u134 u135 u136 u137 u138 u139 u140 u141 u142 u143 u144 u145 u146 : Value} {ds : List Deferred} {W : World} {g : Rn} {F : Nat → Prop} {Q D : BS} {c l th xb : Nat} {b : Nat → Nat} {lf : Ln} (hc : c < Q.nc) (hu : Ru W g F Q) (hx : F xb) (hr : W.rangeAt xb 0 (bvs b)) (hfi : ∀ (z : World) (G : Nat → Prop), Ru z g G Q → Calls Tryd.prog 53 #[.pointer (some ⟨g.q c, 0, none⟩), .int .i64 l, .agg (bvs b).toArray, .int .i64 th] z fun e w' => e = .returned (.tuple #[.agg lf.rv.toArray, .int .i64 0]) ∧ Ru w' g G D ∧ Turned (fun j => ¬ G j) z w') (hnc : D.nc = Q.nc) {K : Act → World → Prop} (hk : ∀ (t110 t111 t112 t113 t114 t115 t116 t117 t118 t119 t120 t121 t122 t123 : Value) (lb : Nat) (y : World), W.heap.size ≤ lb → lb < y.heap.size → y.rangeAt lb 0 lf.rv → Ru y g (fun j => F j ∨ j = lb) D → Turned (fun j => ¬ F j) W y → K ⟨#[.pointer (some ⟨g.p, 0, none⟩), .int .i64 (c : Nat), .int .i64 (l : Nat), u3, u4, u5, u6, u7, u8, u9, .int .i64 (th : Nat), u11, u12, u13, u14, u15, u16, .pointer (some ⟨xb, 0, none⟩), u18, .pointer (some ⟨lb, 0, none⟩), .int .i64 0, u21, u22, u23, u24, u25, u26, u27, u28, u29, u30, u31, u32, u33, u34, u35, u36, u37, u38, u39, u40, u41, u42, u43, u44, u45, u46, u47, u48, u49, u50, u51, u52, u53, u54, u55, u56, u57, u58, u59, u60, u61, u62, u63, u64, u65, u66, u67, u68, u69, u70, u71, u72, u73, u74, u75, u76, u77, u78, u79, u80, u81, u82, u83, u84, u85, u86, u87, u88, u89, u90, u91, u92, u93, u94, u95, u96, u97, u98, u99, u100, u101, u102, u103, u104, u105, u106, u107, u108, u109, t110, t111, t112, t113, t114, t115, t116, t117, t118, t119, t120, t121, t122, t123, u124, u125, u126, u127, u128, u129, u130, u131, u132, u133, u134, u135, u136, u137, u138, u139, u140, u141, u142, u143, u144, u145, u146], ds⟩ y) : (regIn Tryd.f30.body 24).wp Tryd.prog (Exit.then K NoX) ⟨#[.pointer (some ⟨g.p, 0, none⟩), .int .i64 (c : Nat), .int .i64 (l : Nat), u3, u4, u5, u6, u7, u8, u9, .int .i64 (th : Nat), u11, u12, u13, u14, u15, u16, .pointer (some ⟨xb, 0, none⟩), u18, u19, u20, u21, u22, u23, u24, u25, u26, u27, u28, u29, u30, u31, u32, u33, u34, u35, u36, u37, u38, u39, u40, u41, u42, u43, u44, u45, u46, u47, u48, u49, u50, u51, u52, u53, u54, u55, u56, u57, u58, u59, u60, u61, u62, u63, u64, u65, u66, u67, u68, u69, u70, u71, u72, u73, u74, u75, u76, u77, u78, u79, u80, u81, u82, u83, u84, u85, u86, u87, u88, u89, u90, u91, u92, u93, u94, u95, u96, u97, u98, u99, u100, u101, u102, u103, u104, u105, u106, u107, u108, u109, u110, u111, u112, u113, u114, u115, u116, u117, u118, u119, u120, u121, u122, u123, u124, u125, u126, u127, u128, u129, u130, u131, u132, u133, u134, u135, u136, u137, u138, u139, u140, u141, u142, u143, u144, u145, u146], ds⟩ W := by
  have HQ := Hid.in hk
  have HFI := Hid.in hfi
  have HXF := Hid.in hx
  have hlo : Hid (∀ z, F z → z < W.heap.size) := fun z hz => hu.here hz
  have HLO := Hid.in hlo
  have hxl := hu.here hx
  have HXL := Hid.in hxl
  have KEY : Hid (∀ (z : World) (S' : BS) (G : Nat → Prop), S'.nc = Q.nc → Ru z g G S' → z.cell? ⟨g.p, 0, none⟩ = some (.slice (some ⟨g.cb, 0, none⟩) Q.nc g.cc) ∧ z.cell? ⟨g.cb, c, none⟩ = some (.pointer (some ⟨g.q c, 0, none⟩))) := by
    intro z S' G hn hz
    obtain ⟨last, left, o1, o2, -⟩ := hz.own
    rw [hn] at o2
    exact ⟨by rw [← hn]; exact o1.cell 0 (by decide), o2.cell c hc⟩
  have HNC := Hid.in hnc
  have HU := Hid.in hu
  have bD : Below W.heap.size W W.drew := ⟨rfl, rfl, rfl, Nat.le_refl _, fun _ _ => rfl⟩
  have HUD : Hid (Ru W.drew g F Q) := hu.below bD
  have HRD : Hid (W.drew.rangeAt xb 0 (bvs b)) := range_turned hr (Turned.of_below (Q := fun _ => False) bD) hxl (fun q => q)
  obtain ⟨k1, k2⟩ := KEY.out W Q F rfl hu
  obtain ⟨last, left, o1, o2, -, -, o4, o5, -⟩ := hu.own
  have hp := o1.here
  have hcb := o2.here
  have hc' : (c : Int) < (Q.nc : Int) := by omega
  have HAL : Hid (∀ w : World, Below w.heap.size w (w.alloc (.cells zr 104)) ∧ (w.alloc (.cells zr 104)).heap.size = w.heap.size + 1) := fun w => ⟨(Below.refl _ _).alloc (Nat.le_refl _) _, by simp⟩
  clear hk hfi hx hu hnc hlo hxl bD o1 o2 o4 o5
  show Code.wp _ (Code.region 24 _ true) _ _ _
  refine wp_region_held_drew (S := fun w' => w'.cell? ⟨g.p, 0, none⟩ = some (.slice (some ⟨g.cb, 0, none⟩) Q.nc g.cc) ∧ w'.cell? ⟨g.cb, c, none⟩ = some (.pointer (some ⟨g.q c, 0, none⟩)) ∧ w'.rangeAt xb 0 (bvs b)) (by kernel_rfl) ⟨k1, k2, by assumption⟩ (fun hHeld => ?_)
  refine wpAnyH_take (i := 0) (oi := { dst := some 111, op := _, type := _, pos := _, after := _, guard := none }) (v := .pointer (some ⟨g.p, 0, none⟩)) rfl (by kernel_rfl) (by kernel_rfl) (by kernel_rfl) (fun _ _ _ h => h) (Or.inl ⟨by rfl, fun w hSw => by obtain ⟨q1, q2, q3⟩ := hSw; go_simp⟩) hHeld ?_
  simp only [Act.put, List.setIfInBounds_toArray, List.set_cons_zero, List.set_cons_succ]
  refine wpAnyH_take (i := 1) (oi := { dst := some 112, op := _, type := _, pos := _, after := _, guard := none }) (v := .pointer (some ⟨g.p, 0, none⟩)) rfl (by kernel_rfl) (by kernel_rfl) (by kernel_rfl) (fun _ _ _ h => h) (Or.inl ⟨by rfl, fun w hSw => by obtain ⟨q1, q2, q3⟩ := hSw; go_simp⟩) hHeld ?_
  simp only [Act.put, List.setIfInBounds_toArray, List.set_cons_zero, List.set_cons_succ]
  refine wpAnyH_take (i := 2) (oi := { dst := some 113, op := _, type := _, pos := _, after := _, guard := none }) (v := .pointer (some ⟨g.p, 0, none⟩)) rfl (by kernel_rfl) (by kernel_rfl) (by kernel_rfl) (fun _ _ _ h => h) (Or.inl ⟨by rfl, fun w hSw => by obtain ⟨q1, q2, q3⟩ := hSw; go_simp⟩) hHeld ?_
  simp only [Act.put, List.setIfInBounds_toArray, List.set_cons_zero, List.set_cons_succ]
  refine wpAnyH_take (i := 3) (oi := { dst := some 114, op := _, type := _, pos := _, after := _, guard := none }) (v := .slice (some ⟨g.cb, 0, none⟩) Q.nc g.cc) rfl (by kernel_rfl) (by kernel_rfl) (by kernel_rfl) (fun _ _ _ h => h) (Or.inl ⟨by rfl, fun w hSw => by obtain ⟨q1, q2, q3⟩ := hSw; go_simp⟩) hHeld ?_
  simp only [Act.put, List.setIfInBounds_toArray, List.set_cons_zero, List.set_cons_succ]
  refine wpAnyH_take (i := 4) (oi := { dst := some 115, op := _, type := _, pos := _, after := _, guard := none }) (v := .int .i64 (c : Nat)) rfl (by kernel_rfl) (by kernel_rfl) (by kernel_rfl) (fun _ _ _ h => h) (Or.inl ⟨by rfl, fun w hSw => by obtain ⟨q1, q2, q3⟩ := hSw; go_simp⟩) hHeld ?_
  simp only [Act.put, List.setIfInBounds_toArray, List.set_cons_zero, List.set_cons_succ]
  refine wpAnyH_take (i := 5) (oi := { dst := some 116, op := _, type := _, pos := _, after := _, guard := none }) (v := .pointer (some ⟨g.cb, c, none⟩)) rfl (by kernel_rfl) (by kernel_rfl) (by kernel_rfl) (fun _ _ _ h => h) (Or.inl ⟨by rfl, fun w hSw => by obtain ⟨q1, q2, q3⟩ := hSw; go_simp⟩) hHeld ?_
  simp only [Act.put, List.setIfInBounds_toArray, List.set_cons_zero, List.set_cons_succ]
  refine wpAnyH_take (i := 6) (oi := { dst := some 117, op := _, type := _, pos := _, after := _, guard := none }) (v := .pointer (some ⟨g.q c, 0, none⟩)) rfl (by kernel_rfl) (by kernel_rfl) (by kernel_rfl) (fun _ _ _ h => h) (Or.inl ⟨by rfl, fun w hSw => by obtain ⟨q1, q2, q3⟩ := hSw; go_simp⟩) hHeld ?_
  simp only [Act.put, List.setIfInBounds_toArray, List.set_cons_zero, List.set_cons_succ]
  refine wpAnyH_take (i := 7) (oi := { dst := some 118, op := _, type := _, pos := _, after := _, guard := none }) (v := .int .i64 (l : Nat)) rfl (by kernel_rfl) (by kernel_rfl) (by kernel_rfl) (fun _ _ _ h => h) (Or.inl ⟨by rfl, fun w hSw => by obtain ⟨q1, q2, q3⟩ := hSw; go_simp⟩) hHeld ?_
  simp only [Act.put, List.setIfInBounds_toArray, List.set_cons_zero, List.set_cons_succ]
  refine wpAnyH_take (i := 8) (oi := { dst := some 119, op := _, type := _, pos := _, after := _, guard := none }) (v := .agg (bvs b).toArray) rfl (by kernel_rfl) (by kernel_rfl) (by kernel_rfl) (fun _ _ _ h => h) (yieldsIf_load_mid (by rfl) 98 (.tmp 17) rfl xb 0 rfl (bvs b) _ (fun w h => h.2.2) Tryd.underlying98 rfl (by rw [arr_info, bvs_len])) hHeld ?_
  simp only [Act.put, List.setIfInBounds_toArray, List.set_cons_zero, List.set_cons_succ]
  refine wpAnyH_take (i := 9) (oi := { dst := some 120, op := _, type := _, pos := _, after := _, guard := none }) (v := .int .i64 (th : Nat)) rfl (by kernel_rfl) (by kernel_rfl) (by kernel_rfl) (fun _ _ _ h => h) (Or.inl ⟨by rfl, fun w hSw => by obtain ⟨q1, q2, q3⟩ := hSw; go_simp⟩) hHeld ?_
  simp only [Act.put, List.setIfInBounds_toArray, List.set_cons_zero, List.set_cons_succ]
  refine wpAnyH_ready (rs := [10, 14]) (by kernel_rfl) (by simp) ?_
  refine AllReadyH.cons rfl (fun K2 hK => ?_) (AllReadyH.cons rfl (fun K2 hK => ?_) AllReadyH.nil)
  · go_simp
    go_at_call 53
    refine (HFI.out _ F HUD.out).mono ?_
    rintro e y2 ⟨rfl, hu2, ht2⟩
    have hr2 := range_turned HRD.out ht2 HXL.out (fun q => q HXF.out)
    have hx2 : xb < y2.heap.size := Nat.lt_of_lt_of_le HXL.out ht2.size
    have hs2 : W.heap.size ≤ y2.heap.size := ht2.size
    have ht2' : Turned (fun j => ¬ F j) W y2 := (Turned.refl _ W).drew.trans ht2
    refine hK.out _ _ ⟨(KEY.out _ D _ HNC.out hu2).1, (KEY.out _ D _ HNC.out hu2).2, hr2⟩ (fun hHeld => ?_)
    clear hK K2
    refine wpAnyH_take (i := 11) (oi := { dst := some 110, op := _, type := _, pos := _, after := _, guard := none }) (v := .tuple #[.agg lf.rv.toArray, .int .i64 0]) rfl (by kernel_rfl) (by kernel_rfl) (by kernel_rfl) (fun _ _ _ h => h) (Or.inl ⟨by rfl, fun w hSw => by obtain ⟨q1, q2, q3⟩ := hSw; go_simp⟩) hHeld ?_
    simp only [Act.put, List.setIfInBounds_toArray, List.set_cons_zero, List.set_cons_succ]
    refine wpAnyH_take (i := 12) (oi := { dst := some 122, op := _, type := _, pos := _, after := _, guard := none }) (v := .agg lf.rv.toArray) rfl (by kernel_rfl) (by kernel_rfl) (by kernel_rfl) (fun _ _ _ h => h) (Or.inl ⟨by rfl, fun w hSw => by obtain ⟨q1, q2, q3⟩ := hSw; go_simp⟩) hHeld ?_
    simp only [Act.put, List.setIfInBounds_toArray, List.set_cons_zero, List.set_cons_succ]
    refine wpAnyH_take (i := 13) (oi := { dst := some 123, op := _, type := _, pos := _, after := _, guard := none }) (v := .int .i64 0) rfl (by kernel_rfl) (by kernel_rfl) (by kernel_rfl) (fun _ _ _ h => h) (Or.inl ⟨by rfl, fun w hSw => by obtain ⟨q1, q2, q3⟩ := hSw; go_simp⟩) hHeld ?_
    simp only [Act.put, List.setIfInBounds_toArray, List.set_cons_zero, List.set_cons_succ]
    refine wpAnyH_ready (rs := [14]) (by kernel_rfl) (by simp) ?_
    refine AllReadyH.cons rfl (fun K2 hK => ?_) AllReadyH.nil
    go_simp
    try rw [← zr]
    have hba := (HAL.out y2).1
    have hsa := (HAL.out y2).2
    have hth := rzr_there y2
    obtain ⟨ya, hya⟩ : ∃ ya, y2.alloc (.cells zr 104) = ya := ⟨_, rfl⟩
    rw [hya] at hba hsa hth ⊢
    have hua : Ru ya g (fun j => F j ∨ j = y2.heap.size) D := (hu2.fresh hba).less (fun z hz => hz.elim Or.inl (fun q => Or.inr (by omega)))
    have hra := range_turned hr2 (Turned.of_below (Q := fun _ => False) hba) hx2 (fun q => q)
    have hxa : xb < ya.heap.size := by omega
    have hta : Turned (fun j => ¬ F j) W ya := ht2'.trans (Turned.of_below hba)
    refine hK.out _ _ ⟨(KEY.out _ D _ HNC.out hua).1, (KEY.out _ D _ HNC.out hua).2, hra⟩ (fun hHeld => ?_)
    clear hK K2
    refine wpAnyH_ready (rs := [15]) (by kernel_rfl) (by simp) ?_
    refine AllReadyH.cons rfl (fun K2 hK => ?_) AllReadyH.nil
    rw [if_pos (by kernel_rfl)]
    refine wp_store_mid 104 (.tmp 19) (.tmp 122) rfl y2.heap.size 0 lf.rv.toArray (by kernel_rfl) (by kernel_rfl) (by rw [Ln.rsizeA]; exact hth) (by rw [rline_info, Ln.rsizeA]) lf.roneA ?_
    have HFF := Hid.in (fin24 (lf := lf) hua hth)
    refine hK.out _ _ ⟨(KEY.out _ D _ HNC.out HFF.out.2.1).1, (KEY.out _ D _ HNC.out HFF.out.2.1).2, range_turned hra HFF.out.2.2 hxa (fun q => by have h1 := HXL.out; omega)⟩ (fun hHeld => ?_)
    clear hK K2
    refine wpAnyH_take (i := 16) (oi := { dst := some 20, op := _, type := _, pos := _, after := _, guard := none }) (v := .int .i64 0) rfl (by kernel_rfl) (by kernel_rfl) (by kernel_rfl) (fun _ _ _ h => h) (Or.inl ⟨by rfl, fun w hSw => by obtain ⟨q1, q2, q3⟩ := hSw; go_simp⟩) hHeld ?_
    refine wpAnyH_done (by kernel_rfl) ?_ _
    go_wp2
    exact HQ.out _ _ _ _ _ _ _ _ _ _ _ _ _ _ y2.heap.size _ hs2 (Nat.lt_of_lt_of_le (by omega) HFF.out.2.2.size) HFF.out.1 HFF.out.2.1 (hta.trans (HFF.out.2.2.mono (fun j q f => by have h1 := HLO.out.out j f; omega)))
  · go_simp
    try rw [← zr]
    have hba := (HAL.out W.drew).1
    have hsa := (HAL.out W.drew).2
    have hth0 := rzr_there W.drew
    have hsw : W.drew.alloc (.cells zr 104) = (W.alloc (.cells zr 104)).drew := rfl
    rw [hsw] at hba hsa hth0
    obtain ⟨y0, hy0⟩ : ∃ y0, (W.alloc (.cells zr 104)).drew = y0 := ⟨_, rfl⟩
    rw [hy0] at hba hsa hth0 ⊢
    have hsD : W.drew.heap.size = W.heap.size := rfl
    have hu0 : Ru y0 g (fun j => F j ∨ j = W.heap.size) Q := (HUD.out.fresh hba).less (fun z hz => hz.elim Or.inl (fun q => Or.inr (by omega)))
    have hr0 := range_turned HRD.out (Turned.of_below (Q := fun _ => False) hba) HXL.out (fun q => q)
    have hx0 : xb < y0.heap.size := by have h1 := HXL.out; omega
    have ht0 : Turned (fun j => ¬ F j) W y0 := (Turned.refl _ W).drew.trans (Turned.of_below hba)
    refine hK.out _ _ ⟨(KEY.out _ Q _ rfl hu0).1, (KEY.out _ Q _ rfl hu0).2, hr0⟩ (fun hHeld => ?_)
    clear hK K2
    refine wpAnyH_ready (rs := [10]) (by kernel_rfl) (by simp) ?_
    refine AllReadyH.cons rfl (fun K2 hK => ?_) AllReadyH.nil
    go_simp
    go_at_call 53
    refine (HFI.out _ _ hu0).mono ?_
    rintro e ya ⟨rfl, hua, ht2⟩
    have hra := range_turned hr0 ht2 hx0 (fun q => q (Or.inl HXF.out))
    have hxa : xb < ya.heap.size := Nat.lt_of_lt_of_le hx0 ht2.size
    have hth := there_turned hth0 ht2 (by omega) (fun q => q (Or.inr rfl))
    have hta : Turned (fun j => ¬ F j) W ya := ht0.trans (ht2.mono (fun j q f => q (Or.inl f)))
    have hsz : W.heap.size < ya.heap.size := Nat.lt_of_lt_of_le (by omega) ht2.size
    refine hK.out _ _ ⟨(KEY.out _ D _ HNC.out hua).1, (KEY.out _ D _ HNC.out hua).2, hra⟩ (fun hHeld => ?_)
    clear hK K2
    refine wpAnyH_take (i := 11) (oi := { dst := some 110, op := _, type := _, pos := _, after := _, guard := none }) (v := .tuple #[.agg lf.rv.toArray, .int .i64 0]) rfl (by kernel_rfl) (by kernel_rfl) (by kernel_rfl) (fun _ _ _ h => h) (Or.inl ⟨by rfl, fun w hSw => by obtain ⟨q1, q2, q3⟩ := hSw; go_simp⟩) hHeld ?_
    simp only [Act.put, List.setIfInBounds_toArray, List.set_cons_zero, List.set_cons_succ]
    refine wpAnyH_take (i := 12) (oi := { dst := some 122, op := _, type := _, pos := _, after := _, guard := none }) (v := .agg lf.rv.toArray) rfl (by kernel_rfl) (by kernel_rfl) (by kernel_rfl) (fun _ _ _ h => h) (Or.inl ⟨by rfl, fun w hSw => by obtain ⟨q1, q2, q3⟩ := hSw; go_simp⟩) hHeld ?_
    simp only [Act.put, List.setIfInBounds_toArray, List.set_cons_zero, List.set_cons_succ]
    refine wpAnyH_take (i := 13) (oi := { dst := some 123, op := _, type := _, pos := _, after := _, guard := none }) (v := .int .i64 0) rfl (by kernel_rfl) (by kernel_rfl) (by kernel_rfl) (fun _ _ _ h => h) (Or.inl ⟨by rfl, fun w hSw => by obtain ⟨q1, q2, q3⟩ := hSw; go_simp⟩) hHeld ?_
    simp only [Act.put, List.setIfInBounds_toArray, List.set_cons_zero, List.set_cons_succ]
    refine wpAnyH_ready (rs := [15]) (by kernel_rfl) (by simp) ?_
    refine AllReadyH.cons rfl (fun K2 hK => ?_) AllReadyH.nil
    rw [if_pos (by kernel_rfl)]
    refine wp_store_mid 104 (.tmp 19) (.tmp 122) rfl W.heap.size 0 lf.rv.toArray (by kernel_rfl) (by kernel_rfl) (by rw [Ln.rsizeA]; exact hth) (by rw [rline_info, Ln.rsizeA]) lf.roneA ?_
    have HFF := Hid.in (fin24 (lf := lf) hua hth)
    refine hK.out _ _ ⟨(KEY.out _ D _ HNC.out HFF.out.2.1).1, (KEY.out _ D _ HNC.out HFF.out.2.1).2, range_turned hra HFF.out.2.2 hxa (fun q => by have h1 := HXL.out; omega)⟩ (fun hHeld => ?_)
    clear hK K2
    refine wpAnyH_take (i := 16) (oi := { dst := some 20, op := _, type := _, pos := _, after := _, guard := none }) (v := .int .i64 0) rfl (by kernel_rfl) (by kernel_rfl) (by kernel_rfl) (fun _ _ _ h => h) (Or.inl ⟨by rfl, fun w hSw => by obtain ⟨q1, q2, q3⟩ := hSw; go_simp⟩) hHeld ?_
    refine wpAnyH_done (by kernel_rfl) ?_ _
    go_wp2
    exact HQ.out _ _ _ _ _ _ _ _ _ _ _ _ _ _ W.heap.size _ (Nat.le_refl _) (Nat.lt_of_lt_of_le hsz HFF.out.2.2.size) HFF.out.1 HFF.out.2.1 (hta.trans (HFF.out.2.2.mono (fun j q f => by have h1 := HLO.out.out j f; omega)))
end Go.Proofs.YtlogdmnhngbkaaaDoor
