import Derived.Test.YtlogdmnhngbkaaaDoorY43
/-
  BUS' LAW BusSteps: made: the shapes.
-/
namespace Go.Proofs.YtlogdmnhngbkaaaDoor
open Go Go.RowKit
/-- shapes, laid behind each other -/
def shL (fs fw : Nat → Int) (n : Nat) : List Value := (List.range n).flatMap (fun i => [.int .i64 (fs i), .int .i64 (fw i)])
theorem shL_succ (fs fw : Nat → Int) (n : Nat) : shL fs fw (n + 1) = shL fs fw n ++ [.int .i64 (fs n), .int .i64 (fw n)] := by
  unfold shL
  rw [List.range_succ, List.flatMap_append]
  simp
theorem shL_len (fs fw : Nat → Int) : ∀ n, (shL fs fw n).length = n * 2
  | 0 => rfl
  | n + 1 => by
    rw [shL_succ, List.length_append, shL_len fs fw n]
    show n * 2 + 2 = _
    omega
theorem shL_at (fs fw : Nat → Int) : ∀ n i, i < n → (shL fs fw n)[i * 2]? = some (.int .i64 (fs i)) ∧ (shL fs fw n)[i * 2 + 1]? = some (.int .i64 (fw i))
  | 0, i, h => absurd h (by omega)
  | n + 1, i, h => by
    have hl := shL_len fs fw n
    rw [shL_succ]
    by_cases e : i = n
    · subst e
      constructor
      · rw [List.getElem?_append_right (by omega), hl, Nat.sub_self]
        rfl
      · rw [List.getElem?_append_right (by omega), hl, show i * 2 + 1 - i * 2 = 1 by omega]
        rfl
    · obtain ⟨h1, h2⟩ := shL_at fs fw n i (by omega)
      rw [List.getElem?_append_left (by omega), List.getElem?_append_left (by omega)]
      exact ⟨h1, h2⟩
theorem app_shp {B : Nat} (x : World) (v : Value) (n : Nat) (xs : List Value) (a b : Int) (hr : x.ownsRow B 56 2 v n xs) (hl : n ≤ 2000000) (hB : B ≤ x.heap.size) : ∃ g cap z, (Builtin.append_ #[54, 54] 54 #[v, .slice (some ⟨x.heap.size, 0, none⟩) 1 1]).run Tryd.prog (x.alloc (.cells #[.int .i64 a, .int .i64 b] 56)) = .ok (.slice (some ⟨g, 0, none⟩) (n + 1) cap) z ∧ z.ownsRow B 56 2 (.slice (some ⟨g, 0, none⟩) (n + 1) cap) (n + 1) (xs ++ [.int .i64 a, .int .i64 b]) ∧ Turned (fun j => v.ownBlock = some j) x z := by
  obtain ⟨i0, hi0, hz0, hz1, hz2⟩ := info_parts (show (Tryd.prog.info? 56).map (fun i => (i.zero, i.size, i.bytes)) = some (some (.agg #[.int .i64 0, .int .i64 0]), 2, 16) by kernel_rfl)
  obtain ⟨v', w1, hrun, r1, r2, r3, r4⟩ := run_append_own_at (P := Tryd.prog) (w := x.alloc (.cells #[.int .i64 a, .int .i64 b] 56)) B 54 54 56 i0 (.agg #[.int .i64 0, .int .i64 0]) 2 16 Tryd.underlying54 hi0 hz0 hz1 hz2 rfl (by decide) v n xs (hr.alloc _) ⟨x.heap.size, 0, none⟩ 1 1 [.int .i64 a, .int .i64 b] rfl (fun j u hj => by
      rw [Addr.add_lit, Nat.zero_add]
      refine (World.cell?_alloc_new x _ _ j).trans ?_
      rw [← hj]
      simp) (fun u hu => by
      simp at hu
      rcases hu with rfl | rfl <;> rfl) (by unfold maxLen; omega) (by omega) (by simp; omega)
  obtain ⟨g, cap, rfl⟩ := own_succ r1
  exact ⟨g, cap, w1, hrun, r1, (((Turned.refl _ x).alloc _).trans (turned_grown r2))⟩
set_option maxRecDepth 100000 in
set_option maxHeartbeats 4000000 in
theorem mblk0 {u2 u3 u4 u5 u6 u7 u8 u9 u10 u13 u14 u15 u16 u17 u18 u19 u20 u21 u22 u23 u24 u25 u26 u27 u28 u29 u30 u31 u32 u33 u34 u35 u36 u37 u38 u39 u40 u41 u42 u43 u44 u45 u46 u47 u48 u49 u50 u51 u52 u53 u54 u55 u56 u57 u58 u59 u60 u61 u62 u63 u64 u65 u66 u67 u68 u69 u70 u71 u72 u73 u74 u75 u76 u77 u78 u79 u80 u81 u82 u83 u84 u85 u86 u87 u88 u89 u90 u91 u92 u93 u94 u95 u96 u97 u98 u99 u100 u101 u102 u103 u104 u105 u106 u107 u108 u109 u110 u111 u112 u113 u114 u115 u116 u117 u118 u119 u120 u121 u122 u123 u124 u125 u126 u127 u128 u129 u130 u131 u132 u133 u134 u135 u136 u137 u138 u139 u140 u141 u142 u143 u144 u145 u146 u147 u148 u149 u150 u151 u152 u153 u154 u155 u156 u157 u158 u159 u160 u161 u162 u163 : Value} {ds : List Deferred} {W : World} {sp wp : Option Addr} {n1 c1 n2 c2 n : Nat} {fs fw : Nat → Int} (hs : IntsB W sp n1 fs) (hw : IntsB W wp n2 fw) (hn : n = min n1 n2) (hb : n1 ≤ 1048576) {K : Act → World → Prop} (hk : ∀ (t12 t22 t23 t24 t25 t26 t27 t28 t29 t30 t31 t32 t33 t34 t35 t36 t37 t38 t39 t40 t41 t42 t43 t44 t45 : Value) (sv : Value) (y : World), y.ownsRow W.heap.size 56 2 sv n (shL fs fw n) → Below W.heap.size W y → K ⟨#[.slice sp n1 c1, .slice wp n2 c2, u2, u3, u4, u5, u6, u7, u8, u9, u10, sv, t12, u13, u14, u15, u16, u17, u18, u19, u20, u21, t22, t23, t24, t25, t26, t27, t28, t29, t30, t31, t32, t33, t34, t35, t36, t37, t38, t39, t40, t41, t42, t43, t44, t45, u46, u47, u48, u49, u50, u51, u52, u53, u54, u55, u56, u57, u58, u59, u60, u61, u62, u63, u64, u65, u66, u67, u68, u69, u70, u71, u72, u73, u74, u75, u76, u77, u78, u79, u80, u81, u82, u83, u84, u85, u86, u87, u88, u89, u90, u91, u92, u93, u94, u95, u96, u97, u98, u99, u100, u101, u102, u103, u104, u105, u106, u107, u108, u109, u110, u111, u112, u113, u114, u115, u116, u117, u118, u119, u120, u121, u122, u123, u124, u125, u126, u127, u128, u129, u130, u131, u132, u133, u134, u135, u136, u137, u138, u139, u140, u141, u142, u143, u144, u145, u146, u147, u148, u149, u150, u151, u152, u153, u154, u155, u156, u157, u158, u159, u160, u161, u162, u163], ds⟩ y) : (blkIn Tryd.f4.body 0).wp Tryd.prog (Exit.then K NoX) ⟨#[.slice sp n1 c1, .slice wp n2 c2, u2, u3, u4, u5, u6, u7, u8, u9, u10, .slice none 0 0, .int .i64 0, u13, u14, u15, u16, u17, u18, u19, u20, u21, u22, u23, u24, u25, u26, u27, u28, u29, u30, u31, u32, u33, u34, u35, u36, u37, u38, u39, u40, u41, u42, u43, u44, u45, u46, u47, u48, u49, u50, u51, u52, u53, u54, u55, u56, u57, u58, u59, u60, u61, u62, u63, u64, u65, u66, u67, u68, u69, u70, u71, u72, u73, u74, u75, u76, u77, u78, u79, u80, u81, u82, u83, u84, u85, u86, u87, u88, u89, u90, u91, u92, u93, u94, u95, u96, u97, u98, u99, u100, u101, u102, u103, u104, u105, u106, u107, u108, u109, u110, u111, u112, u113, u114, u115, u116, u117, u118, u119, u120, u121, u122, u123, u124, u125, u126, u127, u128, u129, u130, u131, u132, u133, u134, u135, u136, u137, u138, u139, u140, u141, u142, u143, u144, u145, u146, u147, u148, u149, u150, u151, u152, u153, u154, u155, u156, u157, u158, u159, u160, u161, u162, u163], ds⟩ W := by
  have HQ := Hid.in hk
  have HS := Hid.in hs
  have HW := Hid.in hw
  have hn1 : n ≤ n1 := by omega
  have hn2 : n ≤ n2 := by omega
  have HNN := Hid.in hn
  have HZ : Hid (shL fs fw 0 = []) := rfl
  clear hk hs hw hn
  show Code.wp _ (Code.block 0 (Code.loop _)) _ _ _
  go_wp2_with fail
  go_loopw [11, 12] (fun sv iv wr => ∃ i : Nat, iv = .int .i64 i ∧ i ≤ n ∧ Hid (wr.ownsRow W.heap.size 56 2 sv i (shL fs fw i)) ∧ Hid (Below W.heap.size W wr)) (fun _ iv _ => 2000000 - (intOf iv).toNat)
  case atStart => exact ⟨0, rfl, by omega, by rw [HZ.out]; exact World.ownsRow_nil _ _ _ _, Below.refl _ _⟩
  case round =>
    obtain ⟨i, rfl, hi, HR, HB⟩ := hrel
    have hu : undef = Value.tuple #[] := rfl
    by_cases hlt : i < n
    · obtain ⟨sb, so, rfl, hsb, hsc⟩ := HS.out i (by omega)
      obtain ⟨wb, wo, rfl, hwb, hwc⟩ := HW.out i (by omega)
      have hl1 : (i : Int) < (n1 : Int) := by omega
      have hl2 : (i : Int) < (n2 : Int) := by omega
      have d1 : decide ((i : Int) < (n1 : Int)) = true := decide_eq_true hl1
      have d2 : decide ((i : Int) < (n2 : Int)) = true := decide_eq_true hl2
      have KEY : Hid (∀ z, Below wr.heap.size wr z → z.cell? ⟨sb, so + i, none⟩ = some (.int .i64 (fs i)) ∧ z.cell? ⟨wb, wo + i, none⟩ = some (.int .i64 (fw i))) := fun z hz => by
        have b := HB.out.trans (hz.mono HB.out.size)
        exact ⟨(b.cell (p := ⟨sb, so + i, none⟩) hsb).trans hsc, (b.cell (p := ⟨wb, wo + i, none⟩) hwb).trans hwc⟩
      have bD : Below wr.heap.size wr wr.drew := ⟨rfl, rfl, rfl, Nat.le_refl _, fun _ _ => rfl⟩
      have rD := own_turned HR.out (Turned.of_below (Q := fun _ => False) bD) (fun _ _ q => q)
      obtain ⟨g2, cap, z4, hrun, r1, r2⟩ := app_shp wr.drew u11 i _ (fs i) (fw i) rD (by omega) HB.out.size
      have HRUN := Hid.in hrun
      have HR1 := Hid.in r1
      have vb : ∀ j, u11.ownBlock = some j → W.heap.size ≤ j := fun j hj => (own_base rD j hj).1
      have bZ : Below W.heap.size W z4 := (HB.out.trans (bD.mono HB.out.size)).trans (r2.below HB.out.size vb)
      have HBZ := Hid.in bZ
      have HSZ : Hid (z4.cell? ⟨sb, so + i, none⟩ = some (.int .i64 (fs i)) ∧ z4.cell? ⟨wb, wo + i, none⟩ = some (.int .i64 (fw i))) := ⟨(bZ.cell (p := ⟨sb, so + i, none⟩) hsb).trans hsc, (bZ.cell (p := ⟨wb, wo + i, none⟩) hwb).trans hwc⟩
      have HSA : Hid ((wr.drew.alloc (.cells #[.int .i64 (fs i), .int .i64 (fw i)] 56)).cell? ⟨sb, so + i, none⟩ = some (.int .i64 (fs i)) ∧ (wr.drew.alloc (.cells #[.int .i64 (fs i), .int .i64 (fw i)] 56)).cell? ⟨wb, wo + i, none⟩ = some (.int .i64 (fw i))) := KEY.out _ (bD.trans ((Below.refl wr.heap.size wr.drew).alloc (by exact Nat.le_refl _) _))
      have HSD := Hid.in (KEY.out _ bD)
      obtain ⟨k1, k2⟩ := KEY.out wr (Below.refl _ _)
      have sbh : sb < wr.heap.size := Nat.lt_of_lt_of_le hsb HB.out.size
      have wbh : wb < wr.heap.size := Nat.lt_of_lt_of_le hwb HB.out.size
      have hmi : i < 1048576 := by omega
      clear hrun r1 r2 vb bZ rD bD hsc hwc
      go_upto_region 5 with fail
      refine wp_region_held_drew (S := fun w' => w'.cell? ⟨sb, so + i, none⟩ = some (.int .i64 (fs i)) ∧ w'.cell? ⟨wb, wo + i, none⟩ = some (.int .i64 (fw i))) (by kernel_rfl) ⟨k1, k2⟩ (fun hHeld => ?_)
      refine wpAnyH_take (i := 0) (oi := { dst := some 34, op := _, type := _, pos := _, after := _, guard := none }) (v := u11) rfl (by kernel_rfl) (by kernel_rfl) (by kernel_rfl) (fun _ _ _ h => h) (Or.inl ⟨by rfl, fun w hSw => by obtain ⟨q1, q2⟩ := hSw; go_simp⟩) hHeld ?_
      simp only [Act.put, List.setIfInBounds_toArray, List.set_cons_zero, List.set_cons_succ]
      refine wpAnyH_take (i := 1) (oi := { dst := some 35, op := _, type := _, pos := _, after := _, guard := none }) (v := .slice (some ⟨sb, so, none⟩) n1 c1) rfl (by kernel_rfl) (by kernel_rfl) (by kernel_rfl) (fun _ _ _ h => h) (Or.inl ⟨by rfl, fun w hSw => by obtain ⟨q1, q2⟩ := hSw; go_simp⟩) hHeld ?_
      simp only [Act.put, List.setIfInBounds_toArray, List.set_cons_zero, List.set_cons_succ]
      refine wpAnyH_take (i := 2) (oi := { dst := some 36, op := _, type := _, pos := _, after := _, guard := none }) (v := .int .i64 (i : Nat)) rfl (by kernel_rfl) (by kernel_rfl) (by kernel_rfl) (fun _ _ _ h => h) (Or.inl ⟨by rfl, fun w hSw => by obtain ⟨q1, q2⟩ := hSw; go_simp⟩) hHeld ?_
      simp only [Act.put, List.setIfInBounds_toArray, List.set_cons_zero, List.set_cons_succ]
      refine wpAnyH_take (i := 3) (oi := { dst := some 37, op := _, type := _, pos := _, after := _, guard := none }) (v := .pointer (some ⟨sb, so + i, none⟩)) rfl (by kernel_rfl) (by kernel_rfl) (by kernel_rfl) (fun _ _ _ h => h) (Or.inl ⟨by rfl, fun w hSw => by obtain ⟨q1, q2⟩ := hSw; go_simp⟩) hHeld ?_
      simp only [Act.put, List.setIfInBounds_toArray, List.set_cons_zero, List.set_cons_succ]
      refine wpAnyH_take (i := 4) (oi := { dst := some 38, op := _, type := _, pos := _, after := _, guard := none }) (v := .int .i64 (fs i)) rfl (by kernel_rfl) (by kernel_rfl) (by kernel_rfl) (fun _ _ _ h => h) (Or.inl ⟨by rfl, fun w hSw => by obtain ⟨q1, q2⟩ := hSw; go_simp⟩) hHeld ?_
      simp only [Act.put, List.setIfInBounds_toArray, List.set_cons_zero, List.set_cons_succ]
      refine wpAnyH_take (i := 5) (oi := { dst := some 39, op := _, type := _, pos := _, after := _, guard := none }) (v := .slice (some ⟨wb, wo, none⟩) n2 c2) rfl (by kernel_rfl) (by kernel_rfl) (by kernel_rfl) (fun _ _ _ h => h) (Or.inl ⟨by rfl, fun w hSw => by obtain ⟨q1, q2⟩ := hSw; go_simp⟩) hHeld ?_
      simp only [Act.put, List.setIfInBounds_toArray, List.set_cons_zero, List.set_cons_succ]
      refine wpAnyH_take (i := 6) (oi := { dst := some 40, op := _, type := _, pos := _, after := _, guard := none }) (v := .int .i64 (i : Nat)) rfl (by kernel_rfl) (by kernel_rfl) (by kernel_rfl) (fun _ _ _ h => h) (Or.inl ⟨by rfl, fun w hSw => by obtain ⟨q1, q2⟩ := hSw; go_simp⟩) hHeld ?_
      simp only [Act.put, List.setIfInBounds_toArray, List.set_cons_zero, List.set_cons_succ]
      refine wpAnyH_take (i := 7) (oi := { dst := some 41, op := _, type := _, pos := _, after := _, guard := none }) (v := .pointer (some ⟨wb, wo + i, none⟩)) rfl (by kernel_rfl) (by kernel_rfl) (by kernel_rfl) (fun _ _ _ h => h) (Or.inl ⟨by rfl, fun w hSw => by obtain ⟨q1, q2⟩ := hSw; go_simp⟩) hHeld ?_
      simp only [Act.put, List.setIfInBounds_toArray, List.set_cons_zero, List.set_cons_succ]
      refine wpAnyH_take (i := 8) (oi := { dst := some 42, op := _, type := _, pos := _, after := _, guard := none }) (v := .int .i64 (fw i)) rfl (by kernel_rfl) (by kernel_rfl) (by kernel_rfl) (fun _ _ _ h => h) (Or.inl ⟨by rfl, fun w hSw => by obtain ⟨q1, q2⟩ := hSw; go_simp⟩) hHeld ?_
      simp only [Act.put, List.setIfInBounds_toArray, List.set_cons_zero, List.set_cons_succ]
      refine wpAnyH_take (i := 9) (oi := { dst := some 43, op := _, type := _, pos := _, after := _, guard := none }) (v := .agg #[.int .i64 (fs i), .int .i64 (fw i)]) rfl (by kernel_rfl) (by kernel_rfl) (by kernel_rfl) (fun _ _ _ h => h) (Or.inl ⟨by rfl, fun w hSw => by obtain ⟨q1, q2⟩ := hSw; go_simp⟩) hHeld ?_
      simp only [Act.put, List.setIfInBounds_toArray, List.set_cons_zero, List.set_cons_succ]
      refine wpAnyH_ready (rs := [10]) (by kernel_rfl) (by simp) ?_
      refine AllReadyH.cons rfl (fun K2 hK => ?_) AllReadyH.nil
      go_simp
      refine hK.out _ _ HSA.out (fun hHeld => ?_)
      clear hK K2
      refine wpAnyH_ready (rs := [11]) (by kernel_rfl) (by simp) ?_
      refine AllReadyH.cons rfl (fun K2 hK => ?_) AllReadyH.nil
      rw [if_pos (by kernel_rfl)]
      refine append_op0 (v := u11) (u := .slice (some ⟨wr.drew.heap.size, 0, none⟩) 1 1) rfl (by kernel_rfl) (by kernel_rfl) HRUN.out ?_
      refine hK.out _ _ HSZ.out (fun hHeld => ?_)
      clear hK K2
      refine wpAnyH_take (i := 12) (oi := { dst := some 11, op := _, type := _, pos := _, after := _, guard := none }) (v := .slice (some ⟨g2, 0, none⟩) (i + 1) cap) rfl (by kernel_rfl) (by kernel_rfl) (by kernel_rfl) (fun _ _ _ h => h) (Or.inl ⟨by rfl, fun w hSw => by go_simp⟩) hHeld ?_
      refine wpAnyH_done (by kernel_rfl) ?_ _
      go_wp2
      go_roundw
      case rel => exact ⟨i + 1, by simp, by omega, by rw [shL_succ]; exact HR1, HBZ⟩
      case measure => simp [intOf]; omega
    · obtain rfl : i = n := by omega
      have hbr : (n1 ≤ i) ∨ (i < n1 ∧ n2 ≤ i) := by have := HNN.out; omega
      rcases hbr with h1 | ⟨h1, h2⟩
      · have hl1 : ¬ (i : Int) < (n1 : Int) := by omega
        have d1 : decide ((i : Int) < (n1 : Int)) = false := decide_eq_false hl1
        go_wp2
        exact HQ.out _ _ _ _ _ _ _ _ _ _ _ _ _ _ _ _ _ _ _ _ _ _ _ _ _ _ _ HR.out HB.out
      · have hl1 : (i : Int) < (n1 : Int) := by omega
        have d1 : decide ((i : Int) < (n1 : Int)) = true := decide_eq_true hl1
        have hl2 : ¬ (i : Int) < (n2 : Int) := by omega
        have d2 : decide ((i : Int) < (n2 : Int)) = false := decide_eq_false hl2
        go_wp2
        exact HQ.out _ _ _ _ _ _ _ _ _ _ _ _ _ _ _ _ _ _ _ _ _ _ _ _ _ _ _ HR.out HB.out
end Go.Proofs.YtlogdmnhngbkaaaDoor
/-
  BUS' LAW BusSteps: made: the shapes are as they were.
-/
namespace Go.Proofs.YtlogdmnhngbkaaaDoor
open Go Go.RowKit
set_option maxRecDepth 100000 in
set_option maxHeartbeats 4000000 in
theorem mblk4 {u2 u3 u4 u5 u6 u7 u8 u9 u10 u12 u14 u15 u16 u17 u18 u20 u22 u23 u24 u25 u26 u27 u28 u29 u30 u31 u32 u33 u34 u35 u36 u37 u38 u39 u40 u41 u42 u43 u44 u45 u46 u47 u48 u49 u50 u51 u52 u53 u54 u55 u56 u57 u58 u59 u60 u61 u62 u63 u64 u65 u66 u67 u68 u69 u70 u71 u72 u73 u74 u75 u76 u77 u78 u79 u80 u81 u82 u83 u84 u85 u86 u87 u88 u89 u90 u91 u92 u93 u94 u95 u96 u97 u98 u99 u100 u101 u102 u103 u104 u105 u106 u107 u108 u109 u110 u111 u112 u113 u114 u115 u116 u117 u118 u119 u120 u121 u122 u123 u124 u125 u126 u127 u128 u129 u130 u131 u132 u133 u134 u135 u136 u137 u138 u139 u140 u141 u142 u143 u144 u145 u146 u147 u148 u149 u150 u151 u152 u153 u154 u155 u156 u157 u158 u159 u160 u161 u162 u163 : Value} {ds : List Deferred} {W : World} {sp wp : Option Addr} {n1 c1 n2 c2 n B : Nat} {fs fw : Nat → Int} {sv : Value} (hs : IntsB W sp n1 fs) (hw : IntsB W wp n2 fw) (hn : n ≤ n1 ∧ n ≤ n2) (hb : n1 ≤ 1048576) (hr : W.ownsRow B 56 2 sv n (shL fs fw n)) (h1 : ∀ c o, sp = some ⟨c, o, none⟩ → c < B) (h2 : ∀ c o, wp = some ⟨c, o, none⟩ → c < B) {K : Act → World → Prop} (hk : ∀ (t21 t120 t121 t122 t123 t124 t125 t126 t127 t128 t129 t130 t131 t132 t133 t134 t135 t136 t137 t138 t139 t140 t141 t142 t143 t144 t145 t146 t147 t148 t149 t150 t151 t152 t153 : Value) (y : World), Turned (fun j => sv.ownBlock = some j) W y → K ⟨#[.slice sp n1 c1, .slice wp n2 c2, u2, u3, u4, u5, u6, u7, u8, u9, u10, sv, u12, .int .i64 (n : Nat), u14, u15, u16, u17, u18, .bool true, u20, t21, u22, u23, u24, u25, u26, u27, u28, u29, u30, u31, u32, u33, u34, u35, u36, u37, u38, u39, u40, u41, u42, u43, u44, u45, u46, u47, u48, u49, u50, u51, u52, u53, u54, u55, u56, u57, u58, u59, u60, u61, u62, u63, u64, u65, u66, u67, u68, u69, u70, u71, u72, u73, u74, u75, u76, u77, u78, u79, u80, u81, u82, u83, u84, u85, u86, u87, u88, u89, u90, u91, u92, u93, u94, u95, u96, u97, u98, u99, u100, u101, u102, u103, u104, u105, u106, u107, u108, u109, u110, u111, u112, u113, u114, u115, u116, u117, u118, u119, t120, t121, t122, t123, t124, t125, t126, t127, t128, t129, t130, t131, t132, t133, t134, t135, t136, t137, t138, t139, t140, t141, t142, t143, t144, t145, t146, t147, t148, t149, t150, t151, t152, t153, u154, u155, u156, u157, u158, u159, u160, u161, u162, u163], ds⟩ y) : (blkIn Tryd.f4.body 4).wp Tryd.prog (Exit.then K NoX) ⟨#[.slice sp n1 c1, .slice wp n2 c2, u2, u3, u4, u5, u6, u7, u8, u9, u10, sv, u12, .int .i64 (n : Nat), u14, u15, u16, u17, u18, .bool true, u20, .int .i64 0, u22, u23, u24, u25, u26, u27, u28, u29, u30, u31, u32, u33, u34, u35, u36, u37, u38, u39, u40, u41, u42, u43, u44, u45, u46, u47, u48, u49, u50, u51, u52, u53, u54, u55, u56, u57, u58, u59, u60, u61, u62, u63, u64, u65, u66, u67, u68, u69, u70, u71, u72, u73, u74, u75, u76, u77, u78, u79, u80, u81, u82, u83, u84, u85, u86, u87, u88, u89, u90, u91, u92, u93, u94, u95, u96, u97, u98, u99, u100, u101, u102, u103, u104, u105, u106, u107, u108, u109, u110, u111, u112, u113, u114, u115, u116, u117, u118, u119, u120, u121, u122, u123, u124, u125, u126, u127, u128, u129, u130, u131, u132, u133, u134, u135, u136, u137, u138, u139, u140, u141, u142, u143, u144, u145, u146, u147, u148, u149, u150, u151, u152, u153, u154, u155, u156, u157, u158, u159, u160, u161, u162, u163], ds⟩ W := by
  have HQ := Hid.in hk
  obtain ⟨q, cap, rfl, hq⟩ := own_slice hr
  have HS := Hid.in hs
  have HW := Hid.in hw
  have HR := Hid.in hr
  have HQ2 := Hid.in hq
  have H1 := Hid.in h1
  have H2 := Hid.in h2
  clear hk hs hw hr hq h1 h2
  show Code.wp _ (Code.block 4 (Code.loop _)) _ _ _
  go_wp2_with fail
  go_loopw [19, 21] (fun ok iv wr => ok = .bool true ∧ ∃ i : Nat, iv = .int .i64 i ∧ i ≤ n ∧ Hid (Turned (fun j => (Value.slice q n cap).ownBlock = some j) W wr) ∧ ∃ xs, Hid (wr.ownsRow B 56 2 (.slice q n cap) n xs) ∧ Hid (∀ o, i * 2 ≤ o → xs[o]? = (shL fs fw n)[o]?)) (fun _ iv _ => 2000000 - (intOf iv).toNat)
  case atStart => exact ⟨rfl, 0, rfl, by omega, Turned.refl _ _, _, HR, fun o _ => rfl⟩
  case round =>
    obtain ⟨rfl, i, rfl, hi, HT, xs, HWR, HXS⟩ := hrel
    have hu : undef = Value.tuple #[] := rfl
    by_cases hlt : i < n
    · have hlt' : (i : Int) < (n : Int) := by omega
      obtain ⟨g, rfl⟩ := HQ2.out (by omega)
      obtain ⟨sb, so, rfl, hsb, hsc⟩ := HS.out i (by omega)
      obtain ⟨wb, wo, rfl, hwb, hwc⟩ := HW.out i (by omega)
      have gB := (own_base HWR.out g rfl).1
      have n1' : ¬ (Value.slice (some ⟨g, 0, none⟩) n cap).ownBlock = some sb := fun e => by
        have e : g = sb := by simpa [Value.ownBlock] using e
        have := H1.out sb so rfl
        omega
      have n2' : ¬ (Value.slice (some ⟨g, 0, none⟩) n cap).ownBlock = some wb := fun e => by
        have e : g = wb := by simpa [Value.ownBlock] using e
        have := H2.out wb wo rfl
        omega
      have k1 : wr.cell? ⟨sb, so + i, none⟩ = some (.int .i64 (fs i)) := HT.out.to_cell hsb n1' hsc
      have k2 : wr.cell? ⟨wb, wo + i, none⟩ = some (.int .i64 (fw i)) := HT.out.to_cell hwb n2' hwc
      have sbh : sb < wr.heap.size := Nat.lt_of_lt_of_le hsb HT.out.size
      have wbh : wb < wr.heap.size := Nat.lt_of_lt_of_le hwb HT.out.size
      obtain ⟨e1, e2⟩ := shL_at fs fw n i hlt
      have l0 : wr.cell? ⟨g, i * 2, none⟩ = some (.int .i64 (fs i)) := by rw [World.ownsRow.cellAt HWR.out (i * 2) (by omega), HXS.out _ (by omega)]; exact e1
      have l1 : wr.cell? ⟨g, i * 2 + 1, none⟩ = some (.int .i64 (fw i)) := by rw [World.ownsRow.cellAt HWR.out (i * 2 + 1) (by omega), HXS.out _ (by omega)]; exact e2
      have gh := (own_base HWR.out g rfl).2
      have gf : ∀ o, wr.frozen? ⟨g, o, none⟩ = false := fun o => World.ownsRow.frozenAt HWR.out o
      have hl1 : (i : Int) < (n1 : Int) := by omega
      have hl2 : (i : Int) < (n2 : Int) := by omega
      generalize fs i = a at k1 l0
      generalize fw i = b at k2 l1
      clear hsc hwc n1' n2' e1 e2 gB
      go_upto_region 20 with fail
      go_quiet (fail)
      go_wp2
      go_roundw
      case rel =>
        have bD : Below wr.heap.size wr (wr.drewN nq) := ⟨rfl, rfl, rfl, Nat.le_refl _, fun _ _ => rfl⟩
        have r0 := own_turned HWR.out (Turned.of_below (Q := fun _ => False) bD) (fun _ _ q => q)
        have t0 : Turned (fun j => (Value.slice (some ⟨g, 0, none⟩) n cap).ownBlock = some j) W (wr.drewN nq) := HT.out.trans (Turned.of_below bD)
        refine ⟨by simp, i + 1, by simp, by omega, (t0.set rfl _ _).set rfl _ _, _, own_set (own_set r0 _ _) _ _, fun o ho => ?_⟩
        rw [List.getElem?_set_ne (by omega), List.getElem?_set_ne (by omega)]
        exact HXS.out o (by omega)
      case measure => simp [intOf]; omega
    · obtain rfl : i = n := by omega
      have hlt' : ¬ (i : Int) < (i : Int) := by omega
      go_wp2
      exact HQ.out _ _ _ _ _ _ _ _ _ _ _ _ _ _ _ _ _ _ _ _ _ _ _ _ _ _ _ _ _ _ _ _ _ _ _ _ HT.out
end Go.Proofs.YtlogdmnhngbkaaaDoor
