import Derived.Test.YtemamhkhjijdlaaGreatDoorY23
import Derived.Test.YtemamhkhjijdlaaGreatDoorY41
/-
  CORE's LAW: Turned: the end.
-/
namespace Go.Proofs.YtemamhkhjijdlaaGreatDoor
open Go Go.RowKit
set_option maxRecDepth 100000 in
set_option maxHeartbeats 4000000 in
theorem tuP2 {u0 u1 u4 u5 u7 u12 u13 u14 u15 u16 u17 u18 u19 u20 u21 u22 u23 u24 u25 u26 u27 u28 u29 u30 u31 u32 u33 u34 u35 u36 u37 u38 u39 u40 u41 u42 u43 u44 u45 u46 u47 u48 u49 u50 u51 u52 u53 u54 u55 u56 u57 u58 u59 u60 u61 u62 u63 u64 u65 u66 u67 u68 u69 u70 u71 u72 u73 u74 u75 u76 u77 u78 u79 u80 u81 u82 u83 u84 u85 u86 u87 u88 u89 u90 u91 u92 u93 u94 u95 u96 u97 u98 u99 u100 u101 u102 u103 u104 u105 u106 u107 u108 u109 u110 u111 u112 u113 u114 u115 u116 u117 u118 : Value} {w wc : World} {c : Cf} {v : Int} {k cb rb lb hb : Nat} {two : Bool} (hT : TuM w c v k cb rb lb hb wc) (hk14 : k < 14) (hw1 : k ≠ 11 → two = true) (hw2 : 1 ≤ v → v ≤ 16 → k = 11 → (two = true ↔ isN v)) (q1 : lowN k ≤ v) (q2 : ¬ v ≤ highN c k) : Code.wp Tryz.prog (tlU Tryz.f4) (bodyPost Tryz.prog Tryz.f4 fun e y => TuR c v w e y) { tmps := #[u0, u1, .int .i64 v, .pointer (some ⟨cb, 0, none⟩), u4, u5, .pointer (some ⟨rb, 0, none⟩), u7, .int .i64 (k : Int), .slice (some ⟨lb, 0, none⟩) 14 14, .slice (some ⟨hb, 0, none⟩) 14 14, .bool two, u12, u13, u14, u15, u16, u17, u18, u19, u20, u21, u22, u23, u24, u25, u26, u27, u28, u29, u30, u31, u32, u33, u34, u35, u36, u37, u38, u39, u40, u41, u42, u43, u44, u45, u46, u47, u48, u49, u50, u51, u52, u53, u54, u55, u56, u57, u58, u59, u60, u61, u62, u63, u64, u65, u66, u67, u68, u69, u70, u71, u72, u73, u74, u75, u76, u77, u78, u79, u80, u81, u82, u83, u84, u85, u86, u87, u88, u89, u90, u91, u92, u93, u94, u95, u96, u97, u98, u99, u100, u101, u102, u103, u104, u105, u106, u107, u108, u109, u110, u111, u112, u113, u114, u115, u116, u117, u118], defers := [] } wc := by
  obtain ⟨kc, kr, kl, kh, bX, hne, hge⟩ := hT
  obtain ⟨t, ht⟩ : ∃ t, c.turn v k = t := ⟨_, rfl⟩
  obtain ⟨lo, hlo⟩ : ∃ lo, lowN k = lo := ⟨_, rfl⟩
  obtain ⟨hi, hhi⟩ : ∃ hi, highN c k = hi := ⟨_, rfl⟩
  rw [ht] at kc
  rw [hlo] at q1
  rw [hhi] at q2
  obtain ⟨a0, a1, a2, a3, a4, a5, a6, a7, a8, a9, a10, a11, a12, a13, a14⟩ := cells15 kc
  obtain ⟨r0, r1, r2, r3, r4, r5, r6, r7, r8, r9, r10, r11, r12, r13, r14⟩ := cells15 kr
  have l0 : wc.cell? ⟨lb, k, none⟩ = some (.int .i64 lo) := by rw [← hlo]; exact kl.cell k hk14
  have h0 : wc.cell? ⟨hb, k, none⟩ = some (.int .i64 hi) := by rw [← hhi]; exact kh.cell k hk14
  have ah := kc.here
  have rh := kr.here
  have rf := kr.free
  have lh := kl.here
  have hh := kh.here
  have i1 : (k : Int) < 14 := by omega
  have HKR := Hid.in kr
  have HB := Hid.in bX
  have HG := Hid.in hge
  have HT := Hid.in ht
  have HLO := Hid.in hlo
  have HHI := Hid.in hhi
  have HW1 := Hid.in hw1
  have HW2 := Hid.in hw2
  have HK14 := Hid.in hk14
  obtain ⟨n1, n2, n3⟩ := hne
  clear kc kr kl kh bX hge ht hlo hhi hw1 hw2 hk14
  have d2 : decide (v ≤ hi) = false := decide_eq_false q2
  dsimp only [tlU, Tryz.f4]
  go_upto_region 34 with fail
  go_region
  refine abs_w (fun v => CellsAt 15 v rb t.at ∧ Below w.heap.size w v) ⟨(cf_set HKR.out t).drew, (cf_below HB.out HG.out.1 t).drew⟩ ?_
  rintro V ⟨kv, bv⟩
  obtain ⟨c0, c1, c2, c3, c4, c5, c6, c7, c8, c9, c10, c11, c12, c13, c14⟩ := cells15 kv
  have HV := Hid.in bv
  clear kv bv a0 a1 a2 a3 a4 a5 a6 a7 a8 a9 a10 a11 a12 a13 a14 r0 r1 r2 r3 r4 r5 r6 r7 r8 r9 r10 r11 r12 r13 r14 l0 h0
  go_wp2_with fail
  refine bodyPost_ret (v := .tuple #[.agg t.arr, .bool false]) (by simp [results, go_sem, Cf.arr, *]) rfl ⟨k, two, HK14.out, HW1.out, HW2.out, ?_, HV.out⟩
  rw [HT.out, HLO.out, HHI.out, d2]
  simp [Cf.arr]
end Go.Proofs.YtemamhkhjijdlaaGreatDoor
/-
  CORE's LAW: Turned: the end.
-/
namespace Go.Proofs.YtemamhkhjijdlaaGreatDoor
open Go Go.RowKit
set_option maxRecDepth 100000 in
set_option maxHeartbeats 4000000 in
theorem tuP3 {u0 u1 u4 u5 u7 u12 u13 u14 u15 u16 u17 u18 u19 u20 u21 u22 u23 u24 u25 u26 u27 u28 u29 u30 u31 u32 u33 u34 u35 u36 u37 u38 u39 u40 u41 u42 u43 u44 u45 u46 u47 u48 u49 u50 u51 u52 u53 u54 u55 u56 u57 u58 u59 u60 u61 u62 u63 u64 u65 u66 u67 u68 u69 u70 u71 u72 u73 u74 u75 u76 u77 u78 u79 u80 u81 u82 u83 u84 u85 u86 u87 u88 u89 u90 u91 u92 u93 u94 u95 u96 u97 u98 u99 u100 u101 u102 u103 u104 u105 u106 u107 u108 u109 u110 u111 u112 u113 u114 u115 u116 u117 u118 : Value} {w wc : World} {c : Cf} {v : Int} {k cb rb lb hb : Nat} (hT : TuM w c v k cb rb lb hb wc) (hk14 : k < 14) (hw1 : k ≠ 11 → false = true) (hw2 : 1 ≤ v → v ≤ 16 → k = 11 → (false = true ↔ isN v)) (q1 : lowN k ≤ v) (q2 : v ≤ highN c k) : Code.wp Tryz.prog (tlU Tryz.f4) (bodyPost Tryz.prog Tryz.f4 fun e y => TuR c v w e y) { tmps := #[u0, u1, .int .i64 v, .pointer (some ⟨cb, 0, none⟩), u4, u5, .pointer (some ⟨rb, 0, none⟩), u7, .int .i64 (k : Int), .slice (some ⟨lb, 0, none⟩) 14 14, .slice (some ⟨hb, 0, none⟩) 14 14, .bool false, u12, u13, u14, u15, u16, u17, u18, u19, u20, u21, u22, u23, u24, u25, u26, u27, u28, u29, u30, u31, u32, u33, u34, u35, u36, u37, u38, u39, u40, u41, u42, u43, u44, u45, u46, u47, u48, u49, u50, u51, u52, u53, u54, u55, u56, u57, u58, u59, u60, u61, u62, u63, u64, u65, u66, u67, u68, u69, u70, u71, u72, u73, u74, u75, u76, u77, u78, u79, u80, u81, u82, u83, u84, u85, u86, u87, u88, u89, u90, u91, u92, u93, u94, u95, u96, u97, u98, u99, u100, u101, u102, u103, u104, u105, u106, u107, u108, u109, u110, u111, u112, u113, u114, u115, u116, u117, u118], defers := [] } wc := by
  obtain ⟨kc, kr, kl, kh, bX, hne, hge⟩ := hT
  obtain ⟨t, ht⟩ : ∃ t, c.turn v k = t := ⟨_, rfl⟩
  obtain ⟨lo, hlo⟩ : ∃ lo, lowN k = lo := ⟨_, rfl⟩
  obtain ⟨hi, hhi⟩ : ∃ hi, highN c k = hi := ⟨_, rfl⟩
  rw [ht] at kc
  rw [hlo] at q1
  rw [hhi] at q2
  obtain ⟨a0, a1, a2, a3, a4, a5, a6, a7, a8, a9, a10, a11, a12, a13, a14⟩ := cells15 kc
  obtain ⟨r0, r1, r2, r3, r4, r5, r6, r7, r8, r9, r10, r11, r12, r13, r14⟩ := cells15 kr
  have l0 : wc.cell? ⟨lb, k, none⟩ = some (.int .i64 lo) := by rw [← hlo]; exact kl.cell k hk14
  have h0 : wc.cell? ⟨hb, k, none⟩ = some (.int .i64 hi) := by rw [← hhi]; exact kh.cell k hk14
  have ah := kc.here
  have rh := kr.here
  have rf := kr.free
  have lh := kl.here
  have hh := kh.here
  have i1 : (k : Int) < 14 := by omega
  have HKR := Hid.in kr
  have HB := Hid.in bX
  have HG := Hid.in hge
  have HT := Hid.in ht
  have HLO := Hid.in hlo
  have HHI := Hid.in hhi
  have HW1 := Hid.in hw1
  have HW2 := Hid.in hw2
  have HK14 := Hid.in hk14
  obtain ⟨n1, n2, n3⟩ := hne
  clear kc kr kl kh bX hge ht hlo hhi hw1 hw2 hk14
  dsimp only [tlU, Tryz.f4]
  go_upto_region 34 with fail
  go_region
  refine abs_w (fun v => CellsAt 15 v rb t.at ∧ Below w.heap.size w v) ⟨(cf_set HKR.out t).drew, (cf_below HB.out HG.out.1 t).drew⟩ ?_
  rintro V ⟨kv, bv⟩
  obtain ⟨c0, c1, c2, c3, c4, c5, c6, c7, c8, c9, c10, c11, c12, c13, c14⟩ := cells15 kv
  have HV := Hid.in bv
  clear kv bv a0 a1 a2 a3 a4 a5 a6 a7 a8 a9 a10 a11 a12 a13 a14 r0 r1 r2 r3 r4 r5 r6 r7 r8 r9 r10 r11 r12 r13 r14 l0 h0
  go_wp2_with fail
  refine bodyPost_ret (v := .tuple #[.agg t.arr, .bool false]) (by simp [results, go_sem, Cf.arr, *]) rfl ⟨k, false, HK14.out, HW1.out, HW2.out, ?_, HV.out⟩
  rw [HT.out, HLO.out, HHI.out]
  simp [Cf.arr]
end Go.Proofs.YtemamhkhjijdlaaGreatDoor
/-
  CORE's LAW: Turned.
-/
namespace Go.Proofs.YtemamhkhjijdlaaGreatDoor
open Go Go.RowKit
set_option maxRecDepth 100000 in
set_option maxHeartbeats 4000000 in
theorem fturned (c : Cf) (f v : Int) (hf : I64 f) (w : World) : Calls Tryz.prog 4 #[.agg c.arr, .int .i64 f, .int .i64 v] w fun e y => TuR c v w e y := by
  obtain ⟨k, hk⟩ : ∃ k : Nat, pkI f 14 = k := ⟨(pkI f 14).toNat, by have := (pkI_in f 14 (by decide)).1; omega⟩
  have hk14 : k < 14 := by have := (pkI_in f 14 (by decide)).2; omega
  have HP : Hid (∀ w, Calls Tryz.prog 8 #[.int .i64 f, .int .i64 14] w fun e w' => e = .returned (.int .i64 (k : Int)) ∧ w' = w) := Hid.in (fun w => by rw [← hk]; exact pick_g f 14 w hf (by decide))
  clear hk
  unfold Cf.arr
  go_enter Tryz.func4, Tryz.ntmps4
  go_upto_block 0 with (go_at_call 8; go_must (refine (HP.out _).mono ?_; rintro e z ⟨rfl, hz⟩; have hw2 := hz.symm; clear hz; subst hw2))
  obtain ⟨X, hX⟩ : ∃ X, (((w.alloc (.cells #[.int .i64 c.width, .int .i64 c.window, .int .i64 c.queue, .int .i64 c.regs, .int .i64 c.units, .int .i64 c.mul, .bool c.bold, .int .i64 c.kind, .int .i64 c.bits, .int .i64 c.hist, .int .i64 c.tg, .int .i64 c.ret, .int .i64 c.sets, .int .i64 c.ways, .int .i64 c.bus] 29)).alloc (.cells #[.int .i64 0, .int .i64 0, .int .i64 0, .int .i64 0, .int .i64 0, .int .i64 0, .bool false, .int .i64 0, .int .i64 0, .int .i64 0, .int .i64 0, .int .i64 0, .int .i64 0, .int .i64 0, .int .i64 0] 29)).alloc (.cells #[.int .i64 1, .int .i64 2, .int .i64 1, .int .i64 34, .int .i64 1, .int .i64 1, .int .i64 0, .int .i64 1, .int .i64 0, .int .i64 0, .int .i64 1, .int .i64 1, .int .i64 1, .int .i64 0] 3)).alloc (.cells #[.int .i64 4, .int .i64 64, .int .i64 32, .int .i64 128, .int .i64 4, .int .i64 10, .int .i64 3, .int .i64 10, .int .i64 c.bits, .int .i64 8, .int .i64 16, .int .i64 16, .int .i64 4, .int .i64 10] 3) = X := ⟨_, rfl⟩
  have kc : CellsAt 15 X w.heap.size c.at := by rw [← hX]; exact (((cells_new w (cf_new c)).alloc _).alloc _).alloc _
  have kr : CellsAt 15 X (w.heap.size + 1) zcf.at := by rw [← hX]; exact (((by rw [← World.size_alloc]; exact cells_new _ (cf_new zcf)) : CellsAt 15 _ (w.heap.size + 1) zcf.at).alloc _).alloc _
  have kl : CellsAt 14 X (w.heap.size + 1 + 1) (fun i => .int .i64 (lowN i)) := by rw [← hX]; exact ((by rw [← World.size_alloc, ← World.size_alloc]; exact cells_new _ low_new) : CellsAt 14 _ (w.heap.size + 1 + 1) (fun i => .int .i64 (lowN i))).alloc _
  have kh : CellsAt 14 X (w.heap.size + 1 + 1 + 1) (fun i => .int .i64 (highN c i)) := by rw [← hX, ← World.size_alloc, ← World.size_alloc, ← World.size_alloc]; exact cells_new _ (high_new c)
  have bX : Below w.heap.size w X := by rw [← hX]; exact ((((Below.refl _ _).alloc (Nat.le_refl _) _).alloc (by simp) _).alloc (by simp; omega) _).alloc (by simp; omega) _
  rw [hX]
  obtain ⟨cb, hcb⟩ : ∃ cb, w.heap.size = cb := ⟨_, rfl⟩
  obtain ⟨rb, hrb⟩ : ∃ rb, w.heap.size + 1 = rb := ⟨_, rfl⟩
  obtain ⟨lb, hlb⟩ : ∃ lb, w.heap.size + 1 + 1 = lb := ⟨_, rfl⟩
  obtain ⟨hb, hhb⟩ : ∃ hb, w.heap.size + 1 + 1 + 1 = hb := ⟨_, rfl⟩
  have hne : rb ≠ cb ∧ rb ≠ lb ∧ rb ≠ hb ∧ cb ≠ lb ∧ cb ≠ hb := ⟨by omega, by omega, by omega, by omega, by omega⟩
  have hge : w.heap.size ≤ rb ∧ w.heap.size ≤ cb := ⟨by omega, by omega⟩
  rw [hhb] at kh ⊢
  rw [hlb] at kl ⊢
  rw [hrb] at kr ⊢
  rw [hcb] at kc
  rw [show w.heap.size = cb from hcb]
  rw [hcb] at bX hge
  obtain ⟨a0, a1, a2, a3, a4, a5, a6, a7, a8, a9, a10, a11, a12, a13, a14⟩ := cells15 kc
  have ah := kc.here
  have af := kc.free
  have HM := Hid.in (⟨kc, kr, kl, kh, bX, hne, hge⟩ : CellsAt 15 X cb c.at ∧ CellsAt 15 X rb zcf.at ∧ CellsAt 14 X lb (fun i => .int .i64 (lowN i)) ∧ CellsAt 14 X hb (fun i => .int .i64 (highN c i)) ∧ Below cb w X ∧ (rb ≠ cb ∧ rb ≠ lb ∧ rb ≠ hb ∧ cb ≠ lb ∧ cb ≠ hb) ∧ (cb ≤ rb ∧ cb ≤ cb))
  clear kc kr kl kh bX hne hge hX hrb hlb hhb
  have HCB := Hid.in hcb
  clear hcb
  go_cut [] from 12 (fun w' => TuM w c v k cb rb lb hb w')
  case first =>
    have : k = 0 ∨ k = 1 ∨ k = 2 ∨ k = 3 ∨ k = 4 ∨ k = 5 ∨ k = 6 ∨ k = 7 ∨ k = 8 ∨ k = 9 ∨ k = 10 ∨ k = 11 ∨ k = 12 ∨ k = 13 := by omega
    rcases this with rfl | rfl | rfl | rfl | rfl | rfl | rfl | rfl | rfl | rfl | rfl | rfl | rfl | rfl
    all_goals go_wp2_with fail
    all_goals go_meet
    · exact tum_of HM.out HCB.out 0 (by decide) (fun i hi => range_of 15 (fun i => upd c.at 0 (.int .i64 v) i) (fun i => (c.turn v 0).at i) (by kernel_rfl) i hi)
    · exact tum_of HM.out HCB.out 1 (by decide) (fun i hi => range_of 15 (fun i => upd c.at 1 (.int .i64 v) i) (fun i => (c.turn v 1).at i) (by kernel_rfl) i hi)
    · exact tum_of HM.out HCB.out 2 (by decide) (fun i hi => range_of 15 (fun i => upd c.at 2 (.int .i64 v) i) (fun i => (c.turn v 2).at i) (by kernel_rfl) i hi)
    · exact tum_of HM.out HCB.out 3 (by decide) (fun i hi => range_of 15 (fun i => upd c.at 3 (.int .i64 v) i) (fun i => (c.turn v 3).at i) (by kernel_rfl) i hi)
    · exact tum_of HM.out HCB.out 4 (by decide) (fun i hi => range_of 15 (fun i => upd c.at 4 (.int .i64 v) i) (fun i => (c.turn v 4).at i) (by kernel_rfl) i hi)
    · exact tum_of HM.out HCB.out 5 (by decide) (fun i hi => range_of 15 (fun i => upd c.at 5 (.int .i64 v) i) (fun i => (c.turn v 5).at i) (by kernel_rfl) i hi)
    · exact tum_of HM.out HCB.out 7 (by decide) (fun i hi => range_of 15 (fun i => upd c.at 7 (.int .i64 v) i) (fun i => (c.turn v 6).at i) (by kernel_rfl) i hi)
    · exact tum_of HM.out HCB.out 8 (by decide) (fun i hi => range_of 15 (fun i => upd c.at 8 (.int .i64 v) i) (fun i => (c.turn v 7).at i) (by kernel_rfl) i hi)
    · exact tum_of HM.out HCB.out 9 (by decide) (fun i hi => range_of 15 (fun i => upd c.at 9 (.int .i64 v) i) (fun i => (c.turn v 8).at i) (by kernel_rfl) i hi)
    · exact tum_of HM.out HCB.out 10 (by decide) (fun i hi => range_of 15 (fun i => upd c.at 10 (.int .i64 v) i) (fun i => (c.turn v 9).at i) (by kernel_rfl) i hi)
    · exact tum_of HM.out HCB.out 11 (by decide) (fun i hi => range_of 15 (fun i => upd c.at 11 (.int .i64 v) i) (fun i => (c.turn v 10).at i) (by kernel_rfl) i hi)
    · exact tum_of HM.out HCB.out 12 (by decide) (fun i hi => range_of 15 (fun i => upd c.at 12 (.int .i64 v) i) (fun i => (c.turn v 11).at i) (by kernel_rfl) i hi)
    · exact tum_of HM.out HCB.out 13 (by decide) (fun i hi => range_of 15 (fun i => upd c.at 13 (.int .i64 v) i) (fun i => (c.turn v 12).at i) (by kernel_rfl) i hi)
    · exact tum_of HM.out HCB.out 14 (by decide) (fun i hi => range_of 15 (fun i => upd c.at 14 (.int .i64 v) i) (fun i => (c.turn v 13).at i) (by kernel_rfl) i hi)
  case rest =>
    have HTU := Hid.in hcut
    clear hcut
    go_upto_region 33 with fail
    go_cut [11] from 12 (fun u w' => ∃ two : Bool, u = .bool two ∧ (k ≠ 11 → two = true) ∧ (1 ≤ v → v ≤ 16 → k = 11 → (two = true ↔ isN v)) ∧ w' = wc)
    case first =>
      by_cases h11 : k = 11
      · go_wp2_with fail
        go_meet
        exact ⟨_, rfl, fun q => absurd h11 q, fun q1 q2 _ => two_is v q1 q2, rfl⟩
      · have h11' : ¬ ((k : Int) = 11) := by omega
        go_wp2_with fail
        go_meet
        exact ⟨_, rfl, fun _ => rfl, fun _ _ q => absurd q h11, rfl⟩
    case rest =>
      obtain ⟨two, rfl, hw1, hw2, rfl⟩ := hcut
      rename_i hK
      by_cases q1 : lowN k ≤ v
      · by_cases q2 : v ≤ highN c k
        · cases two
          · exact hK _ _ (tuP3 HTU.out hk14 hw1 hw2 q1 q2)
          · by_cases q4 : (c.turn v k).hist ≤ (c.turn v k).bits
            · exact hK _ _ (tuP5 HTU.out hk14 hw1 hw2 q1 q2 q4)
            · exact hK _ _ (tuP4 HTU.out hk14 hw1 hw2 q1 q2 q4)
        · exact hK _ _ (tuP2 HTU.out hk14 hw1 hw2 q1 q2)
      · exact hK _ _ (tuP1 HTU.out hk14 hw1 hw2 q1)
end Go.Proofs.YtemamhkhjijdlaaGreatDoor
