import Derived.Test.YtemamhkhjijdlaaGreatDoorY23
/-
  CORE's LAW: Turned: the end.
-/
namespace Go.Proofs.YtemamhkhjijdlaaGreatDoor
open Go Go.RowKit
set_option maxRecDepth 100000 in
set_option maxHeartbeats 4000000 in
theorem tuP4 {u0 u1 u4 u5 u7 u12 u13 u14 u15 u16 u17 u18 u19 u20 u21 u22 u23 u24 u25 u26 u27 u28 u29 u30 u31 u32 u33 u34 u35 u36 u37 u38 u39 u40 u41 u42 u43 u44 u45 u46 u47 u48 u49 u50 u51 u52 u53 u54 u55 u56 u57 u58 u59 u60 u61 u62 u63 u64 u65 u66 u67 u68 u69 u70 u71 u72 u73 u74 u75 u76 u77 u78 u79 u80 u81 u82 u83 u84 u85 u86 u87 u88 u89 u90 u91 u92 u93 u94 u95 u96 u97 u98 u99 u100 u101 u102 u103 u104 u105 u106 u107 u108 u109 u110 u111 u112 u113 u114 u115 u116 u117 u118 : Value} {w wc : World} {c : Cf} {v : Int} {k cb rb lb hb : Nat} (hT : TuM w c v k cb rb lb hb wc) (hk14 : k < 14) (hw1 : k ≠ 11 → true = true) (hw2 : 1 ≤ v → v ≤ 16 → k = 11 → (true = true ↔ isN v)) (q1 : lowN k ≤ v) (q2 : v ≤ highN c k) (q4 : ¬ (c.turn v k).hist ≤ (c.turn v k).bits) : Code.wp Tryz.prog (tlU Tryz.f4) (bodyPost Tryz.prog Tryz.f4 fun e y => TuR c v w e y) { tmps := #[u0, u1, .int .i64 v, .pointer (some ⟨cb, 0, none⟩), u4, u5, .pointer (some ⟨rb, 0, none⟩), u7, .int .i64 (k : Int), .slice (some ⟨lb, 0, none⟩) 14 14, .slice (some ⟨hb, 0, none⟩) 14 14, .bool true, u12, u13, u14, u15, u16, u17, u18, u19, u20, u21, u22, u23, u24, u25, u26, u27, u28, u29, u30, u31, u32, u33, u34, u35, u36, u37, u38, u39, u40, u41, u42, u43, u44, u45, u46, u47, u48, u49, u50, u51, u52, u53, u54, u55, u56, u57, u58, u59, u60, u61, u62, u63, u64, u65, u66, u67, u68, u69, u70, u71, u72, u73, u74, u75, u76, u77, u78, u79, u80, u81, u82, u83, u84, u85, u86, u87, u88, u89, u90, u91, u92, u93, u94, u95, u96, u97, u98, u99, u100, u101, u102, u103, u104, u105, u106, u107, u108, u109, u110, u111, u112, u113, u114, u115, u116, u117, u118], defers := [] } wc := by
  obtain ⟨kc, kr, kl, kh, bX, hne, hge⟩ := hT
  obtain ⟨t, ht⟩ : ∃ t, c.turn v k = t := ⟨_, rfl⟩
  obtain ⟨lo, hlo⟩ : ∃ lo, lowN k = lo := ⟨_, rfl⟩
  obtain ⟨hi, hhi⟩ : ∃ hi, highN c k = hi := ⟨_, rfl⟩
  rw [ht] at kc q4
  rw [hlo] at q1
  rw [hhi] at q2
  obtain ⟨a0, a1, a2, a3, a4, a5, a6, a7, a8, a9, a10, a11, a12, a13, a14⟩ := cells15 kc
  obtain ⟨r0, r1, r2, r3, r4, r5, r6, r7, r8, r9, r10, r11, r12, r13, r14⟩ := cells15 kr
  have l0 : wc.cell? ⟨lb, k, none⟩ = some (.int .i64 lo) := by rw [← hlo]; exact kl.cell k hk14
  have h0 : wc.cell? ⟨hb, k, none⟩ = some (.int .i64 hi) := by rw [← hhi]; exact kh.cell k hk14
  have ah := kc.here
  have rh := kr.here
  have rf := kr.free
  have lh := kl.here
  have hh := kh.here
  have i1 : (k : Int) < 14 := by omega
  have HKR := Hid.in kr
  have HB := Hid.in bX
  have HG := Hid.in hge
  have HT := Hid.in ht
  have HLO := Hid.in hlo
  have HHI := Hid.in hhi
  have HW1 := Hid.in hw1
  have HW2 := Hid.in hw2
  have HK14 := Hid.in hk14
  obtain ⟨n1, n2, n3⟩ := hne
  clear kc kr kl kh bX hge ht hlo hhi hw1 hw2 hk14
  have d4 : decide (t.hist ≤ t.bits) = false := decide_eq_false q4
  dsimp only [tlU, Tryz.f4]
  go_upto_region 34 with fail
  go_region
  refine abs_w (fun v => CellsAt 15 v rb t.at ∧ Below w.heap.size w v) ⟨(cf_set HKR.out t).drew, (cf_below HB.out HG.out.1 t).drew⟩ ?_
  rintro V ⟨kv, bv⟩
  obtain ⟨c0, c1, c2, c3, c4, c5, c6, c7, c8, c9, c10, c11, c12, c13, c14⟩ := cells15 kv
  have HV := Hid.in bv
  clear kv bv a0 a1 a2 a3 a4 a5 a6 a7 a8 a9 a10 a11 a12 a13 a14 r0 r1 r2 r3 r4 r5 r6 r7 r8 r9 r10 r11 r12 r13 r14 l0 h0
  go_wp2_with fail
  refine bodyPost_ret (v := .tuple #[.agg t.arr, .bool false]) (by simp [results, go_sem, Cf.arr, *]) rfl ⟨k, true, HK14.out, fun _ => rfl, fun a b d => by simpa using HW2.out a b d, ?_, HV.out⟩
  rw [HT.out, HLO.out, HHI.out, d4]
  simp [Cf.arr]
end Go.Proofs.YtemamhkhjijdlaaGreatDoor
