import Derived.Test.YtlogdmnhngbkaaaDoorY45
import Derived.Test.YtlogdmnhngbkaaaDoorY46
import Derived.Deep.DeepCutAuto
/-
  B_ _ _ _ _ _ _ _ _ _ _ _ _ _ _ _ _ _ _ _ _ _ _ _ _ _ _ _ _ _ _ _ _ _ _ _ _ _ _ _ _ _ _ _ _ _ _ _ _ _ _ _ _ _ _ _ _ _ _ _ _ _ _ _ _ _ _ _ _ _ _ _ _ _ _ _ _ _ _ _ _ _ _ _ _ _ _ _ _ _ _ _ _ _ _ _ _ _ _ _ _ _ _ _ _ _ _ _ _ _ _ _ _ _ _ _ _ _ _ _ _ _ _ _ _ _ _ _ _ _ _ _ _ _ _ _ _ _' LAW BusSteps: a round.
-/
namespace Go.Proofs.YtlogdmnhngbkaaaDoor
open Go Go.RowKit
set_option maxRecDepth 100000 in
set_option maxHeartbeats 4000000 in
theorem sw4 {u0 u1 u2 u3 u4 u5 u6 u7 u8 u9 u10 u14 u18 u19 u20 u21 u22 u23 u24 u25 u26 u27 u28 u29 u30 u31 u32 u33 u34 u35 u36 u37 u38 u39 u40 u41 u42 u43 u44 u45 u46 u47 u48 u49 u50 u51 u52 u53 u54 u55 u56 u57 u58 u59 u60 u61 u62 u63 u64 u65 u66 u67 u68 u69 u71 u72 u73 u74 u75 u76 u77 u78 u79 u80 u81 u82 u83 u84 u85 u86 u87 u88 u89 u90 u91 u92 u93 u94 u95 u96 u97 u98 u99 u100 u101 u102 u103 u104 u105 u106 u107 u108 u109 u110 u111 u112 u113 u114 u115 u116 u117 u118 u119 u120 u121 u122 u123 u124 u125 u126 u127 u128 u129 u130 u131 u132 u133 u134 u135 u136 u137 u138 u139 u140 u141 u142 u143 u144 u145 u146 u147 u148 u149 u150 u151 u152 u153 u154 u155 u156 u157 u158 u159 u160 u161 u162 u163 u164 u165 u166 u167 u168 u169 u170 u171 u172 u173 u174 u175 u176 u177 u178 u179 u180 u181 u182 u183 u184 u185 u186 u187 u188 u189 u190 u191 u192 u193 : Value} {ds : List Deferred} {W : World} {gp : Bn} {gr : Rn} {F : Nat → Prop} {N bb a : Nat} {S : BS} {f : Nat → Nat} {kd A B C D : Int} (hr : Rd W gp gr F N bb a S f kd A B C D) {K : Act → World → Prop} (hk : ∀ (t18 t19 t20 t21 t22 t23 t24 t25 t26 t27 t28 t29 t30 t31 t32 t33 t71 t72 t73 t74 t75 t76 t77 t78 t79 t80 t81 t82 t83 t84 t85 t86 t87 t88 t89 t90 t91 t92 t93 t94 t95 t96 t97 t98 t99 t100 t101 t102 t103 t104 t105 t106 t107 t108 t109 t110 t111 t112 t113 t114 t115 t116 t117 t118 t119 t120 t121 t122 t123 t124 t125 t126 t127 t128 t129 t130 t131 t132 t133 t134 t135 t136 t137 t138 t139 t140 t141 t142 t143 t144 t145 t146 t147 t148 t149 t150 t151 t152 t153 t154 t155 t156 t157 t158 t159 t160 t161 t162 t163 t164 t165 t166 t167 t168 t169 t170 t171 t172 t173 t174 t175 t176 t177 t178 t179 t180 t181 t182 t183 t184 t185 t186 t187 t188 t189 t190 t191 t192 : Value) (y : World), Nx gp gr F (N + 1) S.len y → Turned (fun j => ¬ F j) W y → K ⟨#[u0, u1, u2, u3, u4, u5, u6, u7, u8, u9, u10, .pointer (some ⟨gp.p, 0, none⟩), .pointer (some ⟨gr.p, 0, none⟩), .bool true, u14, .pointer (some ⟨bb, 0, none⟩), .int .u32 (a : Nat), .int .i64 (a : Nat), t18, t19, t20, t21, t22, t23, t24, t25, t26, t27, t28, t29, t30, t31, t32, t33, u34, u35, u36, u37, u38, u39, u40, u41, u42, u43, u44, u45, u46, u47, u48, u49, u50, u51, u52, u53, u54, u55, u56, u57, u58, u59, u60, u61, u62, u63, u64, u65, u66, u67, u68, u69, .int .i64 4, t71, t72, t73, t74, t75, t76, t77, t78, t79, t80, t81, t82, t83, t84, t85, t86, t87, t88, t89, t90, t91, t92, t93, t94, t95, t96, t97, t98, t99, t100, t101, t102, t103, t104, t105, t106, t107, t108, t109, t110, t111, t112, t113, t114, t115, t116, t117, t118, t119, t120, t121, t122, t123, t124, t125, t126, t127, t128, t129, t130, t131, t132, t133, t134, t135, t136, t137, t138, t139, t140, t141, t142, t143, t144, t145, t146, t147, t148, t149, t150, t151, t152, t153, t154, t155, t156, t157, t158, t159, t160, t161, t162, t163, t164, t165, t166, t167, t168, t169, t170, t171, t172, t173, t174, t175, t176, t177, t178, t179, t180, t181, t182, t183, t184, t185, t186, t187, t188, t189, t190, t191, t192, u193], ds⟩ y) : (blkIn Tryd.f3.body 2).wp Tryd.prog (Exit.then K NoX) ⟨#[u0, u1, u2, u3, u4, u5, u6, u7, u8, u9, u10, .pointer (some ⟨gp.p, 0, none⟩), .pointer (some ⟨gr.p, 0, none⟩), .bool true, u14, .pointer (some ⟨bb, 0, none⟩), .int .u32 (a : Nat), .int .i64 (a : Nat), u18, u19, u20, u21, u22, u23, u24, u25, u26, u27, u28, u29, u30, u31, u32, u33, u34, u35, u36, u37, u38, u39, u40, u41, u42, u43, u44, u45, u46, u47, u48, u49, u50, u51, u52, u53, u54, u55, u56, u57, u58, u59, u60, u61, u62, u63, u64, u65, u66, u67, u68, u69, .int .i64 4, u71, u72, u73, u74, u75, u76, u77, u78, u79, u80, u81, u82, u83, u84, u85, u86, u87, u88, u89, u90, u91, u92, u93, u94, u95, u96, u97, u98, u99, u100, u101, u102, u103, u104, u105, u106, u107, u108, u109, u110, u111, u112, u113, u114, u115, u116, u117, u118, u119, u120, u121, u122, u123, u124, u125, u126, u127, u128, u129, u130, u131, u132, u133, u134, u135, u136, u137, u138, u139, u140, u141, u142, u143, u144, u145, u146, u147, u148, u149, u150, u151, u152, u153, u154, u155, u156, u157, u158, u159, u160, u161, u162, u163, u164, u165, u166, u167, u168, u169, u170, u171, u172, u173, u174, u175, u176, u177, u178, u179, u180, u181, u182, u183, u184, u185, u186, u187, u188, u189, u190, u191, u192, u193], ds⟩ W := by
  have HQ := Hid.in hk
  obtain ⟨h, iv, hm0, hN, ha, hA, hb, hc, hge, hg⟩ := hr
  have HCELL : Hid (∀ y, Turned (fun j => ¬ F j) W y → y.cell? ⟨bb, 1, none⟩ = some (.int .i64 A) ∧ y.cell? ⟨bb, 3, none⟩ = some (.int .i64 C) ∧ y.cell? ⟨bb, 4, none⟩ = some (.int .i64 D) ∧ bb < y.heap.size) := fun y ty => by
    have := ty.cells hc (fun q => q hb)
    exact ⟨this.cell 1 (by decide), this.cell 3 (by decide), this.cell 4 (by decide), this.here⟩
  have HG : Hid (∀ y, Turned (fun j => ¬ F j) W y → handleAt y) := fun y ty => ty.to_cell (h.here hge) (fun q => q hge) hg
  obtain ⟨c1, c3, c4, c9⟩ := HCELL.out W (Turned.refl _ _)
  have HH : Hid (∀ z, F z → z < W.heap.size) := fun z hz => h.here hz
  obtain ⟨hp, hr⟩ := kind4s h A a ha
  have HP := Hid.in hp
  have HR := Hid.in hr
  have HB4 : Hid (∀ y, Two y gp gr F N S S → _) := fun y hy => kind4b hy iv A hA
  have IV := Hid.in iv
  clear hk h iv hm0 hb hc hge hg hp hr hA
  show Code.wp _ (Code.block 2 _) _ _ _
  go_upto_region 27 with (go_at_call 15; refine HP.out.mono ?_; rintro e y1 ⟨rfl, h2, h3⟩; have T1 := Hid.in h2; have U1 := Hid.in h3; clear h2 h3 c1 c3 c4 c9)
  obtain ⟨c1, c3, c4, c9⟩ := HCELL.out y1 U1.out
  have HR1 := Hid.in (HR.out y1 T1.out)
  go_upto_region 28 with (go_at_call 16; refine HR1.out.mono ?_; rintro e y2 ⟨rfl, h2, h3⟩; have T2 := Hid.in h2; have U2 := Hid.in (U1.out.trans h3); clear h2 h3 c1 c3 c4 c9)
  obtain ⟨c1, c3, c4, c9⟩ := HCELL.out y2 U2.out
  have HP2 := Hid.in (HB4.out y2 T2.out).1
  go_upto_region 29 with (go_at_call 17; refine HP2.out.mono ?_; rintro e y3 ⟨rfl, h2, h3⟩; have T3 := Hid.in h2; have U3 := Hid.in (U2.out.trans h3); clear h2 h3 c1 c3 c4 c9)
  obtain ⟨c1, c3, c4, c9⟩ := HCELL.out y3 U3.out
  have HR2 := Hid.in ((HB4.out y3 T3.out).2 y3 T3.out)
  generalize (S.ak A).isSome = ok at HR2 ⊢
  go_wp2_with (go_at_call 18; refine HR2.out.mono ?_; rintro e y4 ⟨rfl, h2, h3⟩; have T4 := Hid.in h2; have U4 := Hid.in (U3.out.trans h3); clear h2 h3 c1 c3 c4 c9)
  have t3 := T4.out.up (Nat.le_succ N)
  all_goals (first | exact HQ.out _ _ _ _ _ _ _ _ _ _ _ _ _ _ _ _ _ _ _ _ _ _ _ _ _ _ _ _ _ _ _ _ _ _ _ _ _ _ _ _ _ _ _ _ _ _ _ _ _ _ _ _ _ _ _ _ _ _ _ _ _ _ _ _ _ _ _ _ _ _ _ _ _ _ _ _ _ _ _ _ _ _ _ _ _ _ _ _ _ _ _ _ _ _ _ _ _ _ _ _ _ _ _ _ _ _ _ _ _ _ _ _ _ _ _ _ _ _ _ _ _ _ _ _ _ _ _ _ _ _ _ _ _ _ _ _ _ _ y4 ⟨S, f, t3, IV.out, rfl⟩ U4.out | (cases ok <;> exact HQ.out _ _ _ _ _ _ _ _ _ _ _ _ _ _ _ _ _ _ _ _ _ _ _ _ _ _ _ _ _ _ _ _ _ _ _ _ _ _ _ _ _ _ _ _ _ _ _ _ _ _ _ _ _ _ _ _ _ _ _ _ _ _ _ _ _ _ _ _ _ _ _ _ _ _ _ _ _ _ _ _ _ _ _ _ _ _ _ _ _ _ _ _ _ _ _ _ _ _ _ _ _ _ _ _ _ _ _ _ _ _ _ _ _ _ _ _ _ _ _ _ _ _ _ _ _ _ _ _ _ _ _ _ _ _ _ _ _ _ y4 ⟨S, f, t3, IV.out, rfl⟩ U4.out))
end Go.Proofs.YtlogdmnhngbkaaaDoor
/-
  B_ _ _ _ _ _ _ _ _ _ _ _ _ _ _ _ _ _ _ _ _ _ _ _ _ _ _ _ _ _ _ _ _ _ _ _ _ _ _ _ _ _ _ _ _ _ _ _ _ _ _ _ _ _ _ _ _ _ _ _ _ _ _ _ _ _ _ _ _ _ _ _ _ _ _ _ _ _ _ _ _ _ _ _ _ _ _ _ _ _ _ _ _ _ _ _ _ _ _ _ _ _ _ _ _ _ _ _ _ _ _ _ _ _ _ _ _ _ _ _ _ _ _ _ _ _ _ _ _ _ _ _ _ _ _ _ _ _' LAW BusSteps: a round.
-/
namespace Go.Proofs.YtlogdmnhngbkaaaDoor
open Go Go.RowKit
set_option maxRecDepth 100000 in
set_option maxHeartbeats 4000000 in
theorem sw5 {u0 u1 u2 u3 u4 u5 u6 u7 u8 u9 u10 u14 u18 u19 u20 u21 u22 u23 u24 u25 u26 u27 u28 u29 u30 u31 u32 u33 u34 u35 u36 u37 u38 u39 u40 u41 u42 u43 u44 u45 u46 u47 u48 u49 u50 u51 u52 u53 u54 u55 u56 u57 u58 u59 u60 u61 u62 u63 u64 u65 u66 u67 u68 u69 u71 u72 u73 u74 u75 u76 u77 u78 u79 u80 u81 u82 u83 u84 u85 u86 u87 u88 u89 u90 u91 u92 u93 u94 u95 u96 u97 u98 u99 u100 u101 u102 u103 u104 u105 u106 u107 u108 u109 u110 u111 u112 u113 u114 u115 u116 u117 u118 u119 u120 u121 u122 u123 u124 u125 u126 u127 u128 u129 u130 u131 u132 u133 u134 u135 u136 u137 u138 u139 u140 u141 u142 u143 u144 u145 u146 u147 u148 u149 u150 u151 u152 u153 u154 u155 u156 u157 u158 u159 u160 u161 u162 u163 u164 u165 u166 u167 u168 u169 u170 u171 u172 u173 u174 u175 u176 u177 u178 u179 u180 u181 u182 u183 u184 u185 u186 u187 u188 u189 u190 u191 u192 u193 : Value} {ds : List Deferred} {W : World} {gp : Bn} {gr : Rn} {F : Nat → Prop} {N bb a : Nat} {S : BS} {f : Nat → Nat} {kd A B C D : Int} (hr : Rd W gp gr F N bb a S f kd A B C D) {K : Act → World → Prop} (hk : ∀ (t18 t19 t20 t21 t22 t23 t24 t25 t26 t27 t28 t29 t30 t31 t32 t33 t71 t72 t73 t74 t75 t76 t77 t78 t79 t80 t81 t82 t83 t84 t85 t86 t87 t88 t89 t90 t91 t92 t93 t94 t95 t96 t97 t98 t99 t100 t101 t102 t103 t104 t105 t106 t107 t108 t109 t110 t111 t112 t113 t114 t115 t116 t117 t118 t119 t120 t121 t122 t123 t124 t125 t126 t127 t128 t129 t130 t131 t132 t133 t134 t135 t136 t137 t138 t139 t140 t141 t142 t143 t144 t145 t146 t147 t148 t149 t150 t151 t152 t153 t154 t155 t156 t157 t158 t159 t160 t161 t162 t163 t164 t165 t166 t167 t168 t169 t170 t171 t172 t173 t174 t175 t176 t177 t178 t179 t180 t181 t182 t183 t184 t185 t186 t187 t188 t189 t190 t191 t192 : Value) (y : World), Nx gp gr F (N + 1) S.len y → Turned (fun j => ¬ F j) W y → K ⟨#[u0, u1, u2, u3, u4, u5, u6, u7, u8, u9, u10, .pointer (some ⟨gp.p, 0, none⟩), .pointer (some ⟨gr.p, 0, none⟩), .bool true, u14, .pointer (some ⟨bb, 0, none⟩), .int .u32 (a : Nat), .int .i64 (a : Nat), t18, t19, t20, t21, t22, t23, t24, t25, t26, t27, t28, t29, t30, t31, t32, t33, u34, u35, u36, u37, u38, u39, u40, u41, u42, u43, u44, u45, u46, u47, u48, u49, u50, u51, u52, u53, u54, u55, u56, u57, u58, u59, u60, u61, u62, u63, u64, u65, u66, u67, u68, u69, .int .i64 5, t71, t72, t73, t74, t75, t76, t77, t78, t79, t80, t81, t82, t83, t84, t85, t86, t87, t88, t89, t90, t91, t92, t93, t94, t95, t96, t97, t98, t99, t100, t101, t102, t103, t104, t105, t106, t107, t108, t109, t110, t111, t112, t113, t114, t115, t116, t117, t118, t119, t120, t121, t122, t123, t124, t125, t126, t127, t128, t129, t130, t131, t132, t133, t134, t135, t136, t137, t138, t139, t140, t141, t142, t143, t144, t145, t146, t147, t148, t149, t150, t151, t152, t153, t154, t155, t156, t157, t158, t159, t160, t161, t162, t163, t164, t165, t166, t167, t168, t169, t170, t171, t172, t173, t174, t175, t176, t177, t178, t179, t180, t181, t182, t183, t184, t185, t186, t187, t188, t189, t190, t191, t192, u193], ds⟩ y) : (blkIn Tryd.f3.body 2).wp Tryd.prog (Exit.then K NoX) ⟨#[u0, u1, u2, u3, u4, u5, u6, u7, u8, u9, u10, .pointer (some ⟨gp.p, 0, none⟩), .pointer (some ⟨gr.p, 0, none⟩), .bool true, u14, .pointer (some ⟨bb, 0, none⟩), .int .u32 (a : Nat), .int .i64 (a : Nat), u18, u19, u20, u21, u22, u23, u24, u25, u26, u27, u28, u29, u30, u31, u32, u33, u34, u35, u36, u37, u38, u39, u40, u41, u42, u43, u44, u45, u46, u47, u48, u49, u50, u51, u52, u53, u54, u55, u56, u57, u58, u59, u60, u61, u62, u63, u64, u65, u66, u67, u68, u69, .int .i64 5, u71, u72, u73, u74, u75, u76, u77, u78, u79, u80, u81, u82, u83, u84, u85, u86, u87, u88, u89, u90, u91, u92, u93, u94, u95, u96, u97, u98, u99, u100, u101, u102, u103, u104, u105, u106, u107, u108, u109, u110, u111, u112, u113, u114, u115, u116, u117, u118, u119, u120, u121, u122, u123, u124, u125, u126, u127, u128, u129, u130, u131, u132, u133, u134, u135, u136, u137, u138, u139, u140, u141, u142, u143, u144, u145, u146, u147, u148, u149, u150, u151, u152, u153, u154, u155, u156, u157, u158, u159, u160, u161, u162, u163, u164, u165, u166, u167, u168, u169, u170, u171, u172, u173, u174, u175, u176, u177, u178, u179, u180, u181, u182, u183, u184, u185, u186, u187, u188, u189, u190, u191, u192, u193], ds⟩ W := by
  have HQ := Hid.in hk
  obtain ⟨h, iv, hm0, hN, ha, hA, hb, hc, hge, hg⟩ := hr
  have HCELL : Hid (∀ y, Turned (fun j => ¬ F j) W y → y.cell? ⟨bb, 1, none⟩ = some (.int .i64 A) ∧ y.cell? ⟨bb, 3, none⟩ = some (.int .i64 C) ∧ y.cell? ⟨bb, 4, none⟩ = some (.int .i64 D) ∧ bb < y.heap.size) := fun y ty => by
    have := ty.cells hc (fun q => q hb)
    exact ⟨this.cell 1 (by decide), this.cell 3 (by decide), this.cell 4 (by decide), this.here⟩
  have HG : Hid (∀ y, Turned (fun j => ¬ F j) W y → handleAt y) := fun y ty => ty.to_cell (h.here hge) (fun q => q hge) hg
  obtain ⟨c1, c3, c4, c9⟩ := HCELL.out W (Turned.refl _ _)
  have HH : Hid (∀ z, F z → z < W.heap.size) := fun z hz => h.here hz
  obtain ⟨hp, hr⟩ := kind5 h iv hm0
  have HP := Hid.in hp
  have HR := Hid.in hr
  have IV := Hid.in iv
  have hlen : S.len ≤ 4096 := iv.co.len.1
  have HF : Hid (∀ o, o < S.len → f o < 256) := iv.co.f8
  clear hk h iv hm0 hb hc hge hg hp hr hA c1 c3 c4 c9
  show Code.wp _ (Code.block 2 _) _ _ _
  go_upto_region 33 with (go_at_call 19; refine HP.out.mono ?_; rintro e y1 ⟨rfl, hc1, ho1, h3, h2⟩; have C1 := Hid.in hc1; have O1 := Hid.in ho1; have T1 := Hid.in h2; have U1 := Hid.in h3; clear h2 h3 hc1 ho1)
  have HR1 := Hid.in (HR.out y1 _ T1.out)
  go_upto_region 34 with (go_at_call 20; refine HR1.out.mono ?_; rintro e y2 ⟨q, cap, rfl, hh, h3, hq, h2⟩; have D2 := Hid.in hh; have QF := Hid.in hq; have T2 := Hid.in h2; have U2 := Hid.in h3; clear h2 h3 hh hq)
  have r1 := own_list O1.out C1.out
  have r2 := own_turned r1 (Turned.of_below (Q := fun _ => False) U2.out) (fun _ _ q => q)
  have R1 := Hid.in r1
  have HS := Hid.in (bytes_any (some ⟨W.heap.size, 0, none⟩) q S.len S.len W.heap.size cap f y2 r2 D2.out HF.out (fun c o e h => by
    have := QF.out c o e
    have h : W.heap.size = c := by simpa [Value.ownBlock] using h
    have := C1.out.here
    omega) hlen (Nat.le_trans U1.out.size U2.out.size))
  clear r1 r2
  go_wp2_with (go_at_call 21; refine HS.out.mono ?_; rintro e y3 ⟨rfl, h3⟩; have U3 := Hid.in h3; clear h3)
  have t3 := (T2.out.turn (G := F) U3.out (fun z hz _ => Or.inl (Or.inr (by simpa [Value.ownBlock] using hz.symm))) (fun z hz => Or.inl (Or.inl (Or.inl hz)))).up (Nat.le_succ N)
  exact HQ.out _ _ _ _ _ _ _ _ _ _ _ _ _ _ _ _ _ _ _ _ _ _ _ _ _ _ _ _ _ _ _ _ _ _ _ _ _ _ _ _ _ _ _ _ _ _ _ _ _ _ _ _ _ _ _ _ _ _ _ _ _ _ _ _ _ _ _ _ _ _ _ _ _ _ _ _ _ _ _ _ _ _ _ _ _ _ _ _ _ _ _ _ _ _ _ _ _ _ _ _ _ _ _ _ _ _ _ _ _ _ _ _ _ _ _ _ _ _ _ _ _ _ _ _ _ _ _ _ _ _ _ _ _ _ _ _ _ _ y3 ⟨S, f, t3, IV.out, rfl⟩ (((Turned.of_below U1.out).trans (Turned.of_below U2.out)).trans (U3.out.mono (fun z q hz => by
    have := (own_base R1.out z q).1
    have := HH.out z hz
    omega)))
end Go.Proofs.YtlogdmnhngbkaaaDoor
/-
  B_ _ _ _ _ _ _ _ _ _ _ _ _ _ _ _ _ _ _ _ _ _ _ _ _ _ _ _ _ _ _ _ _ _ _ _ _ _ _ _ _ _ _ _ _ _ _ _ _ _ _ _ _ _ _ _ _ _ _ _ _ _ _ _ _ _ _ _ _ _ _ _ _ _ _ _ _ _ _ _ _ _ _ _ _ _ _ _ _ _ _ _ _ _ _ _ _ _ _ _ _ _ _ _ _ _ _ _ _ _ _ _ _ _ _ _ _ _ _ _ _ _ _ _ _ _ _ _ _ _ _ _ _ _ _ _ _ _' LAW BusSteps: a round.
-/
namespace Go.Proofs.YtlogdmnhngbkaaaDoor
open Go Go.RowKit
set_option maxRecDepth 100000 in
set_option maxHeartbeats 4000000 in
theorem sw6 {u0 u1 u2 u3 u4 u5 u6 u7 u8 u9 u10 u14 u18 u19 u20 u21 u22 u23 u24 u25 u26 u27 u28 u29 u30 u31 u32 u33 u34 u35 u36 u37 u38 u39 u40 u41 u42 u43 u44 u45 u46 u47 u48 u49 u50 u51 u52 u53 u54 u55 u56 u57 u58 u59 u60 u61 u62 u63 u64 u65 u66 u67 u68 u69 u71 u72 u73 u74 u75 u76 u77 u78 u79 u80 u81 u82 u83 u84 u85 u86 u87 u88 u89 u90 u91 u92 u93 u94 u95 u96 u97 u98 u99 u100 u101 u102 u103 u104 u105 u106 u107 u108 u109 u110 u111 u112 u113 u114 u115 u116 u117 u118 u119 u120 u121 u122 u123 u124 u125 u126 u127 u128 u129 u130 u131 u132 u133 u134 u135 u136 u137 u138 u139 u140 u141 u142 u143 u144 u145 u146 u147 u148 u149 u150 u151 u152 u153 u154 u155 u156 u157 u158 u159 u160 u161 u162 u163 u164 u165 u166 u167 u168 u169 u170 u171 u172 u173 u174 u175 u176 u177 u178 u179 u180 u181 u182 u183 u184 u185 u186 u187 u188 u189 u190 u191 u192 u193 : Value} {ds : List Deferred} {W : World} {gp : Bn} {gr : Rn} {F : Nat → Prop} {N bb a : Nat} {S : BS} {f : Nat → Nat} {kd A B C D : Int} (hr : Rd W gp gr F N bb a S f kd A B C D) (h0 : kd ≠ 0) (h1 : kd ≠ 1) (h2 : kd ≠ 2) (h3 : kd ≠ 3) (h4 : kd ≠ 4) (h5 : kd ≠ 5) {K : Act → World → Prop} (hk : ∀ (t18 t19 t20 t21 t22 t23 t24 t25 t26 t27 t28 t29 t30 t31 t32 t33 t71 t72 t73 t74 t75 t76 t77 t78 t79 t80 t81 t82 t83 t84 t85 t86 t87 t88 t89 t90 t91 t92 t93 t94 t95 t96 t97 t98 t99 t100 t101 t102 t103 t104 t105 t106 t107 t108 t109 t110 t111 t112 t113 t114 t115 t116 t117 t118 t119 t120 t121 t122 t123 t124 t125 t126 t127 t128 t129 t130 t131 t132 t133 t134 t135 t136 t137 t138 t139 t140 t141 t142 t143 t144 t145 t146 t147 t148 t149 t150 t151 t152 t153 t154 t155 t156 t157 t158 t159 t160 t161 t162 t163 t164 t165 t166 t167 t168 t169 t170 t171 t172 t173 t174 t175 t176 t177 t178 t179 t180 t181 t182 t183 t184 t185 t186 t187 t188 t189 t190 t191 t192 : Value) (y : World), Nx gp gr F (N + 1) S.len y → Turned (fun j => ¬ F j) W y → K ⟨#[u0, u1, u2, u3, u4, u5, u6, u7, u8, u9, u10, .pointer (some ⟨gp.p, 0, none⟩), .pointer (some ⟨gr.p, 0, none⟩), .bool true, u14, .pointer (some ⟨bb, 0, none⟩), .int .u32 (a : Nat), .int .i64 (a : Nat), t18, t19, t20, t21, t22, t23, t24, t25, t26, t27, t28, t29, t30, t31, t32, t33, u34, u35, u36, u37, u38, u39, u40, u41, u42, u43, u44, u45, u46, u47, u48, u49, u50, u51, u52, u53, u54, u55, u56, u57, u58, u59, u60, u61, u62, u63, u64, u65, u66, u67, u68, u69, .int .i64 kd, t71, t72, t73, t74, t75, t76, t77, t78, t79, t80, t81, t82, t83, t84, t85, t86, t87, t88, t89, t90, t91, t92, t93, t94, t95, t96, t97, t98, t99, t100, t101, t102, t103, t104, t105, t106, t107, t108, t109, t110, t111, t112, t113, t114, t115, t116, t117, t118, t119, t120, t121, t122, t123, t124, t125, t126, t127, t128, t129, t130, t131, t132, t133, t134, t135, t136, t137, t138, t139, t140, t141, t142, t143, t144, t145, t146, t147, t148, t149, t150, t151, t152, t153, t154, t155, t156, t157, t158, t159, t160, t161, t162, t163, t164, t165, t166, t167, t168, t169, t170, t171, t172, t173, t174, t175, t176, t177, t178, t179, t180, t181, t182, t183, t184, t185, t186, t187, t188, t189, t190, t191, t192, u193], ds⟩ y) : (blkIn Tryd.f3.body 2).wp Tryd.prog (Exit.then K NoX) ⟨#[u0, u1, u2, u3, u4, u5, u6, u7, u8, u9, u10, .pointer (some ⟨gp.p, 0, none⟩), .pointer (some ⟨gr.p, 0, none⟩), .bool true, u14, .pointer (some ⟨bb, 0, none⟩), .int .u32 (a : Nat), .int .i64 (a : Nat), u18, u19, u20, u21, u22, u23, u24, u25, u26, u27, u28, u29, u30, u31, u32, u33, u34, u35, u36, u37, u38, u39, u40, u41, u42, u43, u44, u45, u46, u47, u48, u49, u50, u51, u52, u53, u54, u55, u56, u57, u58, u59, u60, u61, u62, u63, u64, u65, u66, u67, u68, u69, .int .i64 kd, u71, u72, u73, u74, u75, u76, u77, u78, u79, u80, u81, u82, u83, u84, u85, u86, u87, u88, u89, u90, u91, u92, u93, u94, u95, u96, u97, u98, u99, u100, u101, u102, u103, u104, u105, u106, u107, u108, u109, u110, u111, u112, u113, u114, u115, u116, u117, u118, u119, u120, u121, u122, u123, u124, u125, u126, u127, u128, u129, u130, u131, u132, u133, u134, u135, u136, u137, u138, u139, u140, u141, u142, u143, u144, u145, u146, u147, u148, u149, u150, u151, u152, u153, u154, u155, u156, u157, u158, u159, u160, u161, u162, u163, u164, u165, u166, u167, u168, u169, u170, u171, u172, u173, u174, u175, u176, u177, u178, u179, u180, u181, u182, u183, u184, u185, u186, u187, u188, u189, u190, u191, u192, u193], ds⟩ W := by
  have HQ := Hid.in hk
  obtain ⟨h, iv, hm0, hN, ha, hA, hb, hc, hge, hg⟩ := hr
  have HCELL : Hid (∀ y, Turned (fun j => ¬ F j) W y → y.cell? ⟨bb, 1, none⟩ = some (.int .i64 A) ∧ y.cell? ⟨bb, 3, none⟩ = some (.int .i64 C) ∧ y.cell? ⟨bb, 4, none⟩ = some (.int .i64 D) ∧ bb < y.heap.size) := fun y ty => by
    have := ty.cells hc (fun q => q hb)
    exact ⟨this.cell 1 (by decide), this.cell 3 (by decide), this.cell 4 (by decide), this.here⟩
  have HG : Hid (∀ y, Turned (fun j => ¬ F j) W y → handleAt y) := fun y ty => ty.to_cell (h.here hge) (fun q => q hge) hg
  obtain ⟨c1, c3, c4, c9⟩ := HCELL.out W (Turned.refl _ _)
  have HH : Hid (∀ z, F z → z < W.heap.size) := fun z hz => h.here hz
  have T := Hid.in (h.up (Nat.le_succ N))
  have IV := Hid.in iv
  have q0 : (kd == 0) = false := by simpa using h0
  have q1 : (kd == 1) = false := by simpa using h1
  have q2 : (kd == 2) = false := by simpa using h2
  have q3 : (kd == 3) = false := by simpa using h3
  have q4 : (kd == 4) = false := by simpa using h4
  have q5 : (kd == 5) = false := by simpa using h5
  clear hk h iv hm0 hb hc hge hg hA c1 c3 c4 c9
  show Code.wp _ (Code.block 2 _) _ _ _
  go_wp2
  exact HQ.out _ _ _ _ _ _ _ _ _ _ _ _ _ _ _ _ _ _ _ _ _ _ _ _ _ _ _ _ _ _ _ _ _ _ _ _ _ _ _ _ _ _ _ _ _ _ _ _ _ _ _ _ _ _ _ _ _ _ _ _ _ _ _ _ _ _ _ _ _ _ _ _ _ _ _ _ _ _ _ _ _ _ _ _ _ _ _ _ _ _ _ _ _ _ _ _ _ _ _ _ _ _ _ _ _ _ _ _ _ _ _ _ _ _ _ _ _ _ _ _ _ _ _ _ _ _ _ _ _ _ _ _ _ _ _ _ _ _ W ⟨S, f, T.out, IV.out, rfl⟩ (Turned.refl _ _)
end Go.Proofs.YtlogdmnhngbkaaaDoor
/-
  BUS' LAW BusSteps: a round, of any kind; the script.
-/
namespace Go.Proofs.YtlogdmnhngbkaaaDoor
open Go Go.RowKit
theorem sw {u0 u1 u2 u3 u4 u5 u6 u7 u8 u9 u10 u14 u18 u19 u20 u21 u22 u23 u24 u25 u26 u27 u28 u29 u30 u31 u32 u33 u34 u35 u36 u37 u38 u39 u40 u41 u42 u43 u44 u45 u46 u47 u48 u49 u50 u51 u52 u53 u54 u55 u56 u57 u58 u59 u60 u61 u62 u63 u64 u65 u66 u67 u68 u69 u71 u72 u73 u74 u75 u76 u77 u78 u79 u80 u81 u82 u83 u84 u85 u86 u87 u88 u89 u90 u91 u92 u93 u94 u95 u96 u97 u98 u99 u100 u101 u102 u103 u104 u105 u106 u107 u108 u109 u110 u111 u112 u113 u114 u115 u116 u117 u118 u119 u120 u121 u122 u123 u124 u125 u126 u127 u128 u129 u130 u131 u132 u133 u134 u135 u136 u137 u138 u139 u140 u141 u142 u143 u144 u145 u146 u147 u148 u149 u150 u151 u152 u153 u154 u155 u156 u157 u158 u159 u160 u161 u162 u163 u164 u165 u166 u167 u168 u169 u170 u171 u172 u173 u174 u175 u176 u177 u178 u179 u180 u181 u182 u183 u184 u185 u186 u187 u188 u189 u190 u191 u192 u193 : Value} {ds : List Deferred} {W : World} {gp : Bn} {gr : Rn} {F : Nat → Prop} {N bb a : Nat} {S : BS} {f : Nat → Nat} {kd A B C D : Int} (hr : Rd W gp gr F N bb a S f kd A B C D) {K : Act → World → Prop} (hk : ∀ (t18 t19 t20 t21 t22 t23 t24 t25 t26 t27 t28 t29 t30 t31 t32 t33 t71 t72 t73 t74 t75 t76 t77 t78 t79 t80 t81 t82 t83 t84 t85 t86 t87 t88 t89 t90 t91 t92 t93 t94 t95 t96 t97 t98 t99 t100 t101 t102 t103 t104 t105 t106 t107 t108 t109 t110 t111 t112 t113 t114 t115 t116 t117 t118 t119 t120 t121 t122 t123 t124 t125 t126 t127 t128 t129 t130 t131 t132 t133 t134 t135 t136 t137 t138 t139 t140 t141 t142 t143 t144 t145 t146 t147 t148 t149 t150 t151 t152 t153 t154 t155 t156 t157 t158 t159 t160 t161 t162 t163 t164 t165 t166 t167 t168 t169 t170 t171 t172 t173 t174 t175 t176 t177 t178 t179 t180 t181 t182 t183 t184 t185 t186 t187 t188 t189 t190 t191 t192 : Value) (y : World), Nx gp gr F (N + 1) S.len y → Turned (fun j => ¬ F j) W y → K ⟨#[u0, u1, u2, u3, u4, u5, u6, u7, u8, u9, u10, .pointer (some ⟨gp.p, 0, none⟩), .pointer (some ⟨gr.p, 0, none⟩), .bool true, u14, .pointer (some ⟨bb, 0, none⟩), .int .u32 (a : Nat), .int .i64 (a : Nat), t18, t19, t20, t21, t22, t23, t24, t25, t26, t27, t28, t29, t30, t31, t32, t33, u34, u35, u36, u37, u38, u39, u40, u41, u42, u43, u44, u45, u46, u47, u48, u49, u50, u51, u52, u53, u54, u55, u56, u57, u58, u59, u60, u61, u62, u63, u64, u65, u66, u67, u68, u69, .int .i64 kd, t71, t72, t73, t74, t75, t76, t77, t78, t79, t80, t81, t82, t83, t84, t85, t86, t87, t88, t89, t90, t91, t92, t93, t94, t95, t96, t97, t98, t99, t100, t101, t102, t103, t104, t105, t106, t107, t108, t109, t110, t111, t112, t113, t114, t115, t116, t117, t118, t119, t120, t121, t122, t123, t124, t125, t126, t127, t128, t129, t130, t131, t132, t133, t134, t135, t136, t137, t138, t139, t140, t141, t142, t143, t144, t145, t146, t147, t148, t149, t150, t151, t152, t153, t154, t155, t156, t157, t158, t159, t160, t161, t162, t163, t164, t165, t166, t167, t168, t169, t170, t171, t172, t173, t174, t175, t176, t177, t178, t179, t180, t181, t182, t183, t184, t185, t186, t187, t188, t189, t190, t191, t192, u193], ds⟩ y) : (blkIn Tryd.f3.body 2).wp Tryd.prog (Exit.then K NoX) ⟨#[u0, u1, u2, u3, u4, u5, u6, u7, u8, u9, u10, .pointer (some ⟨gp.p, 0, none⟩), .pointer (some ⟨gr.p, 0, none⟩), .bool true, u14, .pointer (some ⟨bb, 0, none⟩), .int .u32 (a : Nat), .int .i64 (a : Nat), u18, u19, u20, u21, u22, u23, u24, u25, u26, u27, u28, u29, u30, u31, u32, u33, u34, u35, u36, u37, u38, u39, u40, u41, u42, u43, u44, u45, u46, u47, u48, u49, u50, u51, u52, u53, u54, u55, u56, u57, u58, u59, u60, u61, u62, u63, u64, u65, u66, u67, u68, u69, .int .i64 kd, u71, u72, u73, u74, u75, u76, u77, u78, u79, u80, u81, u82, u83, u84, u85, u86, u87, u88, u89, u90, u91, u92, u93, u94, u95, u96, u97, u98, u99, u100, u101, u102, u103, u104, u105, u106, u107, u108, u109, u110, u111, u112, u113, u114, u115, u116, u117, u118, u119, u120, u121, u122, u123, u124, u125, u126, u127, u128, u129, u130, u131, u132, u133, u134, u135, u136, u137, u138, u139, u140, u141, u142, u143, u144, u145, u146, u147, u148, u149, u150, u151, u152, u153, u154, u155, u156, u157, u158, u159, u160, u161, u162, u163, u164, u165, u166, u167, u168, u169, u170, u171, u172, u173, u174, u175, u176, u177, u178, u179, u180, u181, u182, u183, u184, u185, u186, u187, u188, u189, u190, u191, u192, u193], ds⟩ W := by
  by_cases h0 : kd = 0
  · subst h0
    exact sw0 hr hk
  by_cases h1 : kd = 1
  · subst h1
    exact sw1 hr hk
  by_cases h2 : kd = 2
  · subst h2
    exact sw2 hr hk
  by_cases h3 : kd = 3
  · subst h3
    exact sw3 hr hk
  by_cases h4 : kd = 4
  · subst h4
    exact sw4 hr hk
  by_cases h5 : kd = 5
  · subst h5
    exact sw5 hr hk
  exact sw6 hr h0 h1 h2 h3 h4 h5 hk
def OpsB (w : World) (q : Option Addr) (m : Nat) (g : Nat → Nat → Int) : Prop := ∀ i, i < m → ∃ b o, q = some ⟨b, o, none⟩ ∧ b < w.heap.size ∧ (∀ j, j < 5 → w.cell? ⟨b, o + i * 5 + j, none⟩ = some (.int .i64 (g i j))) ∧ i64 (g i 1)
theorem ov5_new (w : World) (kd A B C D : Int) : CellsAt 5 (w.alloc (.cells #[.int .i64 kd, .int .i64 A, .int .i64 B, .int .i64 C, .int .i64 D] 30)) w.heap.size (ov5 kd A B C D) := by
  refine cells_new w fun i hi => ?_
  match i, hi with
  | 0, _ => rfl
  | 1, _ => rfl
  | 2, _ => rfl
  | 3, _ => rfl
  | 4, _ => rfl
def MadeQ (w : World) (pb rb : Option Addr) (w' : World) : Prop := (pb = none ∧ rb = none) ∨ ∃ (gp : Bn) (gr : Rn) (S : BS) (f : Nat → Nat), pb = some ⟨gp.p, 0, none⟩ ∧ rb = some ⟨gr.p, 0, none⟩ ∧ Two w' gp gr (fun j => j < w.heap.size) 0 S S ∧ Iv S f ∧ (S.len = 0 → gr.mq = none ∧ gr.mc = 0)
theorem made_q {w : World} {e : Ending} {w' : World} (h : MadeP w e w') : ∃ pb rb, e = .returned (.tuple #[.pointer pb, .pointer rb, .bool true]) ∧ MadeQ w pb rb w' ∧ Below w.heap.size w w' := by
  obtain ⟨b, h | ⟨gp, gr, S, f, h1, h2, h3, h4⟩⟩ := h
  · exact ⟨none, none, h, Or.inl ⟨rfl, rfl⟩, b⟩
  · exact ⟨_, _, h1, Or.inr ⟨gp, gr, S, f, rfl, rfl, h2, h3, h4⟩, b⟩
end Go.Proofs.YtlogdmnhngbkaaaDoor
