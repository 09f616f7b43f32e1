/-
  BUS' LAW BusCoheres: its statements, one by one: where an access stands.
-/
import Derived.Test.YtbbaopldebdoiaaBx3
import Derived.BigQuiet
namespace Go.Proofs.Ytbbaopldebdoiaa
open Go Go.RowKit
set_option maxRecDepth 100000 in
set_option maxHeartbeats 4000000 in
theorem reg11 {u0 u1 u2 u4 u5 u6 u7 u8 u9 u10 u11 u12 u14 u16 u17 u18 u19 u20 u21 u22 u23 u24 u25 u26 u27 u28 u29 u30 u31 u32 u33 u34 u35 u36 u37 u38 u39 u40 u41 u42 u43 u44 u45 u46 u47 u48 u49 u50 u51 u52 u53 u54 u55 u56 u57 u58 u59 u60 u61 u62 u63 u64 u65 u66 u67 u68 u69 u70 u71 u72 u73 u74 u75 u76 u77 u78 u79 u80 u81 u82 u83 u84 u85 u86 u87 u88 u89 u90 u91 u92 u93 u94 u95 u96 u97 u98 u99 u100 u101 u102 u103 u104 u105 u106 u107 u108 u109 u110 u111 u112 u113 u114 u115 u116 u117 u118 u119 u120 u121 u122 u123 u124 u125 u126 u127 u128 u129 u130 u131 u132 u133 u134 u135 u136 u137 u138 u139 u140 u141 u142 u143 u144 u145 u146 u147 u148 u149 u150 u151 u152 u153 u154 u155 u156 u157 u158 u159 u160 u161 u162 u163 u164 u165 u166 u167 u168 u169 u170 u171 u172 u173 u174 u175 u176 u177 u178 u179 u180 u181 u182 u183 u184 u185 u186 u187 u188 u189 u190 u191 u192 u193 u194 u195 u196 u197 u198 u199 u200 u201 u202 u203 u204 u205 u206 u207 u208 u209 u210 u211 u212 u213 u214 u215 u216 u217 u218 u219 u220 u221 u222 u223 u224 u225 u226 u227 u228 u229 u230 u231 u232 u233 u234 u235 u236 u237 u238 u239 u240 u241 : Value} {ds : List Deferred} {W : World} {ab ao m cw k z A : Nat} {gad : Int} (hz : z = 1 ∨ z = 2 ∨ z = 4) (hkm : k < m) (hcell : W.cell? ⟨ab, ao + k * 5 + 1, none⟩ = some (.int .i64 gad)) (hg : I64 gad) (hA : pk gad (256 / z) * z = A) (hAz : A + z ≤ 256) {K : Act → World → Prop} (hk : ∀ (t89 t90 t91 t92 t93 t94 t95 t96 t97 t98 : Value) (y : World), Below W.heap.size W y → K ⟨#[u0, u1, u2, .slice (some ⟨ab, ao, none⟩) m cw, u4, u5, u6, u7, u8, u9, u10, u11, u12, .int .i64 k, u14, .int .i64 z, .int .i64 A, u17, u18, u19, u20, u21, u22, u23, u24, u25, u26, u27, u28, u29, u30, u31, u32, u33, u34, u35, u36, u37, u38, u39, u40, u41, u42, u43, u44, u45, u46, u47, u48, u49, u50, u51, u52, u53, u54, u55, u56, u57, u58, u59, u60, u61, u62, u63, u64, u65, u66, u67, u68, u69, u70, u71, u72, u73, u74, u75, u76, u77, u78, u79, u80, u81, u82, u83, u84, u85, u86, u87, u88, t89, t90, t91, t92, t93, t94, t95, t96, t97, t98, u99, u100, u101, u102, u103, u104, u105, u106, u107, u108, u109, u110, u111, u112, u113, u114, u115, u116, u117, u118, u119, u120, u121, u122, u123, u124, u125, u126, u127, u128, u129, u130, u131, u132, u133, u134, u135, u136, u137, u138, u139, u140, u141, u142, u143, u144, u145, u146, u147, u148, u149, u150, u151, u152, u153, u154, u155, u156, u157, u158, u159, u160, u161, u162, u163, u164, u165, u166, u167, u168, u169, u170, u171, u172, u173, u174, u175, u176, u177, u178, u179, u180, u181, u182, u183, u184, u185, u186, u187, u188, u189, u190, u191, u192, u193, u194, u195, u196, u197, u198, u199, u200, u201, u202, u203, u204, u205, u206, u207, u208, u209, u210, u211, u212, u213, u214, u215, u216, u217, u218, u219, u220, u221, u222, u223, u224, u225, u226, u227, u228, u229, u230, u231, u232, u233, u234, u235, u236, u237, u238, u239, u240, u241], ds⟩ y) : (regIn Try.f3.body 11).wp Try.prog (Exit.then K NoX) ⟨#[u0, u1, u2, .slice (some ⟨ab, ao, none⟩) m cw, u4, u5, u6, u7, u8, u9, u10, u11, u12, .int .i64 k, u14, .int .i64 z, u16, u17, u18, u19, u20, u21, u22, u23, u24, u25, u26, u27, u28, u29, u30, u31, u32, u33, u34, u35, u36, u37, u38, u39, u40, u41, u42, u43, u44, u45, u46, u47, u48, u49, u50, u51, u52, u53, u54, u55, u56, u57, u58, u59, u60, u61, u62, u63, u64, u65, u66, u67, u68, u69, u70, u71, u72, u73, u74, u75, u76, u77, u78, u79, u80, u81, u82, u83, u84, u85, u86, u87, u88, u89, u90, u91, u92, u93, u94, u95, u96, u97, u98, u99, u100, u101, u102, u103, u104, u105, u106, u107, u108, u109, u110, u111, u112, u113, u114, u115, u116, u117, u118, u119, u120, u121, u122, u123, u124, u125, u126, u127, u128, u129, u130, u131, u132, u133, u134, u135, u136, u137, u138, u139, u140, u141, u142, u143, u144, u145, u146, u147, u148, u149, u150, u151, u152, u153, u154, u155, u156, u157, u158, u159, u160, u161, u162, u163, u164, u165, u166, u167, u168, u169, u170, u171, u172, u173, u174, u175, u176, u177, u178, u179, u180, u181, u182, u183, u184, u185, u186, u187, u188, u189, u190, u191, u192, u193, u194, u195, u196, u197, u198, u199, u200, u201, u202, u203, u204, u205, u206, u207, u208, u209, u210, u211, u212, u213, u214, u215, u216, u217, u218, u219, u220, u221, u222, u223, u224, u225, u226, u227, u228, u229, u230, u231, u232, u233, u234, u235, u236, u237, u238, u239, u240, u241], ds⟩ W := by
  have HQ := Hid.in hk
  have HG := Hid.in hg
  have HA := Hid.in hA
  have hkm' : (k : Int) < (m : Int) := by omega
  clear hk hg hA
  show Code.wp _ (Code.region 11 _ true) _ _ _
  rcases hz with rfl | rfl | rfl
  · go_quiet (first | (go_at_call 4; refine Calls.quiet_of_same (pick_i gad 256 256 rfl _ HG.out (by decide))))
    have e : IntKind.i64.wrap ((pk gad 256 : Nat) : Int) = (A : Int) := by
      have h : pk gad 256 * 1 = A := HA.out
      simp only [IntKind.wrap_i64]
      omega
    go_wp2
    try rw [e]
    exact HQ.out _ _ _ _ _ _ _ _ _ _ _ (below_drewN _ _)
  · go_quiet (first | (go_at_call 4; refine Calls.quiet_of_same (pick_i gad 128 128 rfl _ HG.out (by decide))))
    have e : IntKind.i64.wrap (((pk gad 128 : Nat) : Int) * 2) = (A : Int) := by
      have h : pk gad 128 * 2 = A := HA.out
      simp only [IntKind.wrap_i64]
      omega
    go_wp2
    try rw [e]
    exact HQ.out _ _ _ _ _ _ _ _ _ _ _ (below_drewN _ _)
  · go_quiet (first | (go_at_call 4; refine Calls.quiet_of_same (pick_i gad 64 64 rfl _ HG.out (by decide))))
    have e : IntKind.i64.wrap (((pk gad 64 : Nat) : Int) * 4) = (A : Int) := by
      have h : pk gad 64 * 4 = A := HA.out
      simp only [IntKind.wrap_i64]
      omega
    go_wp2
    try rw [e]
    exact HQ.out _ _ _ _ _ _ _ _ _ _ _ (below_drewN _ _)
end Go.Proofs.Ytbbaopldebdoiaa
