/-
  ArchSteps: the loop over the steps at which the line turns.
-/
import Derived.Test.YtengofkjlgajlaaGreatDoorGn2
import Derived.Test.YtengofkjlgajlaaGreatDoorGs1
namespace Go.Proofs.YtengofkjlgajlaaGreatDoor
open Go Go.RowKit
set_option maxRecDepth 100000 in
set_option maxHeartbeats 4000000 in
theorem lp6 {u0 u1 u3 u4 u5 u6 u7 u8 u9 u10 u12 u14 u15 u16 u17 u20 u21 u22 u23 u24 u25 u26 u27 u28 u29 u30 u31 u32 u33 u34 u35 u36 u37 u38 u39 u40 u41 u42 u43 u44 u45 u46 u47 u48 u49 u50 u51 u52 u53 u54 u55 u56 u57 u58 u59 u60 u61 u62 u63 u64 u65 u66 u67 u68 u69 u70 u71 u72 u73 u74 u75 u76 u77 u78 u79 u80 u81 u82 u83 u84 u85 u86 u87 u88 u89 u90 u91 u92 u93 u94 u95 u96 u97 u98 u99 u100 u101 u102 u103 u104 u105 u106 u107 u108 u109 u110 u111 u112 u113 u114 u115 u116 u117 u118 u119 u120 u121 u122 u123 u124 u125 u126 u127 u128 u129 u130 u131 u132 u133 u134 u135 u136 u137 u138 u139 u140 u141 u142 u143 u144 u145 u146 u147 u148 u149 u150 u151 u152 u153 u154 u155 u156 u157 u158 u159 u160 u161 u162 u163 u164 u165 u166 u167 u168 u169 u170 u171 u172 u173 u174 u175 u176 u177 u178 u179 u180 u181 u182 u183 u184 u185 u186 u187 u188 u189 u190 u191 u192 u193 u194 u195 u196 u197 u198 u199 u200 u201 u202 u203 u204 u205 u206 u207 u208 u209 u210 u211 u212 u213 u214 u215 u216 u217 u218 u219 u220 u221 u222 u223 u224 u225 u226 u227 u228 u229 u230 u231 u232 u233 u234 u235 u236 u237 u238 u239 u240 u241 u242 u243 u244 u245 u246 u247 u248 u249 u250 u251 u252 u253 u254 u255 u256 u257 u258 u259 u260 u261 u262 u263 u264 u265 u266 u267 u268 u269 u270 u271 u272 u273 u274 u275 u276 u277 u278 u279 u280 u281 u282 u283 u284 u285 u286 : Value} {ds : List Deferred} (lq : Option Addr) (ll lc : Nat) (g : Nat → Int) (k : Nat) (w W0 : World) (p hq cg n cap : Nat) (dv ov : Value) (r rh db cb co len : Nat) (f : Nat → Int) (S : HS) (M : MS) (hll : ll ≤ 9223372036854775807) (hN : Hand .i64 w lq ll g) (hL : Lw w W0 p hq cg n cap dv ov r rh db cb co len f S M S M) {K : Act → World → Prop} (hk : ∀ (t19 t163 t164 t165 t166 t167 t168 t169 t170 t171 t172 t173 t174 t175 t176 t177 t178 t179 t180 t181 t182 t183 t184 t185 t186 t187 t188 : Value) (b : Bool) (y : World), Lw w y p hq cg n cap dv ov r rh db cb co len f S { M with line := b } S { M with line := b } → K ⟨#[u0, u1, .slice lq ll lc, u3, u4, u5, u6, u7, u8, u9, u10, .pointer (some ⟨p, 0, none⟩), u12, .pointer (some ⟨r, 0, none⟩), u14, u15, u16, u17, .int .i64 k, t19, u20, u21, u22, u23, u24, u25, u26, u27, u28, u29, u30, u31, u32, u33, u34, u35, u36, u37, u38, u39, u40, u41, u42, u43, u44, u45, u46, u47, u48, u49, u50, u51, u52, u53, u54, u55, u56, u57, u58, u59, u60, u61, u62, u63, u64, u65, u66, u67, u68, u69, u70, u71, u72, u73, u74, u75, u76, u77, u78, u79, u80, u81, u82, u83, u84, u85, u86, u87, u88, u89, u90, u91, u92, u93, u94, u95, u96, u97, u98, u99, u100, u101, u102, u103, u104, u105, u106, u107, u108, u109, u110, u111, u112, u113, u114, u115, u116, u117, u118, u119, u120, u121, u122, u123, u124, u125, u126, u127, u128, u129, u130, u131, u132, u133, u134, u135, u136, u137, u138, u139, u140, u141, u142, u143, u144, u145, u146, u147, u148, u149, u150, u151, u152, u153, u154, u155, u156, u157, u158, u159, u160, u161, u162, t163, t164, t165, t166, t167, t168, t169, t170, t171, t172, t173, t174, t175, t176, t177, t178, t179, t180, t181, t182, t183, t184, t185, t186, t187, t188, u189, u190, u191, u192, u193, u194, u195, u196, u197, u198, u199, u200, u201, u202, u203, u204, u205, u206, u207, u208, u209, u210, u211, u212, u213, u214, u215, u216, u217, u218, u219, u220, u221, u222, u223, u224, u225, u226, u227, u228, u229, u230, u231, u232, u233, u234, u235, u236, u237, u238, u239, u240, u241, u242, u243, u244, u245, u246, u247, u248, u249, u250, u251, u252, u253, u254, u255, u256, u257, u258, u259, u260, u261, u262, u263, u264, u265, u266, u267, u268, u269, u270, u271, u272, u273, u274, u275, u276, u277, u278, u279, u280, u281, u282, u283, u284, u285, u286], ds⟩ y) : (blkIn Tryz.f3.body 6).wp Tryz.prog (Exit.then K NoX) ⟨#[u0, u1, .slice lq ll lc, u3, u4, u5, u6, u7, u8, u9, u10, .pointer (some ⟨p, 0, none⟩), u12, .pointer (some ⟨r, 0, none⟩), u14, u15, u16, u17, .int .i64 k, .int .i64 0, u20, u21, u22, u23, u24, u25, u26, u27, u28, u29, u30, u31, u32, u33, u34, u35, u36, u37, u38, u39, u40, u41, u42, u43, u44, u45, u46, u47, u48, u49, u50, u51, u52, u53, u54, u55, u56, u57, u58, u59, u60, u61, u62, u63, u64, u65, u66, u67, u68, u69, u70, u71, u72, u73, u74, u75, u76, u77, u78, u79, u80, u81, u82, u83, u84, u85, u86, u87, u88, u89, u90, u91, u92, u93, u94, u95, u96, u97, u98, u99, u100, u101, u102, u103, u104, u105, u106, u107, u108, u109, u110, u111, u112, u113, u114, u115, u116, u117, u118, u119, u120, u121, u122, u123, u124, u125, u126, u127, u128, u129, u130, u131, u132, u133, u134, u135, u136, u137, u138, u139, u140, u141, u142, u143, u144, u145, u146, u147, u148, u149, u150, u151, u152, u153, u154, u155, u156, u157, u158, u159, u160, u161, u162, u163, u164, u165, u166, u167, u168, u169, u170, u171, u172, u173, u174, u175, u176, u177, u178, u179, u180, u181, u182, u183, u184, u185, u186, u187, u188, u189, u190, u191, u192, u193, u194, u195, u196, u197, u198, u199, u200, u201, u202, u203, u204, u205, u206, u207, u208, u209, u210, u211, u212, u213, u214, u215, u216, u217, u218, u219, u220, u221, u222, u223, u224, u225, u226, u227, u228, u229, u230, u231, u232, u233, u234, u235, u236, u237, u238, u239, u240, u241, u242, u243, u244, u245, u246, u247, u248, u249, u250, u251, u252, u253, u254, u255, u256, u257, u258, u259, u260, u261, u262, u263, u264, u265, u266, u267, u268, u269, u270, u271, u272, u273, u274, u275, u276, u277, u278, u279, u280, u281, u282, u283, u284, u285, u286], ds⟩ W0 := by
  have HQ := Hid.in hk
  have HN := Hid.in hN
  have HL := Hid.in hL
  clear hk hN hL
  show Code.wp _ (Code.block 6 (Code.loop _)) _ _ _
  go_wp2
  go_loopw [19] (fun iv wr => ∃ (i : Nat) (b : Bool), iv = .int .i64 i ∧ i ≤ ll ∧ Lw w wr p hq cg n cap dv ov r rh db cb co len f S { M with line := b } S { M with line := b }) (fun iv _ => ll + 1 - (intOf iv).toNat)
  case atStart => exact ⟨0, M.line, rfl, by omega, HL.out⟩
  case round =>
    obtain ⟨i, b, rfl, hi, hK⟩ := hrel
    have HK := Hid.in hK
    clear hK
    by_cases hlt : i < ll
    · have hlt' : (i : Int) < (ll : Int) := by omega
      obtain ⟨nb, no, rfl, h1, h2⟩ := HN.out i hlt
      have cN : wr.cell? ⟨nb, no + i, none⟩ = some (.int .i64 (g i)) := (HK.out.mx.low.cell (p := ⟨nb, no + i, none⟩) h1).trans h2
      have cL : wr.cell? ⟨r, 3, none⟩ = some (.bool b) := HK.out.rx.c.cell 3 (by decide)
      have fL := HK.out.rx.c.free 3
      have hr := HK.out.rx.c.here
      clear h1 h2
      by_cases he : g i = (k : Int)
      · have HK2 := Hid.in (HK.out.onR ((Turned.of_only ((Only.refl r wr).set 3 (.bool !b))).mono (fun j e => Or.inl (Or.inl e))) (HK.out.rx.line (!b)))
        have HLN := Hid.in (xline_any HK2.out.mx (!b))
        go_wp2_with (go_at_call 8; refine HLN.out.mono ?_; rintro e y ⟨rfl, hM, hO⟩; have HK3 := Hid.in (HK2.out.onP ((Turned.of_only hO).mono (fun j e => Or.inl (Or.inl e))) (Or.inl rfl) hM); clear hM hO)
        go_roundw
        case rel => exact ⟨i + 1, !b, by go_num, by omega, HK3.out⟩
        case measure =>
          simp [intOf]
          omega
      · go_wp2
        go_roundw
        case rel => exact ⟨i + 1, b, by go_num, by omega, HK.out⟩
        case measure =>
          simp [intOf]
          omega
    · obtain rfl : i = ll := by omega
      go_wp2
      exact HQ.out _ _ _ _ _ _ _ _ _ _ _ _ _ _ _ _ _ _ _ _ _ _ _ _ _ _ _ b _ HK.out
end Go.Proofs.YtengofkjlgajlaaGreatDoor
