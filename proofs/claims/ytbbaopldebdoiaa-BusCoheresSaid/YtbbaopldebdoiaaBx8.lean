/-
  BUS' LAW BusCoheres: its statements, one by one: what should be read.
-/
import Derived.Test.YtbbaopldebdoiaaBx3
import Derived.BigQuiet
namespace Go.Proofs.Ytbbaopldebdoiaa
open Go Go.RowKit
set_option maxRecDepth 100000 in
set_option maxHeartbeats 4000000 in
theorem blk8 {u0 u1 u2 u3 u4 u5 u6 u7 u8 u9 u10 u11 u13 u14 u15 u17 u18 u19 u20 u21 u22 u23 u24 u25 u26 u27 u28 u31 u32 u33 u34 u35 u36 u37 u38 u39 u40 u41 u42 u43 u44 u45 u46 u47 u48 u49 u50 u51 u52 u53 u54 u55 u56 u57 u58 u59 u60 u61 u62 u63 u64 u65 u66 u67 u68 u69 u70 u71 u72 u73 u74 u75 u76 u77 u78 u79 u80 u81 u82 u83 u84 u85 u86 u87 u88 u89 u90 u91 u92 u93 u94 u95 u96 u97 u98 u99 u100 u101 u102 u103 u104 u105 u106 u107 u108 u109 u110 u111 u112 u113 u114 u115 u116 u117 u118 u119 u120 u121 u122 u123 u124 u125 u126 u127 u128 u129 u130 u131 u132 u133 u134 u135 u136 u137 u138 u139 u140 u141 u142 u143 u144 u145 u146 u147 u148 u149 u150 u151 u152 u153 u154 u155 u156 u157 u158 u159 u160 u161 u162 u163 u164 u165 u166 u167 u168 u169 u170 u171 u172 u173 u174 u175 u176 u177 u178 u179 u180 u181 u182 u183 u184 u185 u186 u187 u188 u189 u190 u191 u192 u193 u194 u195 u196 u197 u198 u199 u200 u201 u202 u203 u204 u205 u206 u207 u208 u209 u210 u211 u212 u213 u214 u215 u216 u217 u218 u219 u220 u221 u222 u223 u224 u225 u226 u227 u228 u229 u230 u231 u232 u233 u234 u235 u236 u237 u238 u239 u240 u241 : Value} {ds : List Deferred} {W : World} {f : Nat → Nat} {z A fb : Nat} {zz0 : Int} (hzz0 : zz0 = (z : Int) - 1) (hf : CellsAt 256 W fb (fun o => .int .u8 (f o))) (hf8 : ∀ o, f o < 256) (hz : z ≤ 4) (hAz : A + z ≤ 256) {K : Act → World → Prop} (hk : ∀ (t30 t216 t217 t218 t219 t220 t221 t222 t223 t224 t225 t226 t227 t228 t229 : Value), K ⟨#[u0, u1, u2, u3, u4, u5, u6, u7, u8, u9, u10, u11, .slice (some ⟨fb, 0, none⟩) 256 256, u13, u14, u15, .int .i64 A, u17, u18, u19, u20, u21, u22, u23, u24, u25, u26, u27, u28, .int .u32 (leN (fun t => f (A + t)) z : Nat), t30, u31, u32, u33, u34, u35, u36, u37, u38, u39, u40, u41, u42, u43, u44, u45, u46, u47, u48, u49, u50, u51, u52, u53, u54, u55, u56, u57, u58, u59, u60, u61, u62, u63, u64, u65, u66, u67, u68, u69, u70, u71, u72, u73, u74, u75, u76, u77, u78, u79, u80, u81, u82, u83, u84, u85, u86, u87, u88, u89, u90, u91, u92, u93, u94, u95, u96, u97, u98, u99, u100, u101, u102, u103, u104, u105, u106, u107, u108, u109, u110, u111, u112, u113, u114, u115, u116, u117, u118, u119, u120, u121, u122, u123, u124, u125, u126, u127, u128, u129, u130, u131, u132, u133, u134, u135, u136, u137, u138, u139, u140, u141, u142, u143, u144, u145, u146, u147, u148, u149, u150, u151, u152, u153, u154, u155, u156, u157, u158, u159, u160, u161, u162, u163, u164, u165, u166, u167, u168, u169, u170, u171, u172, u173, u174, u175, u176, u177, u178, u179, u180, u181, u182, u183, u184, u185, u186, u187, u188, u189, u190, u191, u192, u193, u194, u195, u196, u197, u198, u199, u200, u201, u202, u203, u204, u205, u206, u207, u208, u209, u210, u211, u212, u213, u214, u215, t216, t217, t218, t219, t220, t221, t222, t223, t224, t225, t226, t227, t228, t229, u230, u231, u232, u233, u234, u235, u236, u237, u238, u239, u240, u241], ds⟩ W) : (blkIn Try.f3.body 8).wp Try.prog (Exit.then K NoX) ⟨#[u0, u1, u2, u3, u4, u5, u6, u7, u8, u9, u10, u11, .slice (some ⟨fb, 0, none⟩) 256 256, u13, u14, u15, .int .i64 A, u17, u18, u19, u20, u21, u22, u23, u24, u25, u26, u27, u28, .int .u32 0, .int .i64 zz0, u31, u32, u33, u34, u35, u36, u37, u38, u39, u40, u41, u42, u43, u44, u45, u46, u47, u48, u49, u50, u51, u52, u53, u54, u55, u56, u57, u58, u59, u60, u61, u62, u63, u64, u65, u66, u67, u68, u69, u70, u71, u72, u73, u74, u75, u76, u77, u78, u79, u80, u81, u82, u83, u84, u85, u86, u87, u88, u89, u90, u91, u92, u93, u94, u95, u96, u97, u98, u99, u100, u101, u102, u103, u104, u105, u106, u107, u108, u109, u110, u111, u112, u113, u114, u115, u116, u117, u118, u119, u120, u121, u122, u123, u124, u125, u126, u127, u128, u129, u130, u131, u132, u133, u134, u135, u136, u137, u138, u139, u140, u141, u142, u143, u144, u145, u146, u147, u148, u149, u150, u151, u152, u153, u154, u155, u156, u157, u158, u159, u160, u161, u162, u163, u164, u165, u166, u167, u168, u169, u170, u171, u172, u173, u174, u175, u176, u177, u178, u179, u180, u181, u182, u183, u184, u185, u186, u187, u188, u189, u190, u191, u192, u193, u194, u195, u196, u197, u198, u199, u200, u201, u202, u203, u204, u205, u206, u207, u208, u209, u210, u211, u212, u213, u214, u215, u216, u217, u218, u219, u220, u221, u222, u223, u224, u225, u226, u227, u228, u229, u230, u231, u232, u233, u234, u235, u236, u237, u238, u239, u240, u241], ds⟩ W := by
  have HQ := Hid.in hk
  have HF := Hid.in hf
  have H8 := Hid.in hf8
  clear hk hf hf8
  show Code.wp _ (Code.block 8 (Code.loop _)) _ _ _
  go_wp2_with fail
  go_loopw [29, 30] (fun vv bv wr' => ∃ (jn : Nat) (zz : Int), bv = .int .i64 zz ∧ zz = (jn : Int) - 1 ∧ jn ≤ z ∧ vv = .int .u32 (leN (fun t => f (A + jn + t)) (z - jn) : Nat) ∧ W = wr') (fun _ bv _ => (intOf bv + 1).toNat)
  case atStart => exact ⟨z, _, rfl, by first | exact hzz0 | rfl, Nat.le_refl _, by rw [Nat.sub_self]; rfl, rfl⟩
  case round =>
    obtain ⟨jn, zz, rfl, hzz, hjn, rfl, rfl⟩ := hrel
    rcases Nat.eq_zero_or_pos jn with q0 | q0
    · subst q0
      have hz1 : zz = -1 := by omega
      subst hz1
      have hlast : leN (fun t => f (A + 0 + t)) (z - 0) = leN (fun t => f (A + t)) z := rfl
      rw [hlast]
      obtain ⟨rv, hrv⟩ : ∃ rv, leN (fun t => f (A + t)) z = rv := ⟨_, rfl⟩
      have HRV := Hid.in hrv
      rw [hrv]
      clear hlast hzz hrv
      go_wp2
      rw [← HRV.out]
      exact HQ.out _ _ _ _ _ _ _ _ _ _ _ _ _ _ _
    · obtain ⟨j1, rfl⟩ : ∃ j1, jn = j1 + 1 := ⟨jn - 1, by omega⟩
      obtain rfl : zz = (j1 : Int) := by omega
      have cc := HF.out.cell (A + j1) (by omega)
      have ch9 := HF.out.here
      have hy := H8.out (A + j1)
      have hx := leN_lt (fun t => f (A + (j1 + 1) + t)) (z - (j1 + 1)) (fun t _ => H8.out _)
      have hx2 : 256 ^ (z - (j1 + 1)) ≤ 256 ^ 3 := Nat.pow_le_pow_right (by decide) (by omega)
      have hnext : leN (fun t => f (A + j1 + t)) (z - j1) = f (A + j1) + 256 * leN (fun t => f (A + (j1 + 1) + t)) (z - (j1 + 1)) := by
        rw [show z - j1 = (z - (j1 + 1)) + 1 by omega, leN_shift]
        show f (A + j1 + 0) + _ = _
        rw [Nat.add_zero]
        congr 2
        refine leN_congr _ _ _ (fun t _ => ?_)
        show f (A + j1 + (t + 1)) = f (A + (j1 + 1) + t)
        congr 1
        omega
      have HNX := Hid.in hnext
      obtain ⟨x, hxe⟩ : ∃ x, leN (fun t => f (A + (j1 + 1) + t)) (z - (j1 + 1)) = x := ⟨_, rfl⟩
      obtain ⟨y, hye⟩ : ∃ y, f (A + j1) = y := ⟨_, rfl⟩
      have HXE := Hid.in hxe
      have HYE := Hid.in hye
      rw [hxe] at hx
      rw [hye] at hy cc
      rw [hxe]
      have HSO := Hid.in (shl_or x y (by omega) hy)
      have hi256 : A + j1 < 256 := by omega
      clear hnext hx hx2 hxe hye hzz hzz0
      go_wp2
      go_roundw
      case rel =>
        refine ⟨j1, _, rfl, by simp, by omega, ?_, trivial⟩
        rw [HSO.out, HNX.out, HYE.out, HXE.out]
      case measure => simp [intOf]
end Go.Proofs.Ytbbaopldebdoiaa
