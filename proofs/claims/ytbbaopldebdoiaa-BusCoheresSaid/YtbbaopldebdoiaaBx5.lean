/-
  BUS' LAW BusCoheres: its statements, one by one: a core waits for a line.
-/
import Derived.Test.YtbbaopldebdoiaaBx4
namespace Go.Proofs.Ytbbaopldebdoiaa
open Go Go.RowKit
set_option maxRecDepth 100000 in
set_option maxHeartbeats 8000000 in
theorem blk2 {u0 u1 u2 u4 u5 u6 u7 u8 u9 u11 u12 u15 u16 u19 u20 u21 u22 u23 u24 u25 u26 u27 u28 u29 u30 u31 u32 u33 u34 u35 u36 u37 u38 u39 u40 u41 u42 u43 u44 u45 u46 u47 u48 u49 u50 u51 u52 u53 u54 u55 u56 u57 u58 u59 u60 u61 u62 u63 u64 u65 u66 u67 u68 u69 u70 u71 u72 u73 u74 u75 u76 u77 u78 u79 u80 u81 u82 u83 u84 u85 u86 u87 u88 u89 u90 u91 u92 u93 u94 u95 u96 u97 u98 u99 u100 u101 u102 u103 u104 u105 u106 u107 u108 u109 u110 u111 u112 u113 u114 u115 u116 u117 u118 u119 u120 u121 u122 u123 u124 u125 u126 u127 u128 u129 u130 u131 u132 u133 u134 u135 u136 u137 u138 u139 u140 u141 u142 u143 u144 u145 u146 u147 u148 u149 u150 u151 u152 u153 u154 u155 u156 u157 u158 u159 u160 u161 u162 u163 u164 u165 u166 u167 u168 u169 u170 u171 u172 u173 u174 u175 u176 u177 u178 u179 u180 u181 u182 u183 u184 u185 u186 u187 u188 u189 u190 u191 u192 u193 u194 u195 u196 u197 u198 u199 u200 u201 u202 u203 u204 u205 u206 u207 u208 u209 u210 u211 u212 u213 u214 u215 u216 u217 u218 u219 u220 u221 u222 u223 u224 u225 u226 u227 u228 u229 u230 u231 u232 u233 u234 u235 u236 u237 u238 u239 u240 u241 : Value} {ds : List Deferred} {w0 W : World} {g : Bn} {N fb : Nat} {S : BS} {f : Nat → Nat} {ab ao m cw k c A : Nat} {sto : Bool} (hK : Cw w0 W g N fb S f) (hid : Idle S) (hN : N < 900000) (hc : c < 2) (hlo : 65536 ≤ A) (hhi : A < 65792) (hkm : k < m) (hab : ab < w0.heap.size) (hcell : w0.cell? ⟨ab, ao + k * 5 + 3, none⟩ = some (.bool sto)) {K : Act → World → Prop} (hk : ∀ (t8 t18 t19 t20 t21 t22 t23 t24 t102 t103 t104 t105 t106 t107 t108 t109 t110 t111 t112 t113 t114 t115 t116 t117 t118 t119 t120 t121 t122 t123 t124 t125 t126 t127 t128 t129 t130 t131 t132 t133 t134 t135 t136 t137 t138 t139 t140 t141 t142 t143 t144 t145 t146 t147 t148 t149 t150 t151 t152 t153 t154 t155 t156 t157 t158 t159 t160 t161 t162 t163 t164 t165 t166 t167 t168 t169 : Value) (y : World) (S' : BS) (N' : Nat), Cw w0 y g N' fb S' f → Idle S' → enough sto ≤ (S'.c c).st A → N' ≤ N + 1 → K ⟨#[u0, u1, u2, .slice (some ⟨ab, ao, none⟩) m cw, u4, u5, u6, u7, t8, u9, .pointer (some ⟨g.p, 0, none⟩), u11, u12, .int .i64 k, .int .i64 c, u15, u16, .int .u32 A, t18, t19, t20, t21, t22, t23, t24, u25, u26, u27, u28, u29, u30, u31, u32, u33, u34, u35, u36, u37, u38, u39, u40, u41, u42, u43, u44, u45, u46, u47, u48, u49, u50, u51, u52, u53, u54, u55, u56, u57, u58, u59, u60, u61, u62, u63, u64, u65, u66, u67, u68, u69, u70, u71, u72, u73, u74, u75, u76, u77, u78, u79, u80, u81, u82, u83, u84, u85, u86, u87, u88, u89, u90, u91, u92, u93, u94, u95, u96, u97, u98, u99, u100, u101, t102, t103, t104, t105, t106, t107, t108, t109, t110, t111, t112, t113, t114, t115, t116, t117, t118, t119, t120, t121, t122, t123, t124, t125, t126, t127, t128, t129, t130, t131, t132, t133, t134, t135, t136, t137, t138, t139, t140, t141, t142, t143, t144, t145, t146, t147, t148, t149, t150, t151, t152, t153, t154, t155, t156, t157, t158, t159, t160, t161, t162, t163, t164, t165, t166, t167, t168, t169, u170, u171, u172, u173, u174, u175, u176, u177, u178, u179, u180, u181, u182, u183, u184, u185, u186, u187, u188, u189, u190, u191, u192, u193, u194, u195, u196, u197, u198, u199, u200, u201, u202, u203, u204, u205, u206, u207, u208, u209, u210, u211, u212, u213, u214, u215, u216, u217, u218, u219, u220, u221, u222, u223, u224, u225, u226, u227, u228, u229, u230, u231, u232, u233, u234, u235, u236, u237, u238, u239, u240, u241], ds⟩ y) : (blkIn Try.f3.body 2).wp Try.prog (Exit.then K NoX) ⟨#[u0, u1, u2, .slice (some ⟨ab, ao, none⟩) m cw, u4, u5, u6, u7, u8, u9, .pointer (some ⟨g.p, 0, none⟩), u11, u12, .int .i64 k, .int .i64 c, u15, u16, .int .u32 A, .int .i64 0, u19, u20, u21, u22, u23, u24, u25, u26, u27, u28, u29, u30, u31, u32, u33, u34, u35, u36, u37, u38, u39, u40, u41, u42, u43, u44, u45, u46, u47, u48, u49, u50, u51, u52, u53, u54, u55, u56, u57, u58, u59, u60, u61, u62, u63, u64, u65, u66, u67, u68, u69, u70, u71, u72, u73, u74, u75, u76, u77, u78, u79, u80, u81, u82, u83, u84, u85, u86, u87, u88, u89, u90, u91, u92, u93, u94, u95, u96, u97, u98, u99, u100, u101, u102, u103, u104, u105, u106, u107, u108, u109, u110, u111, u112, u113, u114, u115, u116, u117, u118, u119, u120, u121, u122, u123, u124, u125, u126, u127, u128, u129, u130, u131, u132, u133, u134, u135, u136, u137, u138, u139, u140, u141, u142, u143, u144, u145, u146, u147, u148, u149, u150, u151, u152, u153, u154, u155, u156, u157, u158, u159, u160, u161, u162, u163, u164, u165, u166, u167, u168, u169, u170, u171, u172, u173, u174, u175, u176, u177, u178, u179, u180, u181, u182, u183, u184, u185, u186, u187, u188, u189, u190, u191, u192, u193, u194, u195, u196, u197, u198, u199, u200, u201, u202, u203, u204, u205, u206, u207, u208, u209, u210, u211, u212, u213, u214, u215, u216, u217, u218, u219, u220, u221, u222, u223, u224, u225, u226, u227, u228, u229, u230, u231, u232, u233, u234, u235, u236, u237, u238, u239, u240, u241], ds⟩ W := by
  have HK := Hid.in hK
  have HID := Hid.in hid
  have HQ := Hid.in hk
  have HNN := Hid.in hN
  have HC := Hid.in hc
  have HLO := Hid.in hlo
  have HHI := Hid.in hhi
  have HKM := Hid.in hkm
  have HAB := Hid.in hab
  have HCL := Hid.in hcell
  have hkm' : (k : Int) < (m : Int) := by omega
  clear hK hid hk hN hlo hhi hkm hab hcell
  show Code.wp _ (Code.block 2 (Code.loop _)) _ _ _
  go_wp2_with fail
  go_loopw [18] (fun tv wr => ∃ (t N' : Nat) (S' : BS), tv = .int .i64 t ∧ Cw w0 wr g N' fb S' f ∧ Jt S' c A t sto ∧ N' ≤ N + 1 ∧ (t = 0 → N' ≤ N)) (fun tv _ => 100 - (intOf tv).toNat)
  case atStart => exact ⟨0, N, S, rfl, HK.out, Or.inl ⟨HID.out, rfl⟩, Nat.le_succ _, fun _ => Nat.le_refl _⟩
  case round =>
    obtain ⟨t, N', S', rfl, hK', hJ, hN', hN0⟩ := hrel
    clear HK HID
    have hcy : S'.cyc ≤ 10 := hK'.u.own.2.2.2.1.2.2.1
    have ht : t ≤ 11 := by
      rcases hJ with h | h | h
      · omega
      · omega
      · omega
    have ht60 : ¬ ((t : Int) > 60) := by omega
    have x3 : wr.cell? ⟨ab, ao + k * 5 + 3, none⟩ = some (.bool sto) := (hK'.low.cell (p := ⟨ab, ao + k * 5 + 3, none⟩) HAB.out).trans HCL.out
    have xh := Nat.lt_of_lt_of_le HAB.out hK'.low.size
    have HST := Hid.in (ustate hK'.u (c : Nat) A (by have := HHI.out; omega))
    rw [st_is hK'.co hc HLO.out HHI.out] at HST
    obtain ⟨sv, hsv⟩ : ∃ sv, (S'.c c).st A = sv := ⟨_, rfl⟩
    rw [hsv] at HST
    have HSV := Hid.in hsv
    have HK' := Hid.in hK'
    have HJ := Hid.in hJ
    have HN' := Hid.in (And.intro hN' hN0)
    have HCY := Hid.in hcy
    clear hK' hJ hsv hN' hN0
    by_cases hen : enough sto ≤ sv
    · have HEN := Hid.in hen
      have HI : Hid (Idle S') := by
        rcases HJ.out with h | h | h
        · exact h.1
        · have h3 := h.1.2.2.1
          rw [stl_line, HSV.out] at h3
          omega
        · exact h.1
      cases sto
      · have hen : 1 ≤ sv := hen
        by_cases h2 : 2 ≤ sv
        · have q1 : (sv : Int) ≥ 2 := by omega
          clear hen h2
          go_wp2_with (go_at_call 6; refine HST.out.mono ?_; rintro e y1 ⟨rfl, hy1⟩; have HY1 := Hid.in hy1; have z3 := (hy1.cell (p := ⟨ab, ao + k * 5 + 3, none⟩) xh).trans x3; have zh := Nat.lt_of_lt_of_le xh hy1.size; clear hy1)
          exact HQ.out _ _ _ _ _ _ _ _ _ _ _ _ _ _ _ _ _ _ _ _ _ _ _ _ _ _ _ _ _ _ _ _ _ _ _ _ _ _ _ _ _ _ _ _ _ _ _ _ _ _ _ _ _ _ _ _ _ _ _ _ _ _ _ _ _ _ _ _ _ _ _ _ _ _ _ _ _ S' N' (HK'.out.below HY1.out) HI.out (by rw [HSV.out]; exact HEN.out) HN'.out.1
        · obtain rfl : sv = 1 := by omega
          clear hen h2
          go_wp2_with (go_at_call 6; refine HST.out.mono ?_; rintro e y1 ⟨rfl, hy1⟩; have HY1 := Hid.in hy1; have z3 := (hy1.cell (p := ⟨ab, ao + k * 5 + 3, none⟩) xh).trans x3; have zh := Nat.lt_of_lt_of_le xh hy1.size; clear hy1)
          exact HQ.out _ _ _ _ _ _ _ _ _ _ _ _ _ _ _ _ _ _ _ _ _ _ _ _ _ _ _ _ _ _ _ _ _ _ _ _ _ _ _ _ _ _ _ _ _ _ _ _ _ _ _ _ _ _ _ _ _ _ _ _ _ _ _ _ _ _ _ _ _ _ _ _ _ _ _ _ _ S' N' (HK'.out.below HY1.out) HI.out (by rw [HSV.out]; exact HEN.out) HN'.out.1
      · have q1 : (sv : Int) ≥ 2 := by have : 2 ≤ sv := hen; omega
        clear hen
        go_wp2_with (go_at_call 6; refine HST.out.mono ?_; rintro e y1 ⟨rfl, hy1⟩; have HY1 := Hid.in hy1; have z3 := (hy1.cell (p := ⟨ab, ao + k * 5 + 3, none⟩) xh).trans x3; have zh := Nat.lt_of_lt_of_le xh hy1.size; clear hy1)
        exact HQ.out _ _ _ _ _ _ _ _ _ _ _ _ _ _ _ _ _ _ _ _ _ _ _ _ _ _ _ _ _ _ _ _ _ _ _ _ _ _ _ _ _ _ _ _ _ _ _ _ _ _ _ _ _ _ _ _ _ _ _ _ _ _ _ _ _ _ _ _ _ _ _ _ _ _ _ _ _ S' N' (HK'.out.below HY1.out) HI.out (by rw [HSV.out]; exact HEN.out) HN'.out.1
    · have hlt : sv < enough sto := by omega
      have HLT := Hid.in hlt
      have HBZ := Hid.in (ubusy HK'.out.u (c : Nat) (by unfold i64; omega))
      have HOR : Hid (((S'.ak (c : Nat)).isSome = false ∧ Idle S' ∧ t = 0) ∨ ((S'.ak (c : Nat)).isSome = true ∧ Asked S' c (lineOf A) t sto ∧ t ≤ S'.cyc)) := by
        rcases HJ.out with h | h | h
        · exact Or.inl ⟨by rw [idle_ak h.1 hc]; rfl, h⟩
        · exact Or.inr ⟨by rw [h.1.1]; rfl, h.1, h.2.2.2⟩
        · have := h.2.2
          rw [HSV.out] at this
          omega
      have HBU : Hid (∀ y, Below wr.heap.size wr y → Calls Try.prog 7 #[.pointer (some ⟨g.p, 0, none⟩), .int .i64 c] y fun e w' => e = .returned (.bool (S'.ak (c : Nat)).isSome) ∧ Below y.heap.size y w') := fun y hy => ubusy (HK'.out.below hy).u (c : Nat) (by unfold i64; omega)
      obtain ⟨bz, hbz⟩ : ∃ bz, (S'.ak (c : Nat)).isSome = bz := ⟨_, rfl⟩
      rw [hbz] at HBU HOR
      have q2 : ¬ ((sv : Int) ≥ 2) := by
        have : enough sto ≤ 2 := by cases sto <;> decide
        omega
      have q3 : sto = false → sv = 0 := fun e => by rw [e] at hlt; have : sv < 1 := hlt; omega
      clear hen hlt hbz HBZ
      cases sto
      · obtain rfl := q3 rfl
        go_upto_if 128 with (first
          | (go_at_call 7; refine (HBU.out _ HY1.out).mono ?_; rintro e y2 ⟨rfl, hy2⟩; have HY2 := Hid.in (HY1.out.trans (hy2.mono HY1.out.size)); clear hy2)
          | (go_at_call 6; refine HST.out.mono ?_; rintro e y1 ⟨rfl, hy1⟩; have HY1 := Hid.in hy1; have z3 := (hy1.cell (p := ⟨ab, ao + k * 5 + 3, none⟩) xh).trans x3; have zh := Nat.lt_of_lt_of_le xh hy1.size; clear hy1))
        clear x3 xh z3 zh
        refine wp_any (cond128 (t := t) (HK'.out.below HY2.out) (by have := HN'.out.1; have := HNN.out; omega) hc HLO.out HHI.out HKM.out HAB.out HCL.out ?_ ?_)
        · rcases HOR.out with ⟨e1, e2, e3⟩ | ⟨e1, e2, -⟩
          · exact Or.inl ⟨by rw [e1]; rfl, e2, by rw [HSV.out]; exact HLT.out, e3⟩
          · exact Or.inr ⟨by rw [e1]; rfl, e2⟩
        intro a21 a129 a130 a131 a132 a133 a134 a135 a136 a137 a138 a139 y3 S3 N3 hC3 hA3 hcy3 hN3 hN3'
        have HTC : Hid (t ≤ S3.cyc) := by
          show t ≤ S3.cyc
          rw [hcy3]
          rcases HOR.out with ⟨-, -, e3⟩ | ⟨-, -, e3⟩
          · omega
          · exact e3
        have HN3 : Hid (N3 ≤ N + 1) := by
          show N3 ≤ N + 1
          rcases HOR.out with ⟨-, -, e3⟩ | ⟨e1, -, -⟩
          · have := HN'.out.2 e3; omega
          · have := hN3' (by rw [e1]; rfl); have := HN'.out.1; omega
        have HTI := Hid.in (cw_tick hC3 c A t false hc HLO.out HHI.out hA3 HTC.out)
        clear hC3 hA3 hcy3 hN3 hN3'
        go_upto_block 4 with (go_at_call 9; refine HTI.out.mono ?_; rintro e y4 ⟨v4, S4, rfl, hC4, hJ4⟩; have HC4 := Hid.in hC4; have HJ4 := Hid.in hJ4; clear hC4 hJ4)
        refine wp_then (wp_any (blk4 HC4.out ?_))
        intro b8 b22 b23 b24 b142 b143 b144 b145 b146 b147 b148 b149 b150 b151 b152 b153 b154 b155 b156 b157 b158 b159 b160 b161 b162 b163 b164 b165 b166 b167 b168 b169 y5 hy5
        have HY5 := Hid.in hy5
        clear hy5
        go_wp2
        go_roundw
        case rel => exact ⟨t + 1, N3, S4, by simp, HC4.out.below HY5.out, HJ4.out, HN3.out, fun q => by omega⟩
        case measure =>
          simp [intOf]
          omega
      · clear q3
        go_upto_if 128 with (first
          | (go_at_call 7; refine (HBU.out _ HY1.out).mono ?_; rintro e y2 ⟨rfl, hy2⟩; have HY2 := Hid.in (HY1.out.trans (hy2.mono HY1.out.size)); clear hy2)
          | (go_at_call 6; refine HST.out.mono ?_; rintro e y1 ⟨rfl, hy1⟩; have HY1 := Hid.in hy1; have z3 := (hy1.cell (p := ⟨ab, ao + k * 5 + 3, none⟩) xh).trans x3; have zh := Nat.lt_of_lt_of_le xh hy1.size; clear hy1))
        clear x3 xh z3 zh
        refine wp_any (cond128 (t := t) (HK'.out.below HY2.out) (by have := HN'.out.1; have := HNN.out; omega) hc HLO.out HHI.out HKM.out HAB.out HCL.out ?_ ?_)
        · rcases HOR.out with ⟨e1, e2, e3⟩ | ⟨e1, e2, -⟩
          · exact Or.inl ⟨by rw [e1]; rfl, e2, by rw [HSV.out]; exact HLT.out, e3⟩
          · exact Or.inr ⟨by rw [e1]; rfl, e2⟩
        intro a21 a129 a130 a131 a132 a133 a134 a135 a136 a137 a138 a139 y3 S3 N3 hC3 hA3 hcy3 hN3 hN3'
        have HTC : Hid (t ≤ S3.cyc) := by
          show t ≤ S3.cyc
          rw [hcy3]
          rcases HOR.out with ⟨-, -, e3⟩ | ⟨-, -, e3⟩
          · omega
          · exact e3
        have HN3 : Hid (N3 ≤ N + 1) := by
          show N3 ≤ N + 1
          rcases HOR.out with ⟨-, -, e3⟩ | ⟨e1, -, -⟩
          · have := HN'.out.2 e3; omega
          · have := hN3' (by rw [e1]; rfl); have := HN'.out.1; omega
        have HTI := Hid.in (cw_tick hC3 c A t true hc HLO.out HHI.out hA3 HTC.out)
        clear hC3 hA3 hcy3 hN3 hN3'
        go_upto_block 4 with (go_at_call 9; refine HTI.out.mono ?_; rintro e y4 ⟨v4, S4, rfl, hC4, hJ4⟩; have HC4 := Hid.in hC4; have HJ4 := Hid.in hJ4; clear hC4 hJ4)
        refine wp_then (wp_any (blk4 HC4.out ?_))
        intro b8 b22 b23 b24 b142 b143 b144 b145 b146 b147 b148 b149 b150 b151 b152 b153 b154 b155 b156 b157 b158 b159 b160 b161 b162 b163 b164 b165 b166 b167 b168 b169 y5 hy5
        have HY5 := Hid.in hy5
        clear hy5
        go_wp2
        go_roundw
        case rel => exact ⟨t + 1, N3, S4, by simp, HC4.out.below HY5.out, HJ4.out, HN3.out, fun q => by omega⟩
        case measure =>
          simp [intOf]
          omega
end Go.Proofs.Ytbbaopldebdoiaa
