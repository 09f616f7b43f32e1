import Derived.Test.YthbffonedpeeiaaDoorZme
import Derived.Deep.CutBlock
import Derived.StillTailTactics
import Derived.Deep.DeepCutAuto
/-
  LSQ's LAW LsqMemory: a turn, if there is one.
-/
namespace Go.Proofs.YthbffonedpeeiaaDoor
open Go Go.RowKit
set_option maxRecDepth 100000 in
set_option maxHeartbeats 4000000 in
theorem cond97 {u0 u2 u3 u4 u5 u6 u7 u8 u9 u10 u11 u13 u14 u17 u18 u19 u20 u21 u22 u23 u24 u25 u26 u27 u28 u29 u30 u31 u32 u33 u34 u35 u36 u37 u38 u39 u40 u41 u42 u43 u44 u45 u46 u47 u48 u49 u50 u51 u52 u53 u54 u55 u56 u57 u58 u59 u60 u61 u62 u63 u64 u65 u66 u67 u68 u69 u70 u71 u72 u73 u74 u75 u76 u77 u78 u79 u80 u81 u82 u83 u84 u85 u86 u87 u88 u89 u90 u91 u92 u93 u94 u95 u96 u98 u99 u100 u101 u102 u103 u104 u105 u106 u107 u108 u109 u110 u111 u112 u113 u114 u115 u116 u117 u118 u119 u120 u121 u122 u123 u124 u125 u126 u127 u128 u129 u130 u131 u132 u133 u134 u135 u136 u137 u138 u139 u140 u141 u142 u143 u144 u145 u146 u147 u148 u149 u150 u151 u152 u153 u154 u155 u156 u157 u158 u159 u160 u161 u162 u163 u164 u165 u166 u167 u168 u169 u170 u171 u172 u173 u174 u175 u176 u177 u178 u179 u180 u181 u182 u183 u184 u185 u186 u187 u188 u189 u190 u191 u192 u193 u194 u195 u196 u197 u198 u199 u200 u201 u202 u203 u204 u205 u206 u207 u208 u209 u210 u211 u212 u213 u214 u215 u216 u217 u218 u219 u220 u221 u222 u223 u224 u225 u226 u227 u228 u229 u230 u231 u232 u233 u234 u235 u236 u237 u238 u239 u240 u241 u242 u243 u244 u245 u246 u247 u248 u249 u250 u251 u252 u253 u254 u255 u256 u257 u258 u259 u260 u261 u262 u263 u264 u265 u266 u267 u268 u269 u270 u271 : Value} {ds : List Deferred} (g : Nat → Acc) (n r ot i1 c : Nat) (w W0 : World) (q cl : Nat) (v1 : Value) (lp : Option Addr) (b : Nat → Nat) (M1 : Ms) (bold b97 : Bool) (hl : Accs w lp n g) (hn60 : n ≤ 60) (hX : Xm w W0 q v1 (.slice lp n cl) b n M1) (hK1 : Kept g n M1 r) (ho : M1.out = ot) (hi : M1.inn = i1) (hc : c < 1048576) (hb : b97 = decide (ot < i1)) {K : Act → World → Prop}
    (hk : ∀ (t98 t99 t100 t101 t102 t103 t104 t105 t106 t107 t108 t109 t110 t111 t112 t113 t114 t115 t116 t117 : Value) (y : World) (M2 : Ms) (v2 : Value), Xm w y q v2 (.slice lp n cl) b n M2 → Kept g n M2 r → M2.out = ot → ((i1 = ot ∧ M2 = M1) ∨ (ot < M2.inn ∧ (c = 0 → Went g M1 M2 0))) → K ⟨#[u0, .bool bold, u2, u3, u4, u5, u6, u7, u8, u9, u10, u11, .pointer (some ⟨b 0, 0, none⟩), u13, u14, .int .i64 c, .bool true, u17, u18, u19, u20, u21, u22, u23, u24, u25, u26, u27, u28, u29, u30, u31, u32, u33, u34, u35, u36, u37, u38, u39, u40, u41, u42, u43, u44, u45, u46, u47, u48, u49, u50, u51, u52, u53, u54, u55, u56, u57, u58, u59, u60, u61, u62, u63, u64, u65, u66, u67, u68, u69, u70, u71, u72, u73, u74, u75, u76, u77, u78, u79, u80, u81, u82, u83, u84, u85, u86, u87, u88, u89, u90, u91, u92, u93, u94, u95, u96, .bool b97, t98, t99, t100, t101, t102, t103, t104, t105, t106, t107, t108, t109, t110, t111, t112, t113, t114, t115, t116, t117, u118, u119, u120, u121, u122, u123, u124, u125, u126, u127, u128, u129, u130, u131, u132, u133, u134, u135, u136, u137, u138, u139, u140, u141, u142, u143, u144, u145, u146, u147, u148, u149, u150, u151, u152, u153, u154, u155, u156, u157, u158, u159, u160, u161, u162, u163, u164, u165, u166, u167, u168, u169, u170, u171, u172, u173, u174, u175, u176, u177, u178, u179, u180, u181, u182, u183, u184, u185, u186, u187, u188, u189, u190, u191, u192, u193, u194, u195, u196, u197, u198, u199, u200, u201, u202, u203, u204, u205, u206, u207, u208, u209, u210, u211, u212, u213, u214, u215, u216, u217, u218, u219, u220, u221, u222, u223, u224, u225, u226, u227, u228, u229, u230, u231, u232, u233, u234, u235, u236, u237, u238, u239, u240, u241, u242, u243, u244, u245, u246, u247, u248, u249, u250, u251, u252, u253, u254, u255, u256, u257, u258, u259, u260, u261, u262, u263, u264, u265, u266, u267, u268, u269, u270, u271], ds⟩ y) : (cndIn Tryd.f4.body 97).wp Tryd.prog (Exit.then K NoX) ⟨#[u0, .bool bold, u2, u3, u4, u5, u6, u7, u8, u9, u10, u11, .pointer (some ⟨b 0, 0, none⟩), u13, u14, .int .i64 c, .bool true, u17, u18, u19, u20, u21, u22, u23, u24, u25, u26, u27, u28, u29, u30, u31, u32, u33, u34, u35, u36, u37, u38, u39, u40, u41, u42, u43, u44, u45, u46, u47, u48, u49, u50, u51, u52, u53, u54, u55, u56, u57, u58, u59, u60, u61, u62, u63, u64, u65, u66, u67, u68, u69, u70, u71, u72, u73, u74, u75, u76, u77, u78, u79, u80, u81, u82, u83, u84, u85, u86, u87, u88, u89, u90, u91, u92, u93, u94, u95, u96, .bool b97, u98, u99, u100, u101, u102, u103, u104, u105, u106, u107, u108, u109, u110, u111, u112, u113, u114, u115, u116, u117, u118, u119, u120, u121, u122, u123, u124, u125, u126, u127, u128, u129, u130, u131, u132, u133, u134, u135, u136, u137, u138, u139, u140, u141, u142, u143, u144, u145, u146, u147, u148, u149, u150, u151, u152, u153, u154, u155, u156, u157, u158, u159, u160, u161, u162, u163, u164, u165, u166, u167, u168, u169, u170, u171, u172, u173, u174, u175, u176, u177, u178, u179, u180, u181, u182, u183, u184, u185, u186, u187, u188, u189, u190, u191, u192, u193, u194, u195, u196, u197, u198, u199, u200, u201, u202, u203, u204, u205, u206, u207, u208, u209, u210, u211, u212, u213, u214, u215, u216, u217, u218, u219, u220, u221, u222, u223, u224, u225, u226, u227, u228, u229, u230, u231, u232, u233, u234, u235, u236, u237, u238, u239, u240, u241, u242, u243, u244, u245, u246, u247, u248, u249, u250, u251, u252, u253, u254, u255, u256, u257, u258, u259, u260, u261, u262, u263, u264, u265, u266, u267, u268, u269, u270, u271], ds⟩ W0 := by
  have hi1n : i1 ≤ n := by rw [← hi]; exact hK1.io.2
  have hoi1 : ot ≤ i1 := by rw [← hi, ← ho]; exact hK1.io.1
  have HL := Hid.in hl
  have HHN := Hid.in hn60
  have HX := Hid.in hX
  have HK1 := Hid.in hK1
  have HO1 := Hid.in ho
  have HI1 := Hid.in hi
  obtain ⟨hb0, -, -, c2, c3, -⟩ := hX.cells
  rw [hi] at c2
  rw [ho] at c3
  have HQ := Hid.in hk
  clear hl hX hK1 ho hi hk
  show Code.wp _ (Code.cond (.tmp 97) (Code.region 21 _ true) .skip) _ _ _
  by_cases hio1 : ot < i1
  · rw [decide_eq_true hio1] at hb
    subst hb
    obtain ⟨j, hj⟩ : ∃ j, c / 4 % (i1 - ot) = j := ⟨_, rfl⟩
    have hjl : j < i1 - ot := by rw [← hj]; exact Nat.mod_lt _ (by omega)
    obtain ⟨kk, hkk⟩ : ∃ kk, ot + j = kk := ⟨_, rfl⟩
    have HTU : Hid (∀ x, Below W0.heap.size W0 x → Calls Tryd.prog 33 #[.pointer (some ⟨b 0, 0, none⟩), .int .i64 kk, .bool bold] x fun e y => e = .returned (.bool true) ∧ ∃ M' v', Xm w y q v' (.slice lp n cl) b n M' ∧ Kept g n M' r ∧ Went g M1 M' j) := fun x hx => xturn_any g n r j kk w x q cl v1 lp b M1 bold HL.out HHN.out (HX.out.below hx) HK1.out (by rw [HI1.out, HO1.out]; exact hjl) (by rw [HO1.out]; exact hkk.symm)
    obtain ⟨df, hdf⟩ : ∃ df, i1 - ot = df := ⟨_, rfl⟩
    have hdf0 : 0 < df := by omega
    obtain ⟨oti, hoti⟩ : ∃ oti : Int, (ot : Int) = oti := ⟨_, rfl⟩
    obtain ⟨i1i, hi1i⟩ : ∃ i1i : Int, (i1 : Int) = i1i := ⟨_, rfl⟩
    have HJ0 : Hid (c = 0 → j = 0) := fun e => by rw [← hj, e]; simp
    have HKK := Hid.in hkk
    obtain ⟨c4, hc4⟩ : ∃ c4, c / 4 = c4 := ⟨_, rfl⟩
    have q1 : (c : Int).tdiv 4 = (c4 : Int) := by rw [Int.tdiv_eq_ediv_of_nonneg (by omega)]; omega
    have q1' : (c : Int) / 4 = (c4 : Int) := by omega
    have q2 : i1i - oti = (df : Int) := by omega
    have q3 : (c4 : Int).tmod (df : Int) = (j : Int) := by
      rw [Int.tmod_eq_emod_of_nonneg (by omega), ← hj, hdf, hc4]
      rfl
    have q3' : (c4 : Int) % (df : Int) = (j : Int) := by
      rw [← hj, hdf, hc4]
      rfl
    have q4 : oti + (j : Int) = (kk : Int) := by omega
    have z1 : ((df : Int) == 0) = false := by simp; omega
    have z2 : ¬ (df : Int) = 0 := by omega
    have z3 : ¬ (df : Int) = -1 := by omega
    have z4 : ¬ df = 0 := by omega
    have b1 : 0 ≤ oti ∧ oti ≤ 60 := by omega
    have b2 : 0 ≤ i1i ∧ i1i ≤ 60 := by omega
    have b3 : j < 60 := by omega
    have b4 : kk < 120 := by omega
    have b5 : df < 61 := by omega
    have w1 : IntKind.i64.wrap (c4 : Int) = (c4 : Int) := by simp only [IntKind.wrap_i64]; omega
    have w2 : IntKind.i64.wrap (df : Int) = (df : Int) := by simp only [IntKind.wrap_i64]; omega
    have w3 : IntKind.i64.wrap (j : Int) = (j : Int) := by simp only [IntKind.wrap_i64]; omega
    have w4 : IntKind.i64.wrap (kk : Int) = (kk : Int) := by simp only [IntKind.wrap_i64]; omega
    rw [hoti] at c3
    rw [hi1i] at c2
    clear hj hjl hkk hc4 hdf hoti hi1i hi1n hoi1 hio1 hn60
    go_upto_region 21 with fail
    go_still_tail 19, (by kernel_rfl)
    go_wp2_with (go_at_call 33; refine (HTU.out _ (by repeat (with_reducible first | exact Below.refl _ _ | refine Below.drew ?_))).mono ?_; rintro e y2 ⟨rfl, M2, v2, hX2, hK2, hw2⟩; have HX2 := Hid.in hX2; have HK2 := Hid.in hK2; have HW2 := Hid.in hw2; clear hX2 hK2 hw2)
    refine HQ.out _ _ _ _ _ _ _ _ _ _ _ _ _ _ _ _ _ _ _ _ _ M2 v2 HX2.out HK2.out (HW2.out.out.trans HO1.out) (Or.inr ⟨?_, fun e => ?_⟩)
    · have := HW2.out.inn.1
      have := HO1.out
      omega
    · have := HW2.out
      rw [HJ0.out e] at this
      exact this
  · rw [decide_eq_false hio1] at hb
    subst hb
    go_wp2
    exact HQ.out _ _ _ _ _ _ _ _ _ _ _ _ _ _ _ _ _ _ _ _ _ M1 v1 HX.out HK1.out HO1.out (Or.inl ⟨by omega, rfl⟩)
end Go.Proofs.YthbffonedpeeiaaDoor
/-
  LSQ's LAW LsqMemory: a store is written, if it is time.
-/
namespace Go.Proofs.YthbffonedpeeiaaDoor
open Go Go.RowKit
set_option maxRecDepth 100000 in
set_option maxHeartbeats 4000000 in
theorem cond123 {u0 u1 u2 u3 u4 u5 u6 u7 u8 u9 u10 u11 u13 u14 u15 u17 u18 u19 u20 u21 u22 u23 u24 u25 u26 u27 u28 u29 u30 u31 u32 u33 u34 u35 u36 u37 u38 u39 u40 u41 u42 u43 u44 u45 u46 u47 u48 u49 u50 u51 u52 u53 u54 u55 u56 u57 u58 u59 u60 u61 u62 u63 u64 u65 u66 u67 u68 u69 u70 u71 u72 u73 u74 u75 u76 u77 u78 u79 u80 u81 u82 u83 u84 u85 u86 u87 u88 u89 u90 u91 u92 u93 u94 u95 u96 u97 u98 u99 u100 u101 u102 u103 u104 u105 u106 u107 u108 u109 u110 u111 u112 u113 u114 u115 u116 u117 u118 u119 u120 u121 u122 u124 u125 u126 u127 u128 u129 u130 u131 u132 u133 u134 u135 u136 u137 u138 u139 u140 u141 u142 u143 u144 u145 u146 u147 u148 u149 u150 u151 u152 u153 u154 u155 u156 u157 u158 u159 u160 u161 u162 u163 u164 u165 u166 u167 u168 u169 u170 u171 u172 u173 u174 u175 u176 u177 u178 u179 u180 u181 u182 u183 u184 u185 u186 u187 u188 u189 u190 u191 u192 u193 u194 u195 u196 u197 u198 u199 u200 u201 u202 u203 u204 u205 u206 u207 u208 u209 u210 u211 u212 u213 u214 u215 u216 u217 u218 u219 u220 u221 u222 u223 u224 u225 u226 u227 u228 u229 u230 u231 u232 u233 u234 u235 u236 u237 u238 u239 u240 u241 u242 u243 u244 u245 u246 u247 u248 u249 u250 u251 u252 u253 u254 u255 u256 u257 u258 u259 u260 u261 u262 u263 u264 u265 u266 u267 u268 u269 u270 u271 : Value} {ds : List Deferred} (g : Nat → Acc) (n r : Nat) (w W0 : World) (q cl : Nat) (v1 : Value) (lp : Option Addr) (b : Nat → Nat) (M1 : Ms) (b123 : Bool) (hX : Xm w W0 q v1 (.slice lp n cl) b n M1) (hK1 : Kept g n M1 r) {K : Act → World → Prop}
    (hk : ∀ (t124 t125 : Value) (y : World) (M2 : Ms) (v2 : Value) (r2 : Nat), Xm w y q v2 (.slice lp n cl) b n M2 → Kept g n M2 r2 → r2 ≤ r → (b123 = true → r2 = r - 1) → M2.out = M1.out → M2.inn = M1.inn → M2.given = M1.given → M2.known = M1.known → M2.done = M1.done → K ⟨#[u0, u1, u2, u3, u4, u5, u6, u7, u8, u9, u10, u11, .pointer (some ⟨b 0, 0, none⟩), u13, u14, u15, .bool true, u17, u18, u19, u20, u21, u22, u23, u24, u25, u26, u27, u28, u29, u30, u31, u32, u33, u34, u35, u36, u37, u38, u39, u40, u41, u42, u43, u44, u45, u46, u47, u48, u49, u50, u51, u52, u53, u54, u55, u56, u57, u58, u59, u60, u61, u62, u63, u64, u65, u66, u67, u68, u69, u70, u71, u72, u73, u74, u75, u76, u77, u78, u79, u80, u81, u82, u83, u84, u85, u86, u87, u88, u89, u90, u91, u92, u93, u94, u95, u96, u97, u98, u99, u100, u101, u102, u103, u104, u105, u106, u107, u108, u109, u110, u111, u112, u113, u114, u115, u116, u117, u118, u119, u120, u121, u122, .bool b123, t124, t125, u126, u127, u128, u129, u130, u131, u132, u133, u134, u135, u136, u137, u138, u139, u140, u141, u142, u143, u144, u145, u146, u147, u148, u149, u150, u151, u152, u153, u154, u155, u156, u157, u158, u159, u160, u161, u162, u163, u164, u165, u166, u167, u168, u169, u170, u171, u172, u173, u174, u175, u176, u177, u178, u179, u180, u181, u182, u183, u184, u185, u186, u187, u188, u189, u190, u191, u192, u193, u194, u195, u196, u197, u198, u199, u200, u201, u202, u203, u204, u205, u206, u207, u208, u209, u210, u211, u212, u213, u214, u215, u216, u217, u218, u219, u220, u221, u222, u223, u224, u225, u226, u227, u228, u229, u230, u231, u232, u233, u234, u235, u236, u237, u238, u239, u240, u241, u242, u243, u244, u245, u246, u247, u248, u249, u250, u251, u252, u253, u254, u255, u256, u257, u258, u259, u260, u261, u262, u263, u264, u265, u266, u267, u268, u269, u270, u271], ds⟩ y) : (cndIn Tryd.f4.body 123).wp Tryd.prog (Exit.then K NoX) ⟨#[u0, u1, u2, u3, u4, u5, u6, u7, u8, u9, u10, u11, .pointer (some ⟨b 0, 0, none⟩), u13, u14, u15, .bool true, u17, u18, u19, u20, u21, u22, u23, u24, u25, u26, u27, u28, u29, u30, u31, u32, u33, u34, u35, u36, u37, u38, u39, u40, u41, u42, u43, u44, u45, u46, u47, u48, u49, u50, u51, u52, u53, u54, u55, u56, u57, u58, u59, u60, u61, u62, u63, u64, u65, u66, u67, u68, u69, u70, u71, u72, u73, u74, u75, u76, u77, u78, u79, u80, u81, u82, u83, u84, u85, u86, u87, u88, u89, u90, u91, u92, u93, u94, u95, u96, u97, u98, u99, u100, u101, u102, u103, u104, u105, u106, u107, u108, u109, u110, u111, u112, u113, u114, u115, u116, u117, u118, u119, u120, u121, u122, .bool b123, u124, u125, u126, u127, u128, u129, u130, u131, u132, u133, u134, u135, u136, u137, u138, u139, u140, u141, u142, u143, u144, u145, u146, u147, u148, u149, u150, u151, u152, u153, u154, u155, u156, u157, u158, u159, u160, u161, u162, u163, u164, u165, u166, u167, u168, u169, u170, u171, u172, u173, u174, u175, u176, u177, u178, u179, u180, u181, u182, u183, u184, u185, u186, u187, u188, u189, u190, u191, u192, u193, u194, u195, u196, u197, u198, u199, u200, u201, u202, u203, u204, u205, u206, u207, u208, u209, u210, u211, u212, u213, u214, u215, u216, u217, u218, u219, u220, u221, u222, u223, u224, u225, u226, u227, u228, u229, u230, u231, u232, u233, u234, u235, u236, u237, u238, u239, u240, u241, u242, u243, u244, u245, u246, u247, u248, u249, u250, u251, u252, u253, u254, u255, u256, u257, u258, u259, u260, u261, u262, u263, u264, u265, u266, u267, u268, u269, u270, u271], ds⟩ W0 := by
  have HX := Hid.in hX
  have HK1 := Hid.in hK1
  have HD := Hid.in (xdrain_any g n r w W0 q cl v1 lp b M1 hX hK1)
  have HQ := Hid.in hk
  clear hX hK1 hk
  show Code.wp _ (Code.cond (.tmp 123) (Code.region 23 _ false) .skip) _ _ _
  cases b123
  · go_wp2
    exact HQ.out _ _ _ M1 v1 r HX.out HK1.out (Nat.le_refl _) (fun e => by cases e) rfl rfl rfl rfl rfl
  · go_wp2_with (go_at_call 34; refine HD.out.mono ?_; rintro e y2 ⟨rfl, M2, v2, hX2, hK2, e1, e2, e3, e4, e5⟩)
    exact HQ.out _ _ _ M2 v2 (r - 1) hX2 hK2 (by omega) (fun _ => rfl) e1 e2 e3 e4 e5
end Go.Proofs.YthbffonedpeeiaaDoor
/-
  LSQ's LAW LsqMemory: the oldest one retires.
-/
namespace Go.Proofs.YthbffonedpeeiaaDoor
open Go Go.RowKit
set_option maxRecDepth 100000 in
set_option maxHeartbeats 4000000 in
theorem cond185 {u0 u1 u2 u3 u4 u5 u6 u7 u8 u10 u11 u13 u14 u15 u16 u17 u18 u19 u20 u21 u22 u23 u24 u25 u26 u27 u28 u29 u30 u31 u32 u33 u34 u35 u36 u37 u38 u39 u40 u41 u42 u43 u44 u45 u46 u47 u48 u49 u50 u51 u52 u53 u54 u55 u56 u57 u58 u59 u60 u61 u62 u63 u64 u65 u66 u67 u68 u69 u70 u71 u72 u73 u74 u75 u76 u77 u78 u79 u80 u81 u82 u83 u84 u85 u86 u87 u88 u89 u90 u91 u92 u93 u94 u95 u96 u97 u98 u99 u100 u101 u102 u103 u104 u105 u106 u107 u108 u109 u110 u111 u112 u113 u114 u115 u116 u117 u118 u119 u120 u121 u122 u123 u124 u125 u126 u127 u128 u129 u130 u131 u132 u133 u134 u135 u136 u137 u138 u139 u140 u141 u142 u143 u144 u145 u146 u147 u148 u149 u150 u151 u152 u153 u154 u155 u156 u157 u158 u159 u160 u161 u162 u163 u164 u165 u166 u167 u168 u169 u170 u171 u172 u173 u174 u175 u176 u177 u178 u179 u180 u181 u182 u183 u184 u186 u187 u188 u189 u190 u191 u192 u193 u194 u195 u196 u197 u198 u199 u200 u201 u202 u203 u204 u205 u206 u207 u208 u209 u210 u211 u212 u213 u214 u215 u216 u217 u218 u219 u220 u221 u222 u223 u224 u225 u226 u227 u228 u229 u230 u231 u232 u233 u234 u235 u236 u237 u238 u239 u240 u241 u242 u243 u244 u245 u246 u247 u248 u249 u250 u251 u252 u253 u254 u255 u256 u257 u258 u259 u260 u261 u262 u263 u264 u265 u266 u267 u268 u269 u270 u271 : Value} {ds : List Deferred} (g : Nat → Acc) (n r : Nat) (w W0 : World) (q cl : Nat) (v1 : Value) (lp : Option Addr) (b : Nat → Nat) (M1 : Ms) (hn60 : n ≤ 60) (hX : Xm w W0 q v1 (.slice lp n cl) b n M1) (hK1 : Kept g n M1 r) {K : Act → World → Prop}
    (hk : ∀ (t17 t186 t187 t188 t189 t190 t191 t192 t193 t194 t195 t196 t197 t198 t199 t200 t201 : Value) (y : World) (M2 : Ms) (v2 : Value) (r2 : Nat), Xm w y q v2 (.slice lp n cl) b n M2 → Kept g n M2 r2 → ((M1.may g = false ∧ M2 = M1 ∧ r2 = r) ∨ (M1.may g = true ∧ M2.out = M1.out + 1 ∧ r2 ≤ r + 1)) → K ⟨#[u0, u1, u2, u3, u4, u5, u6, u7, u8, .pointer (some ⟨q, 0, none⟩), u10, u11, .pointer (some ⟨b 0, 0, none⟩), u13, u14, u15, u16, t17, u18, u19, u20, u21, u22, u23, u24, u25, u26, u27, u28, u29, u30, u31, u32, u33, u34, u35, u36, u37, u38, u39, u40, u41, u42, u43, u44, u45, u46, u47, u48, u49, u50, u51, u52, u53, u54, u55, u56, u57, u58, u59, u60, u61, u62, u63, u64, u65, u66, u67, u68, u69, u70, u71, u72, u73, u74, u75, u76, u77, u78, u79, u80, u81, u82, u83, u84, u85, u86, u87, u88, u89, u90, u91, u92, u93, u94, u95, u96, u97, u98, u99, u100, u101, u102, u103, u104, u105, u106, u107, u108, u109, u110, u111, u112, u113, u114, u115, u116, u117, u118, u119, u120, u121, u122, u123, u124, u125, u126, u127, u128, u129, u130, u131, u132, u133, u134, u135, u136, u137, u138, u139, u140, u141, u142, u143, u144, u145, u146, u147, u148, u149, u150, u151, u152, u153, u154, u155, u156, u157, u158, u159, u160, u161, u162, u163, u164, u165, u166, u167, u168, u169, u170, u171, u172, u173, u174, u175, u176, u177, u178, u179, u180, u181, u182, u183, u184, .bool (M1.may g), t186, t187, t188, t189, t190, t191, t192, t193, t194, t195, t196, t197, t198, t199, t200, t201, u202, u203, u204, u205, u206, u207, u208, u209, u210, u211, u212, u213, u214, u215, u216, u217, u218, u219, u220, u221, u222, u223, u224, u225, u226, u227, u228, u229, u230, u231, u232, u233, u234, u235, u236, u237, u238, u239, u240, u241, u242, u243, u244, u245, u246, u247, u248, u249, u250, u251, u252, u253, u254, u255, u256, u257, u258, u259, u260, u261, u262, u263, u264, u265, u266, u267, u268, u269, u270, u271], ds⟩ y) : (cndIn Tryd.f4.body 185).wp Tryd.prog (Exit.then K NoX) ⟨#[u0, u1, u2, u3, u4, u5, u6, u7, u8, .pointer (some ⟨q, 0, none⟩), u10, u11, .pointer (some ⟨b 0, 0, none⟩), u13, u14, u15, u16, u17, u18, u19, u20, u21, u22, u23, u24, u25, u26, u27, u28, u29, u30, u31, u32, u33, u34, u35, u36, u37, u38, u39, u40, u41, u42, u43, u44, u45, u46, u47, u48, u49, u50, u51, u52, u53, u54, u55, u56, u57, u58, u59, u60, u61, u62, u63, u64, u65, u66, u67, u68, u69, u70, u71, u72, u73, u74, u75, u76, u77, u78, u79, u80, u81, u82, u83, u84, u85, u86, u87, u88, u89, u90, u91, u92, u93, u94, u95, u96, u97, u98, u99, u100, u101, u102, u103, u104, u105, u106, u107, u108, u109, u110, u111, u112, u113, u114, u115, u116, u117, u118, u119, u120, u121, u122, u123, u124, u125, u126, u127, u128, u129, u130, u131, u132, u133, u134, u135, u136, u137, u138, u139, u140, u141, u142, u143, u144, u145, u146, u147, u148, u149, u150, u151, u152, u153, u154, u155, u156, u157, u158, u159, u160, u161, u162, u163, u164, u165, u166, u167, u168, u169, u170, u171, u172, u173, u174, u175, u176, u177, u178, u179, u180, u181, u182, u183, u184, .bool (M1.may g), u186, u187, u188, u189, u190, u191, u192, u193, u194, u195, u196, u197, u198, u199, u200, u201, u202, u203, u204, u205, u206, u207, u208, u209, u210, u211, u212, u213, u214, u215, u216, u217, u218, u219, u220, u221, u222, u223, u224, u225, u226, u227, u228, u229, u230, u231, u232, u233, u234, u235, u236, u237, u238, u239, u240, u241, u242, u243, u244, u245, u246, u247, u248, u249, u250, u251, u252, u253, u254, u255, u256, u257, u258, u259, u260, u261, u262, u263, u264, u265, u266, u267, u268, u269, u270, u271], ds⟩ W0 := by
  have HX := Hid.in hX
  have HK1 := Hid.in hK1
  have HQ := Hid.in hk
  obtain ⟨hb0, -, -, -, c3, -⟩ := hX.cells
  have hio := hK1.io
  have HR := Hid.in fun h => xretire_any g n r w W0 q cl v1 lp b M1 hX hK1 h
  obtain ⟨ot, hot⟩ : ∃ ot, M1.out = ot := ⟨_, rfl⟩
  have HOT := Hid.in hot
  obtain ⟨mb, hmb⟩ : ∃ mb, M1.may g = mb := ⟨_, rfl⟩
  have HMB := Hid.in hmb
  rw [hmb] at HQ HR ⊢
  have hot60 : ot ≤ 60 := by omega
  rw [hot] at c3 HR
  clear hX hK1 hk hot hmb hio hn60
  show Code.wp _ (Code.cond (.tmp 185) _ .skip) _ _ _
  cases mb
  · go_wp2
    exact HQ.out _ _ _ _ _ _ _ _ _ _ _ _ _ _ _ _ _ _ M1 v1 r HX.out HK1.out (Or.inl ⟨by simp, rfl, rfl⟩)
  · go_wp2_with (go_at_call 20; go_loud (refine (HR.out (by simp)).mono ?_; rintro e y2 ⟨rfl, S2, v2, r2, hX2, hK2, hr2⟩; have HX2 := Hid.in hX2; have HK2 := Hid.in hK2; have HR2 := Hid.in hr2; clear c3 hb0; obtain ⟨hb0, -, -, -, c3, -⟩ := hX2.cells; have c3 : y2.cell? ⟨b 0, 3, none⟩ = some (.int .i64 ot) := c3; have f3 := (hX2.c 0 (by decide)).free 3; clear hX2 hK2 hr2))
    refine HQ.out _ _ _ _ _ _ _ _ _ _ _ _ _ _ _ _ _ _ { M1 with S := S2, out := ot + 1 } v2 r2 ?_ ?_ (Or.inr ⟨by simp, ?_, HR2.out⟩)
    · refine HX2.out.set 0 3 (by decide) (show 3 < 9 by decide) _ rfl (fun i' o' hi' ho' => ?_)
      match i', hi' with
      | 0, _ =>
        have ho' : o' < 9 := ho'
        match o', ho' with
        | 0, _ => rfl
        | 1, _ => rfl
        | 2, _ => rfl
        | 3, _ => rfl
        | 4, _ => rfl
        | 5, _ => rfl
        | 6, _ => rfl
        | 7, _ => rfl
        | 8, _ => rfl
      | 1, _ => rfl
      | 2, _ => rfl
      | 3, _ => rfl
      | 4, _ => rfl
      | 5, _ => rfl
    · exact HK2.out
    · show ot + 1 = M1.out + 1
      rw [HOT.out]
end Go.Proofs.YthbffonedpeeiaaDoor
