/-
  BUS' LAW BusCoheres: its statements, one by one: the states of all lines.
-/
import Derived.Test.YtbbaopldebdoiaaBx1
import Derived.StillTailTactics
namespace Go.Proofs.Ytbbaopldebdoiaa
open Go Go.RowKit
def condOf (t : Nat) : Code → Option Code
  | .cond (.tmp s) x y => bif s == t then some (.cond (.tmp s) x y) else (condOf t x).or (condOf t y)
  | .cond _ x y => (condOf t x).or (condOf t y)
  | .seq x y => (condOf t x).or (condOf t y)
  | .block _ x => condOf t x
  | .loop x => condOf t x
  | .scope x => condOf t x
  | _ => none
def regOf (t : Nat) : Code → Option Code
  | .region i o d => bif i == t then some (.region i o d) else none
  | .cond _ x y => (regOf t x).or (regOf t y)
  | .seq x y => (regOf t x).or (regOf t y)
  | .block _ x => regOf t x
  | .loop x => regOf t x
  | .scope x => regOf t x
  | _ => none
def blkOf (t : Nat) : Code → Option Code
  | .block i x => bif i == t then some (.block i x) else blkOf t x
  | .cond _ x y => (blkOf t x).or (blkOf t y)
  | .seq x y => (blkOf t x).or (blkOf t y)
  | .loop x => blkOf t x
  | .scope x => blkOf t x
  | _ => none
def cndIn (c : Option Code) (t : Nat) : Code := (c.bind (condOf t)).getD .skip
def regIn (c : Option Code) (t : Nat) : Code := (c.bind (regOf t)).getD .skip
def blkIn (c : Option Code) (t : Nat) : Code := (c.bind (blkOf t)).getD .skip
def opsIn : Code → Array Oper
  | .region _ o _ => o
  | _ => #[]
abbrev NoX : Exit → Act → World → Prop := fun _ _ _ => False
theorem wp_any {P : Program} {s : Code} {K : Act → World → Prop} {Q' : Exit → Act → World → Prop} {a : Act} {w : World} (h : s.wp P (Exit.then K NoX) a w) : s.wp P (Exit.then K Q') a w := by
  refine wp_mono h ?_
  intro e a' w' hq
  cases e with
  | normal => exact hq
  | exit id => exact hq.elim
  | goto l => exact hq.elim
  | ret => exact hq.elim
  | panic ch => exact hq.elim
  | outgrown => exact hq.elim
theorem wp_then {P : Program} {s : Code} {Q : Exit → Act → World → Prop} {a : Act} {w : World} (h : s.wp P (Exit.then (Q .normal) Q) a w) : s.wp P Q a w := by
  refine wp_mono h ?_
  intro e a' w' hq
  cases e with
  | normal => exact hq
  | exit id => exact hq
  | goto l => exact hq
  | ret => exact hq
  | panic ch => exact hq
  | outgrown => exact hq
set_option maxRecDepth 100000 in
set_option maxHeartbeats 4000000 in
theorem blk4 {u0 u1 u2 u3 u4 u5 u6 u7 u8 u9 u11 u12 u13 u14 u15 u16 u17 u18 u19 u20 u21 u23 u24 u25 u26 u27 u28 u29 u30 u31 u32 u33 u34 u35 u36 u37 u38 u39 u40 u41 u42 u43 u44 u45 u46 u47 u48 u49 u50 u51 u52 u53 u54 u55 u56 u57 u58 u59 u60 u61 u62 u63 u64 u65 u66 u67 u68 u69 u70 u71 u72 u73 u74 u75 u76 u77 u78 u79 u80 u81 u82 u83 u84 u85 u86 u87 u88 u89 u90 u91 u92 u93 u94 u95 u96 u97 u98 u99 u100 u101 u102 u103 u104 u105 u106 u107 u108 u109 u110 u111 u112 u113 u114 u115 u116 u117 u118 u119 u120 u121 u122 u123 u124 u125 u126 u127 u128 u129 u130 u131 u132 u133 u134 u135 u136 u137 u138 u139 u140 u141 u142 u143 u144 u145 u146 u147 u148 u149 u150 u151 u152 u153 u154 u155 u156 u157 u158 u159 u160 u161 u162 u163 u164 u165 u166 u167 u168 u169 u170 u171 u172 u173 u174 u175 u176 u177 u178 u179 u180 u181 u182 u183 u184 u185 u186 u187 u188 u189 u190 u191 u192 u193 u194 u195 u196 u197 u198 u199 u200 u201 u202 u203 u204 u205 u206 u207 u208 u209 u210 u211 u212 u213 u214 u215 u216 u217 u218 u219 u220 u221 u222 u223 u224 u225 u226 u227 u228 u229 u230 u231 u232 u233 u234 u235 u236 u237 u238 u239 u240 u241 : Value} {ds : List Deferred} {w0 W : World} {g : Bn} {N fb : Nat} {S : BS} {f : Nat → Nat} (hK : Cw w0 W g N fb S f) {K : Act → World → Prop} (hk : ∀ (t8 t22 t23 t24 t142 t143 t144 t145 t146 t147 t148 t149 t150 t151 t152 t153 t154 t155 t156 t157 t158 t159 t160 t161 t162 t163 t164 t165 t166 t167 t168 t169 : Value) (y : World), Below W.heap.size W y → K ⟨#[u0, u1, u2, u3, u4, u5, u6, u7, t8, u9, .pointer (some ⟨g.p, 0, none⟩), u11, u12, u13, u14, u15, u16, u17, u18, u19, u20, u21, t22, t23, t24, u25, u26, u27, u28, u29, u30, u31, u32, u33, u34, u35, u36, u37, u38, u39, u40, u41, u42, u43, u44, u45, u46, u47, u48, u49, u50, u51, u52, u53, u54, u55, u56, u57, u58, u59, u60, u61, u62, u63, u64, u65, u66, u67, u68, u69, u70, u71, u72, u73, u74, u75, u76, u77, u78, u79, u80, u81, u82, u83, u84, u85, u86, u87, u88, u89, u90, u91, u92, u93, u94, u95, u96, u97, u98, u99, u100, u101, u102, u103, u104, u105, u106, u107, u108, u109, u110, u111, u112, u113, u114, u115, u116, u117, u118, u119, u120, u121, u122, u123, u124, u125, u126, u127, u128, u129, u130, u131, u132, u133, u134, u135, u136, u137, u138, u139, u140, u141, t142, t143, t144, t145, t146, t147, t148, t149, t150, t151, t152, t153, t154, t155, t156, t157, t158, t159, t160, t161, t162, t163, t164, t165, t166, t167, t168, t169, u170, u171, u172, u173, u174, u175, u176, u177, u178, u179, u180, u181, u182, u183, u184, u185, u186, u187, u188, u189, u190, u191, u192, u193, u194, u195, u196, u197, u198, u199, u200, u201, u202, u203, u204, u205, u206, u207, u208, u209, u210, u211, u212, u213, u214, u215, u216, u217, u218, u219, u220, u221, u222, u223, u224, u225, u226, u227, u228, u229, u230, u231, u232, u233, u234, u235, u236, u237, u238, u239, u240, u241], ds⟩ y) : (blkIn Try.f3.body 4).wp Try.prog (Exit.then K NoX) ⟨#[u0, u1, u2, u3, u4, u5, u6, u7, u8, u9, .pointer (some ⟨g.p, 0, none⟩), u11, u12, u13, u14, u15, u16, u17, u18, u19, u20, u21, .int .i64 0, u23, u24, u25, u26, u27, u28, u29, u30, u31, u32, u33, u34, u35, u36, u37, u38, u39, u40, u41, u42, u43, u44, u45, u46, u47, u48, u49, u50, u51, u52, u53, u54, u55, u56, u57, u58, u59, u60, u61, u62, u63, u64, u65, u66, u67, u68, u69, u70, u71, u72, u73, u74, u75, u76, u77, u78, u79, u80, u81, u82, u83, u84, u85, u86, u87, u88, u89, u90, u91, u92, u93, u94, u95, u96, u97, u98, u99, u100, u101, u102, u103, u104, u105, u106, u107, u108, u109, u110, u111, u112, u113, u114, u115, u116, u117, u118, u119, u120, u121, u122, u123, u124, u125, u126, u127, u128, u129, u130, u131, u132, u133, u134, u135, u136, u137, u138, u139, u140, u141, u142, u143, u144, u145, u146, u147, u148, u149, u150, u151, u152, u153, u154, u155, u156, u157, u158, u159, u160, u161, u162, u163, u164, u165, u166, u167, u168, u169, u170, u171, u172, u173, u174, u175, u176, u177, u178, u179, u180, u181, u182, u183, u184, u185, u186, u187, u188, u189, u190, u191, u192, u193, u194, u195, u196, u197, u198, u199, u200, u201, u202, u203, u204, u205, u206, u207, u208, u209, u210, u211, u212, u213, u214, u215, u216, u217, u218, u219, u220, u221, u222, u223, u224, u225, u226, u227, u228, u229, u230, u231, u232, u233, u234, u235, u236, u237, u238, u239, u240, u241], ds⟩ W := by
  have HK := Hid.in hK
  have HQ := Hid.in hk
  clear hK hk
  show Code.wp _ (Code.block 4 (Code.loop _)) _ _ _
  go_wp2_with fail
  go_loopw [22] (fun lv wr => ∃ j : Nat, lv = .int .i64 ((16 * j : Nat) : Int) ∧ j ≤ 16 ∧ Below W.heap.size W wr) (fun lv _ => 300 - (intOf lv).toNat)
  case atStart => exact ⟨0, rfl, by omega, Below.refl _ _⟩
  case round =>
    obtain ⟨j, rfl, hj, hb⟩ := hrel
    have HB := Hid.in hb
    clear hb
    obtain ⟨l, hl⟩ : ∃ l, 16 * j = l := ⟨_, rfl⟩
    rw [hl]
    by_cases hlt : j < 16
    · have hl' : (l : Int) < 256 := by omega
      obtain ⟨L, hL⟩ : ∃ L, 65536 + l = L := ⟨_, rfl⟩
      have hL2 : (65536 : Int) + l = L := by omega
      have hL64 : wrap64 (L : Int) = L := by unfold wrap64; omega
      have hL32 : (L : Int) % 4294967296 = L := by omega
      have hLr : 65536 ≤ L ∧ L < 65792 := by omega
      have HST : Hid (∀ (c : Nat) (y : World), c < 2 → Below W.heap.size W y → Calls Try.prog 6 #[.pointer (some ⟨g.p, 0, none⟩), .int .i64 c, .int .u32 L] y fun e w' => e = .returned (.int .i64 ((S.c c).st L : Nat)) ∧ Below W.heap.size W w') := fun c y hc hy => by
        have hk := HK.out.below hy
        have := ustate hk.u (c : Nat) L (by omega)
        rw [st_is hk.co hc hLr.1 hLr.2] at this
        exact this.mono (fun e w' q => ⟨q.1, hy.trans (q.2.mono hy.size)⟩)
      have hal := cw_alone HK.out L
      obtain ⟨a, ha⟩ : ∃ a, (S.c 0).st L = a := ⟨_, rfl⟩
      obtain ⟨b, hb⟩ : ∃ b, (S.c 1).st L = b := ⟨_, rfl⟩
      rw [ha, hb] at hal
      have HA := Hid.in ha
      have HBB := Hid.in hb
      have HNX : Hid (∀ y, Below W.heap.size W y → ∃ i : Nat, Value.int .i64 ((l : Int) + 16) = .int .i64 ((16 * i : Nat) : Int) ∧ i ≤ 16 ∧ Below W.heap.size W y) := fun y hy => ⟨j + 1, by congr 1; omega, by omega, hy⟩
      have hm : l < 256 := by omega
      clear ha hb hL hl hLr
      by_cases h2 : 2 ≤ a
      · obtain rfl : b = 0 := by
          by_cases c : b = 0
          · exact c
          · exact absurd ⟨h2, c⟩ hal.1
        have g1 : (a : Int) ≥ 2 := by omega
        clear hal h2
        go_wp2_with (first
          | (go_at_call 6; refine (HST.out 1 _ (by omega) HY1.out).mono ?_; rintro e y2 ⟨rfl, hy2⟩; rw [HBB.out]; have HY2 := Hid.in hy2; clear hy2)
          | (go_at_call 6; refine (HST.out 0 _ (by omega) HB.out).mono ?_; rintro e y1 ⟨rfl, hy1⟩; rw [HA.out]; have HY1 := Hid.in hy1; clear hy1))
        go_roundw
        case rel => exact HNX.out _ HY2.out
        case measure =>
          simp [intOf]
          omega
      · have g1 : ¬ ((a : Int) ≥ 2) := by omega
        by_cases h3 : 2 ≤ b
        · obtain rfl : a = 0 := by
            by_cases c : a = 0
            · exact c
            · exact absurd ⟨h3, c⟩ hal.2
          have g2 : (b : Int) ≥ 2 := by omega
          clear hal h2 h3
          go_wp2_with (first
            | (go_at_call 6; refine (HST.out 1 _ (by omega) HY1.out).mono ?_; rintro e y2 ⟨rfl, hy2⟩; rw [HBB.out]; have HY2 := Hid.in hy2; clear hy2)
            | (go_at_call 6; refine (HST.out 0 _ (by omega) HB.out).mono ?_; rintro e y1 ⟨rfl, hy1⟩; rw [HA.out]; have HY1 := Hid.in hy1; clear hy1))
          go_roundw
          case rel => exact HNX.out _ HY2.out
          case measure =>
            simp [intOf]
            omega
        · have g2 : ¬ ((b : Int) ≥ 2) := by omega
          clear hal h2 h3
          go_wp2_with (first
            | (go_at_call 6; refine (HST.out 1 _ (by omega) HY1.out).mono ?_; rintro e y2 ⟨rfl, hy2⟩; rw [HBB.out]; have HY2 := Hid.in hy2; clear hy2)
            | (go_at_call 6; refine (HST.out 0 _ (by omega) HB.out).mono ?_; rintro e y1 ⟨rfl, hy1⟩; rw [HA.out]; have HY1 := Hid.in hy1; clear hy1))
          go_roundw
          case rel => exact HNX.out _ HY2.out
          case measure =>
            simp [intOf]
            omega
    · obtain rfl : j = 16 := by omega
      obtain rfl : l = 256 := by omega
      go_wp2
      exact HQ.out _ _ _ _ _ _ _ _ _ _ _ _ _ _ _ _ _ _ _ _ _ _ _ _ _ _ _ _ _ _ _ _ _ HB.out
end Go.Proofs.Ytbbaopldebdoiaa
