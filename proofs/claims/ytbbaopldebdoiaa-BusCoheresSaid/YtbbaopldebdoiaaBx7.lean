/-
  BUS' LAW BusCoheres: its statements, one by one: a store is written into the bytes that should be there.
-/
import Derived.Test.YtbbaopldebdoiaaBx3
import Derived.BigQuiet
namespace Go.Proofs.Ytbbaopldebdoiaa
open Go Go.RowKit
set_option maxRecDepth 100000 in
set_option maxHeartbeats 4000000 in
theorem blk6 {u0 u1 u2 u4 u5 u6 u7 u8 u9 u10 u11 u14 u17 u18 u19 u20 u21 u22 u23 u24 u25 u27 u28 u29 u30 u31 u32 u33 u34 u35 u36 u37 u38 u39 u40 u41 u42 u43 u44 u45 u46 u47 u48 u49 u50 u51 u52 u53 u54 u55 u56 u57 u58 u59 u60 u61 u62 u63 u64 u65 u66 u67 u68 u69 u70 u71 u72 u73 u74 u75 u76 u77 u78 u79 u80 u81 u82 u83 u84 u85 u86 u87 u88 u89 u90 u91 u92 u93 u94 u95 u96 u97 u98 u99 u100 u101 u102 u103 u104 u105 u106 u107 u108 u109 u110 u111 u112 u113 u114 u115 u116 u117 u118 u119 u120 u121 u122 u123 u124 u125 u126 u127 u128 u129 u130 u131 u132 u133 u134 u135 u136 u137 u138 u139 u140 u141 u142 u143 u144 u145 u146 u147 u148 u149 u150 u151 u152 u153 u154 u155 u156 u157 u158 u159 u160 u161 u162 u163 u164 u165 u166 u167 u168 u169 u170 u171 u172 u173 u174 u175 u176 u177 u178 u179 u180 u181 u182 u183 u184 u185 u186 u187 u188 u189 u190 u191 u192 u193 u194 u195 u196 u197 u198 u199 u200 u201 u202 u203 u204 u205 u206 u207 u208 u209 u210 u211 u212 u213 u214 u215 u216 u217 u218 u219 u220 u221 u222 u223 u224 u225 u226 u227 u228 u229 u230 u231 u232 u233 u234 u235 u236 u237 u238 u239 u240 u241 : Value} {ds : List Deferred} {w0 W : World} {f : Nat → Nat} {ab ao m cw k z A gd fb : Nat} (hlow : Below w0.heap.size w0 W) (hfb : w0.heap.size ≤ fb) (hf : CellsAt 256 W fb (fun o => .int .u8 (f o))) (hz : z ≤ 4) (hkm : k < m) (hab : ab < w0.heap.size) (hcell : w0.cell? ⟨ab, ao + k * 5 + 4, none⟩ = some (.int .u32 gd)) (hAz : A + z ≤ 256) {K : Act → World → Prop} (hk : ∀ (t26 t187 t188 t189 t190 t191 t192 t193 t194 t195 t196 t197 t198 t199 t200 t201 t202 t203 t204 t205 : Value) (y : World), CellsAt 256 y fb (fun o => .int .u8 (written f A z gd o)) → Turned (fun j => j = fb) W y → K ⟨#[u0, u1, u2, .slice (some ⟨ab, ao, none⟩) m cw, u4, u5, u6, u7, u8, u9, u10, u11, .slice (some ⟨fb, 0, none⟩) 256 256, .int .i64 k, u14, .int .i64 z, .int .i64 A, u17, u18, u19, u20, u21, u22, u23, u24, u25, t26, u27, u28, u29, u30, u31, u32, u33, u34, u35, u36, u37, u38, u39, u40, u41, u42, u43, u44, u45, u46, u47, u48, u49, u50, u51, u52, u53, u54, u55, u56, u57, u58, u59, u60, u61, u62, u63, u64, u65, u66, u67, u68, u69, u70, u71, u72, u73, u74, u75, u76, u77, u78, u79, u80, u81, u82, u83, u84, u85, u86, u87, u88, u89, u90, u91, u92, u93, u94, u95, u96, u97, u98, u99, u100, u101, u102, u103, u104, u105, u106, u107, u108, u109, u110, u111, u112, u113, u114, u115, u116, u117, u118, u119, u120, u121, u122, u123, u124, u125, u126, u127, u128, u129, u130, u131, u132, u133, u134, u135, u136, u137, u138, u139, u140, u141, u142, u143, u144, u145, u146, u147, u148, u149, u150, u151, u152, u153, u154, u155, u156, u157, u158, u159, u160, u161, u162, u163, u164, u165, u166, u167, u168, u169, u170, u171, u172, u173, u174, u175, u176, u177, u178, u179, u180, u181, u182, u183, u184, u185, u186, t187, t188, t189, t190, t191, t192, t193, t194, t195, t196, t197, t198, t199, t200, t201, t202, t203, t204, t205, u206, u207, u208, u209, u210, u211, u212, u213, u214, u215, u216, u217, u218, u219, u220, u221, u222, u223, u224, u225, u226, u227, u228, u229, u230, u231, u232, u233, u234, u235, u236, u237, u238, u239, u240, u241], ds⟩ y) : (blkIn Try.f3.body 6).wp Try.prog (Exit.then K NoX) ⟨#[u0, u1, u2, .slice (some ⟨ab, ao, none⟩) m cw, u4, u5, u6, u7, u8, u9, u10, u11, .slice (some ⟨fb, 0, none⟩) 256 256, .int .i64 k, u14, .int .i64 z, .int .i64 A, u17, u18, u19, u20, u21, u22, u23, u24, u25, .int .i64 0, u27, u28, u29, u30, u31, u32, u33, u34, u35, u36, u37, u38, u39, u40, u41, u42, u43, u44, u45, u46, u47, u48, u49, u50, u51, u52, u53, u54, u55, u56, u57, u58, u59, u60, u61, u62, u63, u64, u65, u66, u67, u68, u69, u70, u71, u72, u73, u74, u75, u76, u77, u78, u79, u80, u81, u82, u83, u84, u85, u86, u87, u88, u89, u90, u91, u92, u93, u94, u95, u96, u97, u98, u99, u100, u101, u102, u103, u104, u105, u106, u107, u108, u109, u110, u111, u112, u113, u114, u115, u116, u117, u118, u119, u120, u121, u122, u123, u124, u125, u126, u127, u128, u129, u130, u131, u132, u133, u134, u135, u136, u137, u138, u139, u140, u141, u142, u143, u144, u145, u146, u147, u148, u149, u150, u151, u152, u153, u154, u155, u156, u157, u158, u159, u160, u161, u162, u163, u164, u165, u166, u167, u168, u169, u170, u171, u172, u173, u174, u175, u176, u177, u178, u179, u180, u181, u182, u183, u184, u185, u186, u187, u188, u189, u190, u191, u192, u193, u194, u195, u196, u197, u198, u199, u200, u201, u202, u203, u204, u205, u206, u207, u208, u209, u210, u211, u212, u213, u214, u215, u216, u217, u218, u219, u220, u221, u222, u223, u224, u225, u226, u227, u228, u229, u230, u231, u232, u233, u234, u235, u236, u237, u238, u239, u240, u241], ds⟩ W := by
  have HQ := Hid.in hk
  have HF := Hid.in hf
  have HL := Hid.in hlow
  have HFB := Hid.in hfb
  have HAB := Hid.in hab
  have HCL := Hid.in hcell
  have hkm' : (k : Int) < (m : Int) := by omega
  have e0 : written f A 0 gd = f := by
    funext x
    exact if_neg (by omega)
  have HE0 := Hid.in e0
  clear hk hf hlow hfb hab hcell hkm e0
  show Code.wp _ (Code.block 6 (Code.loop _)) _ _ _
  go_wp2_with fail
  go_loopw [26] (fun bv wr => ∃ jn : Nat, bv = .int .i64 jn ∧ jn ≤ z ∧ CellsAt 256 wr fb (fun o => .int .u8 (written f A jn gd o)) ∧ Turned (fun j => j = fb) W wr) (fun bv _ => 5 - (intOf bv).toNat)
  case atStart => exact ⟨0, rfl, Nat.zero_le _, by rw [HE0.out]; exact HF.out, Turned.refl _ _⟩
  case round =>
    obtain ⟨jn, rfl, hjn, hc, ht⟩ := hrel
    have HC := Hid.in hc
    have HT := Hid.in ht
    clear hc ht
    by_cases hlt : jn < z
    · have hlt' : (jn : Int) < (z : Int) := by omega
      have c3 : wr.cell? ⟨ab, ao + k * 5 + 4, none⟩ = some (.int .u32 gd) := HT.out.to_cell (Nat.lt_of_lt_of_le HAB.out HL.out.size) (fun q => by have h1 := HAB.out; have h2 := HFB.out; omega) ((HL.out.cell (p := ⟨ab, ao + k * 5 + 4, none⟩) HAB.out).trans HCL.out)
      have hab9 : ab < wr.heap.size := Nat.lt_of_lt_of_le HAB.out (Nat.le_trans HL.out.size HT.out.size)
      have cc := HC.out.cell (A + jn) (by omega)
      have cfr := HC.out.free (A + jn)
      have ch9 := HC.out.here
      obtain ⟨y, hye⟩ : ∃ y, written f A jn gd (A + jn) = y := ⟨_, rfl⟩
      rw [hye] at cc
      have hi256 : A + jn < 256 := by omega
      clear hye
      go_wp2
      go_roundw
      case rel =>
        have ev : (gd : Int) / 2 ^ (8 * jn) % 256 = ((gd / 256 ^ jn % 256 : Nat) : Int) := by
          have e : (2 : Nat) ^ (8 * jn) = 256 ^ jn := by rw [Nat.pow_mul]
          rw [← e]
          simp
        refine ⟨jn + 1, by simp, by omega, ?_, HT.out.set rfl _ _⟩
        rw [ev]
        refine (HC.out.set (A + jn) hi256 _).ext fun o ho => ?_
        unfold upd written
        by_cases e : o = A + jn
        · subst e
          rw [if_pos rfl, if_pos (by omega), Nat.add_sub_cancel_left]
        · rw [if_neg e]
          dsimp only
          by_cases e2 : A ≤ o ∧ o < A + jn
          · rw [if_pos e2, if_pos (by omega)]
          · rw [if_neg e2, if_neg (by omega)]
      case measure => simp [intOf]; omega
    · obtain rfl : jn = z := by omega
      have hlt' : ¬ (jn : Int) < (jn : Int) := by omega
      go_wp2
      exact HQ.out _ _ _ _ _ _ _ _ _ _ _ _ _ _ _ _ _ _ _ _ _ HC.out HT.out
end Go.Proofs.Ytbbaopldebdoiaa
