import Derived.Test.YtnlagbiikpbjdaaGreatDoorAu5
import Derived.Test.YtnlagbiikpbjdaaGreatDoorXu4
import Derived.Test.YtnlagbiikpbjdaaGreatDoorAu3
import Derived.Test.YtnlagbiikpbjdaaGreatDoorXu3
import Derived.JoinedCond
/-
  ArchOnly: what its own two instructions do.
-/
namespace Go.Proofs.YtnlagbiikpbjdaaGreatDoor
open Go Go.RowKit
def f0 (i : Nat) : Int := if i = 0 then 5243027 else 3178771
theorem two_1 (cv : Value) (v : Int) (held : Bool) : ((newH cv (0 : Nat) 0).doS decD 2 f0 v held).halted = false := by kernel_rfl
theorem two_2 (cv : Value) (v : Int) (held : Bool) (v2 : Int) (held2 : Bool) : (((newH cv (0 : Nat) 0).doS decD 2 f0 v held).doS decD 2 f0 v2 held2).regs 2 = 8 := by kernel_rfl
theorem and127 (x : Int) (h : U32 x) : bits .and .u32 x 127 = x % 128 := by
  obtain ⟨n, rfl⟩ : ∃ n : Nat, x = n := ⟨x.toNat, by omega⟩
  have := u32_and' n 127 (by omega) (by decide)
  rw [show (127 : Int) = ((127 : Nat) : Int) from rfl, this, show (127 : Nat) = 2 ^ 7 - 1 from rfl, Nat.and_two_pow_sub_one_eq_mod]
  omega
end Go.Proofs.YtnlagbiikpbjdaaGreatDoor
/-
  ArchOnly: its two loops over registers.
-/
namespace Go.Proofs.YtnlagbiikpbjdaaGreatDoor
open Go Go.RowKit
/-- a block that is none of the machine's -/
structure Off (B p hq cg : Nat) (dv ov : Value) (z : Nat) : Prop where
  h1 : p ≠ z
  h2 : hq ≠ z
  h3 : cg ≠ z
  h4 : dv.ownBlock ≠ some z
  h5 : ov.ownBlock ≠ some z
  h6 : B ≤ z
theorem off_new {w0 w : World} {B p hq cg n cap len ol : Nat} {dv ov : Value} {S : HS} {f : Nat → Int} (k : Mw w0 w B p hq cg n cap dv ov S len ol f) {z : Nat} (hz : w.heap.size ≤ z) : Off B p hq cg dv ov z := by
  obtain ⟨a1, a2, a3, -⟩ := k.at
  refine ⟨by omega, by omega, by omega, fun e => ?_, fun e => ?_, Nat.le_trans k.lo.1 (by omega)⟩
  · rcases k.d with h | ⟨db, dc, e1, -, e3, -⟩
    · rw [h.2] at e
      cases e
    · rw [e1] at e
      have h' : db = z := Option.some.inj e
      have := e3.here
      omega
  · obtain ⟨l, ho⟩ := k.o
    have := (own_base ho _ e).2
    omega
theorem Off.fr {B p hq cg : Nat} {dv ov ov' : Value} {z m : Nat} (h : Off B p hq cg dv ov z) (hf : Fr ov ov' m) (hz : z < m) : Off B p hq cg dv ov' z :=
  ⟨h.h1, h.h2, h.h3, h.h4, fun e => by
    rcases hf with q | ⟨g, q1, q2⟩
    · exact h.h5 (by rw [← q]; exact e)
    · rw [e] at q1
      have := Option.some.inj q1
      omega, h.h6⟩
set_option maxRecDepth 100000 in
set_option maxHeartbeats 4000000 in
theorem blk2 {u0 u1 u2 u3 u4 u5 u6 u7 u8 u9 u10 u11 u12 u14 u17 u18 u19 u20 u21 u22 u23 u24 u25 u26 u27 u28 u29 u30 u31 u32 u33 u34 u35 u36 u37 u38 u39 u40 u41 u42 u43 u44 u45 u46 u47 u48 u49 u50 u51 u52 u53 u54 u55 u56 u57 u58 u59 u60 u61 u62 u63 u64 u65 u66 u67 u68 u69 u70 u71 u72 u73 u74 u75 u76 u77 u78 u79 u80 u81 u82 u83 u84 u85 u86 u87 u88 u89 u90 u91 u92 u93 u94 u95 u96 u97 u98 u99 u100 u101 u102 u103 u104 u105 u106 u107 u108 u109 u110 u111 u112 u113 u114 u115 u116 u117 u118 u119 u120 u121 u122 u123 u124 u125 u126 u127 u128 u129 u130 u131 u132 u133 u134 u135 u136 u137 u138 u139 u140 u141 u142 u143 u144 u145 u146 u147 u148 u149 u150 u151 u152 u153 u154 u155 u156 u157 u158 u159 u160 u161 u162 u163 u164 u165 u166 u167 u168 u169 u170 u171 u172 u173 u174 u175 u176 u177 u178 u179 u180 u181 u182 u183 u184 u185 u186 u187 u188 u189 u190 u191 u192 u193 u194 u195 u196 u197 u198 u199 : Value} {ds : List Deferred} (w0 W0 : World) (B p hq cg n cap len ol nb : Nat) (dv ov : Value) (S : HS) (f : Nat → Int) (k : Mw w0 W0 B p hq cg n cap dv ov S len ol f) (ho : Off B p hq cg dv ov nb) (hc : ∃ c, CellsAt 32 W0 nb c) {K : Act → World → Prop}
    (hk : ∀ (t16 t80 t81 t82 t83 t84 t85 t86 t87 t88 : Value) (y : World), Mw w0 y B p hq cg n cap dv ov S len ol f → CellsAt 32 y nb (fun i => .int .u32 (S.regs i)) → K ⟨#[u0, u1, u2, u3, u4, u5, u6, u7, u8, u9, u10, u11, u12, .pointer (some ⟨hq, 0, none⟩), u14, .pointer (some ⟨nb, 0, none⟩), t16, u17, u18, u19, u20, u21, u22, u23, u24, u25, u26, u27, u28, u29, u30, u31, u32, u33, u34, u35, u36, u37, u38, u39, u40, u41, u42, u43, u44, u45, u46, u47, u48, u49, u50, u51, u52, u53, u54, u55, u56, u57, u58, u59, u60, u61, u62, u63, u64, u65, u66, u67, u68, u69, u70, u71, u72, u73, u74, u75, u76, u77, u78, u79, t80, t81, t82, t83, t84, t85, t86, t87, t88, u89, u90, u91, u92, u93, u94, u95, u96, u97, u98, u99, u100, u101, u102, u103, u104, u105, u106, u107, u108, u109, u110, u111, u112, u113, u114, u115, u116, u117, u118, u119, u120, u121, u122, u123, u124, u125, u126, u127, u128, u129, u130, u131, u132, u133, u134, u135, u136, u137, u138, u139, u140, u141, u142, u143, u144, u145, u146, u147, u148, u149, u150, u151, u152, u153, u154, u155, u156, u157, u158, u159, u160, u161, u162, u163, u164, u165, u166, u167, u168, u169, u170, u171, u172, u173, u174, u175, u176, u177, u178, u179, u180, u181, u182, u183, u184, u185, u186, u187, u188, u189, u190, u191, u192, u193, u194, u195, u196, u197, u198, u199], ds⟩ y) : (blkIn Tryz.f4.body 2).wp Tryz.prog (Exit.then K NoX) ⟨#[u0, u1, u2, u3, u4, u5, u6, u7, u8, u9, u10, u11, u12, .pointer (some ⟨hq, 0, none⟩), u14, .pointer (some ⟨nb, 0, none⟩), .int .i64 0, u17, u18, u19, u20, u21, u22, u23, u24, u25, u26, u27, u28, u29, u30, u31, u32, u33, u34, u35, u36, u37, u38, u39, u40, u41, u42, u43, u44, u45, u46, u47, u48, u49, u50, u51, u52, u53, u54, u55, u56, u57, u58, u59, u60, u61, u62, u63, u64, u65, u66, u67, u68, u69, u70, u71, u72, u73, u74, u75, u76, u77, u78, u79, u80, u81, u82, u83, u84, u85, u86, u87, u88, u89, u90, u91, u92, u93, u94, u95, u96, u97, u98, u99, u100, u101, u102, u103, u104, u105, u106, u107, u108, u109, u110, u111, u112, u113, u114, u115, u116, u117, u118, u119, u120, u121, u122, u123, u124, u125, u126, u127, u128, u129, u130, u131, u132, u133, u134, u135, u136, u137, u138, u139, u140, u141, u142, u143, u144, u145, u146, u147, u148, u149, u150, u151, u152, u153, u154, u155, u156, u157, u158, u159, u160, u161, u162, u163, u164, u165, u166, u167, u168, u169, u170, u171, u172, u173, u174, u175, u176, u177, u178, u179, u180, u181, u182, u183, u184, u185, u186, u187, u188, u189, u190, u191, u192, u193, u194, u195, u196, u197, u198, u199], ds⟩ W0 := by
  have HK := Hid.in k
  have HO := Hid.in ho
  have HQ := Hid.in hk
  obtain ⟨c, hc⟩ := hc
  have HC := Hid.in hc
  clear k ho hk hc
  show Code.wp _ (Code.block 2 (Code.loop _)) _ _ _
  go_wp2
  go_loopw [16] (fun iv wr => ∃ i : Nat, iv = .int .i64 i ∧ i ≤ 32 ∧ Mw w0 wr B p hq cg n cap dv ov S len ol f ∧ CellsAt 32 wr nb (fun j => if j < i then .int .u32 (S.regs j) else c j)) (fun iv _ => 33 - (intOf iv).toNat)
  case atStart => exact ⟨0, rfl, by omega, HK.out, HC.out⟩
  case round =>
    obtain ⟨i, rfl, hi, hM, hC⟩ := hrel
    have HM := Hid.in hM
    have HCC := Hid.in hC
    by_cases hlt : i < 32
    · have hlt' : (i : Int) < 32 := by omega
      have HR := Hid.in (preg_any hq _ S i wr hM.h hlt)
      have e1 := hC.cell i hlt
      have e2 := hC.free i
      have e3 := hC.here
      obtain ⟨u, hu⟩ : ∃ u, (if i < i then Value.int .u32 (S.regs i) else c i) = u := ⟨_, rfl⟩
      rw [hu] at e1
      clear hM hC hu
      go_wp2_with (go_at_call 18; refine HR.out.mono ?_; rintro e x ⟨rfl, hx⟩; have hx2 := hx.symm; clear hx; subst hx2)
      go_roundw
      case rel =>
        refine ⟨i + 1, by simp, by omega, HM.out.other (Turned.of_only ((Only.refl nb _).set i _)) HO.out.h1 HO.out.h2 HO.out.h3 HO.out.h4 HO.out.h5 HO.out.h6, ?_⟩
        have h := HCC.out.set i hlt (.int .u32 (S.regs i))
        refine ⟨h.here, fun o ho => ?_, h.free⟩
        rw [h.cell o ho]
        unfold upd
        by_cases q : o = i
        · rw [if_pos q, if_pos (by omega), q]
        · rw [if_neg q]
          show some (if o < i then Value.int .u32 (S.regs o) else c o) = _
          by_cases q2 : o < i
          · rw [if_pos q2, if_pos (by omega)]
          · rw [if_neg q2, if_neg (by omega)]
      case measure =>
        simp [intOf]
        omega
    · obtain rfl : i = 32 := by omega
      clear hM hC
      go_wp2
      refine HQ.out _ _ _ _ _ _ _ _ _ _ _ HM.out ⟨HCC.out.here, fun o ho => ?_, HCC.out.free⟩
      rw [HCC.out.cell o ho, if_pos ho]
set_option maxRecDepth 100000 in
set_option maxHeartbeats 4000000 in
theorem blk4 {u0 u1 u2 u3 u4 u5 u6 u7 u8 u9 u10 u11 u12 u14 u16 u17 u19 u20 u22 u23 u24 u25 u26 u27 u28 u29 u30 u31 u32 u33 u34 u35 u36 u37 u38 u39 u40 u41 u42 u43 u44 u45 u46 u47 u48 u49 u50 u51 u52 u53 u54 u55 u56 u57 u58 u59 u60 u61 u62 u63 u64 u65 u66 u67 u68 u69 u70 u71 u72 u73 u74 u75 u76 u77 u78 u79 u80 u81 u82 u83 u84 u85 u86 u87 u88 u89 u90 u91 u92 u93 u94 u95 u96 u97 u98 u99 u100 u101 u102 u103 u104 u105 u106 u107 u108 u109 u110 u111 u112 u113 u114 u115 u116 u117 u118 u119 u120 u121 u122 u123 u124 u125 u126 u127 u128 u129 u130 u131 u132 u133 u134 u135 u136 u137 u138 u139 u140 u141 u142 u143 u144 u145 u146 u147 u148 u149 u150 u151 u152 u153 u154 u155 u156 u157 u158 u159 u160 u161 u162 u163 u164 u165 u166 u167 u168 u169 u170 u171 u172 u173 u174 u175 u176 u177 u178 u179 u180 u181 u182 u183 u184 u185 u186 u187 u188 u189 u190 u191 u192 u193 u194 u195 u196 u197 u198 u199 : Value} {ds : List Deferred} (W0 : World) (hq nb xb r : Nat) (cv : Value) (S S' : HS) (val : Int) (h : PH W0 hq cv S') (hc : CellsAt 32 W0 nb (fun i => .int .u32 (S.regs i))) (c2 : W0.cell? ⟨xb, 2, none⟩ = some (.int .i64 r)) (c3 : W0.cell? ⟨xb, 3, none⟩ = some (.int .u32 val)) (hr : ∀ i, i < 32 → S'.regs i = if i = r then val else S.regs i) {K : Act → World → Prop}
    (hk : ∀ (t6 t21 t22 t141 t142 t143 t144 t145 t146 t147 t148 t149 t150 t151 t152 t153 t154 t155 t156 t157 t158 t159 t160 t161 t162 t163 t164 t165 t166 t167 t168 t169 t170 : Value), K ⟨#[u0, u1, u2, u3, u4, u5, t6, u7, u8, u9, u10, u11, u12, .pointer (some ⟨hq, 0, none⟩), u14, .pointer (some ⟨nb, 0, none⟩), u16, u17, .pointer (some ⟨xb, 0, none⟩), u19, u20, t21, t22, u23, u24, u25, u26, u27, u28, u29, u30, u31, u32, u33, u34, u35, u36, u37, u38, u39, u40, u41, u42, u43, u44, u45, u46, u47, u48, u49, u50, u51, u52, u53, u54, u55, u56, u57, u58, u59, u60, u61, u62, u63, u64, u65, u66, u67, u68, u69, u70, u71, u72, u73, u74, u75, u76, u77, u78, u79, u80, u81, u82, u83, u84, u85, u86, u87, u88, u89, u90, u91, u92, u93, u94, u95, u96, u97, u98, u99, u100, u101, u102, u103, u104, u105, u106, u107, u108, u109, u110, u111, u112, u113, u114, u115, u116, u117, u118, u119, u120, u121, u122, u123, u124, u125, u126, u127, u128, u129, u130, u131, u132, u133, u134, u135, u136, u137, u138, u139, u140, t141, t142, t143, t144, t145, t146, t147, t148, t149, t150, t151, t152, t153, t154, t155, t156, t157, t158, t159, t160, t161, t162, t163, t164, t165, t166, t167, t168, t169, t170, u171, u172, u173, u174, u175, u176, u177, u178, u179, u180, u181, u182, u183, u184, u185, u186, u187, u188, u189, u190, u191, u192, u193, u194, u195, u196, u197, u198, u199], ds⟩ W0) : (blkIn Tryz.f4.body 4).wp Tryz.prog (Exit.then K NoX) ⟨#[u0, u1, u2, u3, u4, u5, u6, u7, u8, u9, u10, u11, u12, .pointer (some ⟨hq, 0, none⟩), u14, .pointer (some ⟨nb, 0, none⟩), u16, u17, .pointer (some ⟨xb, 0, none⟩), u19, u20, .int .i64 0, u22, u23, u24, u25, u26, u27, u28, u29, u30, u31, u32, u33, u34, u35, u36, u37, u38, u39, u40, u41, u42, u43, u44, u45, u46, u47, u48, u49, u50, u51, u52, u53, u54, u55, u56, u57, u58, u59, u60, u61, u62, u63, u64, u65, u66, u67, u68, u69, u70, u71, u72, u73, u74, u75, u76, u77, u78, u79, u80, u81, u82, u83, u84, u85, u86, u87, u88, u89, u90, u91, u92, u93, u94, u95, u96, u97, u98, u99, u100, u101, u102, u103, u104, u105, u106, u107, u108, u109, u110, u111, u112, u113, u114, u115, u116, u117, u118, u119, u120, u121, u122, u123, u124, u125, u126, u127, u128, u129, u130, u131, u132, u133, u134, u135, u136, u137, u138, u139, u140, u141, u142, u143, u144, u145, u146, u147, u148, u149, u150, u151, u152, u153, u154, u155, u156, u157, u158, u159, u160, u161, u162, u163, u164, u165, u166, u167, u168, u169, u170, u171, u172, u173, u174, u175, u176, u177, u178, u179, u180, u181, u182, u183, u184, u185, u186, u187, u188, u189, u190, u191, u192, u193, u194, u195, u196, u197, u198, u199], ds⟩ W0 := by
  have HH := Hid.in h
  have HC := Hid.in hc
  have HQ := Hid.in hk
  have HR := Hid.in hr
  have HC2 := Hid.in c2
  have HC3 := Hid.in c3
  clear h hc hk hr c2 c3
  show Code.wp _ (Code.block 4 (Code.loop _)) _ _ _
  go_wp2
  go_loopw [21] (fun iv wr => ∃ i : Nat, iv = .int .i64 i ∧ i ≤ 32 ∧ wr = W0) (fun iv _ => 33 - (intOf iv).toNat)
  case atStart => exact ⟨0, rfl, by omega, rfl⟩
  case round =>
    obtain ⟨i, rfl, hi, rfl⟩ := hrel
    by_cases hlt : i < 32
    · have hlt' : (i : Int) < 32 := by omega
      have HRG := Hid.in (preg_any hq _ S' i wr HH.out hlt)
      go_upto_region 35 with (go_at_call 18; refine HRG.out.mono ?_; rintro e x ⟨rfl, hx⟩; have hx2 := hx.symm; clear hx; subst hx2)
      refine wp_any (reg35 (S'.regs i) val (S.regs i) i r xb nb _ HC2.out HC3.out (HC.out.cell i hlt) hlt (HR.out i hlt) (fun t148 t149 t150 t151 t152 t153 t154 t155 t156 t157 t158 t159 t160 t161 t162 t163 t164 t165 t166 t167 t168 t169 => ?_))
      go_wp2
      go_roundw
      case rel => exact ⟨i + 1, by simp, by omega, by simp⟩
      case measure =>
        simp [intOf]
        omega
    · obtain rfl : i = 32 := by omega
      go_wp2
      exact HQ.out _ _ _ _ _ _ _ _ _ _ _ _ _ _ _ _ _ _ _ _ _ _ _ _ _ _ _ _ _ _ _ _ _
end Go.Proofs.YtnlagbiikpbjdaaGreatDoor
/-
  ArchOnly: all of it.
-/
namespace Go.Proofs.YtnlagbiikpbjdaaGreatDoor
open Go Go.RowKit
def Wds (w : World) (q : Option Addr) (n : Nat) (f : Nat → Int) : Prop := ∀ i, i < n → ∃ c o, q = some ⟨c, o, none⟩ ∧ c < w.heap.size ∧ w.cell? ⟨c, o + i, none⟩ = some (.int .u32 (f i)) ∧ U32 (f i)
theorem code_at {w x : World} {q : Option Addr} {n : Nat} {f : Nat → Int} (h : Wds w q n f) (hn : 1 ≤ n) (hb : Below w.heap.size w x) : ∃ cb co, q = some ⟨cb, co, none⟩ ∧ CodeAt x cb co n f := by
  obtain ⟨c, o, h1, h2, -, -⟩ := h 0 (by omega)
  refine ⟨c, o, h1, Nat.lt_of_lt_of_le h2 hb.size, fun i hi => ?_, fun i hi => ?_⟩
  · obtain ⟨c', o', e1, e2, e3, -⟩ := h i hi
    rw [h1] at e1
    cases e1
    exact (hb.cell (p := ⟨c, o + i, none⟩) e2).trans e3
  · obtain ⟨c', o', -, -, -, e4⟩ := h i hi
    exact e4
theorem first_code (w : World) : CodeAt (w.alloc (.cells #[.int .u32 5243027, .int .u32 3178771] 33)) w.heap.size 0 2 f0 := by
  refine ⟨by simp, fun i hi => ?_, fun i hi => ?_⟩
  · rw [Nat.zero_add, World.cell?_alloc_new]
    match i, hi with
    | 0, _ => rfl
    | 1, _ => rfl
  · match i, hi with
    | 0, _ => exact ⟨by decide, by decide⟩
    | 1, _ => exact ⟨by decide, by decide⟩
theorem alloc32 (w : World) (a : Array Value) (t : TypeId) (ha : a.size = 32) : ∃ c, CellsAt 32 (w.alloc (.cells a t)) w.heap.size c :=
  ⟨fun i => a.getD i undef, cells_new w (fun i hi => by
    rw [Array.getD_eq_getD_getElem?, Array.getElem?_eq_getElem (by omega)]
    rfl)⟩
set_option maxRecDepth 100000 in
set_option maxHeartbeats 8000000 in
theorem only_any (cq : Option Addr) (n cc : Nat) (dq : Option Addr) (len dc : Nat) (steps : Int) (f : Nat → Int) (w : World) (hL : Laid w) (hcw : Wds w cq n f) (hdat : Dat w dq len) (hdq : dq = none → dc = 0) : Calls Tryz.prog 4 #[.slice cq n cc, .slice dq len dc, .int .i64 steps] w fun e w' => e = .returned (.bool true) ∧ Below w.heap.size w w' := by
  have HC1 := Hid.in (mnew_good w.heap.size 0 2 2 none 0 0 (w.alloc (.cells #[.int .u32 5243027, .int .u32 3178771] 33)) (by decide) f0 (first_code w) (fun i hi => absurd hi (by omega)) (fun _ => rfl))
  have bW1 : Below w.heap.size w (w.alloc (.cells #[.int .u32 5243027, .int .u32 3178771] 33)) := (Below.refl _ _).alloc (Nat.le_refl _) _
  obtain ⟨W1, hW1⟩ : ∃ W1, w.alloc (.cells #[.int .u32 5243027, .int .u32 3178771] 33) = W1 := ⟨_, rfl⟩
  rw [hW1] at HC1 bW1
  have HB1 := Hid.in bW1
  have HLD : Hid (∀ y, Below W1.heap.size W1 y → Laid y) := fun y hy => hL.below (below2 bW1 hy)
  have HL := Hid.in hL
  have HCW := Hid.in hcw
  have HDT := Hid.in hdat
  have HDQ := Hid.in hdq
  have HU : Hid (∀ i, i < 2 → U32 (f0 i)) := (first_code w).word
  clear hL hcw hdat hdq bW1
  go_enter Tryz.func4, Tryz.ntmps4
  go_upto_region 10 with (first
    | (go_at_call 5; refine HC1.out.mono ?_; rintro e X1 ⟨p1, hq1, cg1, cap1, dv1, rfl, hM1, hb1⟩; have HM1 := Hid.in hM1; have HBX1 := Hid.in hb1; clear hM1 hb1)
    | (go_at_call 9; refine (mstep_go HM2.out (two_1 _ v1 held1) HF2.out HS2.out (by decide) (by decide) (by decide) HO2.out HLD.out).mono ?_; rintro e X3 ⟨v2, held2, hv2, rfl, ⟨ov2, ol2, -, -, hM3⟩, -⟩; have HM3 := Hid.in hM3; clear hM3 hv2)
    | (go_at_call 9; refine (mstep_go HM1.out rfl (new_fit _ _ _ (by decide)) rfl (by decide) (by decide) (by decide) (by decide) HLD.out).mono ?_; rintro e X2 ⟨v1, held1, hv1, rfl, ⟨ov1, ol1, hol1, -, hM2⟩, -⟩; have HM2 := Hid.in hM2; have HO2 : Hid (ol1 ≤ 5000) := (by show ol1 ≤ 5000; omega); have HF2 := Hid.in (Fit.doS (new_fit (.slice (some ⟨cg1, 0, none⟩) 2 cap1) (0 : Nat) 0 (by decide)) decOk 2 f0 v1 held1 HU.out (by decide) hv1); have HS2 : Hid ((HS.doS (newH (.slice (some ⟨cg1, 0, none⟩) 2 cap1) (0 : Nat) 0) decD 2 f0 v1 held1).size = ((0 : Nat) : Int)) := (kept_doS _ _ _ _ _ _).2.1; clear hM2 hol1 hv1)
    | (go_at_call 14; refine (mhart_any HM3.out).mono ?_; rintro e x ⟨rfl, hx⟩; have hx2 := hx.symm; clear hx; subst hx2)
    | (go_at_call 18; refine (preg_any hq1 _ _ 2 _ HM3.out.h (by decide)).mono ?_; rintro e x ⟨rfl, hx⟩; have hx2 := hx.symm; clear hx; subst hx2; rw [two_2]))
  have HX3 := Hid.in (below2 HB1.out HM3.out.low)
  clear HM1 HM2 HM3 HF2 HS2 HO2 HC1 HLD HBX1 HU hW1
  cases himg : imageB n len
  · as_aux_lemma =>
      have HNB := Hid.in (mnew_bad cq n cc dq len dc X3 himg)
      clear himg
      go_wp2_with (go_at_call 5; refine HNB.out.mono ?_; rintro e x ⟨rfl, hx⟩; have hx2 := hx.symm; clear hx; subst hx2)
      go_ret
      exact ⟨rfl, HX3.out⟩
  · obtain ⟨b1, b2, b3, b4, b6⟩ := image_true n len himg
    obtain ⟨cb, co, rfl, hCA⟩ := code_at HCW.out b1 HX3.out
    have HNG := Hid.in (mnew_good cb co n cc dq len dc X3 himg f hCA (HDT.out.below HX3.out) HDQ.out)
    have HLD : Hid (∀ y, Below X3.heap.size X3 y → Laid y) := fun y hy => HL.out.below (below2 HX3.out hy)
    have HUF : Hid (∀ i, i < n → U32 (f i)) := hCA.word
    have HNN : Hid (n ≤ 4096) := b2
    have HLN : Hid (len ≤ 4096) := by show len ≤ 4096; omega
    have HL16 : Hid (len % 16 = 0) := by show len % 16 = 0; omega
    clear himg hCA HDT HDQ HCW b1 b2 b3 b4 b6
    go_wp2_with (first
      | (go_at_call 5; refine HNG.out.mono ?_; rintro e Y1 ⟨p, hq, cg, cap, dv, rfl, hM, hb⟩; have HMY := Hid.in hM; clear hM hb)
      | (go_at_call 14; refine (mhart_any HMY.out).mono ?_; rintro e x ⟨rfl, hx⟩; have hx2 := hx.symm; clear hx; subst hx2))
    go_loopw [14] (fun kv wr => ∃ (k : Nat) (S : HS) (ov : Value) (ol : Nat), kv = .int .i64 k ∧ k ≤ 2000 ∧ Mw X3 wr X3.heap.size p hq cg n cap dv ov S len ol f ∧ S.Fit ∧ S.size = len ∧ ol ≤ k) (fun kv _ => 2001 - (intOf kv).toNat)
    case atStart => exact ⟨0, _, _, 0, rfl, by omega, HMY.out, new_fit _ _ _ (by have := HLN.out; omega), rfl, Nat.le_refl _⟩
    case round =>
      obtain ⟨k, S, ov, ol, rfl, hk, hM, hF, hS, hol⟩ := hrel
      have HM := Hid.in hM
      have HF := Hid.in hF
      have HS := Hid.in hS
      have HOL := Hid.in hol
      clear hM hF hS hol
      by_cases hgo : (k : Int) < steps ∧ k < 2000
      · obtain ⟨g1, g2⟩ := hgo
        have g2' : (k : Int) < 2000 := by omega
        go_upto_block 2 with fail
        refine wp_any (blk2 X3 _ X3.heap.size p hq cg n cap len ol wr.heap.size dv ov S f (HM.out.below ((Below.refl _ _).alloc (Nat.le_refl _) _)) (off_new HM.out (Nat.le_refl _)) (alloc32 _ _ _ rfl) (fun t16 t80 t81 t82 t83 t84 t85 t86 t87 t88 y1 hM1 hC1 => ?_))
        have HM1 := Hid.in hM1
        have HC1 := Hid.in hC1
        have HOF := Hid.in (off_new HM.out (Nat.le_refl wr.heap.size))
        have HNB := Hid.in hC1.here
        clear hM1 hC1
        generalize wr.heap.size = nb at HC1 HOF HNB ⊢
        cases hh : S.halted
        · have HHH := Hid.in hh
          have HST := Hid.in (mstep_go HM1.out hh HF.out HS.out HL16.out HNN.out HLN.out (by have := HOL.out; omega) HLD.out)
          clear hh
          go_upto_region 29 with (first
            | (go_at_call 19; refine (ppc_any hq _ _ _ (HM2.out.below ((Below.refl _ _).alloc (Nat.le_refl _) _)).h).mono ?_; rintro e x ⟨rfl, hx⟩; have hx2 := hx.symm; clear hx; subst hx2)
            | (go_at_call 19; refine (ppc_any hq _ _ _ HM1.out.h).mono ?_; rintro e x ⟨rfl, hx⟩; have hx2 := hx.symm; clear hx; subst hx2)
            | (go_at_call 9; refine HST.out.mono ?_; rintro e y2 ⟨v, held, hv, rfl, ⟨ov', ol', hol', hfr, hM2⟩, hT⟩; have HV := Hid.in hv; have HOL2 := Hid.in hol'; have HFR := Hid.in hfr; have HM2 := Hid.in hM2; have HT := Hid.in hT; clear hv hol' hfr hM2 hT; obtain ⟨word, val, cause, tval, r, hR, hr6⟩ := told_do HF.out n f HNN.out HUF.out v held HHH.out; have HR6 := Hid.in hr6; clear hr6))
          have bY3 : Below y2.heap.size y2 (y2.alloc (.cells #[.int .u32 S.pc, .int .u32 word, .int .i64 r, .int .u32 val, .int .i64 cause, .int .u32 tval, .int .u32 (S.doS decD n f v held).pc] 41)) := (Below.refl _ _).alloc (Nat.le_refl _) _
          have k2 : CellsAt 32 y2 nb (fun i => .int .u32 (S.regs i)) := HT.out.cells HC1.out (by
            rintro ((h | h | h) | h)
            · exact HOF.out.h1 h.symm
            · exact HOF.out.h4 h
            · exact HOF.out.h5 h
            · exact HOF.out.h2 h.symm)
          have k3 := k2.below bY3
          have d0 := k3.cell 0 (by decide)
          rw [HF.out.zero] at d0
          have c0 := World.cell?_alloc_new y2 #[.int .u32 S.pc, .int .u32 word, .int .i64 r, .int .u32 val, .int .i64 cause, .int .u32 tval, .int .u32 (S.doS decD n f v held).pc] 41 0
          have c1 := World.cell?_alloc_new y2 #[.int .u32 S.pc, .int .u32 word, .int .i64 r, .int .u32 val, .int .i64 cause, .int .u32 tval, .int .u32 (S.doS decD n f v held).pc] 41 1
          have c2 := World.cell?_alloc_new y2 #[.int .u32 S.pc, .int .u32 word, .int .i64 r, .int .u32 val, .int .i64 cause, .int .u32 tval, .int .u32 (S.doS decD n f v held).pc] 41 2
          have c3 := World.cell?_alloc_new y2 #[.int .u32 S.pc, .int .u32 word, .int .i64 r, .int .u32 val, .int .i64 cause, .int .u32 tval, .int .u32 (S.doS decD n f v held).pc] 41 3
          have c4 := World.cell?_alloc_new y2 #[.int .u32 S.pc, .int .u32 word, .int .i64 r, .int .u32 val, .int .i64 cause, .int .u32 tval, .int .u32 (S.doS decD n f v held).pc] 41 4
          have c6 := World.cell?_alloc_new y2 #[.int .u32 S.pc, .int .u32 word, .int .i64 r, .int .u32 val, .int .i64 cause, .int .u32 tval, .int .u32 (S.doS decD n f v held).pc] 41 6
          have HM3 := Hid.in (HM2.out.below bY3)
          have hxb : y2.heap.size < (y2.alloc (.cells #[.int .u32 S.pc, .int .u32 word, .int .i64 r, .int .u32 val, .int .i64 cause, .int .u32 tval, .int .u32 (S.doS decD n f v held).pc] 41)).heap.size := by simp
          have HFS := Hid.in (Fit.doS HF.out decOk n f v held HUF.out HNN.out HV.out)
          have HSS := Hid.in ((kept_doS S decD n f v held).2.1.trans HS.out)
          obtain ⟨S', hS'⟩ : ∃ S', S.doS decD n f v held = S' := ⟨_, rfl⟩
          rw [hS'] at c0 c1 c2 c3 c4 c6 d0 k3 HM3 HFS HSS HR6 hxb
          rw [hS']
          clear bY3 k2 hS' hR HM2
          generalize y2.alloc (.cells #[.int .u32 S.pc, .int .u32 word, .int .i64 r, .int .u32 val, .int .i64 cause, .int .u32 tval, .int .u32 S'.pc] 41) = y3 at c0 c1 c2 c3 c4 c6 d0 k3 HM3 hxb ⊢
          generalize y2.heap.size = xb at c0 c1 c2 c3 c4 c6 hxb ⊢
          have C0 : Hid (y3.cell? ⟨xb, 0, none⟩ = some (.int .u32 S.pc)) := c0
          have C1 : Hid (y3.cell? ⟨xb, 1, none⟩ = some (.int .u32 word)) := c1
          have C2 : Hid (y3.cell? ⟨xb, 2, none⟩ = some (.int .i64 r)) := c2
          have C3 : Hid (y3.cell? ⟨xb, 3, none⟩ = some (.int .u32 val)) := c3
          have C4 : Hid (y3.cell? ⟨xb, 4, none⟩ = some (.int .i64 cause)) := c4
          have C6 : Hid (y3.cell? ⟨xb, 6, none⟩ = some (.int .u32 S'.pc)) := c6
          have D0 := Hid.in d0
          have K3 := Hid.in k3
          clear c0 c1 c2 c3 c4 c6 d0 k3
          refine wp_any (reg29 S.pc val cause S'.pc r xb nb y3 C0.out C2.out C3.out C4.out C6.out D0.out HR6.out.2.1 HR6.out.2.2.1 (fun t106 t107 t108 t109 t110 t111 t112 t113 t114 t115 t116 t117 t118 t119 t120 t121 t122 t123 t124 t125 t126 t127 t128 t129 t130 t131 t132 t133 t134 t135 t136 t137 t138 t139 => ?_))
          go_upto_block 4 with fail
          refine wp_any (blk4 y3 hq nb xb r _ S S' val HM3.out.h K3.out C2.out C3.out HR6.out.2.2.2.1 (fun t6 t21 t22 t141 t142 t143 t144 t145 t146 t147 t148 t149 t150 t151 t152 t153 t154 t155 t156 t157 t158 t159 t160 t161 t162 t163 t164 t165 t166 t167 t168 t169 t170 => ?_))
          have c1 := C1.out
          go_upto_region 38 with fail
          refine wp_any (reg38 S.pc S'.pc cause _ xb y3 C4.out (fun e => ?_) (fun t174 t175 t176 t177 t178 t179 t180 t181 t182 t183 t184 t185 t186 t187 t188 t189 t190 t191 t192 t193 t194 t195 t196 t197 => ?_))
          · rcases HR6.out.2.2.2.2.1 e with q | q
            · left
              rw [and127 word HR6.out.2.2.2.2.2]
              exact q
            · exact Or.inr q
          · go_wp2
            go_roundw
            case rel => exact ⟨k + 1, S', ov', ol', by simp, by omega, HM3.out, HFS.out, HSS.out, by have := HOL.out; have := HOL2.out; omega⟩
            case measure =>
              simp [intOf]
              omega
        · as_aux_lemma =>
            have HST := Hid.in (mstep_halted HM1.out hh)
            clear hh
            unfold zeroR at HST
            go_wp2_with (first
              | (go_at_call 19; refine (ppc_any hq _ _ _ (HM2.out.below ((Below.refl _ _).alloc (Nat.le_refl _) _)).h).mono ?_; rintro e x ⟨rfl, hx⟩; have hx2 := hx.symm; clear hx; subst hx2)
              | (go_at_call 19; refine (ppc_any hq _ _ _ HM1.out.h).mono ?_; rintro e x ⟨rfl, hx⟩; have hx2 := hx.symm; clear hx; subst hx2)
              | (go_at_call 9; refine HST.out.mono ?_; rintro e y2 ⟨rfl, hM2, hb2⟩; have HM2 := Hid.in hM2; clear hM2 hb2))
            go_ret
            exact ⟨by simp, below2 HX3.out (HM2.out.below ((Below.refl _ _).alloc (Nat.le_refl _) _)).low⟩
      · as_aux_lemma =>
          by_cases g1 : (k : Int) < steps
          · have g2 : ¬ (k : Int) < 2000 := by omega
            have g3 : decide ((k : Int) < 2000) = false := decide_eq_false g2
            have g4 : decide (k < 2000) = false := decide_eq_false (by omega)
            go_wp2
            go_ret
            exact ⟨rfl, below2 HX3.out HM.out.low⟩
          · have g3 : decide ((k : Int) < steps) = false := decide_eq_false g1
            go_wp2
            go_ret
            exact ⟨rfl, below2 HX3.out HM.out.low⟩
end Go.Proofs.YtnlagbiikpbjdaaGreatDoor
/-
  ArchOnly: what is handed in.
-/
namespace Go.Proofs.YtnlagbiikpbjdaaGreatDoor
open Go Go.ChangeShapes Go.WideShapes Go.ChangeAt Go.RowKit
theorem laidOut : laidOutB Tryz.prog = true := by kernel_rfl
theorem u32_of {x : Int} (h : (Lit.int .u32 x).wf = true) : U32 x := by
  unfold U32
  simp [Lit.wf, IntKind.min, IntKind.max, IntKind.signed, IntKind.bits] at h
  omega
set_option maxRecDepth 100000 in
theorem view_words {H : Type} {enc : TypeId × Value → H} {W : World} {base : Nat} {v : Value} {d : DataW H} {ps : List MemPlace} (hv : Value.okWide Tryz.prog W .any base 22 v) (h : DataW.Trod enc Tryz.prog W 0 (fun _ => true) true 22 v d ps) : ∃ p m c g, v = .slice p m c ∧ Wds W p m g ∧ m ≤ 9223372036854775807 := by
  obtain ⟨fuel, hf⟩ := h
  obtain ⟨a0, len, cap, rfl⟩ := okWide_slice Tryz.underlying22 hv
  rcases open_ints Tryz.underlying22 Tryz.underlying33 (show Tryz.prog.cellsOf 33 = 1 by kernel_rfl) hf with ⟨hcs, hx⟩ | ⟨a, len', cap', zs, hcs, _, hl, hm, hz, hx, hcell, hwz⟩
  · simp [Value.cells] at hcs
    obtain ⟨rfl, rfl, rfl⟩ := hcs
    exact ⟨none, 0, 0, fun _ => 0, rfl, fun i hi => absurd hi (by omega), by omega⟩
  · simp [Value.cells] at hcs
    obtain ⟨rfl, rfl, rfl⟩ := hcs
    simp only [if_true] at hz
    refine ⟨_, _, _, fun i => zs.getD i 0, rfl, fun i hi => ?_, ?_⟩
    · have hp : 0 < zs.length := by omega
      obtain ⟨b, off, rfl, hc⟩ := ints_at hcell hp
      have hci := hc i (by omega)
      refine ⟨b, off, rfl, cell_here hci, hci, u32_of (hwz _ ?_)⟩
      have hil : i < zs.length := by omega
      show zs.getD i 0 ∈ zs
      rw [List.getD_eq_getElem?_getD, List.getElem?_eq_getElem hil]
      exact List.getElem_mem hil
    · have := hm
      unfold maxLen at this
      omega
set_option maxRecDepth 100000 in
theorem view_bytes {H : Type} {enc : TypeId × Value → H} {W : World} {base : Nat} {v : Value} {d : DataW H} {ps : List MemPlace} (hv : Value.okWide Tryz.prog W .any base 23 v) (h : DataW.Trod enc Tryz.prog W 0 (fun _ => true) true 23 v d ps) : ∃ p m c, v = .slice p m c ∧ Dat W p m ∧ (p = none → c = 0) := by
  obtain ⟨fuel, hf⟩ := h
  obtain ⟨a0, len, cap, rfl⟩ := okWide_slice Tryz.underlying23 hv
  rcases open_ints Tryz.underlying23 Tryz.underlying5 (show Tryz.prog.cellsOf 5 = 1 by kernel_rfl) hf with ⟨hcs, hx⟩ | ⟨a, len', cap', zs, hcs, _, hl, hm, hz, hx, hcell, hwz⟩
  · simp [Value.cells] at hcs
    obtain ⟨rfl, rfl, rfl⟩ := hcs
    exact ⟨none, 0, 0, rfl, fun i hi => absurd hi (by omega), fun _ => rfl⟩
  · simp [Value.cells] at hcs
    obtain ⟨rfl, rfl, rfl⟩ := hcs
    simp only [if_true] at hz
    refine ⟨_, _, _, rfl, fun i hi => ?_, fun e => by cases e⟩
    · have hp : 0 < zs.length := by omega
      obtain ⟨b, off, rfl, hc⟩ := ints_at hcell hp
      have hci := hc i (by omega)
      exact ⟨b, off, rfl, cell_here hci, _, hci⟩
theorem only_all (cq : Option Addr) (n cc : Nat) (f : Nat → Int) (dq : Option Addr) (len dc : Nat) (steps : Int) (w : World) (hL : laidMetH Tryz.prog laid3 w) (hcw : Wds w cq n f) (hdat : Dat w dq len) (hdq : dq = none → dc = 0) : Calls Tryz.prog 4 #[.slice cq n cc, .slice dq len dc, .int .i64 steps] w fun e w' => e = .returned (.bool true) ∧ Below w.heap.size w w' := by
  have h := of_laid hL
  exact only_any cq n cc dq len dc steps f w h hcw hdat hdq
end Go.Proofs.YtnlagbiikpbjdaaGreatDoor
