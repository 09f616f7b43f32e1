import Derived.Test.YtlogdmnhngbkaaaDoorY26
/-
  BUS: the answer's done: its other statements.
-/
namespace Go.Proofs.YtlogdmnhngbkaaaDoor
open Go Go.RowKit
def told1 (cb : Bool) (c : Nat) (lf : Ln) : List Snp := if cb then [⟨c, lf.a, lf.s, 0⟩] else []
set_option maxRecDepth 100000 in
set_option maxHeartbeats 4000000 in
theorem dcond84 {u3 u4 u5 u6 u7 u8 u9 u10 u11 u12 u13 u14 u15 u16 u17 u18 u19 u20 u21 u22 u23 u24 u25 u26 u27 u28 u29 u30 u31 u32 u33 u34 u35 u36 u37 u38 u39 u40 u41 u42 u43 u44 u45 u46 u47 u48 u49 u50 u51 u52 u53 u54 u55 u56 u57 u58 u59 u60 u61 u62 u63 u64 u65 u66 u67 u68 u69 u70 u71 u72 u73 u74 u75 u76 u77 u78 u79 u80 u81 u82 u83 u85 u86 u87 u88 u89 u90 u91 u92 u93 u94 u95 u96 u97 u98 u99 u100 u101 u102 u103 u104 u105 u106 u107 u108 u109 u110 u111 u112 u113 u114 u115 u116 u117 u118 u119 u120 u121 u122 u123 u124 u125 u126 u127 u128 u129 u130 u131 u132 u133 u134 u135 u136 u137 u138 u139 u140 u141 u142 u143 u144 u145 u146 : Value} {ds : List Deferred} {W : World} {g : Rn} {F : Nat → Prop} {R : BS} {c l : Nat} {cb : Bool} (hu : Ru W g F R) (ht : R.turn = c) (hcb : cb = true ↔ (R.c c).st l ≠ 0) (hl : l < 4294967296) (h16 : l % 16 = 0) {K : Act → World → Prop} (hk : ∀ (t85 t86 t87 t88 t89 t90 t91 t92 t93 : Value) (y : World), Ru y g F (R.do2 l) → Turned (fun j => ¬ F j) W y → K ⟨#[.pointer (some ⟨g.p, 0, none⟩), .int .i64 (c : Nat), .int .i64 (l : Nat), u3, u4, u5, u6, u7, u8, u9, u10, u11, u12, u13, u14, u15, u16, u17, u18, u19, u20, u21, u22, u23, u24, u25, u26, u27, u28, u29, u30, u31, u32, u33, u34, u35, u36, u37, u38, u39, u40, u41, u42, u43, u44, u45, u46, u47, u48, u49, u50, u51, u52, u53, u54, u55, u56, u57, u58, u59, u60, u61, u62, u63, u64, u65, u66, u67, u68, u69, u70, u71, u72, u73, u74, u75, u76, u77, u78, u79, u80, u81, u82, u83, .bool cb, t85, t86, t87, t88, t89, t90, t91, t92, t93, u94, u95, u96, u97, u98, u99, u100, u101, u102, u103, u104, u105, u106, u107, u108, u109, u110, u111, u112, u113, u114, u115, u116, u117, u118, u119, u120, u121, u122, u123, u124, u125, u126, u127, u128, u129, u130, u131, u132, u133, u134, u135, u136, u137, u138, u139, u140, u141, u142, u143, u144, u145, u146], ds⟩ y) : (cndIn Tryd.f30.body 84).wp Tryd.prog (Exit.then K NoX) ⟨#[.pointer (some ⟨g.p, 0, none⟩), .int .i64 (c : Nat), .int .i64 (l : Nat), u3, u4, u5, u6, u7, u8, u9, u10, u11, u12, u13, u14, u15, u16, u17, u18, u19, u20, u21, u22, u23, u24, u25, u26, u27, u28, u29, u30, u31, u32, u33, u34, u35, u36, u37, u38, u39, u40, u41, u42, u43, u44, u45, u46, u47, u48, u49, u50, u51, u52, u53, u54, u55, u56, u57, u58, u59, u60, u61, u62, u63, u64, u65, u66, u67, u68, u69, u70, u71, u72, u73, u74, u75, u76, u77, u78, u79, u80, u81, u82, u83, .bool cb, u85, u86, u87, u88, u89, u90, u91, u92, u93, u94, u95, u96, u97, u98, u99, u100, u101, u102, u103, u104, u105, u106, u107, u108, u109, u110, u111, u112, u113, u114, u115, u116, u117, u118, u119, u120, u121, u122, u123, u124, u125, u126, u127, u128, u129, u130, u131, u132, u133, u134, u135, u136, u137, u138, u139, u140, u141, u142, u143, u144, u145, u146], ds⟩ W := by
  have HQ := Hid.in hk
  have hsz : R.turn < R.nc := by obtain ⟨-, -, -, -, -, -, o, -⟩ := hu.own; exact o.2.2.2.2.2.1
  rw [ht] at hsz
  show Code.wp _ (Code.cond (.tmp 84) _ _) _ _ _
  cases cb
  · have h0 : (R.c c).st l = 0 := by
      by_cases q : (R.c c).st l = 0
      · exact q
      · exact absurd (hcb.2 q) (by simp)
    have HR : Hid (Ru W g F (R.do2 l)) := by
      have e : R.do2 l = R := by unfold BS.do2; rw [ht, if_pos h0]
      show Ru W g F (R.do2 l)
      rw [e]
      exact hu
    clear hk hu hcb h0
    go_wp2
    exact HQ.out _ _ _ _ _ _ _ _ _ _ HR.out (Turned.refl _ _)
  · have h0 : (R.c c).st l ≠ 0 := hcb.1 rfl
    have HLO := Hid.in (rulower hu c l 0 hsz hl h16 (by omega) (by omega))
    have HE : Hid (R.do2 l = R.cput c ((R.c c).lowTo l 0)) := by show R.do2 l = _; unfold BS.do2; rw [ht, if_neg h0]
    obtain ⟨last, left, o1, o2, -, -, -, o5, -⟩ := hu.own
    have c0 : W.cell? ⟨g.p, 0, none⟩ = some (.slice (some ⟨g.cb, 0, none⟩) R.nc g.cc) := o1.cell 0 (by decide)
    have r0 : W.cell? ⟨g.cb, c, none⟩ = some (.pointer (some ⟨g.q c, 0, none⟩)) := o2.cell c hsz
    have hp := o1.here
    have hcb := o2.here
    have hc' : (c : Int) < (R.nc : Int) := by omega
    clear hk hu h0 o1 o2 o5
    go_wp2_with (go_at_call 51; refine HLO.out.mono ?_; rintro e y ⟨rfl, hu2, ht2⟩; have HU2 := Hid.in hu2; have HT2 := Hid.in ht2; clear hu2 ht2)
    exact HQ.out _ _ _ _ _ _ _ _ _ _ (by rw [HE.out]; exact HU2.out) HT2.out
set_option maxRecDepth 100000 in
set_option maxHeartbeats 4000000 in
theorem dblk2 {u1 u3 u4 u5 u6 u7 u8 u9 u10 u11 u12 u13 u14 u15 u16 u19 u20 u21 u22 u23 u24 u25 u26 u27 u28 u29 u30 u31 u32 u33 u34 u35 u36 u37 u38 u39 u40 u41 u42 u43 u44 u45 u46 u47 u48 u49 u50 u51 u52 u53 u54 u55 u56 u57 u58 u59 u60 u61 u62 u63 u64 u65 u66 u67 u68 u69 u70 u71 u72 u73 u74 u75 u76 u77 u78 u79 u80 u81 u82 u83 u84 u85 u86 u87 u88 u89 u90 u91 u92 u93 u94 u95 u96 u97 u98 u99 u100 u101 u102 u103 u104 u105 u106 u107 u108 u109 u110 u111 u112 u113 u114 u115 u116 u117 u118 u119 u120 u121 u122 u123 u124 u125 u126 u127 u128 u129 u130 u131 u132 u133 u134 u135 u136 u137 u138 u139 u140 u141 u142 u143 u144 u145 u146 : Value} {ds : List Deferred} {W : World} {g : Rn} {F : Nat → Prop} {S : BS} {l xb : Nat} (hu : Ru W g F S) (hxF : F xb) (hx : CellsAt 16 W xb (fun _ => .int .u8 0)) (hh : hasB l S.len = true) (h16 : l % 16 = 0) {K : Act → World → Prop} (hk : ∀ (t18 t94 t95 t96 t97 t98 t99 t100 t101 t102 t103 t104 t105 t106 t107 t108 t109 : Value) (y : World), CellsAt 16 y xb (fun j => .int .u8 (S.mem (l - 65536 + j) : Nat)) → Turned (fun j => j = xb) W y → K ⟨#[.pointer (some ⟨g.p, 0, none⟩), u1, .int .i64 (l : Nat), u3, u4, u5, u6, u7, u8, u9, u10, u11, u12, u13, u14, u15, u16, .pointer (some ⟨xb, 0, none⟩), t18, u19, u20, u21, u22, u23, u24, u25, u26, u27, u28, u29, u30, u31, u32, u33, u34, u35, u36, u37, u38, u39, u40, u41, u42, u43, u44, u45, u46, u47, u48, u49, u50, u51, u52, u53, u54, u55, u56, u57, u58, u59, u60, u61, u62, u63, u64, u65, u66, u67, u68, u69, u70, u71, u72, u73, u74, u75, u76, u77, u78, u79, u80, u81, u82, u83, u84, u85, u86, u87, u88, u89, u90, u91, u92, u93, t94, t95, t96, t97, t98, t99, t100, t101, t102, t103, t104, t105, t106, t107, t108, t109, u110, u111, u112, u113, u114, u115, u116, u117, u118, u119, u120, u121, u122, u123, u124, u125, u126, u127, u128, u129, u130, u131, u132, u133, u134, u135, u136, u137, u138, u139, u140, u141, u142, u143, u144, u145, u146], ds⟩ y) : (blkIn Tryd.f30.body 2).wp Tryd.prog (Exit.then K NoX) ⟨#[.pointer (some ⟨g.p, 0, none⟩), u1, .int .i64 (l : Nat), u3, u4, u5, u6, u7, u8, u9, u10, u11, u12, u13, u14, u15, u16, .pointer (some ⟨xb, 0, none⟩), .int .i64 0, u19, u20, u21, u22, u23, u24, u25, u26, u27, u28, u29, u30, u31, u32, u33, u34, u35, u36, u37, u38, u39, u40, u41, u42, u43, u44, u45, u46, u47, u48, u49, u50, u51, u52, u53, u54, u55, u56, u57, u58, u59, u60, u61, u62, u63, u64, u65, u66, u67, u68, u69, u70, u71, u72, u73, u74, u75, u76, u77, u78, u79, u80, u81, u82, u83, u84, u85, u86, u87, u88, u89, u90, u91, u92, u93, u94, u95, u96, u97, u98, u99, u100, u101, u102, u103, u104, u105, u106, u107, u108, u109, u110, u111, u112, u113, u114, u115, u116, u117, u118, u119, u120, u121, u122, u123, u124, u125, u126, u127, u128, u129, u130, u131, u132, u133, u134, u135, u136, u137, u138, u139, u140, u141, u142, u143, u144, u145, u146], ds⟩ W := by
  have HQ := Hid.in hk
  have hb : 65536 ≤ l ∧ l < 65536 + S.len := by simpa [hasB] using hh
  obtain ⟨last, left, o1, -, o3, -, o5, o6, -⟩ := hu.own
  obtain ⟨hmq, hm⟩ := o3 (by omega)
  have m2 : W.cell? ⟨g.p, 2, none⟩ = some (.slice (some ⟨g.mb, 0, none⟩) S.len g.mc) := by rw [← hmq]; exact o1.cell 2 (by decide)
  have hp := o1.here
  have xm : g.mb ≠ xb := fun q => by
    obtain ⟨rv, R, la, le, k, hF⟩ := hu
    exact (hF xb hxF).2 (Or.inl (Or.inr (Or.inr (Or.inr ⟨by omega, q.symm⟩))))
  have xp : g.p ≠ xb := fun q => by
    obtain ⟨rv, R, la, le, k, hF⟩ := hu
    exact (hF xb hxF).2 (Or.inl (Or.inl q.symm))
  have HC : Hid (∀ wr, Turned (fun j => j = xb) W wr → wr.cell? ⟨g.p, 2, none⟩ = some (.slice (some ⟨g.mb, 0, none⟩) S.len g.mc) ∧ g.p < wr.heap.size ∧ CellsAt S.len wr g.mb (fun o => .int .u8 (S.mem o))) := by
    intro wr t
    exact ⟨t.to_cell hp xp m2, Nat.lt_of_lt_of_le hp t.size, t.cells hm xm⟩
  have HX := Hid.in hx
  obtain ⟨b, hbb⟩ : ∃ b : Nat, l - 65536 = b := ⟨_, rfl⟩
  rw [hbb] at HQ
  have hab : (l : Int) - 65536 = (b : Int) := by omega
  obtain ⟨len, hlen⟩ : ∃ len, S.len = len := ⟨_, rfl⟩
  rw [hlen] at HC
  have hbl : b + 16 ≤ len := by omega
  have hl4 : len ≤ 4096 := by omega
  have hmc := o6.2.2.2.2
  rw [hlen] at hmc
  clear hk hu hx hh h16 o1 o3 o5 o6 hmq hm m2 hb hbb hlen hxF
  show Code.wp _ (Code.block 2 (Code.loop _)) _ _ _
  go_wp2_with fail
  go_loopw [18] (fun iv wr => ∃ i : Nat, iv = .int .i64 i ∧ i ≤ 16 ∧ Hid (CellsAt 16 wr xb (fun j => .int .u8 (if j < i then S.mem (b + j) else 0 : Nat))) ∧ Hid (Turned (fun j => j = xb) W wr)) (fun iv _ => 17 - (intOf iv).toNat)
  case atStart => exact ⟨0, rfl, by omega, HX.out.ext (fun j _ => by rw [if_neg (by omega)]; rfl), Turned.refl _ _⟩
  case round =>
    obtain ⟨i, rfl, hi, HCC, HT⟩ := hrel
    obtain ⟨e0, e1, e2⟩ := HC.out wr HT.out
    by_cases hlt : i < 16
    · have hmm := e2.cell (b + i) (by omega)
      have hmh := e2.here
      have hcc := HCC.out.cell i hlt
      have hcf := HCC.out.free i
      have hch := HCC.out.here
      rw [if_neg (by omega)] at hcc
      have hlt' : (i : Int) < 16 := by omega
      have hi4 : (b : Int) + (i : Int) < (len : Int) := by omega
      have hi6 : (b : Int) ≤ 4096 := by omega
      obtain ⟨mv, hmv⟩ : ∃ mv, S.mem (b + i) = mv := ⟨_, rfl⟩
      rw [hmv] at hmm
      have HMV := Hid.in hmv
      clear e2 hmv
      go_wp2
      go_roundw
      case rel =>
        refine ⟨i + 1, by simp, by omega, (HCC.out.set i hlt _).ext fun o ho => ?_, HT.out.set rfl _ _⟩
        by_cases q : o = i
        · subst q
          rw [upd_same, if_pos (by omega), HMV.out]
        · rw [upd_other _ _ _ _ q]
          by_cases q2 : o < i
          · rw [if_pos q2, if_pos (by omega)]
          · rw [if_neg q2, if_neg (by omega)]
      case measure => simp [intOf]; omega
    · obtain rfl : i = 16 := by omega
      have hlt' : ¬ ((16 : Nat) : Int) < 16 := by omega
      clear e2
      go_wp2
      exact HQ.out _ _ _ _ _ _ _ _ _ _ _ _ _ _ _ _ _ _ (HCC.out.ext (fun j hj => by rw [if_pos hj])) HT.out
set_option maxRecDepth 100000 in
set_option maxHeartbeats 4000000 in
theorem dcond126 {u2 u3 u4 u5 u6 u7 u8 u10 u11 u12 u13 u14 u15 u16 u17 u18 u20 u21 u22 u23 u24 u25 u26 u27 u28 u29 u30 u31 u32 u33 u34 u35 u36 u37 u38 u39 u40 u41 u42 u43 u44 u45 u46 u47 u48 u49 u50 u51 u52 u53 u54 u55 u56 u57 u58 u59 u60 u61 u62 u63 u64 u65 u66 u67 u68 u69 u70 u71 u72 u73 u74 u75 u76 u77 u78 u79 u80 u81 u82 u83 u84 u85 u86 u87 u88 u89 u90 u91 u92 u93 u94 u95 u96 u97 u98 u99 u100 u101 u102 u103 u104 u105 u106 u107 u108 u109 u110 u111 u112 u113 u114 u115 u116 u117 u118 u119 u120 u121 u122 u123 u124 u125 u127 u128 u129 u130 u131 u132 u133 u134 u135 u136 u137 u138 u139 u140 u141 u142 u143 u144 u145 u146 : Value} {ds : List Deferred} {W : World} {g : Rn} {F : Nat → Prop} {D : BS} {c lb B : Nat} {cb : Bool} (fu : Bool) (hcb : cb = fu) {lf : Ln} {T : List Snp} {tv : Value} (hrow : W.ownsRow B 86 4 tv T.length (flatT T)) (hu : Ru W g (fun j => (F j ∨ tv.ownBlock = some j) ∨ j = lb) D) (hr : W.rangeAt lb 0 lf.rv) (hB : B ≤ W.heap.size) (hFB : ∀ j, F j → j < B) (hT : T.length ≤ 4) (hs : lf.s = 3 → lf.a < 4294967296 ∧ lf.a % 16 = 0 ∧ hasB lf.a D.len = true ∧ ∀ t, t < 16 → lf.b t < 256) {K : Act → World → Prop} (hk : ∀ (t127 t128 t129 t130 t131 t132 t133 t134 t135 t136 t137 t138 : Value) (tv' : Value) (y : World), y.ownsRow B 86 4 tv' (T ++ told1 fu c lf).length (flatT (T ++ told1 fu c lf)) → Ru y g (fun j => F j ∨ tv'.ownBlock = some j) (if fu then D.wb lf else D) → Turned (fun j => ¬ F j) W y → K ⟨#[.pointer (some ⟨g.p, 0, none⟩), .int .i64 (c : Nat), u2, u3, u4, u5, u6, u7, u8, tv', u10, u11, u12, u13, u14, u15, u16, u17, u18, .pointer (some ⟨lb, 0, none⟩), u20, u21, u22, u23, u24, u25, u26, u27, u28, u29, u30, u31, u32, u33, u34, u35, u36, u37, u38, u39, u40, u41, u42, u43, u44, u45, u46, u47, u48, u49, u50, u51, u52, u53, u54, u55, u56, u57, u58, u59, u60, u61, u62, u63, u64, u65, u66, u67, u68, u69, u70, u71, u72, u73, u74, u75, u76, u77, u78, u79, u80, u81, u82, u83, u84, u85, u86, u87, u88, u89, u90, u91, u92, u93, u94, u95, u96, u97, u98, u99, u100, u101, u102, u103, u104, u105, u106, u107, u108, u109, u110, u111, u112, u113, u114, u115, u116, u117, u118, u119, u120, u121, u122, u123, u124, u125, .bool cb, t127, t128, t129, t130, t131, t132, t133, t134, t135, t136, t137, t138, u139, u140, u141, u142, u143, u144, u145, u146], ds⟩ y) : (cndIn Tryd.f30.body 126).wp Tryd.prog (Exit.then K NoX) ⟨#[.pointer (some ⟨g.p, 0, none⟩), .int .i64 (c : Nat), u2, u3, u4, u5, u6, u7, u8, tv, u10, u11, u12, u13, u14, u15, u16, u17, u18, .pointer (some ⟨lb, 0, none⟩), u20, u21, u22, u23, u24, u25, u26, u27, u28, u29, u30, u31, u32, u33, u34, u35, u36, u37, u38, u39, u40, u41, u42, u43, u44, u45, u46, u47, u48, u49, u50, u51, u52, u53, u54, u55, u56, u57, u58, u59, u60, u61, u62, u63, u64, u65, u66, u67, u68, u69, u70, u71, u72, u73, u74, u75, u76, u77, u78, u79, u80, u81, u82, u83, u84, u85, u86, u87, u88, u89, u90, u91, u92, u93, u94, u95, u96, u97, u98, u99, u100, u101, u102, u103, u104, u105, u106, u107, u108, u109, u110, u111, u112, u113, u114, u115, u116, u117, u118, u119, u120, u121, u122, u123, u124, u125, .bool cb, u127, u128, u129, u130, u131, u132, u133, u134, u135, u136, u137, u138, u139, u140, u141, u142, u143, u144, u145, u146], ds⟩ W := by
  subst hcb
  have HQ := Hid.in hk
  show Code.wp _ (Code.cond (.tmp 126) _ _) _ _ _
  cases cb
  · have HROW := Hid.in hrow
    have HU := Hid.in hu
    clear hk hu hrow hr
    go_wp2
    exact HQ.out _ _ _ _ _ _ _ _ _ _ _ _ _ _ (by simpa [told1] using HROW.out) (HU.out.less (fun z hz => Or.inl hz)) (Turned.refl _ _)
  · have hlb : lb < W.heap.size := hu.here (Or.inr rfl)
    have HKP := Hid.in (rukeep hu lf hs)
    have HROW := Hid.in hrow
    have HR := Hid.in hr
    have HB := Hid.in hB
    have HFB := Hid.in hFB
    have HT := Hid.in hT
    have HLB := Hid.in hlb
    clear hk hu hrow hs hB hFB hT
    go_upto_region 27 with (first
      | (refine rld lb 0 lf hr rfl _ rfl rfl ?_)
      | (go_at_call 52; refine HKP.out.mono ?_; rintro e' w3 ⟨rfl, hu3, ht3⟩; have HU3 := Hid.in hu3; have HT3 := Hid.in ht3; clear hu3 ht3))
    have row3 := own_turned HROW.out HT3.out (fun j hj q => q (Or.inl (Or.inr hj)))
    have r3 := range_turned HR.out HT3.out HLB.out (fun q => q (Or.inr rfl))
    have l0 : w3.cell? ⟨lb, 0, none⟩ = some (.int .i64 lf.a) := r3 0 _ rfl
    have l1 : w3.cell? ⟨lb, 1, none⟩ = some (.int .i64 lf.s) := r3 1 _ rfl
    have lh : lb < w3.heap.size := Nat.lt_of_lt_of_le HLB.out HT3.out.size
    obtain ⟨g2, cap, z4, hrun, r1, r2, r5⟩ := app_rs w3 tv T ⟨c, lf.a, lf.s, 0⟩ row3 (by have := HT.out; omega) (Nat.le_trans HB.out HT3.out.size)
    have HR1 := Hid.in r1
    have HR2 := Hid.in r2
    have HR5 := Hid.in r5
    clear r1 r2 r5 row3 r3 hr
    go_wp2_with (at_builtin; refine wpList_append_run rfl rfl rfl rfl hrun ?_)
    refine HQ.out _ _ _ _ _ _ _ _ _ _ _ _ _ _ (by rw [show T ++ told1 true c lf = T ++ [⟨c, lf.a, lf.s, 0⟩] from rfl, List.length_append]; exact HR1.out) ?_ ?_
    · have u4 := HU3.out.turn HR2.out (fun z hz _ => Or.inl (Or.inr hz))
      refine u4.less (fun z hz => ?_)
      rcases hz with hz | hz
      · exact Or.inl (Or.inl (Or.inl hz))
      · have hz' : g2 = z := by simpa [Value.ownBlock] using hz
        subst hz'
        rcases HR5.out with q | q
        · exact Or.inl (Or.inl (Or.inr q.symm))
        · exact Or.inr ⟨q, (own_base HR1.out g2 rfl).2⟩
    · refine (HT3.out.mono (fun j q f => q (Or.inl (Or.inl f)))).trans (HR2.out.mono (fun j q f => ?_))
      have h1 := (own_base HROW.out j q).1
      have f2 := HFB.out j f
      omega
end Go.Proofs.YtlogdmnhngbkaaaDoor
