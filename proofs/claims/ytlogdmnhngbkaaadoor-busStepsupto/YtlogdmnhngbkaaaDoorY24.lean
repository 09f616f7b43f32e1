import Derived.Test.YtlogdmnhngbkaaaDoorY23
import Derived.Deep.CutBlock
import Derived.StillTailTactics
/-
  BUS: the answer's done: its loop over the caches.
-/
namespace Go.Proofs.YtlogdmnhngbkaaaDoor
open Go Go.RowKit
def condOf (t : Nat) : Code → Option Code
  | .cond (.tmp s) x y => bif s == t then some (.cond (.tmp s) x y) else (condOf t x).or (condOf t y)
  | .cond _ x y => (condOf t x).or (condOf t y)
  | .seq x y => (condOf t x).or (condOf t y)
  | .block _ x => condOf t x
  | .loop x => condOf t x
  | .scope x => condOf t x
  | _ => none
def regOf (t : Nat) : Code → Option Code
  | .region i o d => bif i == t then some (.region i o d) else none
  | .cond _ x y => (regOf t x).or (regOf t y)
  | .seq x y => (regOf t x).or (regOf t y)
  | .block _ x => regOf t x
  | .loop x => regOf t x
  | .scope x => regOf t x
  | _ => none
def blkOf (t : Nat) : Code → Option Code
  | .block i x => bif i == t then some (.block i x) else blkOf t x
  | .cond _ x y => (blkOf t x).or (blkOf t y)
  | .seq x y => (blkOf t x).or (blkOf t y)
  | .loop x => blkOf t x
  | .scope x => blkOf t x
  | _ => none
def cndIn (c : Option Code) (t : Nat) : Code := (c.bind (condOf t)).getD .skip
def regIn (c : Option Code) (t : Nat) : Code := (c.bind (regOf t)).getD .skip
def blkIn (c : Option Code) (t : Nat) : Code := (c.bind (blkOf t)).getD .skip
def opsIn : Code → Array Oper
  | .region _ o _ => o
  | _ => #[]
abbrev NoX : Exit → Act → World → Prop := fun _ _ _ => False
theorem wp_any {P : Program} {s : Code} {K : Act → World → Prop} {Q' : Exit → Act → World → Prop} {a : Act} {w : World} (h : s.wp P (Exit.then K NoX) a w) : s.wp P (Exit.then K Q') a w := by
  refine wp_mono h ?_
  intro e a' w' hq
  cases e with
  | normal => exact hq
  | exit id => exact hq.elim
  | goto l => exact hq.elim
  | ret => exact hq.elim
  | panic ch => exact hq.elim
  | outgrown => exact hq.elim
theorem wp_then {P : Program} {s : Code} {Q : Exit → Act → World → Prop} {a : Act} {w : World} (h : s.wp P (Exit.then (Q .normal) Q) a w) : s.wp P Q a w := by
  refine wp_mono h ?_
  intro e a' w' hq
  cases e with
  | normal => exact hq
  | exit id => exact hq
  | goto l => exact hq
  | ret => exact hq
  | panic ch => exact hq
  | outgrown => exact hq

structure Dn (W : World) (g : Rn) (F : Nat → Prop) (R : Nat → BS) (T : Nat → List Snp) (i : Nat) (tv : Value) (w : World) : Prop where
  row : w.ownsRow W.heap.size 86 4 tv (T i).length (flatT (T i))
  u : Ru w g (fun j => F j ∨ tv.ownBlock = some j) (R i)
  t : Turned (fun j => ¬ F j) W w
theorem Dn.next {W w z : World} {g : Rn} {F : Nat → Prop} {R : Nat → BS} {T : Nat → List Snp} {i : Nat} {tv : Value} (d : Dn W g F R T i tv w) (b : Below w.heap.size w z) (h1 : R (i + 1) = R i) (h2 : T (i + 1) = T i) : Dn W g F R T (i + 1) tv z := by
  refine ⟨?_, ?_, d.t.trans (Turned.of_below b)⟩
  · rw [h2]
    exact own_turned d.row (Turned.of_below (Q := fun _ => False) b) (fun _ _ q => q)
  · rw [h1]
    exact d.u.below b
set_option maxRecDepth 100000 in
set_option maxHeartbeats 4000000 in
theorem dblk0_t {u4 u5 u6 u7 u8 u12 u13 u14 u15 u16 u17 u18 u19 u20 u21 u22 u23 u24 u25 u26 u27 u28 u29 u30 u31 u32 u33 u34 u35 u36 u37 u38 u39 u40 u41 u42 u43 u44 u45 u46 u47 u48 u49 u50 u51 u52 u53 u54 u55 u56 u57 u58 u59 u60 u61 u62 u63 u64 u65 u66 u67 u68 u69 u70 u71 u72 u73 u74 u75 u76 u77 u78 u79 u80 u81 u82 u83 u84 u85 u86 u87 u88 u89 u90 u91 u92 u93 u94 u95 u96 u97 u98 u99 u100 u101 u102 u103 u104 u105 u106 u107 u108 u109 u110 u111 u112 u113 u114 u115 u116 u117 u118 u119 u120 u121 u122 u123 u124 u125 u126 u127 u128 u129 u130 u131 u132 u133 u134 u135 u136 u137 u138 u139 u140 u141 u142 u143 u144 u145 u146 : Value} {ds : List Deferred} {W : World} {g : Rn} {F : Nat → Prop} {S : BS} (l : Nat) (h : Ru W g F S) (hl : l < 4294967296) (h16 : l % 16 = 0) (hh : hasB l S.len = true) (h8 : ∀ i, i < S.nc → ∀ t, ((S.c i).ln l).b t < 256) {K : Act → World → Prop} (hk : ∀ (t11 t12 t13 t14 t15 t21 t22 t23 t24 t25 t26 t27 t28 t29 t30 t31 t32 t33 t34 t35 t36 t37 t38 t39 t40 t41 t42 t43 t44 t45 t46 t47 t48 t49 t50 t51 t52 t53 t54 t55 t56 t57 t58 t59 t60 t61 t62 t63 t64 t65 t66 t67 t68 t69 t70 t71 t72 t73 : Value) (tv : Value) (y : World), Dn W g F (S.lowN l 0) (S.toldN l 0) S.nc tv y → K ⟨#[.pointer (some ⟨g.p, 0, none⟩), .int .i64 (S.turn : Nat), .int .i64 (l : Nat), .bool true, u4, u5, u6, u7, u8, tv, .int .i64 (S.toA l true S.nc : Nat), t11, t12, t13, t14, t15, u16, u17, u18, u19, u20, t21, t22, t23, t24, t25, t26, t27, t28, t29, t30, t31, t32, t33, t34, t35, t36, t37, t38, t39, t40, t41, t42, t43, t44, t45, t46, t47, t48, t49, t50, t51, t52, t53, t54, t55, t56, t57, t58, t59, t60, t61, t62, t63, t64, t65, t66, t67, t68, t69, t70, t71, t72, t73, u74, u75, u76, u77, u78, u79, u80, u81, u82, u83, u84, u85, u86, u87, u88, u89, u90, u91, u92, u93, u94, u95, u96, u97, u98, u99, u100, u101, u102, u103, u104, u105, u106, u107, u108, u109, u110, u111, u112, u113, u114, u115, u116, u117, u118, u119, u120, u121, u122, u123, u124, u125, u126, u127, u128, u129, u130, u131, u132, u133, u134, u135, u136, u137, u138, u139, u140, u141, u142, u143, u144, u145, u146], ds⟩ y) : (blkIn Tryd.f30.body 0).wp Tryd.prog (Exit.then K NoX) ⟨#[.pointer (some ⟨g.p, 0, none⟩), .int .i64 (S.turn : Nat), .int .i64 (l : Nat), .bool true, u4, u5, u6, u7, u8, .slice none 0 0, .int .i64 2, .int .i64 0, u12, u13, u14, u15, u16, u17, u18, u19, u20, u21, u22, u23, u24, u25, u26, u27, u28, u29, u30, u31, u32, u33, u34, u35, u36, u37, u38, u39, u40, u41, u42, u43, u44, u45, u46, u47, u48, u49, u50, u51, u52, u53, u54, u55, u56, u57, u58, u59, u60, u61, u62, u63, u64, u65, u66, u67, u68, u69, u70, u71, u72, u73, u74, u75, u76, u77, u78, u79, u80, u81, u82, u83, u84, u85, u86, u87, u88, u89, u90, u91, u92, u93, u94, u95, u96, u97, u98, u99, u100, u101, u102, u103, u104, u105, u106, u107, u108, u109, u110, u111, u112, u113, u114, u115, u116, u117, u118, u119, u120, u121, u122, u123, u124, u125, u126, u127, u128, u129, u130, u131, u132, u133, u134, u135, u136, u137, u138, u139, u140, u141, u142, u143, u144, u145, u146], ds⟩ W := by
  have HQ := Hid.in hk
  have d0 : Dn W g F (S.lowN l 0) (S.toldN l 0) 0 (.slice none 0 0) W := ⟨World.ownsRow_nil _ _ _ _, h.less (fun j hj => hj.elim id (fun q => by simp [Value.ownBlock] at q)), Turned.refl _ _⟩
  have HD0 := Hid.in d0
  have HSN := Hid.in (lowN_same S l 0)
  have HTL := Hid.in (told_le S l 0)
  have HYES : Hid (∀ i, S.lows l 0 i → (S.lowN l 0 (i + 1)) = ((S.lowN l 0 i).cput i ((S.c i).lowTo l 0)).wb ((S.c i).ln l) ∧ S.toldN l 0 (i + 1) = S.toldN l 0 i ++ [⟨i, l, ((S.c i).ln l).s, 0⟩]) := fun i h => low_yes h
  have HNO : Hid (∀ i, ¬ S.lows l 0 i → (S.lowN l 0 (i + 1)) = S.lowN l 0 i ∧ S.toldN l 0 (i + 1) = S.toldN l 0 i) := fun i h => low_no h
  have HT0 := Hid.in (toA_0 S l true)
  have HL := Hid.in hl
  have H16 := Hid.in h16
  have HH := Hid.in hh
  have H8 := Hid.in h8
  have hnc : S.nc ≤ 2 := by obtain ⟨-, -, -, -, -, -, o, -⟩ := h.own; exact o.2.1
  have HF : Hid (∀ j, F j → j < W.heap.size) := fun j hj => h.here hj
  obtain ⟨R, hR⟩ : ∃ R, S.lowN l 0 = R := ⟨_, rfl⟩
  obtain ⟨T, hT⟩ : ∃ T, S.toldN l 0 = T := ⟨_, rfl⟩
  rw [hR] at HSN HYES HNO HD0 HQ
  rw [hT] at HTL HYES HNO HD0 HQ
  clear hk hR hT h hl h16 hh h8 d0
  show Code.wp _ (Code.block 0 (Code.loop _)) _ _ _
  go_wp2_with fail
  go_loopw [9, 10, 11] (fun tv tov iv wr => ∃ i : Nat, iv = .int .i64 i ∧ tov = .int .i64 (S.toA l true i : Nat) ∧ i ≤ S.nc ∧ Hid (Dn W g F R T i tv wr)) (fun _ _ iv _ => 3 - (intOf iv).toNat)
  case atStart => exact ⟨0, rfl, by rw [HT0.out]; rfl, by omega, HD0⟩
  case round =>
    obtain ⟨i, rfl, rfl, hi, HD⟩ := hrel
    obtain ⟨s1, s2, s3, s4⟩ := HSN.out i
    obtain ⟨last, left, o1, o2, -, -, o4, o5, -⟩ := HD.out.u.own
    rw [s2] at o2 o5
    have c0 : wr.cell? ⟨g.p, 0, none⟩ = some (.slice (some ⟨g.cb, 0, none⟩) S.nc g.cc) := by rw [← s2]; exact o1.cell 0 (by decide)
    have hp := o1.here
    have hcb := o2.here
    obtain ⟨to0, hto0⟩ : ∃ t0, S.toA l true i = t0 := ⟨_, rfl⟩
    by_cases hlt : i < S.nc
    · have hlt' : (i : Int) < (S.nc : Int) := by omega
      have hlt2 : i < (R i).nc := by rw [s2]; exact hlt
      have r0 : wr.cell? ⟨g.cb, i, none⟩ = some (.pointer (some ⟨g.q i, 0, none⟩)) := o2.cell i hlt
      have HST := Hid.in (rucst HD.out.u i l hlt2 HL.out)
      rw [s4 i (Nat.le_refl _)] at HST
      have HS4 := Hid.in (s4 i (Nat.le_refl _))
      have HLT2 := Hid.in hlt2
      have HS3 := Hid.in s3
      rw [hto0]
      have HTO := Hid.in hto0
      have hu : undef = Value.tuple #[] := rfl
      clear o1 o2 o4 o5 s1 s2 s3 s4 hlt2 hto0
      by_cases ht : (i : Int) = (S.turn : Int)
      · have hq : ((i : Int) == (S.turn : Int)) = true := by simp; omega
        have hq2 : decide ((i : Int) = (S.turn : Int)) = true := decide_eq_true ht
        have HTT := Hid.in ht
        obtain ⟨st, hst⟩ : ∃ st, (S.c i).st l = st := ⟨_, rfl⟩
        rw [hst] at HST
        clear ht hst
        go_wp2_with (go_at_call 37; refine HST.out.mono ?_; rintro e z ⟨rfl, hz⟩; have hz2 := hz.symm; clear hz; subst hz2)
        go_roundw
        case rel =>
          have hn : ¬ S.lows l 0 i := fun h => h.1 (by have := HTT.out; omega)
          obtain ⟨n1, n2⟩ := HNO.out i hn
          exact ⟨i + 1, by simp, by rw [toA_same (Or.inl (by have := HTT.out; omega)), HTO.out], by omega, HD.out.next (Below.refl _ _) n1 n2⟩
        case measure =>
          simp [intOf]
          omega
      · have hq : ((i : Int) == (S.turn : Int)) = false := by simp; omega
        have hq2 : decide ((i : Int) = (S.turn : Int)) = false := decide_eq_false ht
        have HTT := Hid.in ht
        clear ht
        by_cases hs : (S.c i).st l = 0
        · have HSS := Hid.in hs
          rw [hs] at HST
          clear hs
          go_wp2_with (go_at_call 37; refine HST.out.mono ?_; rintro e z ⟨rfl, hz⟩; have hz2 := hz.symm; clear hz; subst hz2)
          go_roundw
          case rel =>
            have hn : ¬ S.lows l 0 i := fun h => by have h1 := h.2; have h2 := HSS.out; omega
            obtain ⟨n1, n2⟩ := HNO.out i hn
            exact ⟨i + 1, by simp, by rw [toA_same (Or.inr HSS.out), HTO.out], by omega, HD.out.next (Below.refl _ _) n1 n2⟩
          case measure =>
            simp [intOf]
            omega
        · have HLW : Hid (S.lows l 0 i) := ⟨by have := HTT.out; omega, by omega⟩
          have HLO : Hid (Calls Tryd.prog 51 #[.pointer (some ⟨g.q i, 0, none⟩), .int .i64 l, .int .i64 0] wr fun e w' => e = .returned (.tuple #[.agg ((S.c i).ln l).rv.toArray, .int .i64 0]) ∧ Ru w' g (fun q => F q ∨ u9.ownBlock = some q) ((R i).cput i ((S.c i).lowTo l 0)) ∧ Turned (fun j => ¬ (F j ∨ u9.ownBlock = some j)) wr w') := by
            have := rulower HD.out.u i l 0 HLT2.out HL.out H16.out (by omega) (by rw [HS4.out]; omega)
            rw [HS4.out] at this
            exact this
          have hbad : ((S.c i).ln l).s = 3 → ((S.c i).ln l).a < 4294967296 ∧ ((S.c i).ln l).a % 16 = 0 ∧ hasB ((S.c i).ln l).a S.len = true ∧ (∀ t, t < 16 → ((S.c i).ln l).b t < 256) := fun _ => by
            rw [ln_a (T := S.c i) (a := l) (by omega), lineOf_self H16.out]
            exact ⟨HL.out, H16.out, HH.out, fun t _ => H8.out i hlt t⟩
          have hse : (S.c i).st l = ((S.c i).ln l).s := (CS.st_ix (T := S.c i) (a := l) (by omega)).2
          obtain ⟨e, he⟩ : ∃ e, (S.c i).ln l = e := ⟨_, rfl⟩
          obtain ⟨y1, y2⟩ := HYES.out i HLW.out
          rw [he] at HLO hbad y1 y2 hse
          have HBAD := Hid.in hbad
          have HY1 := Hid.in y1
          have HY2 := Hid.in y2
          have HTE : Hid (Value.int .i64 (to0 : Int) = .int .i64 (S.toA l true (i + 1) : Nat)) := by have h1 := HTO.out; rw [toA_w] at h1; rw [toA_w, ← h1]; exact rfl
          rw [hse] at HST
          have hs' : ¬ ((e.s : Int) = 0) := by omega
          have hs2 : decide ((e.s : Int) = 0) = false := decide_eq_false hs'
          have hs3 : ((e.s : Int) == 0) = false := by simp; omega
          clear hs y1 y2 hbad he HNO HYES hse HS4
          go_upto_region 14 with (first
            | (go_at_call 37; refine HST.out.mono ?_; rintro e' z ⟨rfl, hz⟩; have hz2 := hz.symm; clear hz; subst hz2)
            | (go_at_call 51; refine HLO.out.mono ?_; rintro e' w2 ⟨rfl, hu2, ht2⟩; have HU2 := Hid.in hu2; have HT2 := Hid.in ht2; clear hu2 ht2)
            | (refine rstn w2 e zr rfl w2.heap.size rfl rfl rfl _ _ rfl rfl rfl ?_))
          obtain ⟨X, hX⟩ : ∃ X, w2.alloc (.cells e.rv.toArray 104) = X := ⟨_, rfl⟩
          obtain ⟨lb, hlb⟩ : ∃ lb, w2.heap.size = lb := ⟨_, rfl⟩
          have b2 : Below w2.heap.size w2 X := by rw [← hX]; exact (Below.refl _ _).alloc (Nat.le_refl _) _
          have rX : X.rangeAt lb 0 e.rv := by rw [← hX, ← hlb]; exact rrange_new w2 e _
          have uX := HU2.out.below b2
          have tX : Turned (fun j => ¬ (F j ∨ u9.ownBlock = some j)) wr X := HT2.out.trans (Turned.of_below b2)
          have rowX : X.ownsRow W.heap.size 86 4 u9 (T i).length (flatT (T i)) := own_turned HD.out.row tX (fun j hj q => q (Or.inr hj))
          have HKP := Hid.in (rukeep uX e (by
            show e.s = 3 → _
            intro q
            obtain ⟨z1, z2, z3, z4⟩ := HBAD.out q
            refine ⟨z1, z2, ?_, z4⟩
            show hasB e.a (R i).len = true
            rw [HS3.out]
            exact z3))
          have HTX := Hid.in tX
          have HRX := Hid.in rowX
          rw [hX, hlb]
          clear hX b2 uX tX rowX hlb
          go_upto_region 15 with (first
            | (refine rld lb 0 e rX rfl _ rfl rfl ?_)
            | (go_at_call 52; refine HKP.out.mono ?_; rintro e' w3 ⟨rfl, hu3, ht3⟩; have HU3 := Hid.in hu3; have HT3 := Hid.in ht3; clear hu3 ht3))
          have row3 := own_turned HRX.out HT3.out (fun j hj q => q (Or.inr hj))
          have tl := HTL.out i
          have h31 : W.heap.size ≤ w3.heap.size := by have h1 := HD.out.t.size; have h2 := HTX.out.size; have h3 := HT3.out.size; omega
          obtain ⟨g2, cap, z4, hrun, r1, r2, r3⟩ := app_rs w3 u9 (T i) ⟨i, l, e.s, 0⟩ row3 (by omega) h31
          have HR1 := Hid.in r1
          have HR2 := Hid.in r2
          have HR3 := Hid.in r3
          clear rX row3 r1 r2 r3 tl h31
          go_wp2_with (at_builtin; refine wpList_append_run rfl rfl rfl rfl hrun ?_)
          go_roundw
          case rel =>
            refine ⟨i + 1, by simp, HTE.out, by omega, ⟨?_, ?_, ?_⟩⟩
            · rw [HY2.out, List.length_append]
              exact HR1.out
            · rw [HY1.out]
              have u4 := HU3.out.turn HR2.out (fun z hz _ => Or.inr hz)
              refine u4.less (fun z hz => ?_)
              rcases hz with hz | hz
              · exact Or.inl (Or.inl hz)
              · have hz' : g2 = z := by simpa [Value.ownBlock] using hz
                subst hz'
                rcases HR3.out with q | q
                · exact Or.inl (Or.inr q.symm)
                · exact Or.inr ⟨q, (own_base HR1.out g2 rfl).2⟩
            · have m1 : Turned (fun j => ¬ F j) wr X := HTX.out.mono (fun j q f => q (Or.inl f))
              have m2 : Turned (fun j => ¬ F j) X w3 := HT3.out.mono (fun j q f => q (Or.inl f))
              refine ((HD.out.t.trans m1).trans m2).trans (HR2.out.mono (fun j q f => ?_))
              have h1 := (own_base HD.out.row j q).1
              have f2 := HF.out j f
              omega
          case measure =>
            simp [intOf]
            omega

    · obtain rfl : i = S.nc := by omega
      have hlt' : ¬ (S.nc : Int) < (S.nc : Int) := by omega
      rw [hto0]
      have HTO := Hid.in hto0
      clear hto0 s1 s2 s3 s4 o1 o2 o4 o5
      go_wp2
      rw [← HTO.out]
      exact HQ.out _ _ _ _ _ _ _ _ _ _ _ _ _ _ _ _ _ _ _ _ _ _ _ _ _ _ _ _ _ _ _ _ _ _ _ _ _ _ _ _ _ _ _ _ _ _ _ _ _ _ _ _ _ _ _ _ _ _ _ _ HD.out
set_option maxRecDepth 100000 in
set_option maxHeartbeats 4000000 in
theorem dblk0_f {u4 u5 u6 u7 u8 u12 u13 u14 u15 u16 u17 u18 u19 u20 u21 u22 u23 u24 u25 u26 u27 u28 u29 u30 u31 u32 u33 u34 u35 u36 u37 u38 u39 u40 u41 u42 u43 u44 u45 u46 u47 u48 u49 u50 u51 u52 u53 u54 u55 u56 u57 u58 u59 u60 u61 u62 u63 u64 u65 u66 u67 u68 u69 u70 u71 u72 u73 u74 u75 u76 u77 u78 u79 u80 u81 u82 u83 u84 u85 u86 u87 u88 u89 u90 u91 u92 u93 u94 u95 u96 u97 u98 u99 u100 u101 u102 u103 u104 u105 u106 u107 u108 u109 u110 u111 u112 u113 u114 u115 u116 u117 u118 u119 u120 u121 u122 u123 u124 u125 u126 u127 u128 u129 u130 u131 u132 u133 u134 u135 u136 u137 u138 u139 u140 u141 u142 u143 u144 u145 u146 : Value} {ds : List Deferred} {W : World} {g : Rn} {F : Nat → Prop} {S : BS} (l : Nat) (h : Ru W g F S) (hl : l < 4294967296) (h16 : l % 16 = 0) (hh : hasB l S.len = true) (h8 : ∀ i, i < S.nc → ∀ t, ((S.c i).ln l).b t < 256) {K : Act → World → Prop} (hk : ∀ (t11 t12 t13 t14 t15 t21 t22 t23 t24 t25 t26 t27 t28 t29 t30 t31 t32 t33 t34 t35 t36 t37 t38 t39 t40 t41 t42 t43 t44 t45 t46 t47 t48 t49 t50 t51 t52 t53 t54 t55 t56 t57 t58 t59 t60 t61 t62 t63 t64 t65 t66 t67 t68 t69 t70 t71 t72 t73 : Value) (tv : Value) (y : World), Dn W g F (S.lowN l 1) (S.toldN l 1) S.nc tv y → K ⟨#[.pointer (some ⟨g.p, 0, none⟩), .int .i64 (S.turn : Nat), .int .i64 (l : Nat), .bool false, u4, u5, u6, u7, u8, tv, .int .i64 (S.toA l false S.nc : Nat), t11, t12, t13, t14, t15, u16, u17, u18, u19, u20, t21, t22, t23, t24, t25, t26, t27, t28, t29, t30, t31, t32, t33, t34, t35, t36, t37, t38, t39, t40, t41, t42, t43, t44, t45, t46, t47, t48, t49, t50, t51, t52, t53, t54, t55, t56, t57, t58, t59, t60, t61, t62, t63, t64, t65, t66, t67, t68, t69, t70, t71, t72, t73, u74, u75, u76, u77, u78, u79, u80, u81, u82, u83, u84, u85, u86, u87, u88, u89, u90, u91, u92, u93, u94, u95, u96, u97, u98, u99, u100, u101, u102, u103, u104, u105, u106, u107, u108, u109, u110, u111, u112, u113, u114, u115, u116, u117, u118, u119, u120, u121, u122, u123, u124, u125, u126, u127, u128, u129, u130, u131, u132, u133, u134, u135, u136, u137, u138, u139, u140, u141, u142, u143, u144, u145, u146], ds⟩ y) : (blkIn Tryd.f30.body 0).wp Tryd.prog (Exit.then K NoX) ⟨#[.pointer (some ⟨g.p, 0, none⟩), .int .i64 (S.turn : Nat), .int .i64 (l : Nat), .bool false, u4, u5, u6, u7, u8, .slice none 0 0, .int .i64 2, .int .i64 0, u12, u13, u14, u15, u16, u17, u18, u19, u20, u21, u22, u23, u24, u25, u26, u27, u28, u29, u30, u31, u32, u33, u34, u35, u36, u37, u38, u39, u40, u41, u42, u43, u44, u45, u46, u47, u48, u49, u50, u51, u52, u53, u54, u55, u56, u57, u58, u59, u60, u61, u62, u63, u64, u65, u66, u67, u68, u69, u70, u71, u72, u73, u74, u75, u76, u77, u78, u79, u80, u81, u82, u83, u84, u85, u86, u87, u88, u89, u90, u91, u92, u93, u94, u95, u96, u97, u98, u99, u100, u101, u102, u103, u104, u105, u106, u107, u108, u109, u110, u111, u112, u113, u114, u115, u116, u117, u118, u119, u120, u121, u122, u123, u124, u125, u126, u127, u128, u129, u130, u131, u132, u133, u134, u135, u136, u137, u138, u139, u140, u141, u142, u143, u144, u145, u146], ds⟩ W := by
  have HQ := Hid.in hk
  have d0 : Dn W g F (S.lowN l 1) (S.toldN l 1) 0 (.slice none 0 0) W := ⟨World.ownsRow_nil _ _ _ _, h.less (fun j hj => hj.elim id (fun q => by simp [Value.ownBlock] at q)), Turned.refl _ _⟩
  have HD0 := Hid.in d0
  have HSN := Hid.in (lowN_same S l 1)
  have HTL := Hid.in (told_le S l 1)
  have HYES : Hid (∀ i, S.lows l 1 i → (S.lowN l 1 (i + 1)) = ((S.lowN l 1 i).cput i ((S.c i).lowTo l 1)).wb ((S.c i).ln l) ∧ S.toldN l 1 (i + 1) = S.toldN l 1 i ++ [⟨i, l, ((S.c i).ln l).s, 1⟩]) := fun i h => low_yes h
  have HNO : Hid (∀ i, ¬ S.lows l 1 i → (S.lowN l 1 (i + 1)) = S.lowN l 1 i ∧ S.toldN l 1 (i + 1) = S.toldN l 1 i) := fun i h => low_no h
  have HT0 := Hid.in (toA_0 S l false)
  have HL := Hid.in hl
  have H16 := Hid.in h16
  have HH := Hid.in hh
  have H8 := Hid.in h8
  have hnc : S.nc ≤ 2 := by obtain ⟨-, -, -, -, -, -, o, -⟩ := h.own; exact o.2.1
  have HF : Hid (∀ j, F j → j < W.heap.size) := fun j hj => h.here hj
  obtain ⟨R, hR⟩ : ∃ R, S.lowN l 1 = R := ⟨_, rfl⟩
  obtain ⟨T, hT⟩ : ∃ T, S.toldN l 1 = T := ⟨_, rfl⟩
  rw [hR] at HSN HYES HNO HD0 HQ
  rw [hT] at HTL HYES HNO HD0 HQ
  clear hk hR hT h hl h16 hh h8 d0
  show Code.wp _ (Code.block 0 (Code.loop _)) _ _ _
  go_wp2_with fail
  go_loopw [9, 10, 11] (fun tv tov iv wr => ∃ i : Nat, iv = .int .i64 i ∧ tov = .int .i64 (S.toA l false i : Nat) ∧ i ≤ S.nc ∧ Hid (Dn W g F R T i tv wr)) (fun _ _ iv _ => 3 - (intOf iv).toNat)
  case atStart => exact ⟨0, rfl, by rw [HT0.out]; rfl, by omega, HD0⟩
  case round =>
    obtain ⟨i, rfl, rfl, hi, HD⟩ := hrel
    obtain ⟨s1, s2, s3, s4⟩ := HSN.out i
    obtain ⟨last, left, o1, o2, -, -, o4, o5, -⟩ := HD.out.u.own
    rw [s2] at o2 o5
    have c0 : wr.cell? ⟨g.p, 0, none⟩ = some (.slice (some ⟨g.cb, 0, none⟩) S.nc g.cc) := by rw [← s2]; exact o1.cell 0 (by decide)
    have hp := o1.here
    have hcb := o2.here
    obtain ⟨to0, hto0⟩ : ∃ t0, S.toA l false i = t0 := ⟨_, rfl⟩
    by_cases hlt : i < S.nc
    · have hlt' : (i : Int) < (S.nc : Int) := by omega
      have hlt2 : i < (R i).nc := by rw [s2]; exact hlt
      have r0 : wr.cell? ⟨g.cb, i, none⟩ = some (.pointer (some ⟨g.q i, 0, none⟩)) := o2.cell i hlt
      have HST := Hid.in (rucst HD.out.u i l hlt2 HL.out)
      rw [s4 i (Nat.le_refl _)] at HST
      have HS4 := Hid.in (s4 i (Nat.le_refl _))
      have HLT2 := Hid.in hlt2
      have HS3 := Hid.in s3
      rw [hto0]
      have HTO := Hid.in hto0
      have hu : undef = Value.tuple #[] := rfl
      clear o1 o2 o4 o5 s1 s2 s3 s4 hlt2 hto0
      by_cases ht : (i : Int) = (S.turn : Int)
      · have hq : ((i : Int) == (S.turn : Int)) = true := by simp; omega
        have hq2 : decide ((i : Int) = (S.turn : Int)) = true := decide_eq_true ht
        have HTT := Hid.in ht
        obtain ⟨st, hst⟩ : ∃ st, (S.c i).st l = st := ⟨_, rfl⟩
        rw [hst] at HST
        clear ht hst
        go_wp2_with (go_at_call 37; refine HST.out.mono ?_; rintro e z ⟨rfl, hz⟩; have hz2 := hz.symm; clear hz; subst hz2)
        go_roundw
        case rel =>
          have hn : ¬ S.lows l 1 i := fun h => h.1 (by have := HTT.out; omega)
          obtain ⟨n1, n2⟩ := HNO.out i hn
          exact ⟨i + 1, by simp, by rw [toA_same (Or.inl (by have := HTT.out; omega)), HTO.out], by omega, HD.out.next (Below.refl _ _) n1 n2⟩
        case measure =>
          simp [intOf]
          omega
      · have hq : ((i : Int) == (S.turn : Int)) = false := by simp; omega
        have hq2 : decide ((i : Int) = (S.turn : Int)) = false := decide_eq_false ht
        have HTT := Hid.in ht
        clear ht
        by_cases hs : (S.c i).st l = 0
        · have HSS := Hid.in hs
          rw [hs] at HST
          clear hs
          go_wp2_with (go_at_call 37; refine HST.out.mono ?_; rintro e z ⟨rfl, hz⟩; have hz2 := hz.symm; clear hz; subst hz2)
          go_roundw
          case rel =>
            have hn : ¬ S.lows l 1 i := fun h => by have h1 := h.2; have h2 := HSS.out; omega
            obtain ⟨n1, n2⟩ := HNO.out i hn
            exact ⟨i + 1, by simp, by rw [toA_same (Or.inr HSS.out), HTO.out], by omega, HD.out.next (Below.refl _ _) n1 n2⟩
          case measure =>
            simp [intOf]
            omega
        · by_cases hs1 : (S.c i).st l ≤ 1
          · have HLO := Hid.in (rulower_bad HD.out.u i l 1 HLT2.out HL.out H16.out (by omega) (by rw [HS4.out]; exact hs1))
            have HNL : Hid (¬ S.lows l 1 i) := fun h => by have := h.2; omega
            have HTE : Hid (Value.int .i64 1 = .int .i64 (S.toA l false (i + 1) : Nat)) := by rw [toA_one (by have := HTT.out; omega) hs]; exact rfl
            obtain ⟨st, hst⟩ : ∃ st, (S.c i).st l = st := ⟨_, rfl⟩
            rw [hst] at HST hs hs1
            have hs' : ¬ ((st : Int) = 0) := by omega
            have hs2 : decide ((st : Int) = 0) = false := decide_eq_false hs'
            have hs3 : ((st : Int) == 0) = false := by simp; omega
            clear hs hs1 hst HS4
            go_wp2_with (first
              | (go_at_call 37; refine HST.out.mono ?_; rintro e' z ⟨rfl, hz⟩; have hz2 := hz.symm; clear hz; subst hz2)
              | (go_at_call 51; refine HLO.out.mono ?_; rintro e' w2 ⟨rfl, hb2⟩; have HB2 := Hid.in hb2; clear hb2)
              | (refine rstn w2 l0 zr rfl w2.heap.size rfl rfl rfl _ _ rfl rfl rfl ?_))
            go_roundw
            case rel =>
              obtain ⟨n1, n2⟩ := HNO.out i HNL.out
              exact ⟨i + 1, by simp, HTE.out, by omega, HD.out.next (HB2.out.trans (((Below.refl _ _).alloc (Nat.le_refl _) _).mono HB2.out.size)) n1 n2⟩
            case measure =>
              simp [intOf]
              omega
          · have HLW : Hid (S.lows l 1 i) := ⟨by have := HTT.out; omega, by omega⟩
            have HLO : Hid (Calls Tryd.prog 51 #[.pointer (some ⟨g.q i, 0, none⟩), .int .i64 l, .int .i64 1] wr fun e w' => e = .returned (.tuple #[.agg ((S.c i).ln l).rv.toArray, .int .i64 0]) ∧ Ru w' g (fun q => F q ∨ u9.ownBlock = some q) ((R i).cput i ((S.c i).lowTo l 1)) ∧ Turned (fun j => ¬ (F j ∨ u9.ownBlock = some j)) wr w') := by
              have := rulower HD.out.u i l 1 HLT2.out HL.out H16.out (by omega) (by rw [HS4.out]; omega)
              rw [HS4.out] at this
              exact this
            have hbad : ((S.c i).ln l).s = 3 → ((S.c i).ln l).a < 4294967296 ∧ ((S.c i).ln l).a % 16 = 0 ∧ hasB ((S.c i).ln l).a S.len = true ∧ (∀ t, t < 16 → ((S.c i).ln l).b t < 256) := fun _ => by
              rw [ln_a (T := S.c i) (a := l) (by omega), lineOf_self H16.out]
              exact ⟨HL.out, H16.out, HH.out, fun t _ => H8.out i hlt t⟩
            have hse : (S.c i).st l = ((S.c i).ln l).s := (CS.st_ix (T := S.c i) (a := l) (by omega)).2
            obtain ⟨e, he⟩ : ∃ e, (S.c i).ln l = e := ⟨_, rfl⟩
            obtain ⟨y1, y2⟩ := HYES.out i HLW.out
            rw [he] at HLO hbad y1 y2 hse
            have HBAD := Hid.in hbad
            have HY1 := Hid.in y1
            have HY2 := Hid.in y2
            have HTE : Hid (Value.int .i64 1 = .int .i64 (S.toA l false (i + 1) : Nat)) := by rw [toA_one (by have := HTT.out; omega) (by omega)]; exact rfl
            rw [hse] at HST
            have hs' : ¬ ((e.s : Int) = 0) := by omega
            have hs2 : decide ((e.s : Int) = 0) = false := decide_eq_false hs'
            have hs3 : ((e.s : Int) == 0) = false := by simp; omega
            clear hs y1 y2 hbad he HNO HYES hse HS4
            go_upto_region 14 with (first
              | (go_at_call 37; refine HST.out.mono ?_; rintro e' z ⟨rfl, hz⟩; have hz2 := hz.symm; clear hz; subst hz2)
              | (go_at_call 51; refine HLO.out.mono ?_; rintro e' w2 ⟨rfl, hu2, ht2⟩; have HU2 := Hid.in hu2; have HT2 := Hid.in ht2; clear hu2 ht2)
              | (refine rstn w2 e zr rfl w2.heap.size rfl rfl rfl _ _ rfl rfl rfl ?_))
            obtain ⟨X, hX⟩ : ∃ X, w2.alloc (.cells e.rv.toArray 104) = X := ⟨_, rfl⟩
            obtain ⟨lb, hlb⟩ : ∃ lb, w2.heap.size = lb := ⟨_, rfl⟩
            have b2 : Below w2.heap.size w2 X := by rw [← hX]; exact (Below.refl _ _).alloc (Nat.le_refl _) _
            have rX : X.rangeAt lb 0 e.rv := by rw [← hX, ← hlb]; exact rrange_new w2 e _
            have uX := HU2.out.below b2
            have tX : Turned (fun j => ¬ (F j ∨ u9.ownBlock = some j)) wr X := HT2.out.trans (Turned.of_below b2)
            have rowX : X.ownsRow W.heap.size 86 4 u9 (T i).length (flatT (T i)) := own_turned HD.out.row tX (fun j hj q => q (Or.inr hj))
            have HKP := Hid.in (rukeep uX e (by
              show e.s = 3 → _
              intro q
              obtain ⟨z1, z2, z3, z4⟩ := HBAD.out q
              refine ⟨z1, z2, ?_, z4⟩
              show hasB e.a (R i).len = true
              rw [HS3.out]
              exact z3))
            have HTX := Hid.in tX
            have HRX := Hid.in rowX
            rw [hX, hlb]
            clear hX b2 uX tX rowX hlb
            go_upto_region 15 with (first
              | (refine rld lb 0 e rX rfl _ rfl rfl ?_)
              | (go_at_call 52; refine HKP.out.mono ?_; rintro e' w3 ⟨rfl, hu3, ht3⟩; have HU3 := Hid.in hu3; have HT3 := Hid.in ht3; clear hu3 ht3))
            have row3 := own_turned HRX.out HT3.out (fun j hj q => q (Or.inr hj))
            have tl := HTL.out i
            have h31 : W.heap.size ≤ w3.heap.size := by have h1 := HD.out.t.size; have h2 := HTX.out.size; have h3 := HT3.out.size; omega
            obtain ⟨g2, cap, z4, hrun, r1, r2, r3⟩ := app_rs w3 u9 (T i) ⟨i, l, e.s, 1⟩ row3 (by omega) h31
            have HR1 := Hid.in r1
            have HR2 := Hid.in r2
            have HR3 := Hid.in r3
            clear rX row3 r1 r2 r3 tl h31
            go_wp2_with (at_builtin; refine wpList_append_run rfl rfl rfl rfl hrun ?_)
            go_roundw
            case rel =>
              refine ⟨i + 1, by simp, HTE.out, by omega, ⟨?_, ?_, ?_⟩⟩
              · rw [HY2.out, List.length_append]
                exact HR1.out
              · rw [HY1.out]
                have u4 := HU3.out.turn HR2.out (fun z hz _ => Or.inr hz)
                refine u4.less (fun z hz => ?_)
                rcases hz with hz | hz
                · exact Or.inl (Or.inl hz)
                · have hz' : g2 = z := by simpa [Value.ownBlock] using hz
                  subst hz'
                  rcases HR3.out with q | q
                  · exact Or.inl (Or.inr q.symm)
                  · exact Or.inr ⟨q, (own_base HR1.out g2 rfl).2⟩
              · have m1 : Turned (fun j => ¬ F j) wr X := HTX.out.mono (fun j q f => q (Or.inl f))
                have m2 : Turned (fun j => ¬ F j) X w3 := HT3.out.mono (fun j q f => q (Or.inl f))
                refine ((HD.out.t.trans m1).trans m2).trans (HR2.out.mono (fun j q f => ?_))
                have h1 := (own_base HD.out.row j q).1
                have f2 := HF.out j f
                omega
            case measure =>
              simp [intOf]
              omega

    · obtain rfl : i = S.nc := by omega
      have hlt' : ¬ (S.nc : Int) < (S.nc : Int) := by omega
      rw [hto0]
      have HTO := Hid.in hto0
      clear hto0 s1 s2 s3 s4 o1 o2 o4 o5
      go_wp2
      rw [← HTO.out]
      exact HQ.out _ _ _ _ _ _ _ _ _ _ _ _ _ _ _ _ _ _ _ _ _ _ _ _ _ _ _ _ _ _ _ _ _ _ _ _ _ _ _ _ _ _ _ _ _ _ _ _ _ _ _ _ _ _ _ _ _ _ _ _ HD.out
end Go.Proofs.YtlogdmnhngbkaaaDoor
