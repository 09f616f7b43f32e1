import Derived.Test.YtlogdmnhngbkaaaDoorY27
import Derived.Test.YtlogdmnhngbkaaaDoorY21
/-
  BUS: the answer's done.
-/
namespace Go.Proofs.YtlogdmnhngbkaaaDoor
open Go Go.RowKit
def DoesR (g : Rn) (D : BS) (T : List Snp) (y : World) (G : Nat → Prop) (e : Ending) (w' : World) : Prop := ∃ v, e = .returned v ∧ w'.ownsRow y.heap.size 86 4 v T.length (flatT T) ∧ Ru w' g (fun j => G j ∨ v.ownBlock = some j) D ∧ Turned (fun j => ¬ G j) y w'
theorem zero16 (w : World) : CellsAt 16 (w.alloc (.cells #[.int .u8 0, .int .u8 0, .int .u8 0, .int .u8 0, .int .u8 0, .int .u8 0, .int .u8 0, .int .u8 0, .int .u8 0, .int .u8 0, .int .u8 0, .int .u8 0, .int .u8 0, .int .u8 0, .int .u8 0, .int .u8 0] 98)) w.heap.size (fun _ => .int .u8 0) := by
  refine ⟨by simp, fun o ho => ?_, fun o => World.frozen?_alloc_at _ _ _ _ rfl⟩
  rw [World.cell?_alloc_new]
  have : o = 0 ∨ o = 1 ∨ o = 2 ∨ o = 3 ∨ o = 4 ∨ o = 5 ∨ o = 6 ∨ o = 7 ∨ o = 8 ∨ o = 9 ∨ o = 10 ∨ o = 11 ∨ o = 12 ∨ o = 13 ∨ o = 14 ∨ o = 15 := by omega
  rcases this with rfl | rfl | rfl | rfl | rfl | rfl | rfl | rfl | rfl | rfl | rfl | rfl | rfl | rfl | rfl | rfl <;> rfl
theorem cells_range {w : World} {xb : Nat} {b : Nat → Nat} (h : CellsAt 16 w xb (fun j => .int .u8 (b j : Nat))) : w.rangeAt xb 0 (bvs b) := by
  intro j v hv
  have hj : j < (bvs b).length := (List.getElem?_eq_some_iff.1 hv).1
  rw [bvs_len] at hj
  rw [bvs_at b j hj] at hv
  rw [Nat.zero_add, h.cell j hj, ← hv]
section
variable {x : World} {g : Rn} {F : Nat → Prop} {S : BS}
set_option maxRecDepth 100000 in
set_option maxHeartbeats 4000000 in
theorem rdone_t (h : Ru x g F S) (l : Nat) (hl : l < 4294967296) (h16 : l % 16 = 0) (hh : hasB l S.len = true) (h8 : ∀ i, i < S.nc → ∀ t, ((S.c i).ln l).b t < 256)
    (hno : No ((((S.lowN l 0 S.nc).do2 l).c S.turn).set ((((S.lowN l 0 S.nc).do2 l).c S.turn).of l)) l)
    (hle : (((S.lowN l 0 S.nc).do2 l).c S.turn).full l = true → ((((S.lowN l 0 S.nc).do2 l).c S.turn).left l).s = 3 → ((((S.lowN l 0 S.nc).do2 l).c S.turn).left l).a < 4294967296 ∧ ((((S.lowN l 0 S.nc).do2 l).c S.turn).left l).a % 16 = 0 ∧ hasB ((((S.lowN l 0 S.nc).do2 l).c S.turn).left l).a S.len = true ∧ ∀ t, t < 16 → ((((S.lowN l 0 S.nc).do2 l).c S.turn).left l).b t < 256)
    (hto : S.toA l true S.nc = ((S.lowN l 0 S.nc).do2 l).then' l) : Calls Tryd.prog 30 #[.pointer (some ⟨g.p, 0, none⟩), .int .i64 (S.turn : Nat), .int .i64 (l : Nat), .bool true] x (DoesR g (((S.lowN l 0 S.nc).do2 l).do4 l) (S.toldN l 0 S.nc ++ ((S.lowN l 0 S.nc).do2 l).told4 l ++ [⟨S.turn, l, ((S.lowN l 0 S.nc).c S.turn).st l, ((S.lowN l 0 S.nc).do2 l).then' l⟩]) x F) := by
  obtain ⟨a1, a2, a3, -⟩ := lowN_same S l 0 S.nc
  have hTl := told_le S l 0 S.nc
  obtain ⟨R, hR⟩ : ∃ R, S.lowN l 0 S.nc = R := ⟨_, rfl⟩
  obtain ⟨T, hT⟩ : ∃ T, S.toldN l 0 S.nc = T := ⟨_, rfl⟩
  obtain ⟨n1, n2, n3⟩ := do2_same R l
  rw [hR] at a1 a2 a3 hno hle hto
  rw [hR, hT]
  rw [hT] at hTl
  rw [a1] at n1
  rw [a2] at n2
  rw [a3] at n3
  obtain ⟨Q, hQ⟩ : ∃ Q, R.do2 l = Q := ⟨_, rfl⟩
  rw [hQ] at n1 n2 n3 hno hle hto ⊢
  obtain ⟨st, hst⟩ : ∃ st, (R.c S.turn).st l = st := ⟨_, rfl⟩
  rw [hst]
  obtain ⟨lf, hlf⟩ : ∃ lf, (Q.c S.turn).left l = lf := ⟨_, rfl⟩
  obtain ⟨fu, hfu⟩ : ∃ fu, (Q.c S.turn).full l = fu := ⟨_, rfl⟩
  obtain ⟨th, hth⟩ : ∃ th, Q.then' l = th := ⟨_, rfl⟩
  have hth12 : th = 1 ∨ th = 2 := by rw [← hth]; unfold BS.then'; split <;> omega
  rw [hth] at hto ⊢
  rw [hlf, hfu] at hle
  obtain ⟨D3, hD3⟩ : ∃ D3, Q.cput S.turn ((Q.c S.turn).fill l th (fun t => Q.mem (l - 65536 + t))) = D3 := ⟨_, rfl⟩
  have HE4 : Hid (Q.do4 l = (if fu then D3.wb lf else D3) ∧ Q.told4 l = told1 fu S.turn lf) := by
    show Q.do4 l = _ ∧ Q.told4 l = _
    unfold BS.do4 BS.told4 BS.do3 told1
    rw [n1, hfu, hlf, hth, hD3]
    exact ⟨rfl, rfl⟩
  obtain ⟨TT, hTT⟩ : ∃ TT, T ++ Q.told4 l ++ [⟨S.turn, l, st, th⟩] = TT := ⟨_, rfl⟩
  rw [hTT]
  have HTTT := Hid.in hTT
  have hnc3 : D3.nc = Q.nc := by rw [← hD3]; rfl
  have hlen3 : D3.len = S.len := by rw [← hD3]; exact n3
  obtain ⟨-, -, -, -, -, -, osz, -, -⟩ := h.own
  have htn : S.turn < S.nc := osz.2.2.2.2.2.1
  have hnc2 : S.nc ≤ 2 := osz.2.1
  have hb : 65536 ≤ l ∧ l < 65536 + S.len := by simpa [hasB] using hh
  have HFIL : Hid (∀ (z : World) (G : Nat → Prop), Ru z g G Q → (fu = true ↔ lf.s ≠ 0) ∧ Calls Tryd.prog 53 #[.pointer (some ⟨g.q S.turn, 0, none⟩), .int .i64 l, .agg (bvs (fun t => Q.mem (l - 65536 + t))).toArray, .int .i64 th] z fun e w' => e = .returned (.tuple #[.agg lf.rv.toArray, .int .i64 0]) ∧ Ru w' g G D3 ∧ Turned (fun j => ¬ G j) z w') := by
    intro z G hz
    obtain ⟨-, -, -, -, -, -, -, -, m8⟩ := hz.own
    have := rufill hz S.turn l th (fun t => Q.mem (l - 65536 + t)) (by rw [n2]; exact htn) hl h16 (by omega) (fun t _ => m8 _) hno
    rw [hlf, hfu, hD3] at this
    exact this
  have HH := Hid.in h
  have HX : Hid (∀ j, F j → j < x.heap.size) := fun j hj => h.here hj
  have HHH := Hid.in hh
  have HLE := Hid.in hle
  have HST0 := Hid.in hst
  have HN := Hid.in (And.intro n1 (And.intro n2 n3))
  have HA := Hid.in (And.intro a1 (And.intro a2 a3))
  have HTL := Hid.in hTl
  have HNC3 := Hid.in (And.intro hnc3 hlen3)
  have HTN := Hid.in htn
  have H8 := Hid.in h8
  have HQ := Hid.in hQ
  have HRR := Hid.in hR
  have HTT := Hid.in hT
  have HTO := Hid.in hto
  have HL := Hid.in hl
  have H16 := Hid.in h16
  have HB := Hid.in hb
  clear h hh hle hst n1 n2 n3 a1 a2 a3 hTl hnc3 hlen3 h8 hQ hR hT hto hno hth hlf hfu hD3 hTT osz hl h16 hb
  go_enter Tryd.func30, Tryd.ntmps30
  go_upto_block 0 with fail
  refine wp_any (dblk0_t l HH.out HL.out H16.out HHH.out H8.out ?_)
  intro t11 t12 t13 t14 t15 t21 t22 t23 t24 t25 t26 t27 t28 t29 t30 t31 t32 t33 t34 t35 t36 t37 t38 t39 t40 t41 t42 t43 t44 t45 t46 t47 t48 t49 t50 t51 t52 t53 t54 t55 t56 t57 t58 t59 t60 t61 t62 t63 t64 t65 t66 t67 t68 t69 t70 t71 t72 t73 tv y hd
  have d1 : Ru y g (fun j => F j ∨ tv.ownBlock = some j) R := by have := hd.u; rw [HRR.out] at this; exact this
  have d2 : y.ownsRow x.heap.size 86 4 tv T.length (flatT T) := by have := hd.row; rw [HTT.out] at this; exact this
  have d3 := hd.t
  clear hd
  have HD1 := Hid.in d1
  have HD2 := Hid.in d2
  have HD3 := Hid.in d3
  have tlt : ∀ j, tv.ownBlock = some j → x.heap.size ≤ j ∧ j < y.heap.size := fun j hj => own_base d2 j hj
  have HTLT := Hid.in tlt
  have htn2 : S.turn < R.nc := by rw [HA.out.2.1]; exact HTN.out
  have HSTT := Hid.in (rucst d1 S.turn l htn2 HL.out)
  rw [HST0.out] at HSTT
  obtain ⟨last, left, o1, o2, -⟩ := d1.own
  rw [HA.out.2.1] at o2
  have c0 : y.cell? ⟨g.p, 0, none⟩ = some (.slice (some ⟨g.cb, 0, none⟩) S.nc g.cc) := by rw [← HA.out.2.1]; exact o1.cell 0 (by decide)
  have r0 : y.cell? ⟨g.cb, S.turn, none⟩ = some (.pointer (some ⟨g.q S.turn, 0, none⟩)) := o2.cell S.turn htn
  have hp := o1.here
  have hcb := o2.here
  have hc' : (S.turn : Int) < (S.nc : Int) := by omega
  clear d1 d2 d3 o1 o2 tlt
  go_upto_if 84 with (go_at_call 37; refine HSTT.out.mono ?_; rintro e z ⟨rfl, hz⟩; have hz2 := hz.symm; clear hz; subst hz2)
  refine wp_any (dcond84 HD1.out HA.out.1 (by rw [HST0.out]; simp) HL.out H16.out ?_)
  intro s85 s86 s87 s88 s89 s90 s91 s92 s93 y2 hu2 ht2
  rw [HQ.out] at hu2
  have HU2 := Hid.in hu2
  have HT2 := Hid.in ht2
  clear hu2 ht2 c0 r0 hp hcb hc'
  go_upto_block 2 with fail
  obtain ⟨X, hX⟩ : ∃ X, y2.alloc (.cells #[.int .u8 0, .int .u8 0, .int .u8 0, .int .u8 0, .int .u8 0, .int .u8 0, .int .u8 0, .int .u8 0, .int .u8 0, .int .u8 0, .int .u8 0, .int .u8 0, .int .u8 0, .int .u8 0, .int .u8 0, .int .u8 0] 98) = X := ⟨_, rfl⟩
  obtain ⟨xb, hxb⟩ : ∃ xb, y2.heap.size = xb := ⟨_, rfl⟩
  have bX : Below y2.heap.size y2 X := by rw [← hX]; exact (Below.refl _ _).alloc (Nat.le_refl _) _
  have sX : X.heap.size = xb + 1 := by rw [← hX, ← hxb]; simp
  have cX : CellsAt 16 X xb (fun _ => .int .u8 0) := by rw [← hX, ← hxb]; exact zero16 y2
  have uX : Ru X g (fun j => (F j ∨ tv.ownBlock = some j) ∨ j = xb) Q := (HU2.out.fresh bX).less (fun z hz => hz.elim Or.inl (fun q => Or.inr (by omega)))
  have tX : Turned (fun j => ¬ (F j ∨ tv.ownBlock = some j)) y X := HT2.out.trans (Turned.of_below bX)
  have HUX := Hid.in uX
  have HTX := Hid.in tX
  have HCX := Hid.in cX
  have hyx : y.heap.size ≤ xb := by have := HT2.out.size; omega
  have HYX := Hid.in hyx
  have HSX := Hid.in sX
  rw [hX, hxb]
  clear hX hxb bX sX cX uX tX hyx
  refine wp_any (dblk2 (F := fun j => (F j ∨ tv.ownBlock = some j) ∨ j = xb) (S := Q) HUX.out (Or.inr rfl) HCX.out (by rw [HN.out.2.2]; exact HHH.out) H16.out ?_)
  intro s18 s94 s95 s96 s97 s98 s99 s100 s101 s102 s103 s104 s105 s106 s107 s108 s109 y3 hc3 ht3
  have HC3 := Hid.in hc3
  have HT3 := Hid.in ht3
  have u3 : Ru y3 g (fun j => (F j ∨ tv.ownBlock = some j) ∨ j = xb) Q := (HUX.out.turn ht3 (fun z hz _ => Or.inr hz)).less (fun z hz => Or.inl hz)
  have HU3 := Hid.in u3
  clear hc3 ht3 u3
  go_upto_region 24 with fail
  try rw [← HTO.out]
  refine wp_any (dreg24 (c := S.turn) (D := D3) (lf := lf) (b := fun t => Q.mem (l - 65536 + t)) (by rw [HN.out.2.1]; exact HTN.out) HU3.out (Or.inr rfl) (cells_range HC3.out) (fun z G hz => by have := (HFIL.out z G hz).2; rw [← HTO.out] at this; exact this) HNC3.out.1 ?_)
  intro s110 s111 s112 s113 s114 s115 s116 s117 s118 s119 s120 s121 s122 s123 lb y4 g1 g2 g3 g4 g5
  have hfs := (HFIL.out y3 _ HU3.out).1
  have HFS := Hid.in hfs
  have rb1 : y4.cell? ⟨lb, 1, none⟩ = some (.int .i64 lf.s) := g3 1 _ rfl
  have HG3 := Hid.in g3
  have HG4 := Hid.in g4
  have HG5 := Hid.in g5
  have HG1 := Hid.in g1
  have row4 : y4.ownsRow x.heap.size 86 4 tv T.length (flatT T) := by
    have r1 := own_turned HD2.out HTX.out (fun j hj q => q (Or.inr hj))
    have r2 := own_turned r1 HT3.out (fun j hj q => by have h1 := (HTLT.out j hj).2; have h2 := HYX.out; omega)
    exact own_turned r2 g5 (fun j hj q => q (Or.inl (Or.inr hj)))
  have t4 : Turned (fun j => ¬ F j) x y4 := by
    have m1 : Turned (fun j => ¬ F j) y X := HTX.out.mono (fun j q f => q (Or.inl f))
    have m2 : Turned (fun j => ¬ F j) X y3 := HT3.out.mono (fun j q f => by have h1 := HX.out j f; have h2 := HD3.out.size; have h3 := HYX.out; omega)
    have m3 : Turned (fun j => ¬ F j) y3 y4 := g5.mono (fun j q f => q (Or.inl (Or.inl f)))
    exact ((HD3.out.trans m1).trans m2).trans m3
  have HROW4 := Hid.in row4
  have HT4 := Hid.in t4
  clear g1 g3 g4 g5 hfs row4 t4
  go_upto_if 126 with fail
  refine wp_any (dcond126 fu (Bool.eq_iff_iff.2 (by rw [HFS.out]; simp)) (B := x.heap.size) (F := F) (D := D3) (lf := lf) (T := T) HROW4.out (HG4.out.less (fun z hz => hz.elim (fun q => Or.inl (Or.inl q)) Or.inr)) HG3.out HT4.out.size HX.out (by have := HTL.out; omega) (fun q => by rw [HNC3.out.2]; exact HLE.out (HFS.out.2 (by omega)) q) ?_)
  intro s127 s128 s129 s130 s131 s132 s133 s134 s135 s136 s137 s138 tv' y5 hrow5 hu5 ht5
  have HU5 := Hid.in hu5
  have HT5 := Hid.in ht5
  have h5l : (T ++ told1 fu S.turn lf).length ≤ 1000000 := by
    have h1 := HTL.out
    rw [List.length_append]
    have : (told1 fu S.turn lf).length ≤ 1 := by unfold told1; split <;> simp
    omega
  obtain ⟨T2, hT2⟩ : ∃ T2, T ++ told1 fu S.turn lf = T2 := ⟨_, rfl⟩
  rw [hT2] at hrow5 h5l
  have HT22 := Hid.in hT2
  clear hT2
  obtain ⟨gf, cap, z6, hrun, r1, r2, r5⟩ := app_rs y5 tv' T2 ⟨S.turn, l, st, S.toA l true S.nc⟩ hrow5 h5l (Nat.le_trans HT4.out.size ht5.size)
  have HROW5 := Hid.in hrow5
  have HR1 := Hid.in r1
  have HR2 := Hid.in r2
  have HR5 := Hid.in r5
  clear hrow5 hu5 ht5 r1 r2 r5 h5l
  go_wp2_with (at_builtin; refine wpList_append_run rfl rfl rfl rfl hrun ?_)
  go_ret
  unfold DoesR
  rw [← HTTT.out, HE4.out.1, HE4.out.2, HT22.out]
  refine ⟨_, rfl, ?_, ?_, ?_⟩
  · have := HR1.out
    rw [HTO.out] at this
    rw [List.length_append]
    exact this
  · have u4 := HU5.out.turn HR2.out (fun z hz _ => Or.inr hz)
    refine u4.less (fun z hz => ?_)
    rcases hz with hz | hz
    · exact Or.inl (Or.inl hz)
    · have hz' : gf = z := by simpa [Value.ownBlock] using hz
      subst hz'
      rcases HR5.out with q | q
      · exact Or.inl (Or.inr q.symm)
      · exact Or.inr ⟨q, (own_base HR1.out gf rfl).2⟩
  · refine (HT4.out.trans HT5.out).trans (HR2.out.mono (fun j q f => ?_))
    have h1 := (own_base HROW5.out j q).1
    have f2 := HX.out j f
    omega
set_option maxRecDepth 100000 in
set_option maxHeartbeats 4000000 in
theorem rdone_f (h : Ru x g F S) (l : Nat) (hl : l < 4294967296) (h16 : l % 16 = 0) (hh : hasB l S.len = true) (h8 : ∀ i, i < S.nc → ∀ t, ((S.c i).ln l).b t < 256)
    (hno : No ((((S.lowN l 1 S.nc).do2 l).c S.turn).set ((((S.lowN l 1 S.nc).do2 l).c S.turn).of l)) l)
    (hle : (((S.lowN l 1 S.nc).do2 l).c S.turn).full l = true → ((((S.lowN l 1 S.nc).do2 l).c S.turn).left l).s = 3 → ((((S.lowN l 1 S.nc).do2 l).c S.turn).left l).a < 4294967296 ∧ ((((S.lowN l 1 S.nc).do2 l).c S.turn).left l).a % 16 = 0 ∧ hasB ((((S.lowN l 1 S.nc).do2 l).c S.turn).left l).a S.len = true ∧ ∀ t, t < 16 → ((((S.lowN l 1 S.nc).do2 l).c S.turn).left l).b t < 256)
    (hto : S.toA l false S.nc = ((S.lowN l 1 S.nc).do2 l).then' l) : Calls Tryd.prog 30 #[.pointer (some ⟨g.p, 0, none⟩), .int .i64 (S.turn : Nat), .int .i64 (l : Nat), .bool false] x (DoesR g (((S.lowN l 1 S.nc).do2 l).do4 l) (S.toldN l 1 S.nc ++ ((S.lowN l 1 S.nc).do2 l).told4 l ++ [⟨S.turn, l, ((S.lowN l 1 S.nc).c S.turn).st l, ((S.lowN l 1 S.nc).do2 l).then' l⟩]) x F) := by
  obtain ⟨a1, a2, a3, -⟩ := lowN_same S l 1 S.nc
  have hTl := told_le S l 1 S.nc
  obtain ⟨R, hR⟩ : ∃ R, S.lowN l 1 S.nc = R := ⟨_, rfl⟩
  obtain ⟨T, hT⟩ : ∃ T, S.toldN l 1 S.nc = T := ⟨_, rfl⟩
  obtain ⟨n1, n2, n3⟩ := do2_same R l
  rw [hR] at a1 a2 a3 hno hle hto
  rw [hR, hT]
  rw [hT] at hTl
  rw [a1] at n1
  rw [a2] at n2
  rw [a3] at n3
  obtain ⟨Q, hQ⟩ : ∃ Q, R.do2 l = Q := ⟨_, rfl⟩
  rw [hQ] at n1 n2 n3 hno hle hto ⊢
  obtain ⟨st, hst⟩ : ∃ st, (R.c S.turn).st l = st := ⟨_, rfl⟩
  rw [hst]
  obtain ⟨lf, hlf⟩ : ∃ lf, (Q.c S.turn).left l = lf := ⟨_, rfl⟩
  obtain ⟨fu, hfu⟩ : ∃ fu, (Q.c S.turn).full l = fu := ⟨_, rfl⟩
  obtain ⟨th, hth⟩ : ∃ th, Q.then' l = th := ⟨_, rfl⟩
  have hth12 : th = 1 ∨ th = 2 := by rw [← hth]; unfold BS.then'; split <;> omega
  rw [hth] at hto ⊢
  rw [hlf, hfu] at hle
  obtain ⟨D3, hD3⟩ : ∃ D3, Q.cput S.turn ((Q.c S.turn).fill l th (fun t => Q.mem (l - 65536 + t))) = D3 := ⟨_, rfl⟩
  have HE4 : Hid (Q.do4 l = (if fu then D3.wb lf else D3) ∧ Q.told4 l = told1 fu S.turn lf) := by
    show Q.do4 l = _ ∧ Q.told4 l = _
    unfold BS.do4 BS.told4 BS.do3 told1
    rw [n1, hfu, hlf, hth, hD3]
    exact ⟨rfl, rfl⟩
  obtain ⟨TT, hTT⟩ : ∃ TT, T ++ Q.told4 l ++ [⟨S.turn, l, st, th⟩] = TT := ⟨_, rfl⟩
  rw [hTT]
  have HTTT := Hid.in hTT
  have hnc3 : D3.nc = Q.nc := by rw [← hD3]; rfl
  have hlen3 : D3.len = S.len := by rw [← hD3]; exact n3
  obtain ⟨-, -, -, -, -, -, osz, -, -⟩ := h.own
  have htn : S.turn < S.nc := osz.2.2.2.2.2.1
  have hnc2 : S.nc ≤ 2 := osz.2.1
  have hb : 65536 ≤ l ∧ l < 65536 + S.len := by simpa [hasB] using hh
  have HFIL : Hid (∀ (z : World) (G : Nat → Prop), Ru z g G Q → (fu = true ↔ lf.s ≠ 0) ∧ Calls Tryd.prog 53 #[.pointer (some ⟨g.q S.turn, 0, none⟩), .int .i64 l, .agg (bvs (fun t => Q.mem (l - 65536 + t))).toArray, .int .i64 th] z fun e w' => e = .returned (.tuple #[.agg lf.rv.toArray, .int .i64 0]) ∧ Ru w' g G D3 ∧ Turned (fun j => ¬ G j) z w') := by
    intro z G hz
    obtain ⟨-, -, -, -, -, -, -, -, m8⟩ := hz.own
    have := rufill hz S.turn l th (fun t => Q.mem (l - 65536 + t)) (by rw [n2]; exact htn) hl h16 (by omega) (fun t _ => m8 _) hno
    rw [hlf, hfu, hD3] at this
    exact this
  have HH := Hid.in h
  have HX : Hid (∀ j, F j → j < x.heap.size) := fun j hj => h.here hj
  have HHH := Hid.in hh
  have HLE := Hid.in hle
  have HST0 := Hid.in hst
  have HN := Hid.in (And.intro n1 (And.intro n2 n3))
  have HA := Hid.in (And.intro a1 (And.intro a2 a3))
  have HTL := Hid.in hTl
  have HNC3 := Hid.in (And.intro hnc3 hlen3)
  have HTN := Hid.in htn
  have H8 := Hid.in h8
  have HQ := Hid.in hQ
  have HRR := Hid.in hR
  have HTT := Hid.in hT
  have HTO := Hid.in hto
  have HL := Hid.in hl
  have H16 := Hid.in h16
  have HB := Hid.in hb
  clear h hh hle hst n1 n2 n3 a1 a2 a3 hTl hnc3 hlen3 h8 hQ hR hT hto hno hth hlf hfu hD3 hTT osz hl h16 hb
  go_enter Tryd.func30, Tryd.ntmps30
  go_upto_block 0 with fail
  refine wp_any (dblk0_f l HH.out HL.out H16.out HHH.out H8.out ?_)
  intro t11 t12 t13 t14 t15 t21 t22 t23 t24 t25 t26 t27 t28 t29 t30 t31 t32 t33 t34 t35 t36 t37 t38 t39 t40 t41 t42 t43 t44 t45 t46 t47 t48 t49 t50 t51 t52 t53 t54 t55 t56 t57 t58 t59 t60 t61 t62 t63 t64 t65 t66 t67 t68 t69 t70 t71 t72 t73 tv y hd
  have d1 : Ru y g (fun j => F j ∨ tv.ownBlock = some j) R := by have := hd.u; rw [HRR.out] at this; exact this
  have d2 : y.ownsRow x.heap.size 86 4 tv T.length (flatT T) := by have := hd.row; rw [HTT.out] at this; exact this
  have d3 := hd.t
  clear hd
  have HD1 := Hid.in d1
  have HD2 := Hid.in d2
  have HD3 := Hid.in d3
  have tlt : ∀ j, tv.ownBlock = some j → x.heap.size ≤ j ∧ j < y.heap.size := fun j hj => own_base d2 j hj
  have HTLT := Hid.in tlt
  have htn2 : S.turn < R.nc := by rw [HA.out.2.1]; exact HTN.out
  have HSTT := Hid.in (rucst d1 S.turn l htn2 HL.out)
  rw [HST0.out] at HSTT
  obtain ⟨last, left, o1, o2, -⟩ := d1.own
  rw [HA.out.2.1] at o2
  have c0 : y.cell? ⟨g.p, 0, none⟩ = some (.slice (some ⟨g.cb, 0, none⟩) S.nc g.cc) := by rw [← HA.out.2.1]; exact o1.cell 0 (by decide)
  have r0 : y.cell? ⟨g.cb, S.turn, none⟩ = some (.pointer (some ⟨g.q S.turn, 0, none⟩)) := o2.cell S.turn htn
  have hp := o1.here
  have hcb := o2.here
  have hc' : (S.turn : Int) < (S.nc : Int) := by omega
  clear d1 d2 d3 o1 o2 tlt
  go_upto_if 84 with (go_at_call 37; refine HSTT.out.mono ?_; rintro e z ⟨rfl, hz⟩; have hz2 := hz.symm; clear hz; subst hz2)
  refine wp_any (dcond84 HD1.out HA.out.1 (by rw [HST0.out]; simp) HL.out H16.out ?_)
  intro s85 s86 s87 s88 s89 s90 s91 s92 s93 y2 hu2 ht2
  rw [HQ.out] at hu2
  have HU2 := Hid.in hu2
  have HT2 := Hid.in ht2
  clear hu2 ht2 c0 r0 hp hcb hc'
  go_upto_block 2 with fail
  obtain ⟨X, hX⟩ : ∃ X, y2.alloc (.cells #[.int .u8 0, .int .u8 0, .int .u8 0, .int .u8 0, .int .u8 0, .int .u8 0, .int .u8 0, .int .u8 0, .int .u8 0, .int .u8 0, .int .u8 0, .int .u8 0, .int .u8 0, .int .u8 0, .int .u8 0, .int .u8 0] 98) = X := ⟨_, rfl⟩
  obtain ⟨xb, hxb⟩ : ∃ xb, y2.heap.size = xb := ⟨_, rfl⟩
  have bX : Below y2.heap.size y2 X := by rw [← hX]; exact (Below.refl _ _).alloc (Nat.le_refl _) _
  have sX : X.heap.size = xb + 1 := by rw [← hX, ← hxb]; simp
  have cX : CellsAt 16 X xb (fun _ => .int .u8 0) := by rw [← hX, ← hxb]; exact zero16 y2
  have uX : Ru X g (fun j => (F j ∨ tv.ownBlock = some j) ∨ j = xb) Q := (HU2.out.fresh bX).less (fun z hz => hz.elim Or.inl (fun q => Or.inr (by omega)))
  have tX : Turned (fun j => ¬ (F j ∨ tv.ownBlock = some j)) y X := HT2.out.trans (Turned.of_below bX)
  have HUX := Hid.in uX
  have HTX := Hid.in tX
  have HCX := Hid.in cX
  have hyx : y.heap.size ≤ xb := by have := HT2.out.size; omega
  have HYX := Hid.in hyx
  have HSX := Hid.in sX
  rw [hX, hxb]
  clear hX hxb bX sX cX uX tX hyx
  refine wp_any (dblk2 (F := fun j => (F j ∨ tv.ownBlock = some j) ∨ j = xb) (S := Q) HUX.out (Or.inr rfl) HCX.out (by rw [HN.out.2.2]; exact HHH.out) H16.out ?_)
  intro s18 s94 s95 s96 s97 s98 s99 s100 s101 s102 s103 s104 s105 s106 s107 s108 s109 y3 hc3 ht3
  have HC3 := Hid.in hc3
  have HT3 := Hid.in ht3
  have u3 : Ru y3 g (fun j => (F j ∨ tv.ownBlock = some j) ∨ j = xb) Q := (HUX.out.turn ht3 (fun z hz _ => Or.inr hz)).less (fun z hz => Or.inl hz)
  have HU3 := Hid.in u3
  clear hc3 ht3 u3
  go_upto_region 24 with fail
  try rw [← HTO.out]
  refine wp_any (dreg24 (c := S.turn) (D := D3) (lf := lf) (b := fun t => Q.mem (l - 65536 + t)) (by rw [HN.out.2.1]; exact HTN.out) HU3.out (Or.inr rfl) (cells_range HC3.out) (fun z G hz => by have := (HFIL.out z G hz).2; rw [← HTO.out] at this; exact this) HNC3.out.1 ?_)
  intro s110 s111 s112 s113 s114 s115 s116 s117 s118 s119 s120 s121 s122 s123 lb y4 g1 g2 g3 g4 g5
  have hfs := (HFIL.out y3 _ HU3.out).1
  have HFS := Hid.in hfs
  have rb1 : y4.cell? ⟨lb, 1, none⟩ = some (.int .i64 lf.s) := g3 1 _ rfl
  have HG3 := Hid.in g3
  have HG4 := Hid.in g4
  have HG5 := Hid.in g5
  have HG1 := Hid.in g1
  have row4 : y4.ownsRow x.heap.size 86 4 tv T.length (flatT T) := by
    have r1 := own_turned HD2.out HTX.out (fun j hj q => q (Or.inr hj))
    have r2 := own_turned r1 HT3.out (fun j hj q => by have h1 := (HTLT.out j hj).2; have h2 := HYX.out; omega)
    exact own_turned r2 g5 (fun j hj q => q (Or.inl (Or.inr hj)))
  have t4 : Turned (fun j => ¬ F j) x y4 := by
    have m1 : Turned (fun j => ¬ F j) y X := HTX.out.mono (fun j q f => q (Or.inl f))
    have m2 : Turned (fun j => ¬ F j) X y3 := HT3.out.mono (fun j q f => by have h1 := HX.out j f; have h2 := HD3.out.size; have h3 := HYX.out; omega)
    have m3 : Turned (fun j => ¬ F j) y3 y4 := g5.mono (fun j q f => q (Or.inl (Or.inl f)))
    exact ((HD3.out.trans m1).trans m2).trans m3
  have HROW4 := Hid.in row4
  have HT4 := Hid.in t4
  clear g1 g3 g4 g5 hfs row4 t4
  go_upto_if 126 with fail
  refine wp_any (dcond126 fu (Bool.eq_iff_iff.2 (by rw [HFS.out]; simp)) (B := x.heap.size) (F := F) (D := D3) (lf := lf) (T := T) HROW4.out (HG4.out.less (fun z hz => hz.elim (fun q => Or.inl (Or.inl q)) Or.inr)) HG3.out HT4.out.size HX.out (by have := HTL.out; omega) (fun q => by rw [HNC3.out.2]; exact HLE.out (HFS.out.2 (by omega)) q) ?_)
  intro s127 s128 s129 s130 s131 s132 s133 s134 s135 s136 s137 s138 tv' y5 hrow5 hu5 ht5
  have HU5 := Hid.in hu5
  have HT5 := Hid.in ht5
  have h5l : (T ++ told1 fu S.turn lf).length ≤ 1000000 := by
    have h1 := HTL.out
    rw [List.length_append]
    have : (told1 fu S.turn lf).length ≤ 1 := by unfold told1; split <;> simp
    omega
  obtain ⟨T2, hT2⟩ : ∃ T2, T ++ told1 fu S.turn lf = T2 := ⟨_, rfl⟩
  rw [hT2] at hrow5 h5l
  have HT22 := Hid.in hT2
  clear hT2
  obtain ⟨gf, cap, z6, hrun, r1, r2, r5⟩ := app_rs y5 tv' T2 ⟨S.turn, l, st, S.toA l false S.nc⟩ hrow5 h5l (Nat.le_trans HT4.out.size ht5.size)
  have HROW5 := Hid.in hrow5
  have HR1 := Hid.in r1
  have HR2 := Hid.in r2
  have HR5 := Hid.in r5
  clear hrow5 hu5 ht5 r1 r2 r5 h5l
  go_wp2_with (at_builtin; refine wpList_append_run rfl rfl rfl rfl hrun ?_)
  go_ret
  unfold DoesR
  rw [← HTTT.out, HE4.out.1, HE4.out.2, HT22.out]
  refine ⟨_, rfl, ?_, ?_, ?_⟩
  · have := HR1.out
    rw [HTO.out] at this
    rw [List.length_append]
    exact this
  · have u4 := HU5.out.turn HR2.out (fun z hz _ => Or.inr hz)
    refine u4.less (fun z hz => ?_)
    rcases hz with hz | hz
    · exact Or.inl (Or.inl hz)
    · have hz' : gf = z := by simpa [Value.ownBlock] using hz
      subst hz'
      rcases HR5.out with q | q
      · exact Or.inl (Or.inr q.symm)
      · exact Or.inr ⟨q, (own_base HR1.out gf rfl).2⟩
  · refine (HT4.out.trans HT5.out).trans (HR2.out.mono (fun j q f => ?_))
    have h1 := (own_base HROW5.out j q).1
    have f2 := HX.out j f
    omega
end
end Go.Proofs.YtlogdmnhngbkaaaDoor
/-
  BUS: Tick.
-/
namespace Go.Proofs.YtlogdmnhngbkaaaDoor
open Go Go.RowKit
section
variable {x : World} {g : Bn} {F : Nat → Prop} {N : Nat} {S : BS}
theorem Bu.tick (h : Bu x g F N S) (ht : S.tk + 1 ≤ 10) : Bu (x.setCell ⟨g.p, 7, none⟩ (.int .i64 ((S.tk : Int) + 1))) g F N { S with tk := S.tk + 1 } ∧ Turned (fun j => ¬ F j) x (x.setCell ⟨g.p, 7, none⟩ (.int .i64 ((S.tk : Int) + 1))) := by
  obtain ⟨V, kn, ka, k, h1, h2, h3⟩ := h
  have t : Turned (fun j => j = g.p) x (x.setCell ⟨g.p, 7, none⟩ (.int .i64 ((S.tk : Int) + 1))) := (Turned.refl (fun j => j = g.p) x).set rfl _ _
  have c := k.c.set 7 (by decide) (.int .i64 ((S.tk : Int) + 1))
  refine Bu.step h3 (Bm.own (tu := S.turn) (tk := S.tk + 1) (on := S.on) k t ⟨c.here, fun o ho => ?_, c.free⟩ k.sz.2.2.2.2.2.1 ht) h1 h2 rfl (fun _ => rfl) (fun _ _ _ _ _ q => Or.inl q) t (fun z hz => Or.inl (Or.inl hz))
  rw [c.cell o ho]
  match o, ho with
  | 0, _ => rfl
  | 1, _ => rfl
  | 2, _ => rfl
  | 3, _ => rfl
  | 4, _ => rfl
  | 5, _ => rfl
  | 6, _ => rfl
  | 7, _ => simp [upd, bv]
  | q + 8, h => exact absurd h (by omega)
theorem Bu.off (h : Bu x g F N S) : Bu (x.setCell ⟨g.p, 6, none⟩ (.bool false)) g F N { S with on := false } ∧ Turned (fun j => ¬ F j) x (x.setCell ⟨g.p, 6, none⟩ (.bool false)) := by
  obtain ⟨V, kn, ka, k, h1, h2, h3⟩ := h
  have t : Turned (fun j => j = g.p) x (x.setCell ⟨g.p, 6, none⟩ (.bool false)) := (Turned.refl (fun j => j = g.p) x).set rfl _ _
  have c := k.c.set 6 (by decide) (.bool false)
  refine Bu.step h3 (Bm.own (tu := S.turn) (tk := S.tk) (on := false) k t ⟨c.here, fun o ho => ?_, c.free⟩ k.sz.2.2.2.2.2.1 k.sz.2.2.2.2.2.2) h1 h2 rfl (fun _ => rfl) (fun _ _ _ _ _ q => Or.inl q) t (fun z hz => Or.inl (Or.inl hz))
  rw [c.cell o ho]
  match o, ho with
  | 0, _ => rfl
  | 1, _ => rfl
  | 2, _ => rfl
  | 3, _ => rfl
  | 4, _ => rfl
  | 5, _ => rfl
  | 6, _ => rfl
  | 7, _ => rfl
  | q + 8, h => exact absurd h (by omega)
/-- does a transaction go on in this tick, and whose? -/
def BS.goes (S S' : BS) : Prop := (S.on = true ∧ S' = S) ∨ (S.on = false ∧ ∃ i, i < S.nc ∧ (S.ak (S.nxt i : Nat)).isSome = true ∧ (∀ j, j < i → (S.ak (S.nxt j : Nat)).isSome = false) ∧ S' = { S with turn := S.nxt i, on := true, tk := 0 })
theorem nxt_lt (S : BS) (i : Nat) (h : 1 ≤ S.nc) : S.nxt i < S.nc := Nat.mod_lt _ h
theorem ubegin_yes {S' : BS} (h : Bu x g F N S) (hon : S.on = false) (hg : S.goes S') : Calls Tryd.prog 28 #[.pointer (some ⟨g.p, 0, none⟩)] x fun e w' => e = .returned (.bool true) ∧ Bu w' g F N S' ∧ Turned (fun j => ¬ F j) x w' := by
  rcases hg with ⟨q, -⟩ | ⟨-, i, hi, a1, a2, rfl⟩
  · rw [hon] at q; cases q
  · refine (ubegin h).mono ?_
    rintro e w' ⟨⟨j, hj, b1, b2, rfl, k⟩ | ⟨b1, rfl, k⟩, t⟩
    · have : i = j := by
        rcases Nat.lt_trichotomy i j with c | c | c
        · have := b2 i c
          rw [a1] at this; cases this
        · exact c
        · have := a2 j c
          rw [b1] at this; cases this
      subst this
      exact ⟨rfl, k, t⟩
    · have := b1 i hi
      rw [a1] at this
      cases this
set_option maxRecDepth 100000 in
set_option maxHeartbeats 2000000 in
theorem utick_wait {S' : BS} (h : Bu x g F N S) (hg : S.goes S') (hw : S'.tk < S'.cyc) : Calls Tryd.prog 8 #[.pointer (some ⟨g.p, 0, none⟩)] x fun e w' => e = .returned (.slice none 0 0) ∧ Bu w' g F N { S' with tk := S'.tk + 1 } ∧ Turned (fun j => ¬ F j) x w' := by
  obtain ⟨o1, -, -, o4, -⟩ := h.own
  have p6 : x.cell? ⟨g.p, 6, none⟩ = some (.bool S.on) := o1.cell 6 (by decide)
  have hp := o1.here
  have HW := Hid.in hw
  cases hon : S.on
  · rw [hon] at p6
    have HBE := Hid.in (ubegin_yes h hon hg)
    clear h hg o1 o4 hw hon
    go_enter Tryd.func8, Tryd.ntmps8
    go_upto_region 3 with (go_at_call 28; refine HBE.out.mono ?_; rintro e y ⟨rfl, hu, ht⟩; have HU := Hid.in hu; have HT := Hid.in ht; clear hu ht)
    clear p6 hp
    obtain ⟨o1, -, -, o4, -⟩ := HU.out.own
    have p7 : y.cell? ⟨g.p, 7, none⟩ = some (.int .i64 S'.tk) := o1.cell 7 (by decide)
    have p1 : y.cell? ⟨g.p, 1, none⟩ = some (.int .i64 S'.cyc) := o1.cell 1 (by decide)
    have hp := o1.here
    have f7 := o1.free 7
    have hlt : (S'.tk : Int) < (S'.cyc : Int) := by have := HW.out; omega
    have hb : (S'.tk : Int) ≤ 10 := by have := o4.2.2.2.2.2.2; omega
    have HTK := Hid.in (Bu.tick (HU.out.below (y := y.drew) ⟨rfl, rfl, rfl, Nat.le_refl _, fun _ _ => rfl⟩) (by have := o4.2.2.1; have := HW.out; omega))
    clear o1 o4
    go_region
    go_wp2
    go_ret
    exact ⟨rfl, HTK.out.1, (HT.out.drew).trans HTK.out.2⟩
  · rw [hon] at p6
    obtain rfl : S' = S := by
      rcases hg with q | q
      · exact q.2
      · have := q.1
        rw [hon] at this
        cases this
    have p7 : x.cell? ⟨g.p, 7, none⟩ = some (.int .i64 S'.tk) := o1.cell 7 (by decide)
    have p1 : x.cell? ⟨g.p, 1, none⟩ = some (.int .i64 S'.cyc) := o1.cell 1 (by decide)
    have f7 := o1.free 7
    have hlt : (S'.tk : Int) < (S'.cyc : Int) := by have := HW.out; omega
    have hb : (S'.tk : Int) ≤ 10 := by have := o4.2.2.2.2.2.2; omega
    have HTK := Hid.in (Bu.tick (h.below (y := x.drew) ⟨rfl, rfl, rfl, Nat.le_refl _, fun _ _ => rfl⟩) (by have := o4.2.2.1; have := HW.out; omega))
    have HT : Hid (Turned (fun j => ¬ F j) x x.drew) := (Turned.refl _ x).drew
    clear h hg o1 o4 hw hon
    go_enter Tryd.func8, Tryd.ntmps8
    go_upto_region 3 with fail
    go_region
    go_wp2
    go_ret
    exact ⟨rfl, HTK.out.1, HT.out.trans HTK.out.2⟩
end
end Go.Proofs.YtlogdmnhngbkaaaDoor
