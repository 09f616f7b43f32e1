/-
  THE ANSWER: Able, Enter, New.
-/
import Derived.Test.YtckglpmjaplcnaaDoorUd
namespace Go.Proofs.YtckglpmjaplcnaaDoor
open Go Go.RowKit
theorem turned_of {B : Nat} {x y : World} (h : Below B x y) : Turned (fun k => B ≤ k) x y := ⟨h.os, h.tape, h.output, h.size, fun k _ hk => h.block k (by omega)⟩
theorem app_int {B : Nat} (x : World) (cv : Value) (cl : List Int) (c : Int) (hr : x.ownsRow B 3 1 cv cl.length (ints cl)) (hl : cl.length ≤ 1000000) (hB : B ≤ x.heap.size) : ∃ g cap y, (Builtin.append_ #[48, 48] 48 #[cv, .slice (some ⟨x.heap.size, 0, none⟩) 1 1]).run Tryd.prog (x.alloc (.cells #[.int .i64 c] 3)) = .ok (.slice (some ⟨g, 0, none⟩) (cl.length + 1) cap) y ∧ y.ownsRow B 3 1 (.slice (some ⟨g, 0, none⟩) (cl.length + 1) cap) (cl.length + 1) (ints (cl ++ [c])) ∧ Turned (fun j => cv.ownBlock = some j) x y ∧ (some g = cv.ownBlock ∨ x.heap.size ≤ g) := by
  obtain ⟨i0, hi0, hz0, hz1, hz2⟩ := info_parts (show (Tryd.prog.info? 3).map (fun i => (i.zero, i.size, i.bytes)) = some (some (.int .i64 0), 1, 8) by kernel_rfl)
  obtain ⟨v', w1, hrun, r1, r2, r3, r4⟩ := run_append_own_at (P := Tryd.prog) (w := x.alloc (.cells #[.int .i64 c] 3)) B 48 48 3 i0 (.int .i64 0) 1 8 Tryd.underlying48 hi0 hz0 hz1 hz2 rfl (by decide) cv cl.length (ints cl) (hr.alloc _) ⟨x.heap.size, 0, none⟩ 1 1 [.int .i64 c] rfl (cell_one_new _ _ _) (by simp [Value.oneCell']) (by unfold maxLen; omega) (by omega) (by simp; omega)
  obtain ⟨g, cap, rfl⟩ := Go.ownsRow_succ r1
  have e : ints (cl ++ [c]) = ints cl ++ [.int .i64 c] := by simp [ints]
  refine ⟨g, cap, w1, hrun, by rw [e]; exact r1, (((Turned.refl _ x).alloc _).trans (turned_grown r2)), ?_⟩
  rcases r4 with q | q
  · exact Or.inl q
  · right
    simp [Value.ownBlock] at q
    omega
theorem app_ent {B : Nat} (x : World) (v : Value) (l : List Ent) (y : Ent) (hr : x.ownsRow B 63 5 v l.length (flatE l)) (hl : l.length ≤ 1000000) (hB : B ≤ x.heap.size) : ∃ g cap z, (Builtin.append_ #[35, 35] 35 #[v, .slice (some ⟨x.heap.size, 0, none⟩) 1 1]).run Tryd.prog (x.alloc (.cells #[.int .i64 y.num, .int .i64 y.cls, .int .i64 y.s1, .int .i64 y.s2, .int .i64 y.st] 63)) = .ok (.slice (some ⟨g, 0, none⟩) (l.length + 1) cap) z ∧ z.ownsRow B 63 5 (.slice (some ⟨g, 0, none⟩) (l.length + 1) cap) (l.length + 1) (flatE (l ++ [y])) ∧ Turned (fun j => v.ownBlock = some j) x z ∧ ((Value.slice (some ⟨g, 0, none⟩) (l.length + 1) cap).ownBlock = v.ownBlock ∨ ∃ j, (Value.slice (some ⟨g, 0, none⟩) (l.length + 1) cap).ownBlock = some j ∧ x.heap.size ≤ j) := by
  obtain ⟨i0, hi0, hz0, hz1, hz2⟩ := info_parts (show (Tryd.prog.info? 63).map (fun i => (i.zero, i.size, i.bytes)) = some (some (.agg #[.int .i64 0, .int .i64 0, .int .i64 0, .int .i64 0, .int .i64 0]), 5, 40) by kernel_rfl)
  obtain ⟨v', w1, hrun, r1, r2, r3, r4⟩ := run_append_own_at (P := Tryd.prog) (w := x.alloc (.cells #[.int .i64 y.num, .int .i64 y.cls, .int .i64 y.s1, .int .i64 y.s2, .int .i64 y.st] 63)) B 35 35 63 i0 (.agg #[.int .i64 0, .int .i64 0, .int .i64 0, .int .i64 0, .int .i64 0]) 5 40 Tryd.underlying35 hi0 hz0 hz1 hz2 rfl (by decide) v l.length (flatE l) (hr.alloc _) ⟨x.heap.size, 0, none⟩ 1 1 y.vs rfl (fun j u hj => by
      rw [Addr.add_lit, Nat.zero_add]
      refine (World.cell?_alloc_new x _ _ j).trans ?_
      rw [← hj]
      simp [Ent.vs]) (fun u hu => by
      simp [Ent.vs] at hu
      rcases hu with rfl | rfl | rfl | rfl | rfl <;> rfl) (by unfold maxLen; omega) (by omega) (by simp; omega)
  obtain ⟨g, cap, rfl⟩ := Go.ownsRow_succ r1
  have e : flatE l ++ y.vs = flatE (l ++ [y]) := by rw [flatE_app, flatE_one]
  rw [e] at r1
  refine ⟨g, cap, w1, hrun, r1, (((Turned.refl _ x).alloc _).trans (turned_grown r2)), ?_⟩
  rcases r4 with q | q
  · exact Or.inl q
  · exact Or.inr ⟨_, q, by rw [World.size_alloc]; exact Nat.le_succ _⟩
set_option maxRecDepth 100000 in
set_option maxHeartbeats 2000000 in
theorem rable_list (B p h c : Nat) (v : Value) (S : WS) (cl most : Int) (w : World) (k : RWin w B p h c v S) : Calls Tryd.prog 13 #[.pointer (some ⟨p, 0, none⟩), .int .i64 cl, .int .i64 most] w fun e w' => ∃ u, e = .returned u ∧ w'.ownsRow w.heap.size 3 1 u (S.ready cl most).length (ints (S.ready cl most)) ∧ Below w.heap.size w w' := by
  obtain ⟨hp, -, -, c2, -, -⟩ := k.cells
  obtain ⟨q, cap, hv, hcap, hel⟩ := k.see
  subst hv
  have hs := k.small.1
  have HK := Hid.in k
  have HE := Hid.in hel
  have HNP : Hid (¬ (w.heap.size ≤ p)) := by have := k.c.here; exact (by omega : ¬ (w.heap.size ≤ p))
  have HNH : Hid (¬ (w.heap.size ≤ h)) := by have := k.a.here; exact (by omega : ¬ (w.heap.size ≤ h))
  have HNV : Hid (∀ j, (Value.slice q S.on.length cap).ownBlock = some j → ¬ (w.heap.size ≤ j)) := fun j hj => by have := (own_base k.l j hj).2; omega
  unfold WS.ready
  obtain ⟨T, hT⟩ : ∃ T : Nat → List Int, T = tl (fun i => S.isCls cl i && S.may i) (fun i => S.num i) most := ⟨_, rfl⟩
  have HTS : Hid (∀ i, T (i + 1) = if ((T i).length : Int) ≥ most then T i else if (S.isCls cl i && S.may i) = true then T i ++ [S.num i] else T i) := by
    intro i
    rw [hT]
    rfl
  have HTL : Hid (∀ i, (T i).length ≤ i) := by rw [hT]; exact tl_le _ _ _
  have HTE : Hid (∀ i, ((T i).length : Int) ≥ most → ∀ d, T (i + d) = T i) := by rw [hT]; exact tl_stop _ _ _
  have HT0 : Hid (T 0 = []) := by rw [hT]; rfl
  rw [← hT]
  clear k hel hT
  go_enter Tryd.func13, Tryd.ntmps13
  go_wp2
  go_loopw [7, 8] (fun uv kv wr => ∃ (i : Nat) (u : Value), u = uv ∧ kv = .int .i64 i ∧ i ≤ S.on.length ∧ wr.ownsRow w.heap.size 3 1 u (T i).length (ints (T i)) ∧ Below w.heap.size w wr) (fun _ kv _ => S.on.length + 1 - (intOf kv).toNat)
  case atStart => exact ⟨0, _, rfl, rfl, Nat.zero_le _, by rw [HT0.out]; exact World.ownsRow_nil _ _ _ _, Below.refl _ _⟩
  case round =>
    obtain ⟨i, u, rfl, rfl, hi, hrow, hb⟩ := hrel
    obtain ⟨uq, ucap, hu1, hu2, -⟩ := own_ints hrow
    have htl := HTL.out i
    obtain ⟨L, hL⟩ : ∃ L, T i = L := ⟨_, rfl⟩
    rw [hL] at hrow hu1 hu2 htl
    subst hu1
    have HL := Hid.in hL
    have HR := Hid.in hrow
    have HB := Hid.in hb
    have hpw : p < wr.heap.size := by have := hb.size; omega
    have x2 : wr.cell? ⟨p, 2, none⟩ = some (.slice q S.on.length cap) := (hb.cell (p := ⟨p, 2, none⟩) hp).trans c2
    clear hrow hb hL
    by_cases hlt : i < S.on.length
    · obtain ⟨g, hq, hg, d0, d1, d2, d3, d4, f4⟩ := HE.out i hlt
      subst hq
      obtain ⟨u1, u2⟩ := HK.out.fit i hlt
      have hmay := WS.may_is S i
      have hcls : S.isCls cl i = decide ((S.on.getD i e0).cls = cl) := rfl
      have hnum : S.num i = (S.on.getD i e0).num := rfl
      obtain ⟨y, hy⟩ : ∃ y, S.on.getD i e0 = y := ⟨_, rfl⟩
      rw [hy] at d0 d1 d2 d3 d4 u1 u2 hmay hcls hnum
      obtain ⟨m0, m1, m2, m3, m4⟩ := y
      dsimp only at d0 d1 d2 d3 d4 u1 u2 hcls hnum
      have e0' := (HB.out.cell (p := ⟨g, i * 5, none⟩) hg).trans d0
      have e1' := (HB.out.cell (p := ⟨g, i * 5 + 1, none⟩) hg).trans d1
      have e2' := (HB.out.cell (p := ⟨g, i * 5 + 2, none⟩) hg).trans d2
      have e3' := (HB.out.cell (p := ⟨g, i * 5 + 3, none⟩) hg).trans d3
      have e4' := (HB.out.cell (p := ⟨g, i * 5 + 4, none⟩) hg).trans d4
      have hgw : g < wr.heap.size := by have := HB.out.size; omega
      have HU1 := Hid.in u1
      have HU2 := Hid.in u2
      have hstep := HTS.out i
      rw [HL.out, hmay, hcls, hnum] at hstep
      have HST := Hid.in hstep
      obtain ⟨mb, hmb⟩ : ∃ mb, S.mayE ⟨m0, m1, m2, m3, m4⟩ = mb := ⟨_, rfl⟩
      rw [hmb] at HST
      have HMB := Hid.in hmb
      clear d0 d1 d2 d3 d4 f4 u1 u2 hmay hcls hnum hy hstep hmb
      by_cases hm : (L.length : Int) < most
      · have hm2 : ¬ ((L.length : Int) ≥ most) := by omega
        have hst := HST.out
        rw [if_neg hm2] at hst
        cases mb with
        | true =>
          by_cases hcl : m1 = cl
          · subst hcl
            rw [if_pos (by simp)] at hst
            have HS := Hid.in hst
            clear hst hm2
            go_wp2_with (first
              | (go_at_call 35; refine (rable_any B p h c _ S m0 m1 m2 m3 m4 _ (HK.out.turned (turned_of HB.out) HNP.out HNH.out HNV.out) HU1.out HU2.out).mono ?_; rintro e w2 ⟨rfl, hb2⟩; rw [HMB.out]; have z0 := (hb2.cell (p := ⟨g, i * 5, none⟩) hgw).trans e0'; have z1 := (hb2.cell (p := ⟨g, i * 5 + 1, none⟩) hgw).trans e1'; have z2 := (hb2.cell (p := ⟨p, 2, none⟩) hpw).trans x2; have hp2 := Nat.lt_of_lt_of_le hpw hb2.size; have hg2 := Nat.lt_of_lt_of_le hgw hb2.size; have HB2 := Hid.in (HB.out.trans (hb2.mono HB.out.size)); have HR2 := Hid.in (own_turned (Q := fun _ => False) HR.out (Turned.of_below hb2) (fun _ _ q => q)); clear hb2)
              | (at_builtin; obtain ⟨g3, cap3, w3, hrun, h3, t3, b3⟩ := app_int (B := w.heap.size) w2 _ L m0 HR2.out (by omega) HB2.out.size; refine wpList_append_run rfl rfl rfl rfl hrun ?_; have H3 := Hid.in h3; have HB3 := Hid.in (HB2.out.trans (t3.below HB2.out.size (fun j hj => (own_base HR2.out j hj).1))); clear h3 t3 b3 hrun))
            go_roundw
            case rel => exact ⟨i + 1, _, rfl, by simp, by omega, by rw [HS.out, show (L ++ [m0]).length = L.length + 1 by simp]; exact H3.out, HB3.out⟩
            case measure => simp [intOf]; omega
          · have hdc : (m1 == cl) = false := by simp [hcl]
            rw [if_neg (by simp [hcl])] at hst
            have HS := Hid.in hst
            clear hst hm2
            go_wp2_with (go_at_call 35; refine (rable_any B p h c _ S m0 m1 m2 m3 m4 _ (HK.out.turned (turned_of HB.out) HNP.out HNH.out HNV.out) HU1.out HU2.out).mono ?_; rintro e w2 ⟨rfl, hb2⟩; rw [HMB.out]; have z0 := (hb2.cell (p := ⟨g, i * 5, none⟩) hgw).trans e0'; have z1 := (hb2.cell (p := ⟨g, i * 5 + 1, none⟩) hgw).trans e1'; have z2 := (hb2.cell (p := ⟨p, 2, none⟩) hpw).trans x2; have hp2 := Nat.lt_of_lt_of_le hpw hb2.size; have hg2 := Nat.lt_of_lt_of_le hgw hb2.size; have HB2 := Hid.in (HB.out.trans (hb2.mono HB.out.size)); have HR2 := Hid.in (own_turned (Q := fun _ => False) HR.out (Turned.of_below hb2) (fun _ _ q => q)); clear hb2)
            go_roundw
            case rel => exact ⟨i + 1, _, rfl, by simp, by omega, by rw [HS.out]; exact HR2.out, HB2.out⟩
            case measure => simp [intOf]; omega
        | false =>
          rw [if_neg (by simp)] at hst
          have HS := Hid.in hst
          clear hst hm2
          go_wp2_with (go_at_call 35; refine (rable_any B p h c _ S m0 m1 m2 m3 m4 _ (HK.out.turned (turned_of HB.out) HNP.out HNH.out HNV.out) HU1.out HU2.out).mono ?_; rintro e w2 ⟨rfl, hb2⟩; rw [HMB.out]; have z0 := (hb2.cell (p := ⟨g, i * 5, none⟩) hgw).trans e0'; have z1 := (hb2.cell (p := ⟨g, i * 5 + 1, none⟩) hgw).trans e1'; have z2 := (hb2.cell (p := ⟨p, 2, none⟩) hpw).trans x2; have hp2 := Nat.lt_of_lt_of_le hpw hb2.size; have hg2 := Nat.lt_of_lt_of_le hgw hb2.size; have HB2 := Hid.in (HB.out.trans (hb2.mono HB.out.size)); have HR2 := Hid.in (own_turned (Q := fun _ => False) HR.out (Turned.of_below hb2) (fun _ _ q => q)); clear hb2)
          go_roundw
          case rel => exact ⟨i + 1, _, rfl, by simp, by omega, by rw [HS.out]; exact HR2.out, HB2.out⟩
          case measure => simp [intOf]; omega
      · have hst := HTE.out i (by rw [HL.out]; omega) (S.on.length - i)
        rw [show i + (S.on.length - i) = S.on.length by omega, HL.out] at hst
        have HS := Hid.in hst
        clear hst
        go_wp2
        go_ret
        exact ⟨_, rfl, by rw [HS.out]; exact HR.out, HB.out⟩
    · have hin : i = S.on.length := by omega
      have hst : T S.on.length = L := by rw [← hin]; exact HL.out
      have HS := Hid.in hst
      have hu : undef = Value.tuple #[] := rfl
      have hdi : decide ((i : Int) < (S.on.length : Int)) = false := by simp; omega
      clear hst hin
      go_wp2
      go_ret
      exact ⟨_, rfl, by rw [HS.out]; exact HR.out, HB.out⟩
end Go.Proofs.YtckglpmjaplcnaaDoor
