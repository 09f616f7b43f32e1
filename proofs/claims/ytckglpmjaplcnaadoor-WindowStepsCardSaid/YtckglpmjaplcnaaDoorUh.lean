/-
  THE ANSWER: Retire.
-/
import Derived.Test.YtckglpmjaplcnaaDoorUg
namespace Go.Proofs.YtckglpmjaplcnaaDoor
open Go Go.RowKit
theorem ret_run (x : World) (g cap : Nat) (y : Ent) (l : List Ent) (B : Nat) (hr : x.ownsRow B 63 5 (.slice (some ⟨g, 0, none⟩) (l.length + 1) cap) (l.length + 1) (flatE (y :: l))) (h64 : l.length ≤ 64) (ad : Addr) (c : Nat) (had : l ≠ [] → ad = ⟨g, 5, none⟩) : ∃ q cap' z, (Builtin.append_ #[35, 35] 35 #[.slice none 0 0, .slice (some ad) l.length c]).run Tryd.prog x = .ok (.slice q l.length cap') z ∧ z.ownsRow x.heap.size 63 5 (.slice q l.length cap') l.length (flatE l) ∧ Below x.heap.size x z := by
  obtain ⟨i0, hi0, hz0, hz1, hz2⟩ := info_parts (show (Tryd.prog.info? 63).map (fun i => (i.zero, i.size, i.bytes)) = some (some (.agg #[.int .i64 0, .int .i64 0, .int .i64 0, .int .i64 0, .int .i64 0]), 5, 40) by kernel_rfl)
  obtain ⟨v', w1, hrun, r1, r2, r3, r4⟩ := run_append_own_at (P := Tryd.prog) (w := x) x.heap.size 35 35 63 i0 (.agg #[.int .i64 0, .int .i64 0, .int .i64 0, .int .i64 0, .int .i64 0]) 5 40 Tryd.underlying35 hi0 hz0 hz1 hz2 rfl (by decide) (.slice none 0 0) 0 [] (World.ownsRow_nil _ _ _ _) ad l.length c (flatE l) (flatE_len l) (fun j u hu => by
      rw [had (fun e => by rw [e] at hu; simp [flatE] at hu), Addr.add_lit]
      have q := World.ownsRow.cells hr rfl (5 + j) u (by
        show (y.vs ++ flatE l)[5 + j]? = some u
        rw [List.getElem?_append_right (by simp [Ent.vs])]
        simpa [Ent.vs] using hu)
      rwa [Addr.add_lit, Nat.zero_add] at q) (flatE_one' l) (by unfold maxLen; omega) (by omega) (Nat.le_refl _)
  rw [Nat.zero_add, List.nil_append] at r1
  obtain ⟨q, cap', rfl, -, -⟩ := own_ents r1
  exact ⟨q, cap', w1, hrun, r1, (Below.refl _ x).grown r2 (Nat.le_refl _) (fun _ e => by simp [Value.ownBlock] at e)⟩
set_option maxRecDepth 100000 in
set_option maxHeartbeats 2000000 in
theorem rretire_good (B p h c : Nat) (v : Value) (S : WS) (w : World) (k : RWin w B p h c v S) (hn : 0 < S.on.length) (hd : S.st 0 = 2) : Calls Tryd.prog 21 #[.pointer (some ⟨p, 0, none⟩)] w fun e w' => e = .returned (.tuple #[.int .i64 (S.num 0), .int .i64 0]) ∧ ∃ v', (v'.ownBlock = v.ownBlock ∨ (∀ j, v'.ownBlock = some j → w.heap.size ≤ j)) ∧ RWin w' B p h c v' S.pop ∧ Turned (fun k => k = p) w w' := by
  obtain ⟨hpx, -, -, c2, -, qf⟩ := k.cells
  obtain ⟨q, cap, rfl, hcap, hel⟩ := k.see
  obtain ⟨g, rfl, hg, d0, -, -, -, d4, -⟩ := hel 0 hn
  obtain ⟨y, l, hyl⟩ : ∃ y l, S.on = y :: l := by
    cases e : S.on with
    | nil => rw [e] at hn; simp at hn
    | cons y l => exact ⟨y, l, rfl⟩
  have hlen : S.on.length = l.length + 1 := by rw [hyl]; rfl
  have hs := k.small.1
  have e0' : S.num 0 = (S.on.getD 0 e0).num := rfl
  have e4' : (S.on.getD 0 e0).st = 2 := hd
  rw [e0']
  rw [e4'] at d4
  obtain ⟨n0, hn0⟩ : ∃ n0, (S.on.getD 0 e0).num = n0 := ⟨_, rfl⟩
  rw [hn0] at d0 ⊢
  simp only [Nat.zero_mul, Nat.zero_add] at d0 d4
  have hkl := k.l
  rw [hyl] at hkl
  have hkl2 : w.ownsRow B 63 5 (.slice (some ⟨g, 0, none⟩) (l.length + 1) cap) (l.length + 1) (flatE (y :: l)) := hkl
  have HK := Hid.in k
  have HL := Hid.in hkl2
  have HY := Hid.in hyl
  have HF := Hid.in qf
  obtain ⟨m, hm⟩ : ∃ m, l.length = m := ⟨_, rfl⟩
  have HRR : Hid (∀ ad c, (m ≠ 0 → ad = ⟨g, 5, none⟩) → ∃ q cap' z, (Builtin.append_ #[35, 35] 35 #[.slice none 0 0, .slice (some ad) m c]).run Tryd.prog w = .ok (.slice q m cap') z ∧ z.ownsRow w.heap.size 63 5 (.slice q m cap') m (flatE l) ∧ Below w.heap.size w z) := by
    intro ad c had
    rw [← hm]
    exact ret_run w g cap y l B hkl2 (by omega) ad c (fun e => had (fun q => e (List.eq_nil_of_length_eq_zero (by omega))))
  have hf2 := qf 2
  have HM := Hid.in hm
  rw [hlen, hm] at c2 hcap hs
  have hfin : ∀ q' cap' z, z.ownsRow w.heap.size 63 5 (.slice q' m cap') m (flatE l) → Below w.heap.size w z → ∃ v', (v'.ownBlock = (Value.slice (some ⟨g, 0, none⟩) S.on.length cap).ownBlock ∨ (∀ j, v'.ownBlock = some j → w.heap.size ≤ j)) ∧ RWin (z.setCell ⟨p, 2, none⟩ (.slice q' m cap')) B p h c v' S.pop ∧ Turned (fun k => k = p) w (z.setCell ⟨p, 2, none⟩ (.slice q' m cap')) := by
    intro q' cap' z hz hb
    have kz := HK.out.below hb
    have hpop : S.pop.on = l := by simp [WS.pop, HY.out]
    have hp2 : S.pop.on.length = m := by rw [hpop]; exact HM.out
    have hlo := kz.lo
    have T : Turned (fun k => k = p) z (z.setCell ⟨p, 2, none⟩ (.slice q' m cap')) := (Turned.refl (fun k => k = p) z).set (b := p) rfl _ _
    have hpw := HK.out.c.here
    have hhw := HK.out.a.here
    refine ⟨.slice q' m cap', Or.inr (fun j hj => (own_base hz j hj).1), ⟨(kz.c.set 2 (by omega) _).ext fun o ho => ?_, ?_, kz.a.setOther _ _ (fun e => kz.ne e.symm), kz.ne, fun e => ?_, fun e => ?_, ⟨by rw [hp2]; omega, kz.small.2⟩, kz.lo, fun j hj => ?_⟩, (Turned.of_below hb).trans T⟩
    · match o, ho with
      | 0, _ => rfl
      | 1, _ => rfl
      | 2, _ => rfl
      | 3, _ => rfl
    · rw [hp2, hpop]
      refine own_low (own_turned hz T (fun j hj e => ?_)) (by omega)
      have := (own_base hz j hj).1
      omega
    · have := (own_base hz p e).1
      omega
    · have := (own_base hz h e).1
      omega
    · rw [hp2] at hj
      have := kz.fit (j + 1) (by rw [HY.out]; simp; have := HM.out; omega)
      rw [HY.out, List.getD_cons_succ] at this
      rw [hpop]
      exact this
  have HFIN := Hid.in hfin
  clear k hel hn hd hyl hkl hkl2 qf e0' e4' hn0 hm hlen hfin
  by_cases hc1 : cap = 1
  · obtain rfl : m = 0 := by omega
    subst hc1
    obtain ⟨q', cap', z, hrun, hz, hb⟩ := HRR.out ⟨g, 0, none⟩ 0 (fun e => absurd rfl e)
    have z2 := (hb.cell (p := ⟨p, 2, none⟩) hpx).trans c2
    have zf := (hb.frozen (p := ⟨p, 2, none⟩) hpx).trans hf2
    have hpz := Nat.lt_of_lt_of_le hpx hb.size
    have HFF := Hid.in (HFIN.out _ _ _ hz hb)
    clear hz hb HRR HFIN
    go_enter Tryd.func21, Tryd.ntmps21
    go_wp2_with (at_builtin; refine wpList_append_run rfl rfl rfl rfl hrun ?_)
    go_ret2
    exact ⟨rfl, HFF.out⟩
  · have hcc : 1 < cap := by omega
    obtain ⟨q', cap', z, hrun, hz, hb⟩ := HRR.out ⟨g, 5, none⟩ (cap - 1) (fun _ => rfl)
    have z2 := (hb.cell (p := ⟨p, 2, none⟩) hpx).trans c2
    have zf := (hb.frozen (p := ⟨p, 2, none⟩) hpx).trans hf2
    have hpz := Nat.lt_of_lt_of_le hpx hb.size
    have HFF := Hid.in (HFIN.out _ _ _ hz hb)
    clear hz hb HRR HFIN
    go_enter Tryd.func21, Tryd.ntmps21
    go_wp2_with (at_builtin; refine wpList_append_run rfl rfl rfl rfl hrun ?_)
    go_ret2
    exact ⟨rfl, HFF.out⟩
set_option maxHeartbeats 1000000 in
theorem rretire_bad (B p h c : Nat) (v : Value) (S : WS) (w : World) (k : RWin w B p h c v S) (hn : ¬ (0 < S.on.length ∧ S.st 0 = 2)) : Calls Tryd.prog 21 #[.pointer (some ⟨p, 0, none⟩)] w fun e w' => e = .returned (.tuple #[.int .i64 0, .int .i64 7]) ∧ w' = w := by
  obtain ⟨hpx, -, -, c2, -, -⟩ := k.cells
  obtain ⟨q, cap, rfl, hcap, hel⟩ := k.see
  have hs := k.small.1
  by_cases h0 : 0 < S.on.length
  · obtain ⟨g, rfl, hg, d0, -, -, -, d4, -⟩ := hel 0 h0
    have hst : (S.on.getD 0 e0).st ≠ 2 := fun e => hn ⟨h0, e⟩
    obtain ⟨n4, hn4⟩ : ∃ n4, (S.on.getD 0 e0).st = n4 := ⟨_, rfl⟩
    rw [hn4] at d4 hst
    simp only [Nat.zero_mul, Nat.zero_add] at d4
    have g1 : ((S.on.length : Int) == 0) = false := by simp; intro e; rw [e] at h0; simp at h0
    have g2 : (n4 == 2) = false := by simp [hst]
    have g3 : ¬ (S.on.length : Int) = 0 := by omega
    clear k hel hn hn4
    go_enter Tryd.func21, Tryd.ntmps21
    go_wp2
    go_ret2
    exact ⟨rfl, rfl⟩
  · have hz : S.on.length = 0 := by omega
    have hu : undef = Value.tuple #[] := rfl
    rw [hz] at c2
    clear k hel hn hz h0 hs hcap
    go_enter Tryd.func21, Tryd.ntmps21
    go_wp2
    go_ret2
    exact ⟨rfl, rfl⟩
end Go.Proofs.YtckglpmjaplcnaaDoor
