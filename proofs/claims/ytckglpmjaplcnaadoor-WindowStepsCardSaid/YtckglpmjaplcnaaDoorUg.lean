/-
  THE ANSWER: Enter of what goes in, Retire.
-/
import Derived.Test.YtckglpmjaplcnaaDoorUf
namespace Go.Proofs.YtckglpmjaplcnaaDoor
open Go Go.RowKit
theorem RWin.mark {x : World} {B p h c : Nat} {v : Value} {S : WS} {cl s1 s2 : Int} (k : RWin x B p h c v { { S with next := S.next + 1 } with on := S.on ++ [⟨S.next, cl, s1, s2, 0⟩] }) (d : Nat) (hd : d < S.nr) : RWin (x.setCell ⟨h, d, none⟩ (.bool false)) B p h c v (S.enter cl s1 s2 d) := by
  have e : S.enter cl s1 s2 d = { S with next := S.next + 1, on := S.on ++ [⟨S.next, cl, s1, s2, 0⟩], ab := upd S.ab d true } := by
    unfold WS.enter
    rw [if_pos (by omega)]
    rfl
  rw [e]
  have T : Turned (fun k => k = h) x (x.setCell ⟨h, d, none⟩ (.bool false)) := (Turned.refl (fun k => k = h) x).set (b := h) rfl _ _
  refine ⟨k.c.setOther _ _ k.ne, own_turned k.l T (fun j hj e => k.vh (by rw [hj, e])), ((k.a.set d hd _).ext fun o ho => ?_), k.ne, k.vp, k.vh, k.small, k.lo, k.fit⟩
  unfold upd
  by_cases q : o = d
  · simp [q]
  · simp [q]
set_option maxRecDepth 100000 in
set_option maxHeartbeats 2000000 in
theorem renter_good (B p h c : Nat) (v : Value) (S : WS) (cl s1 s2 d : Int) (w : World) (k : RWin w B p h c v S) (hok : S.okE cl s1 s2 d) (hroom : S.on.length < S.size) (hnx : S.next < 1000000) :
    Calls Tryd.prog 9 #[.pointer (some ⟨p, 0, none⟩), .int .i64 cl, .int .i64 s1, .int .i64 s2, .int .i64 d] w fun e w' => e = .returned (.tuple #[.int .i64 S.next, .int .i64 0]) ∧ ∃ v', (v'.ownBlock = v.ownBlock ∨ ∃ j, v'.ownBlock = some j ∧ w.heap.size ≤ j) ∧ RWin w' B p h c v' (S.enter cl s1 s2 d) ∧ Turned (fun k => k = p ∨ k = h ∨ v.ownBlock = some k) w w' := by
  have hp := k.c.here
  obtain ⟨⟨a1, a2⟩, a3, a4, a5⟩ := hok
  have H1 : Hid (decide (-1 ≤ s1 ∧ s1 < (S.nr : Int)) = true) := decide_eq_true a3
  have H2 : Hid (decide (-1 ≤ s2 ∧ s2 < (S.nr : Int)) = true) := decide_eq_true a4
  have H3 : Hid (decide (-1 ≤ d ∧ d < (S.nr : Int)) = true) := decide_eq_true a5
  obtain ⟨hpx, q0, q1, q2, q3, qf⟩ := k.cells
  obtain ⟨q, cap, hv, hcap, -⟩ := k.see
  have g1 : decide (cl < 0) = false := by simp; omega
  have g2 : decide (cl > 7) = false := by simp; omega
  have hs := k.small
  have f1 := qf 1
  have hroom2 : ¬ (S.on.length : Int) = (S.size : Int) := by omega
  have hroom3 : ((S.on.length : Int) == (S.size : Int)) = false := by simp; omega
  have HK := Hid.in k
  have HF := Hid.in qf
  have HA3 := Hid.in a3
  have HA4 := Hid.in a4
  have HA5 := Hid.in a5
  have hv2 := hv
  rw [hv] at q2
  have HV := Hid.in hv
  clear k a3 a4 a5 hv hv2 qf
  go_enter Tryd.func9, Tryd.ntmps9
  go_wp2_with (go_at_call 30; refine (rregister_any B p h c v S _ _ HK.out).mono ?_; rintro e w1 ⟨rfl, hw⟩; have hw2 := hw.symm; clear hw; subst hw2; first | rw [H1.out] | rw [H2.out] | rw [H3.out])
  go_quiet (fail)
  have HST : Hid (∃ Y, (w.drewN nq).setCell ⟨p, 1, none⟩ (.int .i64 ((S.next : Int) + 1)) = Y ∧ RWin Y B p h c v { S with next := S.next + 1 } ∧ Turned (fun k => k = p) w Y) := by
    refine ⟨_, rfl, ?_, ((Turned.refl (fun k => k = p) w).drewN nq).set (b := p) rfl _ _⟩
    have e1 : (S.next : Int) + 1 = ((S.next + 1 : Nat) : Int) := by omega
    rw [e1]
    exact (HK.out.below (below_drewN w nq)).setNext (S.next + 1) (by omega)
  obtain ⟨Y, hY, kY, tY⟩ := HST.out
  obtain ⟨hpY, -, -, y2, y3, yf⟩ := kY.cells
  obtain ⟨g3, cap3, z, hrun, r1, t1, r4⟩ := app_ent (B := B) Y v S.on ⟨S.next, cl, s1, s2, 0⟩ kY.l (by omega) (by have := kY.lo; omega)
  have kZ := kY.push ⟨S.next, cl, s1, s2, 0⟩ r1 t1 r4 (show S.on.length < 64 by omega) ⟨HA3.out.2, HA4.out.2⟩
  have hpz : p < z.heap.size := Nat.lt_of_lt_of_le hpY t1.size
  have z2 : z.cell? ⟨p, 2, none⟩ = some v := t1.to_cell hpY kY.vp y2
  have zf : z.frozen? ⟨p, 2, none⟩ = false := (World.frozen?_of_block (w := Y) (t1.block p hpY kY.vp)).trans (yf 2)
  have tZ : Turned (fun k => k = p ∨ k = h ∨ v.ownBlock = some k) w (z.setCell ⟨p, 2, none⟩ (.slice (some ⟨g3, 0, none⟩) (S.on.length + 1) cap3)) := ((tY.mono (R := fun k => k = p ∨ k = h ∨ v.ownBlock = some k) (fun k e => Or.inl e)).trans (t1.mono (fun k e => Or.inr (Or.inr e)))).set (b := p) (Or.inl rfl) _ _
  have r5 : (Value.slice (some ⟨g3, 0, none⟩) (S.on.length + 1) cap3).ownBlock = v.ownBlock ∨ ∃ j, (Value.slice (some ⟨g3, 0, none⟩) (S.on.length + 1) cap3).ownBlock = some j ∧ w.heap.size ≤ j := by
    rcases r4 with e | ⟨j, e, e2⟩
    · exact Or.inl e
    · exact Or.inr ⟨j, e, by have := tY.size; omega⟩
  have hvs := HV.out
  rw [hvs] at y2 z2
  obtain ⟨Z, hZ⟩ : ∃ Z, z.setCell ⟨p, 2, none⟩ (.slice (some ⟨g3, 0, none⟩) (S.on.length + 1) cap3) = Z := ⟨_, rfl⟩
  rw [hZ] at kZ tZ
  obtain ⟨hpZ, -, -, -, z3, -⟩ := kZ.cells
  rw [hvs] at hrun
  have HKZ := Hid.in kZ
  have HTZ := Hid.in tZ
  have HR5 := Hid.in r5
  have HHH : Hid (h < Z.heap.size) := kZ.a.here
  clear kZ tZ r5 r4 r1 t1 kY tY HST yf hvs HF
  by_cases hd : 0 ≤ d
  · obtain ⟨dn, rfl⟩ : ∃ dn : Nat, d = dn := ⟨d.toNat, by omega⟩
    have hdn : dn < S.nr := by have := HA5.out; omega
    have e9 := HKZ.out.flag dn hdn
    have e8 := HKZ.out.a.free dn
    have hhz := HHH.out
    go_wp2_with (at_builtin; refine wpList_append_run rfl rfl rfl rfl hrun ?_)
    go_ret2
    exact ⟨rfl, _, HR5.out, HKZ.out.mark dn hdn, (HTZ.out.set (b := h) (Or.inr (Or.inl rfl)) _ _)⟩
  · go_wp2_with (at_builtin; refine wpList_append_run rfl rfl rfl rfl hrun ?_)
    go_ret2
    refine ⟨rfl, _, HR5.out, ?_, HTZ.out⟩
    have e : S.enter cl s1 s2 d = { { S with next := S.next + 1 } with on := S.on ++ [⟨S.next, cl, s1, s2, 0⟩] } := by
      unfold WS.enter
      rw [if_neg (show ¬ 0 ≤ d by omega)]
    rw [e]
    exact HKZ.out
end Go.Proofs.YtckglpmjaplcnaaDoor
