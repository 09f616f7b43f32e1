/-
  WINDOW: Retire, New, Enter.
-/
import Derived.Test.YtckglpmjaplcnaaDoorVk
import Derived.Deep.RegionHeldLaw
import Derived.Maps.AppendAt
namespace Go.Proofs.YtckglpmjaplcnaaDoor
open Go Go.RowKit
def WS.pop (S : WS) : WS := { S with on := S.on.tail }
set_option maxHeartbeats 1000000 in
theorem retire_good (B p h c : Nat) (v : Value) (S : WS) (w : World) (k : Win w B p h c v S) (hn : 0 < S.on.length) (hd : S.st 0 = 2) : Calls Tryd.prog 20 #[.pointer (some ⟨p, 0, none⟩)] w fun e w' => e = .returned (.tuple #[.int .i64 (S.num 0), .nilIface]) ∧ ∃ v', v'.ownBlock = v.ownBlock ∧ Win w' B p h c v' S.pop ∧ Turned (fun k => k = p ∨ v.ownBlock = some k) w w' := by
  obtain ⟨q, cap, rfl, hcap, hel⟩ := own_ents k.l
  obtain ⟨g, rfl, -⟩ := hel 0 hn
  obtain ⟨y, l, hyl⟩ : ∃ y l, S.on = y :: l := by
    cases e : S.on with
    | nil => rw [e] at hn; simp at hn
    | cons y l => exact ⟨y, l, rfl⟩
  have hlen : S.on.length = l.length + 1 := by rw [hyl]; rfl
  have hs := k.small.1
  have HK := Hid.in k
  have HD : Hid ((S.st 0 == 2) = true) := by rw [hd]; rfl
  have HN := Hid.in hn
  obtain ⟨n0, hn0⟩ : ∃ n0, S.num 0 = n0 := ⟨_, rfl⟩
  rw [hn0]
  have HN0 := Hid.in hn0
  have HY := Hid.in hyl
  have np : p ≠ g := fun e => k.vp (by rw [e]; rfl)
  clear k hel hn hd hn0 hyl
  rw [hlen] at hs hcap HK ⊢
  go_enter Tryd.func20, Tryd.ntmps20
  go_wp2_with (first
    | (go_at_call 25; refine (head_some B p h c _ S _ HK.out HN.out).mono ?_; rintro e w1 ⟨rfl, hb1⟩; rw [HD.out, HN0.out]; have HK1 := Hid.in (HK.out.below hb1); have HB1 := Hid.in hb1; clear hb1; obtain ⟨hp, -, -, c2, -, fp⟩ := HK1.out.cells; have f2 := fp 2; clear fp)
    | (go_at_call 39; refine (delete_any B g cap y l _ (by have := HK1.out.l; rw [HY.out] at this; exact this) (by omega)).mono ?_; rintro e w2 ⟨rfl, hr2, ht2⟩; have HR2 := Hid.in hr2; have HT2 := Hid.in ht2; clear hr2 ht2; have c2' := HT2.out.to_cell hp np c2; have f2' := (World.frozen?_of_block (w := w1) (HT2.out.block p hp np)).trans f2))
  go_ret2
  have k1 := HK1.out
  have nh : h ≠ g := fun e => k1.vh (by rw [e]; rfl)
  have T : Turned (fun k => k = p ∨ (Value.slice (some ⟨g, 0, none⟩) (l.length + 1) cap).ownBlock = some k) w1 (w2.setCell ⟨p, 2, none⟩ (.slice (some ⟨g, 0, none⟩) l.length cap)) := (HT2.out.mono (R := fun k => k = p ∨ (Value.slice (some ⟨g, 0, none⟩) (l.length + 1) cap).ownBlock = some k) (fun k e => Or.inr (by rw [e]; rfl))).set (b := p) (Or.inl rfl) _ _
  refine ⟨rfl, .slice (some ⟨g, 0, none⟩) l.length cap, rfl, ?_, (Turned.of_below HB1.out).trans T⟩
  have hpop : S.pop.on = l := by simp [WS.pop, HY.out]
  have hp2 : S.pop.on.length = l.length := by rw [hpop]
  refine ⟨?_, ?_, ?_, k1.ne, fun e => np ?_, fun e => nh ?_, ⟨by rw [hp2]; omega, k1.small.2⟩, k1.lo, fun j hj => ?_⟩
  · refine ((HT2.out.cells k1.c np).set 2 (by omega) _).ext fun o ho => ?_
    match o, ho with
    | 0, _ => rfl
    | 1, _ => rfl
    | 2, _ => rfl
    | 3, _ => rfl
  · rw [hp2, hpop]
    exact own_turned HR2.out ((Turned.refl (fun k => k = p) w2).set (b := p) rfl _ _) (fun j hj e => by simp [Value.ownBlock] at hj; omega)
  · exact ((HT2.out.cells k1.a nh).setOther _ _ (fun e => k1.ne e.symm))
  · simp [Value.ownBlock] at e; omega
  · simp [Value.ownBlock] at e; omega
  · rw [hp2] at hj
    have := k1.fit (j + 1) (by rw [HY.out]; simp; omega)
    rw [HY.out, List.getD_cons_succ] at this
    rw [hpop]
    exact this
set_option maxHeartbeats 1000000 in
theorem isClass_any (cl : Int) (w : World) : Calls Tryd.prog 28 #[.int .i64 cl] w fun e w' => e = .returned (.bool (decide (0 ≤ cl ∧ cl ≤ 7))) ∧ w' = w := by
  by_cases h0 : 0 ≤ cl
  · by_cases h7 : cl ≤ 7
    · have e1 : decide (0 ≤ cl ∧ cl ≤ 7) = true := by simp [h0, h7]
      rw [e1]
      go_enter Tryd.func28, Tryd.ntmps28
      go_wp2
      go_ret
      exact ⟨rfl, rfl⟩
    · have e1 : decide (0 ≤ cl ∧ cl ≤ 7) = false := by simp [h7]
      rw [e1]
      go_enter Tryd.func28, Tryd.ntmps28
      go_wp2
      go_ret
      exact ⟨rfl, rfl⟩
  · have e1 : decide (0 ≤ cl ∧ cl ≤ 7) = false := by simp [h0]
    have hu : undef = Value.tuple #[] := rfl
    have hd : decide (0 ≤ cl) = false := by simp [h0]
    rw [e1]
    go_enter Tryd.func28, Tryd.ntmps28
    go_wp2
    go_ret
    exact ⟨rfl, rfl⟩
set_option maxHeartbeats 1000000 in
theorem isOperand_any (B p h c : Nat) (v : Value) (S : WS) (q : Int) (w : World) (k : Win w B p h c v S) : Calls Tryd.prog 29 #[.pointer (some ⟨p, 0, none⟩), .int .i64 q] w fun e w' => e = .returned (.bool (decide (-1 ≤ q ∧ q < S.nr))) ∧ w' = w := by
  obtain ⟨hp, -, -, -, c3, -⟩ := k.cells
  have hs := k.small.2.1
  clear k
  by_cases h0 : -1 ≤ q
  · by_cases h7 : q < S.nr
    · have e1 : decide (-1 ≤ q ∧ q < S.nr) = true := by simp [h0, h7]
      rw [e1]
      go_enter Tryd.func29, Tryd.ntmps29
      go_wp2
      go_ret
      exact ⟨rfl, rfl⟩
    · have e1 : decide (-1 ≤ q ∧ q < S.nr) = false := by simp [h7]
      rw [e1]
      go_enter Tryd.func29, Tryd.ntmps29
      go_wp2
      go_ret
      exact ⟨rfl, rfl⟩
  · have e1 : decide (-1 ≤ q ∧ q < S.nr) = false := by simp [h0]
    have hu : undef = Value.tuple #[] := rfl
    have hd : decide (-1 ≤ q) = false := by simp [h0]
    rw [e1]
    go_enter Tryd.func29, Tryd.ntmps29
    go_wp2
    go_ret
    exact ⟨rfl, rfl⟩
def WS.enter (S : WS) (cl s1 s2 d : Int) : WS := { S with next := S.next + 1, on := S.on ++ [⟨S.next, cl, s1, s2, 0⟩], ab := if 0 ≤ d then upd S.ab d.toNat true else S.ab }
theorem Win.setNext {x : World} {B p h c : Nat} {v : Value} {S : WS} (k : Win x B p h c v S) (n : Nat) (hn : n ≤ 1000000) : Win (x.setCell ⟨p, 1, none⟩ (.int .i64 n)) B p h c v { S with next := n } := by
  refine ⟨(k.c.set 1 (by omega) _).ext fun o ho => ?_, own_turned k.l ((Turned.refl (fun k => k = p) x).set (b := p) rfl _ _) (fun j hj e => k.vp (by rw [hj, e])), k.a.setOther _ _ (fun e => k.ne e.symm), k.ne, k.vp, k.vh, ⟨k.small.1, k.small.2.1, hn, k.small.2.2.2⟩, k.lo, k.fit⟩
  match o, ho with
  | 0, _ => rfl
  | 1, _ => rfl
  | 2, _ => rfl
  | 3, _ => rfl
theorem Win.push {x y : World} {B p h c : Nat} {v v' : Value} {S : WS} (k : Win x B p h c v S) (e : Ent) (hr : y.ownsRow B 76 5 v' (S.on.length + 1) (flatE (S.on ++ [e]))) (t : Turned (fun k => v.ownBlock = some k) x y) (hb : v'.ownBlock = v.ownBlock ∨ ∃ j, v'.ownBlock = some j ∧ x.heap.size ≤ j) (hl : S.on.length < 64) (hf : e.s1 < S.nr ∧ e.s2 < S.nr) : Win (y.setCell ⟨p, 2, none⟩ v') B p h c v' { S with on := S.on ++ [e] } := by
  have hp := k.c.here
  have hh := k.a.here
  have np : v'.ownBlock ≠ some p := by
    intro q
    rcases hb with e1 | ⟨j, e1, e2⟩
    · exact k.vp (by rw [← e1, q])
    · rw [e1] at q
      simp at q
      omega
  have nh : v'.ownBlock ≠ some h := by
    intro q
    rcases hb with e1 | ⟨j, e1, e2⟩
    · exact k.vh (by rw [← e1, q])
    · rw [e1] at q
      simp at q
      omega
  have e3 : (S.on ++ [e]).length = S.on.length + 1 := by simp
  refine ⟨((t.cells k.c k.vp).set 2 (by omega) _).ext fun o ho => ?_, ?_, (t.cells k.a k.vh).setOther _ _ (fun e => k.ne e.symm), k.ne, np, nh, ⟨by rw [e3]; omega, k.small.2⟩, k.lo, fun j hj => ?_⟩
  · match o, ho with
    | 0, _ => rfl
    | 1, _ => rfl
    | 2, _ => rfl
    | 3, _ => rfl
  · rw [e3]
    exact own_turned hr ((Turned.refl (fun k => k = p) y).set (b := p) rfl _ _) (fun j hj e => np (by rw [hj, e]))
  · rw [e3] at hj
    show ((S.on ++ [e]).getD j e0).s1 < S.nr ∧ ((S.on ++ [e]).getD j e0).s2 < S.nr
    simp only [List.getD_eq_getElem?_getD]
    by_cases q : j < S.on.length
    · rw [List.getElem?_append_left q]
      have := k.fit j q
      simp only [List.getD_eq_getElem?_getD] at this
      exact this
    · have : j = S.on.length := by omega
      subst this
      simp
      exact hf
theorem Win.mark {x : World} {B p h c : Nat} {v : Value} {S : WS} {cl s1 s2 : Int} (k : Win x B p h c v { { S with next := S.next + 1 } with on := S.on ++ [⟨S.next, cl, s1, s2, 0⟩] }) (d : Nat) (hd : d < S.nr) {y : World} (hy : y = (x.setCell ⟨h, d, none⟩ (.bool true)).drew) : Win y B p h c v (S.enter cl s1 s2 d) := by
  subst hy
  have e : S.enter cl s1 s2 d = { S with next := S.next + 1, on := S.on ++ [⟨S.next, cl, s1, s2, 0⟩], ab := upd S.ab d true } := by
    unfold WS.enter
    rw [if_pos (by omega)]
    rfl
  rw [e]
  have T : Turned (fun k => k = h) x (x.setCell ⟨h, d, none⟩ (.bool true)).drew := ((Turned.refl (fun k => k = h) x).set (b := h) rfl _ _).drew
  refine ⟨(k.c.setOther _ _ k.ne).drew, own_turned k.l T (fun j hj e => k.vh (by rw [hj, e])), ((k.a.set d hd _).drew.ext fun o ho => ?_), k.ne, k.vp, k.vh, k.small, k.lo, k.fit⟩
  unfold upd
  by_cases q : o = d
  · simp [q]
  · simp [q]
set_option maxRecDepth 100000 in
set_option maxHeartbeats 2000000 in
theorem enter_good (B p h c : Nat) (v : Value) (S : WS) (cl s1 s2 d : Int) (w : World) (k : Win w B p h c v S) (hc : 0 ≤ cl ∧ cl ≤ 7) (h1 : -1 ≤ s1 ∧ s1 < S.nr) (h2 : -1 ≤ s2 ∧ s2 < S.nr) (h3 : -1 ≤ d ∧ d < S.nr) (hroom : S.on.length < S.size) (hnx : S.next < 1000000) :
    Calls Tryd.prog 8 #[.pointer (some ⟨p, 0, none⟩), .agg #[.int .i64 cl, .int .i64 s1, .int .i64 s2, .int .i64 d]] w fun e w' => e = .returned (.tuple #[.int .i64 S.next, .nilIface]) ∧ ∃ v', (v'.ownBlock = v.ownBlock ∨ ∃ j, v'.ownBlock = some j ∧ w.heap.size ≤ j) ∧ Win w' B p h c v' (S.enter cl s1 s2 d) ∧ Turned (fun k => k = p ∨ k = h ∨ v.ownBlock = some k) w w' := by
  obtain ⟨q, cap, hv, hcap, hel⟩ := own_ents k.l
  clear hel
  have hs := k.small
  have hp := k.c.here
  have HOB : Hid (∀ j, v.ownBlock = some j → j < w.heap.size) := fun j hj => (own_base k.l j hj).2
  have HLH : Hid (h < w.heap.size) := k.a.here
  have hb0 : Below w.heap.size w (w.alloc (.cells #[.int .i64 cl, .int .i64 s1, .int .i64 s2, .int .i64 d] 43)) := (Below.refl _ w).alloc (Nat.le_refl _) _
  have k0 := k.below hb0
  obtain ⟨X, hX⟩ : ∃ X, w.alloc (.cells #[.int .i64 cl, .int .i64 s1, .int .i64 s2, .int .i64 d] 43) = X := ⟨_, rfl⟩
  have x0 : CellsAt 4 X w.heap.size (fun o => match o with | 0 => .int .i64 cl | 1 => .int .i64 s1 | 2 => .int .i64 s2 | _ => .int .i64 d) := by
    rw [← hX]
    refine cells_new w fun i hi => ?_
    match i, hi with
    | 0, _ => rfl
    | 1, _ => rfl
    | 2, _ => rfl
    | 3, _ => rfl
  have HK0 := Hid.in k0
  have HB0 := Hid.in hb0
  have HX := Hid.in hX
  have HX0 := Hid.in x0
  have HV := Hid.in hv
  have HC := Hid.in hc
  have H1 := Hid.in h1
  have H2 := Hid.in h2
  have H3 := Hid.in h3
  have tc : decide (0 ≤ cl ∧ cl ≤ 7) = true := by simp [hc]
  have t1 : decide (-1 ≤ s1 ∧ s1 < S.nr) = true := by simp [h1]
  have t2 : decide (-1 ≤ s2 ∧ s2 < S.nr) = true := by simp [h2]
  have t3 : decide (-1 ≤ d ∧ d < S.nr) = true := by simp [h3]
  have TC := Hid.in tc
  have T1 := Hid.in t1
  have T2 := Hid.in t2
  have T3 := Hid.in t3
  clear k k0 hb0 hX x0 hc h1 h2 h3 tc t1 t2 t3 hv
  go_enter Tryd.func8, Tryd.ntmps8
  go_wp2_with (first
    | (go_at_call 28; refine (isClass_any cl _).mono ?_; rintro e w1 ⟨rfl, rfl⟩; rw [TC.out])
    | (go_at_call 29; refine (isOperand_any B p h c v S _ _ HK0.out).mono ?_; rintro e w1 ⟨rfl, rfl⟩; first | rw [T1.out] | rw [T2.out] | rw [T3.out]))
  rw [HX.out]
  have k0 := HK0.out
  have hb0 := HB0.out
  rw [HX.out] at k0 hb0
  clear HK0 HB0 HX TC T1 T2 T3
  obtain ⟨hpX, q0, q1, q2, q3, qf⟩ := k0.cells
  have hv := HV.out
  rw [hv] at q2
  have HQF := Hid.in qf
  have HK0 := Hid.in k0
  have HB0 := Hid.in hb0
  have hroom2 : ¬ (S.size : Int) ≤ (S.on.length : Int) := by omega
  clear qf k0 hb0 hv
  go_quiet (fail)
  have f1 := HQF.out 1
  go_wp2
  obtain ⟨Y, hY⟩ : ∃ Y, (X.drewN nq).setCell ⟨p, 1, none⟩ (.int .i64 ((S.next : Int) + 1)) = Y := ⟨_, rfl⟩
  have TY : Turned (fun k => k = p) X Y := by
    rw [← hY]
    exact ((Turned.refl (fun k => k = p) X).drewN nq).set (b := p) rfl _ _
  have kY : Win Y B p h c v { S with next := S.next + 1 } := by
    rw [← hY]
    have e1 : (S.next : Int) + 1 = ((S.next + 1 : Nat) : Int) := by omega
    rw [e1]
    exact (HK0.out.below (below_drewN X nq)).setNext (S.next + 1) (by omega)
  have hbx : w.heap.size < X.heap.size := HX0.out.here
  have xY := TY.cells HX0.out (by omega)
  have hob : ∀ j, v.ownBlock = some j → j < w.heap.size := fun j hj => HOB.out j hj
  rw [hY]
  clear hY q0 q1 q2 q3 f1
  obtain ⟨i0, hi0, hz0, hz1, hz2⟩ := info_parts (show (Tryd.prog.info? 76).map (fun i => (i.zero, i.size, i.bytes)) = some (some (.agg #[.int .i64 0, .int .i64 0, .int .i64 0, .int .i64 0, .int .i64 0]), 5, 40) by kernel_rfl)
  obtain ⟨v', w1, hrun, r1, r2, r3, r4⟩ := run_append_own_at (P := Tryd.prog) (w := Y.drew.alloc (.cells #[.int .i64 S.next, .int .i64 cl, .int .i64 s1, .int .i64 s2, .int .i64 0] 76)) B 69 69 76 i0 (.agg #[.int .i64 0, .int .i64 0, .int .i64 0, .int .i64 0, .int .i64 0]) 5 40 Tryd.underlying69 hi0 hz0 hz1 hz2 rfl (by decide) v S.on.length (flatE S.on) (World.ownsRow.alloc (w := Y.drew) kY.l _) ⟨Y.heap.size, 0, none⟩ 1 1 (Ent.vs ⟨S.next, cl, s1, s2, 0⟩) rfl (fun j u hj => by
      rw [Addr.add_lit, Nat.zero_add]
      have e2 := World.cell?_alloc_new Y.drew #[.int .i64 S.next, .int .i64 cl, .int .i64 s1, .int .i64 s2, .int .i64 0] 76 j
      refine e2.trans ?_
      rw [← hj]
      simp [Ent.vs]) (fun u hu => by
      simp [Ent.vs] at hu
      rcases hu with rfl | rfl | rfl | rfl | rfl <;> rfl) (by unfold maxLen; omega) (by omega) (by have := kY.lo; have := kY.c.here; simp; omega)
  have e3 : flatE S.on ++ (Ent.mk S.next cl s1 s2 0).vs = flatE (S.on ++ [⟨S.next, cl, s1, s2, 0⟩]) := by rw [flatE_app, flatE_one]
  rw [e3] at r1
  have T1 : Turned (fun k => v.ownBlock = some k) Y (Y.drew.alloc (.cells #[.int .i64 S.next, .int .i64 cl, .int .i64 s1, .int .i64 s2, .int .i64 0] 76)) := ((Turned.refl _ Y).drew).alloc _
  have T2 := T1.trans (turned_grown r2)
  have hbY : w.heap.size < Y.heap.size := xY.here
  have hbw : w.heap.size < w1.heap.size := by have := T2.size; omega
  have xw := T2.cells xY (fun e => by have := hob _ e; omega)
  have hr4 : v'.ownBlock = v.ownBlock ∨ ∃ j, v'.ownBlock = some j ∧ Y.heap.size ≤ j := by
    rcases r4 with e | e
    · exact Or.inl e
    · exact Or.inr ⟨_, e, by rw [World.size_alloc]; exact Nat.le_succ _⟩
  have kF := kY.push ⟨S.next, cl, s1, s2, 0⟩ r1 T2 hr4 (show S.on.length < 64 by omega) ⟨H1.out.2, H2.out.2⟩
  have TF : Turned (fun k => k = p ∨ k = h ∨ v.ownBlock = some k) w (w1.setCell ⟨p, 2, none⟩ v') := (((Turned.of_below HB0.out).trans (TY.mono (fun k e => Or.inl e))).trans (T2.mono (fun k e => Or.inr (Or.inr e)))).set (b := p) (Or.inl rfl) _ _
  have xF : CellsAt 4 (w1.setCell ⟨p, 2, none⟩ v') w.heap.size (fun o => match o with | 0 => .int .i64 cl | 1 => .int .i64 s1 | 2 => .int .i64 s2 | _ => .int .i64 d) := xw.setOther _ _ (by omega)
  have hr5 : v'.ownBlock = v.ownBlock ∨ ∃ j, v'.ownBlock = some j ∧ w.heap.size ≤ j := by
    rcases hr4 with e | ⟨j, e, e2⟩
    · exact Or.inl e
    · exact Or.inr ⟨j, e, by omega⟩
  obtain ⟨g', cap', rfl⟩ := Go.ownsRow_succ r1
  obtain ⟨hpY, -, -, y2, -, -⟩ := kY.cells
  have hpw : p < w1.heap.size := by have := T2.size; omega
  have z2 : w1.cell? ⟨p, 2, none⟩ = some v := T2.to_cell hpY kY.vp y2
  have zf : w1.frozen? ⟨p, 2, none⟩ = false := (World.frozen?_of_block (w := Y) (T2.block p hpY kY.vp)).trans (kY.c.free 2)
  have b0 : Y.cell? ⟨w.heap.size, 0, none⟩ = some (.int .i64 cl) := xY.cell 0 (by omega)
  have b1 : Y.cell? ⟨w.heap.size, 1, none⟩ = some (.int .i64 s1) := xY.cell 1 (by omega)
  have b2 : Y.cell? ⟨w.heap.size, 2, none⟩ = some (.int .i64 s2) := xY.cell 2 (by omega)
  have d0 : w1.cell? ⟨w.heap.size, 0, none⟩ = some (.int .i64 cl) := xw.cell 0 (by omega)
  have d1 : w1.cell? ⟨w.heap.size, 1, none⟩ = some (.int .i64 s1) := xw.cell 1 (by omega)
  have d2 : w1.cell? ⟨w.heap.size, 2, none⟩ = some (.int .i64 s2) := xw.cell 2 (by omega)
  have n1 := World.new_ne Y ⟨w.heap.size, 0, none⟩ b0
  have n2 := World.new_ne Y ⟨p, 2, none⟩ y2
  have HKF := Hid.in kF
  have HTF := Hid.in TF
  have HXF := Hid.in xF
  have HR5 := Hid.in hr5
  clear kF TF xF hr5 hr4 r1 r2 r3 r4 T1 T2 kY TY xY xw HQF HK0 HB0 HX0 hz0 hz1 hz2 hi0 hob HOB
  have hpws : p ≠ w.heap.size := by omega
  have a0 : (Y.drew.alloc (.cells #[.int .i64 S.next, .int .i64 cl, .int .i64 s1, .int .i64 s2, .int .i64 0] 76)).cell? ⟨w.heap.size, 0, none⟩ = some (.int .i64 cl) := by go_simp
  have a1 : (Y.drew.alloc (.cells #[.int .i64 S.next, .int .i64 cl, .int .i64 s1, .int .i64 s2, .int .i64 0] 76)).cell? ⟨w.heap.size, 1, none⟩ = some (.int .i64 s1) := by go_simp
  have a2 : (Y.drew.alloc (.cells #[.int .i64 S.next, .int .i64 cl, .int .i64 s1, .int .i64 s2, .int .i64 0] 76)).cell? ⟨w.heap.size, 2, none⟩ = some (.int .i64 s2) := by go_simp
  obtain ⟨Z, hZ⟩ : ∃ Z, w1.setCell ⟨p, 2, none⟩ (.slice (some ⟨g', 0, none⟩) (S.on.length + 1) cap') = Z := ⟨_, rfl⟩
  have kZ := HKF.out
  have tZ := HTF.out
  have xZ := HXF.out
  rw [hZ] at kZ tZ xZ
  obtain ⟨hpZ, -, -, -, z3, -⟩ := kZ.cells
  have zc0 : Z.cell? ⟨w.heap.size, 0, none⟩ = some (.int .i64 cl) := xZ.cell 0 (by omega)
  have zc1 : Z.cell? ⟨w.heap.size, 1, none⟩ = some (.int .i64 s1) := xZ.cell 1 (by omega)
  have zc2 : Z.cell? ⟨w.heap.size, 2, none⟩ = some (.int .i64 s2) := xZ.cell 2 (by omega)
  have zd : Z.cell? ⟨w.heap.size, 3, none⟩ = some (.int .i64 d) := xZ.cell 3 (by omega)
  have hhZ := kZ.a.here
  have hxZ := xZ.here
  have HKZ := Hid.in kZ
  have HTZ := Hid.in tZ
  have nph : ¬ h = p := fun e => kZ.ne e.symm
  have nwh : ¬ h = w.heap.size := by
    intro e
    have := HLH.out
    omega
  clear kZ tZ xZ HKF HTF HXF
  rename_i Qx Kx hx
  refine wp_region_held_drew (S := fun w' => w'.cell? ⟨w.heap.size, 0, none⟩ = some (.int .i64 cl) ∧ w'.cell? ⟨w.heap.size, 1, none⟩ = some (.int .i64 s1) ∧ w'.cell? ⟨w.heap.size, 2, none⟩ = some (.int .i64 s2)) (by kernel_rfl) ⟨b0, b1, b2⟩ (fun hHeld => ?_)
  refine wpAnyH_take (i := 0) (v := .pointer (some ⟨p, 0, none⟩)) rfl (by kernel_rfl) (by kernel_rfl) (by kernel_rfl) (fun _ _ _ h => h) (Or.inl ⟨by rfl, fun w hSw => by go_simp⟩) hHeld ?_
  refine wpAnyH_take (i := 1) (v := .pointer (some ⟨p, 0, none⟩)) rfl (by kernel_rfl) (by kernel_rfl) (by kernel_rfl) (fun _ _ _ h => h) (Or.inl ⟨by rfl, fun w hSw => by go_simp⟩) hHeld ?_
  refine wpAnyH_take (i := 2) (v := .pointer (some ⟨p, 0, none⟩)) rfl (by kernel_rfl) (by kernel_rfl) (by kernel_rfl) (fun _ _ _ h => h) (Or.inl ⟨by rfl, fun w hSw => by go_simp⟩) hHeld ?_
  refine wpAnyH_take (i := 3) (v := .pointer (some ⟨p, 2, none⟩)) rfl (by kernel_rfl) (by kernel_rfl) (by kernel_rfl) (fun _ _ _ h => h) (Or.inl ⟨by rfl, fun w hSw => by go_simp⟩) hHeld ?_
  refine wpAnyH_take (i := 5) (v := .int .i64 S.next) rfl (by kernel_rfl) (by kernel_rfl) (by kernel_rfl) (fun _ _ _ h => h) (Or.inl ⟨by rfl, fun w hSw => by go_simp⟩) hHeld ?_
  refine wpAnyH_take (i := 6) (v := .pointer (some ⟨w.heap.size, 0, none⟩)) rfl (by kernel_rfl) (by kernel_rfl) (by kernel_rfl) (fun _ _ _ h => h) (Or.inl ⟨by rfl, fun w hSw => by go_simp⟩) hHeld ?_
  refine wpAnyH_take (i := 7) (v := .int .i64 cl) rfl (by kernel_rfl) (by kernel_rfl) (by kernel_rfl) (fun _ _ _ h => h) (Or.inl ⟨by rfl, fun w hSw => by obtain ⟨hs0, hs1, hs2⟩ := hSw; go_simp⟩) hHeld ?_
  refine wpAnyH_take (i := 8) (v := .pointer (some ⟨w.heap.size, 1, none⟩)) rfl (by kernel_rfl) (by kernel_rfl) (by kernel_rfl) (fun _ _ _ h => h) (Or.inl ⟨by rfl, fun w hSw => by go_simp⟩) hHeld ?_
  refine wpAnyH_take (i := 9) (v := .int .i64 s1) rfl (by kernel_rfl) (by kernel_rfl) (by kernel_rfl) (fun _ _ _ h => h) (Or.inl ⟨by rfl, fun w hSw => by obtain ⟨hs0, hs1, hs2⟩ := hSw; go_simp⟩) hHeld ?_
  refine wpAnyH_take (i := 10) (v := .pointer (some ⟨w.heap.size, 2, none⟩)) rfl (by kernel_rfl) (by kernel_rfl) (by kernel_rfl) (fun _ _ _ h => h) (Or.inl ⟨by rfl, fun w hSw => by go_simp⟩) hHeld ?_
  refine wpAnyH_take (i := 11) (v := .int .i64 s2) rfl (by kernel_rfl) (by kernel_rfl) (by kernel_rfl) (fun _ _ _ h => h) (Or.inl ⟨by rfl, fun w hSw => by obtain ⟨hs0, hs1, hs2⟩ := hSw; go_simp⟩) hHeld ?_
  refine wpAnyH_take (i := 12) (v := .agg #[.int .i64 S.next, .int .i64 cl, .int .i64 s1, .int .i64 s2, .int .i64 0]) rfl (by kernel_rfl) (by kernel_rfl) (by kernel_rfl) (fun _ _ _ h => h) (Or.inl ⟨by rfl, fun w hSw => by go_simp⟩) hHeld ?_
  refine wpAnyH_ready (rs := [4, 13]) (by kernel_rfl) (by simp) ?_
  refine AllReadyH.cons rfl (fun K hK => ?_) ?_
  · skip
    go_simp
    refine hK.out _ _ hHeld (fun hHeld => ?_)
    clear hK K
    refine wpAnyH_ready (rs := [13]) (by kernel_rfl) (by simp) ?_
    refine AllReadyH.cons rfl (fun K hK => ?_) AllReadyH.nil
    go_simp
    refine hK.out _ _ ⟨a0, a1, a2⟩ (fun hHeld => ?_)
    clear hK K
    refine wpAnyH_ready (rs := [14]) (by kernel_rfl) (by simp) ?_
    refine AllReadyH.cons rfl (fun K hK => ?_) AllReadyH.nil
    rw [if_pos (by rfl)]
    refine append_op0 (v := v) (u := .slice (some ⟨Y.heap.size, 0, none⟩) 1 1) rfl (by kernel_rfl) (by kernel_rfl) hrun ?_
    refine hK.out _ _ ⟨d0, d1, d2⟩ (fun hHeld => ?_)
    clear hK K
    refine wpAnyH_take (i := 15) (v := .pointer (some ⟨p, 0, none⟩)) rfl (by kernel_rfl) (by kernel_rfl) (by kernel_rfl) (fun _ _ _ h => h) (Or.inl ⟨by rfl, fun w hSw => by go_simp⟩) hHeld ?_
    refine wpAnyH_take (i := 16) (v := .pointer (some ⟨p, 2, none⟩)) rfl (by kernel_rfl) (by kernel_rfl) (by kernel_rfl) (fun _ _ _ h => h) (Or.inl ⟨by rfl, fun w hSw => by go_simp⟩) hHeld ?_
    refine wpAnyH_ready (rs := [17]) (by kernel_rfl) (by simp) ?_
    refine AllReadyH.cons rfl (fun K hK => ?_) AllReadyH.nil
    go_simp
    refine hK.out _ _ ⟨zc0, zc1, zc2⟩ (fun hHeld => ?_)
    clear hK K
    refine wpAnyH_done (by kernel_rfl) ?_ _
    refine hx _ _ ?_
    clear hx Kx hHeld
    by_cases hd : 0 ≤ d
    · have hds := H3.out
      obtain ⟨dn, rfl⟩ : ∃ dn : Nat, d = dn := ⟨d.toNat, by omega⟩
      have hdn : dn < S.nr := by omega
      have e9 := HKZ.out.flag dn hdn
      have e8 := HKZ.out.a.free dn
      have hsn : S.nr ≤ 128 := hs.2.1
      go_wp2
      go_region_held3 (fun w' => w'.cell? ⟨p, 3, none⟩ = some (.slice (some ⟨h, 0, none⟩) S.nr c) ∧ w'.cell? ⟨w.heap.size, 3, none⟩ = some (.int .i64 dn)) (go_keep) (fail)
      go_wp2
      go_ret2
      exact ⟨rfl, _, HR5.out, HKZ.out.mark dn hdn rfl, (HTZ.out.set (b := h) (Or.inr (Or.inl rfl)) _ _).drew⟩
    · have hd2 : d < 0 := by omega
      go_wp2
      go_ret2
      refine ⟨rfl, _, HR5.out, ?_, HTZ.out⟩
      have e : S.enter cl s1 s2 d = { { S with next := S.next + 1 } with on := S.on ++ [⟨S.next, cl, s1, s2, 0⟩] } := by
        unfold WS.enter
        rw [if_neg (show ¬ 0 ≤ d by omega)]
      rw [e]
      exact HKZ.out
  refine AllReadyH.cons rfl (fun K hK => ?_) AllReadyH.nil
  go_simp
  refine hK.out _ _ ⟨a0, a1, a2⟩ (fun hHeld => ?_)
  clear hK K
  refine wpAnyH_ready (rs := [4]) (by kernel_rfl) (by simp) ?_
  refine AllReadyH.cons rfl (fun K hK => ?_) AllReadyH.nil
  go_simp
  refine hK.out _ _ hHeld (fun hHeld => ?_)
  clear hK K
  refine wpAnyH_ready (rs := [14]) (by kernel_rfl) (by simp) ?_
  refine AllReadyH.cons rfl (fun K hK => ?_) AllReadyH.nil
  rw [if_pos (by rfl)]
  refine append_op0 (v := v) (u := .slice (some ⟨Y.heap.size, 0, none⟩) 1 1) rfl (by kernel_rfl) (by kernel_rfl) hrun ?_
  refine hK.out _ _ ⟨d0, d1, d2⟩ (fun hHeld => ?_)
  clear hK K
  refine wpAnyH_take (i := 15) (v := .pointer (some ⟨p, 0, none⟩)) rfl (by kernel_rfl) (by kernel_rfl) (by kernel_rfl) (fun _ _ _ h => h) (Or.inl ⟨by rfl, fun w hSw => by go_simp⟩) hHeld ?_
  refine wpAnyH_take (i := 16) (v := .pointer (some ⟨p, 2, none⟩)) rfl (by kernel_rfl) (by kernel_rfl) (by kernel_rfl) (fun _ _ _ h => h) (Or.inl ⟨by rfl, fun w hSw => by go_simp⟩) hHeld ?_
  refine wpAnyH_ready (rs := [17]) (by kernel_rfl) (by simp) ?_
  refine AllReadyH.cons rfl (fun K hK => ?_) AllReadyH.nil
  go_simp
  refine hK.out _ _ ⟨zc0, zc1, zc2⟩ (fun hHeld => ?_)
  clear hK K
  refine wpAnyH_done (by kernel_rfl) ?_ _
  refine hx _ _ ?_
  clear hx Kx hHeld
  by_cases hd : 0 ≤ d
  · have hds := H3.out
    obtain ⟨dn, rfl⟩ : ∃ dn : Nat, d = dn := ⟨d.toNat, by omega⟩
    have hdn : dn < S.nr := by omega
    have e9 := HKZ.out.flag dn hdn
    have e8 := HKZ.out.a.free dn
    have hsn : S.nr ≤ 128 := hs.2.1
    go_wp2
    go_region_held3 (fun w' => w'.cell? ⟨p, 3, none⟩ = some (.slice (some ⟨h, 0, none⟩) S.nr c) ∧ w'.cell? ⟨w.heap.size, 3, none⟩ = some (.int .i64 dn)) (go_keep) (fail)
    go_wp2
    go_ret2
    exact ⟨rfl, _, HR5.out, HKZ.out.mark dn hdn rfl, (HTZ.out.set (b := h) (Or.inr (Or.inl rfl)) _ _).drew⟩
  · have hd2 : d < 0 := by omega
    go_wp2
    go_ret2
    refine ⟨rfl, _, HR5.out, ?_, HTZ.out⟩
    have e : S.enter cl s1 s2 d = { { S with next := S.next + 1 } with on := S.on ++ [⟨S.next, cl, s1, s2, 0⟩] } := by
      unfold WS.enter
      rw [if_neg (show ¬ 0 ≤ d by omega)]
    rw [e]
    exact HKZ.out
end Go.Proofs.YtckglpmjaplcnaaDoor
