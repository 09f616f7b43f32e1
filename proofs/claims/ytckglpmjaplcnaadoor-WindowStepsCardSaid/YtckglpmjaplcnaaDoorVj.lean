/-
  WINDOW: Issue, Again, Done.
-/
import Derived.Test.YtckglpmjaplcnaaDoorVi
namespace Go.Proofs.YtckglpmjaplcnaaDoor
open Go Go.RowKit
def WS.At (S : WS) (num : Int) (i : Nat) : Prop := i < S.on.length ∧ S.num i = num ∧ ∀ j, j < i → S.num j ≠ num
def WS.setSt (S : WS) (i : Nat) (s : Int) : WS := { S with on := S.on.set i { S.on.getD i e0 with st := s } }
theorem place_at (B p h c : Nat) (v : Value) (S : WS) (num : Int) (i : Nat) (w : World) (k : Win w B p h c v S) (hA : S.At num i) : Calls Tryd.prog 36 #[.pointer (some ⟨p, 0, none⟩), .int .i64 num] w fun e w' => e = .returned (.tuple #[.int .i64 i, .bool true]) ∧ Below w.heap.size w w' := by
  refine (place_any B p h c v S num w k).mono ?_
  rintro e w' ⟨⟨j, h1, h2, h3, h4⟩ | ⟨h1, -⟩, hb⟩
  · obtain ⟨g1, g2, g3⟩ := hA
    have e1 : j = i := by
      rcases Nat.lt_trichotomy j i with q | q | q
      · exact absurd h2 (g3 j q)
      · exact q
      · exact absurd g2 (h3 i q)
    subst e1
    exact ⟨h4, hb⟩
  · exact absurd hA.2.1 (h1 i hA.1)
theorem place_no (B p h c : Nat) (v : Value) (S : WS) (num : Int) (w : World) (k : Win w B p h c v S) (hA : ∀ j, j < S.on.length → S.num j ≠ num) : Calls Tryd.prog 36 #[.pointer (some ⟨p, 0, none⟩), .int .i64 num] w fun e w' => e = .returned (.tuple #[.int .i64 0, .bool false]) ∧ Below w.heap.size w w' := by
  refine (place_any B p h c v S num w k).mono ?_
  rintro e w' ⟨⟨j, h1, h2, h3, h4⟩ | ⟨-, h2⟩, hb⟩
  · exact absurd h2 (hA j h1)
  · exact ⟨h2, hb⟩
theorem getD_set (l : List Ent) (i j : Nat) (y : Ent) (hi : i < l.length) : (l.set i y).getD j e0 = if i = j then y else l.getD j e0 := by
  simp only [List.getD_eq_getElem?_getD, List.getElem?_set]
  by_cases e : i = j
  · subst e
    simp [hi]
  · simp [e]
theorem Win.setSt {x : World} {B p h c g cap : Nat} {S : WS} (k : Win x B p h c (.slice (some ⟨g, 0, none⟩) S.on.length cap) S) (i : Nat) (hi : i < S.on.length) (s : Int) : Win (x.setCell ⟨g, i * 5 + 4, none⟩ (.int .i64 s)) B p h c (.slice (some ⟨g, 0, none⟩) S.on.length cap) (S.setSt i s) := by
  have hl : (S.setSt i s).on.length = S.on.length := by simp [WS.setSt]
  have np : p ≠ g := fun e => k.vp (by rw [e]; rfl)
  have nh : h ≠ g := fun e => k.vh (by rw [e]; rfl)
  refine ⟨k.c.setOther _ _ np, ?_, k.a.setOther _ _ nh, k.ne, k.vp, k.vh, by rw [hl]; exact k.small, k.lo, fun j hj => ?_⟩
  · rw [hl]
    show World.ownsRow _ B _ 5 _ S.on.length (flatE (S.on.set i { S.on.getD i e0 with st := s }))
    rw [← flatE_set S.on i s hi]
    exact own_set k.l (i * 5 + 4) (.int .i64 s)
  · rw [hl] at hj
    show ((S.on.set i { S.on.getD i e0 with st := s }).getD j e0).s1 < S.nr ∧ ((S.on.set i { S.on.getD i e0 with st := s }).getD j e0).s2 < S.nr
    rw [getD_set _ _ _ _ hi]
    by_cases e : i = j
    · subst e
      rw [if_pos rfl]
      exact k.fit i hi
    · rw [if_neg e]
      exact k.fit j hj
def errV (n : Int) : Value := .iface 66 (.int .i64 n)
set_option maxHeartbeats 1000000 in
theorem issue_good (B p h c : Nat) (v : Value) (S : WS) (num : Int) (i : Nat) (w : World) (k : Win w B p h c v S) (hA : S.At num i) (hm : S.may i = true) : Calls Tryd.prog 16 #[.pointer (some ⟨p, 0, none⟩), .int .i64 num] w fun e w' => e = .returned .nilIface ∧ Win w' B p h c v (S.setSt i 1) ∧ Turned (fun k => v.ownBlock = some k) w w' := by
  obtain ⟨q, cap, rfl, hcap, hel⟩ := own_ents k.l
  obtain ⟨g, rfl, -⟩ := hel i hA.1
  have hs := k.small.1
  have hi := hA.1
  have HK := Hid.in k
  have HA := Hid.in hA
  have HM := Hid.in hm
  clear k hA hm hel
  go_enter Tryd.func16, Tryd.ntmps16
  go_wp2_with (first
    | (go_at_call 36; refine (place_at B p h c _ S num i _ HK.out HA.out).mono ?_; rintro e w1 ⟨rfl, hb1⟩; have HK1 := Hid.in (HK.out.below hb1); have HB1 := Hid.in hb1; clear hb1)
    | (go_at_call 34; refine (mayBegin_any B p h c _ S i _ HK1.out hi).mono ?_; rintro e w2 ⟨rfl, hb2⟩; rw [HM.out]; have HK2 := Hid.in (HK1.out.below hb2); have HB2 := Hid.in (below2 HB1.out hb2); clear hb2; obtain ⟨hp, -, -, c2, -, -⟩ := HK2.out.cells; obtain ⟨q2, cap2, h1, -, hel2⟩ := own_ents HK2.out.l; cases h1; obtain ⟨g2, h2, hB, hg, -, -, -, -, d4, f4⟩ := hel2 i hi; cases h2; clear hel2))
  go_ret
  exact ⟨rfl, HK2.out.setSt i hi 1, ((Turned.of_below (Q := fun k => (Value.slice (some ⟨g, 0, none⟩) S.on.length cap).ownBlock = some k) HB2.out).set (b := g) rfl _ _)⟩
set_option maxHeartbeats 1000000 in
theorem issue_bad (B p h c : Nat) (v : Value) (S : WS) (num : Int) (w : World) (k : Win w B p h c v S) (hA : ∀ i, S.At num i → S.may i = false) : Calls Tryd.prog 16 #[.pointer (some ⟨p, 0, none⟩), .int .i64 num] w fun e w' => e = .returned (errV 7) ∧ Below w.heap.size w w' := by
  have HK := Hid.in k
  have HP := Hid.in (place_any B p h c v S num w k)
  have HA := Hid.in hA
  unfold errV
  clear k hA
  have hu : undef = Value.tuple #[] := rfl
  by_cases hn : ∃ i, S.At num i
  · obtain ⟨i, hi⟩ := hn
    have hm := HA.out i hi
    have hi2 := hi.1
    have HI := Hid.in hi
    have HM := Hid.in hm
    clear hi hm hu
    go_enter Tryd.func16, Tryd.ntmps16
    go_wp2_with (first
      | (go_at_call 36; refine (place_at B p h c _ S num i _ HK.out HI.out).mono ?_; rintro e w1 ⟨rfl, hb1⟩; have HK1 := Hid.in (HK.out.below hb1); have HB1 := Hid.in hb1; clear hb1)
      | (go_at_call 34; refine (mayBegin_any B p h c _ S i _ HK1.out hi2).mono ?_; rintro e w2 ⟨rfl, hb2⟩; rw [HM.out]; have HB2 := Hid.in (below2 HB1.out hb2); clear hb2))
    go_ret
    exact ⟨rfl, HB2.out⟩
  · have hno : ∀ j, j < S.on.length → S.num j ≠ num := by
      intro j
      induction j using Nat.strongRecOn with
      | ind j ih =>
        intro hj e
        exact hn ⟨j, hj, e, fun i hi => ih i hi (by omega)⟩
    have HNO := Hid.in hno
    clear hno hn
    go_enter Tryd.func16, Tryd.ntmps16
    go_wp2_with (go_at_call 36; refine (place_no B p h c _ S num _ HK.out HNO.out).mono ?_; rintro e w1 ⟨rfl, hb1⟩; have HB1 := Hid.in hb1; clear hb1)
    go_ret
    exact ⟨rfl, HB1.out⟩
def WS.st (S : WS) (i : Nat) : Int := (S.on.getD i e0).st
set_option maxHeartbeats 1000000 in
theorem leave_good (B p h c : Nat) (v : Value) (S : WS) (num to' : Int) (i : Nat) (w : World) (k : Win w B p h c v S) (hA : S.At num i) (hm : S.st i = 1) : Calls Tryd.prog 38 #[.pointer (some ⟨p, 0, none⟩), .int .i64 num, .int .i64 to'] w fun e w' => e = .returned .nilIface ∧ Win w' B p h c v (S.setSt i to') ∧ Turned (fun k => v.ownBlock = some k) w w' := by
  obtain ⟨q, cap, rfl, hcap, hel⟩ := own_ents k.l
  obtain ⟨g, rfl, -⟩ := hel i hA.1
  have hs := k.small.1
  have hi := hA.1
  have HK := Hid.in k
  have HA := Hid.in hA
  have HM : Hid ((S.on.getD i e0).st = 1) := hm
  clear k hA hm hel
  go_enter Tryd.func38, Tryd.ntmps38
  go_wp2_with (go_at_call 36; refine (place_at B p h c _ S num i _ HK.out HA.out).mono ?_; rintro e w2 ⟨rfl, hb1⟩; have HK2 := Hid.in (HK.out.below hb1); have HB2 := Hid.in hb1; clear hb1; obtain ⟨hp, -, -, c2, -, -⟩ := HK2.out.cells; obtain ⟨q2, cap2, h1, -, hel2⟩ := own_ents HK2.out.l; cases h1; obtain ⟨g2, h2, hB, hg, -, -, -, -, d4, f4⟩ := hel2 i hi; cases h2; clear hel2; rw [HM.out] at d4)
  go_ret
  exact ⟨rfl, HK2.out.setSt i hi to', ((Turned.of_below (Q := fun k => (Value.slice (some ⟨g, 0, none⟩) S.on.length cap).ownBlock = some k) HB2.out).set (b := g) rfl _ _)⟩
set_option maxHeartbeats 1000000 in
theorem leave_bad (B p h c : Nat) (v : Value) (S : WS) (num to' : Int) (w : World) (k : Win w B p h c v S) (hA : ∀ i, S.At num i → S.st i ≠ 1) : Calls Tryd.prog 38 #[.pointer (some ⟨p, 0, none⟩), .int .i64 num, .int .i64 to'] w fun e w' => e = .returned (errV 7) ∧ Below w.heap.size w w' := by
  have HK := Hid.in k
  have HA := Hid.in hA
  have hs := k.small.1
  unfold errV
  clear k hA
  by_cases hn : ∃ i, S.At num i
  · obtain ⟨i, hi⟩ := hn
    have hm : (S.on.getD i e0).st ≠ 1 := HA.out i hi
    have hi2 := hi.1
    obtain ⟨st, hst⟩ : ∃ st, (S.on.getD i e0).st = st := ⟨_, rfl⟩
    rw [hst] at hm
    have HS := Hid.in hst
    have HI := Hid.in hi
    clear hi hst
    have hd : decide (st = 1) = false := by simp [hm]
    go_enter Tryd.func38, Tryd.ntmps38
    go_wp2_with (go_at_call 36; refine (place_at B p h c _ S num i _ HK.out HI.out).mono ?_; rintro e w2 ⟨rfl, hb1⟩; have HK2 := Hid.in (HK.out.below hb1); have HB2 := Hid.in hb1; clear hb1; obtain ⟨hp, -, -, c2, -, -⟩ := HK2.out.cells; obtain ⟨q2, cap2, h1, -, hel2⟩ := own_ents HK2.out.l; rw [h1] at c2; obtain ⟨g2, h2, hB, hg, -, -, -, -, d4, f4⟩ := hel2 i hi2; subst h2; clear hel2 h1; rw [HS.out] at d4)
    all_goals go_ret
    all_goals exact ⟨rfl, HB2.out⟩
  · have hu : undef = Value.tuple #[] := rfl
    have hno : ∀ j, j < S.on.length → S.num j ≠ num := by
      intro j
      induction j using Nat.strongRecOn with
      | ind j ih =>
        intro hj e
        exact hn ⟨j, hj, e, fun i hi => ih i hi (by omega)⟩
    have HNO := Hid.in hno
    clear hno hn
    go_enter Tryd.func38, Tryd.ntmps38
    go_wp2_with (go_at_call 36; refine (place_no B p h c _ S num _ HK.out HNO.out).mono ?_; rintro e w1 ⟨rfl, hb1⟩; have HB1 := Hid.in hb1; clear hb1)
    go_ret
    exact ⟨rfl, HB1.out⟩
theorem done_good (B p h c : Nat) (v : Value) (S : WS) (num : Int) (i : Nat) (w : World) (k : Win w B p h c v S) (hA : S.At num i) (hm : S.st i = 1) : Calls Tryd.prog 19 #[.pointer (some ⟨p, 0, none⟩), .int .i64 num] w fun e w' => e = .returned .nilIface ∧ Win w' B p h c v (S.setSt i 2) ∧ Turned (fun k => v.ownBlock = some k) w w' := by
  have HK := Hid.in k
  have HA := Hid.in hA
  have HM := Hid.in hm
  clear k hA hm
  go_enter Tryd.func19, Tryd.ntmps19
  go_wp2_with (go_at_call 38; refine (leave_good B p h c v S num 2 i _ HK.out HA.out HM.out).mono ?_; rintro e w1 ⟨rfl, h1, h2⟩; have H1 := Hid.in h1; have H2 := Hid.in h2; clear h1 h2)
  go_ret
  exact ⟨rfl, H1.out, H2.out⟩
set_option maxHeartbeats 1000000 in
theorem wake_good (B p h c : Nat) (v : Value) (S : WS) (q : Nat) (w : World) (k : Win w B p h c v S) (hq : q < S.nr) : Calls Tryd.prog 10 #[.pointer (some ⟨p, 0, none⟩), .int .i64 q] w fun e w' => e = .returned .nilIface ∧ Win w' B p h c v { S with ab := upd S.ab q false } ∧ Turned (fun k => k = h) w w' := by
  obtain ⟨hp, -, -, -, c3, -⟩ := k.cells
  have c4 := k.flag q hq
  have f4 := k.a.free
  have hs := k.small.2.1
  have HK := Hid.in k
  have hd : decide ((q : Int) < 0) = false := by simp
  clear k
  go_enter Tryd.func10, Tryd.ntmps10
  go_wp2
  go_ret
  refine ⟨rfl, ?_, (Turned.refl (fun k => k = h) w).set (b := h) rfl _ _⟩
  have k := HK.out
  refine ⟨k.c.setOther _ _ k.ne, own_turned k.l ((Turned.refl (fun k => k = h) w).set (b := h) rfl _ _) (fun j hj e => k.vh (by rw [hj, e])), (k.a.set q hq _).ext fun o ho => ?_, k.ne, k.vp, k.vh, k.small, k.lo, k.fit⟩
  unfold upd
  by_cases e : o = q
  · simp [e]
  · simp [e]
set_option maxHeartbeats 1000000 in
theorem len_any (B p h c : Nat) (v : Value) (S : WS) (w : World) (k : Win w B p h c v S) : Calls Tryd.prog 24 #[.pointer (some ⟨p, 0, none⟩)] w fun e w' => e = .returned (.int .i64 S.on.length) ∧ w' = w := by
  obtain ⟨hp, -, -, c2, -, -⟩ := k.cells
  obtain ⟨q, cap, rfl, hcap, hel⟩ := own_ents k.l
  have hs := k.small.1
  clear k hel
  go_enter Tryd.func24, Tryd.ntmps24
  go_wp2
  go_ret
  exact ⟨rfl, rfl⟩
end Go.Proofs.YtckglpmjaplcnaaDoor
