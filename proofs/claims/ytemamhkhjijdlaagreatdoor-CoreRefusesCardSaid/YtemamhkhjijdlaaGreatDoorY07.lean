import Derived.Test.YtemamhkhjijdlaaGreatDoorY06
import Derived.Laws.IdiomCopy
import Derived.Deep.MidRow
import Derived.Lib.SliceRun
import Derived.Deep.RegionHeldLaw
import Derived.Maps.AppendAt
/-
  WINDOW: Ready, Squash: which are wanted.
-/
namespace Go.Proofs.YtemamhkhjijdlaaGreatDoor
open Go Go.RowKit
theorem below_drewN_win (w : World) (n : Nat) : Below w.heap.size w (w.drewN n) := ⟨rfl, rfl, rfl, Nat.le_refl _, fun _ _ => rfl⟩
def WS.isCls (S : WS) (cl : Int) (i : Nat) : Bool := decide ((S.on.getD i e0).cls = cl)
set_option maxHeartbeats 1000000 in
theorem readyW_any (B p h c : Nat) (v : Value) (S : WS) (cl : Int) (i b1 b2 : Nat) (w : World) (k : Win w B p h c v S) (hi : i < S.on.length) (q1 : w.cell? ⟨b1, 0, none⟩ = some (.pointer (some ⟨p, 0, none⟩))) (q2 : w.cell? ⟨b2, 0, none⟩ = some (.int .i64 cl)) :
    Calls Tryz.prog 140 #[.int .i64 i, .pointer (some ⟨b1, 0, none⟩), .pointer (some ⟨b2, 0, none⟩)] w fun e w' => e = .returned (.bool (S.isCls cl i && S.may i)) ∧ Below w.heap.size w w' := by
  obtain ⟨hp, -, -, c2, -, -⟩ := k.cells
  have r1 := cell_here q1
  have r2 := cell_here q2
  obtain ⟨q, cap, rfl, hcap, hel⟩ := own_ents k.l
  obtain ⟨g, rfl, hB, hg, d0, d1, d2, d3, d4, -⟩ := hel i hi
  obtain ⟨hs, -, -, -⟩ := k.small
  have HW := Hid.in k
  unfold WS.isCls
  obtain ⟨n1, a1⟩ : ∃ y, (S.on.getD i e0).cls = y := ⟨_, rfl⟩
  rw [a1] at d1 ⊢
  clear k d0 d2 d3 d4 hel a1
  by_cases e1 : n1 = cl
  · subst e1
    simp only [decide_true, Bool.true_and]
    obtain ⟨mb, hm⟩ : ∃ b, S.may i = b := ⟨_, rfl⟩
    have HM := Hid.in hm
    rw [hm]
    clear hm
    go_enter Tryz.func140, Tryz.ntmps140
    go_wp2
    go_region_held3 (fun w' => w'.cell? ⟨b1, 0, none⟩ = some (.pointer (some ⟨p, 0, none⟩)) ∧ w'.cell? ⟨b2, 0, none⟩ = some (.int .i64 n1) ∧ w'.cell? ⟨p, 2, none⟩ = some (.slice (some ⟨g, 0, none⟩) S.on.length cap) ∧ w'.cell? ⟨g, i * 5 + 1, none⟩ = some (.int .i64 n1)) (go_keep) ((go_at_call 141; refine (mayBegin_any B p h c _ S i _ (HW.out.below (Below.refl _ _).drew) hi).mono ?_; rintro e w1 ⟨rfl, hb⟩; rw [HM.out]; have hb' := belowU hb; have t1 := (hb'.cell (p := ⟨b1, 0, none⟩) r1).trans q1; have t2 := (hb'.cell (p := ⟨b2, 0, none⟩) r2).trans q2; have t3 := (hb'.cell (p := ⟨p, 2, none⟩) hp).trans c2; have t4 := (hb'.cell (p := ⟨g, i * 5 + 1, none⟩) hg).trans d1))
    all_goals (try go_wp2)
    all_goals go_ret
    all_goals exact ⟨rfl, hb'⟩
  · have hd : decide (n1 = cl) = false := by simp [e1]
    have hd2 : (n1 == cl) = false := by simp [e1]
    have hu : undef = Value.tuple #[] := rfl
    rw [hd]
    simp only [Bool.false_and]
    go_enter Tryz.func140, Tryz.ntmps140
    go_wp2
    go_quiet (fail)
    go_wp2
    go_ret
    exact ⟨rfl, below_drewN_win w _⟩
set_option maxHeartbeats 1000000 in
theorem squashW_any (B p h c : Nat) (v : Value) (S : WS) (af : Int) (i b1 b2 : Nat) (w : World) (k : Win w B p h c v S) (hi : i < S.on.length) (q1 : w.cell? ⟨b1, 0, none⟩ = some (.pointer (some ⟨p, 0, none⟩))) (q2 : w.cell? ⟨b2, 0, none⟩ = some (.int .i64 af)) :
    Calls Tryz.prog 240 #[.int .i64 i, .pointer (some ⟨b1, 0, none⟩), .pointer (some ⟨b2, 0, none⟩)] w fun e w' => e = .returned (.bool (decide (af < S.num i))) ∧ Below w.heap.size w w' := by
  obtain ⟨hp, -, -, c2, -, -⟩ := k.cells
  obtain ⟨q, cap, rfl, hcap, hel⟩ := own_ents k.l
  obtain ⟨g, rfl, hB, hg, d0, -⟩ := hel i hi
  obtain ⟨hs, -, -, -⟩ := k.small
  unfold WS.num
  obtain ⟨n1, a1⟩ : ∃ y, (S.on.getD i e0).num = y := ⟨_, rfl⟩
  rw [a1] at d0 ⊢
  clear k hel a1
  go_enter Tryz.func240, Tryz.ntmps240
  go_wp2
  go_quiet (fail)
  go_wp2
  go_ret
  exact ⟨rfl, below_drewN_win w _⟩
end Go.Proofs.YtemamhkhjijdlaaGreatDoor
/-
  WINDOW: Ready, Squash.
-/
namespace Go.Proofs.YtemamhkhjijdlaaGreatDoor
open Go Go.RowKit
def WS.ready (S : WS) (cl most : Int) : List Int := tl (fun i => S.isCls cl i && S.may i) (fun i => S.num i) most S.on.length
def WS.gone (S : WS) (af : Int) : List Int := tl (fun i => decide (af < S.num (S.on.length - 1 - i))) (fun i => S.num (S.on.length - 1 - i)) S.on.length S.on.length
def WS.squash (S : WS) (af : Int) : WS := { S with on := S.on.take (S.on.length - (S.gone af).length) }
theorem numbersO_any (B p h c : Nat) (v : Value) (S : WS) (most cl : Int) (b1 b2 : Nat) (w : World) (k : Win w B p h c v S) (q1 : w.cell? ⟨b1, 0, none⟩ = some (.pointer (some ⟨p, 0, none⟩))) (q2 : w.cell? ⟨b2, 0, none⟩ = some (.int .i64 cl)) :
    Calls Tryz.prog 138 #[.pointer (some ⟨p, 0, none⟩), .func (.func 139) #[.pointer (some ⟨p, 0, none⟩)] #[], .int .i64 most, .func (.func 140) #[] #[.pointer (some ⟨b1, 0, none⟩), .pointer (some ⟨b2, 0, none⟩)]] w fun e w' => ∃ u, e = .returned u ∧ w'.ownsRow w.heap.size 3 1 u (S.ready cl most).length (ints (S.ready cl most)) ∧ Below w.heap.size w w' :=
  callsIn_wide.1 (numbersO_in B p h c v S most _ _ w k (fun i W hi hb => readyW_any B p h c v S cl i b1 b2 W (k.below hb) hi ((hb.cell (p := ⟨b1, 0, none⟩) (cell_here q1)).trans q1) ((hb.cell (p := ⟨b2, 0, none⟩) (cell_here q2)).trans q2)))
theorem numbersY_any (B p h c : Nat) (v : Value) (S : WS) (af : Int) (b1 b2 : Nat) (w : World) (k : Win w B p h c v S) (q1 : w.cell? ⟨b1, 0, none⟩ = some (.pointer (some ⟨p, 0, none⟩))) (q2 : w.cell? ⟨b2, 0, none⟩ = some (.int .i64 af)) :
    Calls Tryz.prog 138 #[.pointer (some ⟨p, 0, none⟩), .func (.func 239) #[.pointer (some ⟨p, 0, none⟩)] #[], .int .i64 S.on.length, .func (.func 240) #[] #[.pointer (some ⟨b1, 0, none⟩), .pointer (some ⟨b2, 0, none⟩)]] w fun e w' => ∃ u, e = .returned u ∧ w'.ownsRow w.heap.size 3 1 u (S.gone af).length (ints (S.gone af)) ∧ Below w.heap.size w w' :=
  callsIn_wide.1 (numbersY_in B p h c v S S.on.length _ _ w k (fun i W hi hb => by
    have e : (S.on.length : Int) - 1 - i = ((S.on.length - 1 - i : Nat) : Int) := by omega
    rw [e]
    exact squashW_any B p h c v S af (S.on.length - 1 - i) b1 b2 W (k.below hb) (by omega) ((hb.cell (p := ⟨b1, 0, none⟩) (cell_here q1)).trans q1) ((hb.cell (p := ⟨b2, 0, none⟩) (cell_here q2)).trans q2)))
set_option maxHeartbeats 1000000 in
theorem ready_any (B p h c : Nat) (v : Value) (S : WS) (cl most : Int) (w : World) (k : Win w B p h c v S) : Calls Tryz.prog 82 #[.pointer (some ⟨p, 0, none⟩), .int .i64 cl, .int .i64 most] w fun e w' => ∃ u, e = .returned u ∧ w'.ownsRow w.heap.size 3 1 u (S.ready cl most).length (ints (S.ready cl most)) ∧ Below w.heap.size w w' := by
  have hp := k.c.here
  have hb : Below w.heap.size w ((w.alloc (.cells #[.pointer (some ⟨p, 0, none⟩)] 133)).alloc (.cells #[.int .i64 cl] 222)) := ((Below.refl _ w).alloc (Nat.le_refl _) _).alloc (by simp) _
  have HK := Hid.in (k.below hb)
  have HB := Hid.in hb
  clear k hb
  go_enter Tryz.func82, Tryz.ntmps82
  go_wp2_with (go_at_call 138; refine (numbersO_any B p h c v S most cl w.heap.size (w.heap.size + 1) _ HK.out (by simp) (by simp)).mono ?_; rintro e w1 ⟨u, rfl, hr, hb1⟩; have HR := Hid.in hr; have HB1 := Hid.in hb1; clear hr hb1)
  go_ret
  exact ⟨u, rfl, own_low HR.out (by simp; omega), HB.out.trans (HB1.out.mono (by simp; omega))⟩
end Go.Proofs.YtemamhkhjijdlaaGreatDoor
/-
  WINDOW: Issue, Again, Done.
-/
namespace Go.Proofs.YtemamhkhjijdlaaGreatDoor
open Go Go.RowKit
def WS.At (S : WS) (num : Int) (i : Nat) : Prop := i < S.on.length ∧ S.num i = num ∧ ∀ j, j < i → S.num j ≠ num
def WS.setSt (S : WS) (i : Nat) (s : Int) : WS := { S with on := S.on.set i { S.on.getD i e0 with st := s } }
theorem place_at (B p h c : Nat) (v : Value) (S : WS) (num : Int) (i : Nat) (w : World) (k : Win w B p h c v S) (hA : S.At num i) : Calls Tryz.prog 220 #[.pointer (some ⟨p, 0, none⟩), .int .i64 num] w fun e w' => e = .returned (.tuple #[.int .i64 i, .bool true]) ∧ Below w.heap.size w w' := by
  refine (place_any B p h c v S num w k).mono ?_
  rintro e w' ⟨⟨j, h1, h2, h3, h4⟩ | ⟨h1, -⟩, hb⟩
  · obtain ⟨g1, g2, g3⟩ := hA
    have e1 : j = i := by
      rcases Nat.lt_trichotomy j i with q | q | q
      · exact absurd h2 (g3 j q)
      · exact q
      · exact absurd g2 (h3 i q)
    subst e1
    exact ⟨h4, hb⟩
  · exact absurd hA.2.1 (h1 i hA.1)
theorem getD_set (l : List Ent) (i j : Nat) (y : Ent) (hi : i < l.length) : (l.set i y).getD j e0 = if i = j then y else l.getD j e0 := by
  simp only [List.getD_eq_getElem?_getD, List.getElem?_set]
  by_cases e : i = j
  · subst e
    simp [hi]
  · simp [e]
theorem Win.setSt {x : World} {B p h c g cap : Nat} {S : WS} (k : Win x B p h c (.slice (some ⟨g, 0, none⟩) S.on.length cap) S) (i : Nat) (hi : i < S.on.length) (s : Int) : Win (x.setCell ⟨g, i * 5 + 4, none⟩ (.int .i64 s)) B p h c (.slice (some ⟨g, 0, none⟩) S.on.length cap) (S.setSt i s) := by
  have hl : (S.setSt i s).on.length = S.on.length := by simp [WS.setSt]
  have np : p ≠ g := fun e => k.vp (by rw [e]; rfl)
  have nh : h ≠ g := fun e => k.vh (by rw [e]; rfl)
  refine ⟨k.c.setOther _ _ np, ?_, k.a.setOther _ _ nh, k.ne, k.vp, k.vh, by rw [hl]; exact k.small, k.lo, fun j hj => ?_⟩
  · rw [hl]
    show World.ownsRow _ B _ 5 _ S.on.length (flatE (S.on.set i { S.on.getD i e0 with st := s }))
    rw [← flatE_set S.on i s hi]
    exact own_set_win k.l (i * 5 + 4) (.int .i64 s)
  · rw [hl] at hj
    show ((S.on.set i { S.on.getD i e0 with st := s }).getD j e0).s1 < S.nr ∧ ((S.on.set i { S.on.getD i e0 with st := s }).getD j e0).s2 < S.nr
    rw [getD_set _ _ _ _ hi]
    by_cases e : i = j
    · subst e
      rw [if_pos rfl]
      exact k.fit i hi
    · rw [if_neg e]
      exact k.fit j hj
set_option maxHeartbeats 1000000 in
theorem issue_good (B p h c : Nat) (v : Value) (S : WS) (num : Int) (i : Nat) (w : World) (k : Win w B p h c v S) (hA : S.At num i) (hm : S.may i = true) : Calls Tryz.prog 156 #[.pointer (some ⟨p, 0, none⟩), .int .i64 num] w fun e w' => e = .returned .nilIface ∧ Win w' B p h c v (S.setSt i 1) ∧ Turned (fun k => v.ownBlock = some k) w w' := by
  obtain ⟨q, cap, rfl, hcap, hel⟩ := own_ents k.l
  obtain ⟨g, rfl, -⟩ := hel i hA.1
  have hs := k.small.1
  have hi := hA.1
  have HK := Hid.in k
  have HA := Hid.in hA
  have HM := Hid.in hm
  clear k hA hm hel
  go_enter Tryz.func156, Tryz.ntmps156
  go_wp2_with (first
    | (go_at_call 220; refine (place_at B p h c _ S num i _ HK.out HA.out).mono ?_; rintro e w1 ⟨rfl, hb1⟩; have HK1 := Hid.in (HK.out.below hb1); have HB1 := Hid.in hb1; clear hb1)
    | (go_at_call 141; refine (mayBegin_any B p h c _ S i _ HK1.out hi).mono ?_; rintro e w2 ⟨rfl, hb2⟩; rw [HM.out]; have HK2 := Hid.in (HK1.out.below hb2); have HB2 := Hid.in (below2 HB1.out hb2); clear hb2; obtain ⟨hp, -, -, c2, -, -⟩ := HK2.out.cells; obtain ⟨q2, cap2, h1, -, hel2⟩ := own_ents HK2.out.l; cases h1; obtain ⟨g2, h2, hB, hg, -, -, -, -, d4, f4⟩ := hel2 i hi; cases h2; clear hel2))
  go_ret
  exact ⟨rfl, HK2.out.setSt i hi 1, ((Turned.of_below (Q := fun k => (Value.slice (some ⟨g, 0, none⟩) S.on.length cap).ownBlock = some k) HB2.out).set (b := g) rfl _ _)⟩
def WS.st (S : WS) (i : Nat) : Int := (S.on.getD i e0).st
set_option maxHeartbeats 1000000 in
theorem leave_good (B p h c : Nat) (v : Value) (S : WS) (num to' : Int) (i : Nat) (w : World) (k : Win w B p h c v S) (hA : S.At num i) (hm : S.st i = 1) : Calls Tryz.prog 188 #[.pointer (some ⟨p, 0, none⟩), .int .i64 num, .int .i64 to'] w fun e w' => e = .returned .nilIface ∧ Win w' B p h c v (S.setSt i to') ∧ Turned (fun k => v.ownBlock = some k) w w' := by
  obtain ⟨q, cap, rfl, hcap, hel⟩ := own_ents k.l
  obtain ⟨g, rfl, -⟩ := hel i hA.1
  have hs := k.small.1
  have hi := hA.1
  have HK := Hid.in k
  have HA := Hid.in hA
  have HM : Hid ((S.on.getD i e0).st = 1) := hm
  clear k hA hm hel
  go_enter Tryz.func188, Tryz.ntmps188
  go_wp2_with (go_at_call 220; refine (place_at B p h c _ S num i _ HK.out HA.out).mono ?_; rintro e w2 ⟨rfl, hb1⟩; have HK2 := Hid.in (HK.out.below hb1); have HB2 := Hid.in hb1; clear hb1; obtain ⟨hp, -, -, c2, -, -⟩ := HK2.out.cells; obtain ⟨q2, cap2, h1, -, hel2⟩ := own_ents HK2.out.l; cases h1; obtain ⟨g2, h2, hB, hg, -, -, -, -, d4, f4⟩ := hel2 i hi; cases h2; clear hel2; rw [HM.out] at d4)
  go_ret
  exact ⟨rfl, HK2.out.setSt i hi to', ((Turned.of_below (Q := fun k => (Value.slice (some ⟨g, 0, none⟩) S.on.length cap).ownBlock = some k) HB2.out).set (b := g) rfl _ _)⟩
theorem done_good (B p h c : Nat) (v : Value) (S : WS) (num : Int) (i : Nat) (w : World) (k : Win w B p h c v S) (hA : S.At num i) (hm : S.st i = 1) : Calls Tryz.prog 126 #[.pointer (some ⟨p, 0, none⟩), .int .i64 num] w fun e w' => e = .returned .nilIface ∧ Win w' B p h c v (S.setSt i 2) ∧ Turned (fun k => v.ownBlock = some k) w w' := by
  have HK := Hid.in k
  have HA := Hid.in hA
  have HM := Hid.in hm
  clear k hA hm
  go_enter Tryz.func126, Tryz.ntmps126
  go_wp2_with (go_at_call 188; refine (leave_good B p h c v S num 2 i _ HK.out HA.out HM.out).mono ?_; rintro e w1 ⟨rfl, h1, h2⟩; have H1 := Hid.in h1; have H2 := Hid.in h2; clear h1 h2)
  go_ret
  exact ⟨rfl, H1.out, H2.out⟩
set_option maxHeartbeats 1000000 in
theorem len_any_win (B p h c : Nat) (v : Value) (S : WS) (w : World) (k : Win w B p h c v S) : Calls Tryz.prog 159 #[.pointer (some ⟨p, 0, none⟩)] w fun e w' => e = .returned (.int .i64 S.on.length) ∧ w' = w := by
  obtain ⟨hp, -, -, c2, -, -⟩ := k.cells
  obtain ⟨q, cap, rfl, hcap, hel⟩ := own_ents k.l
  have hs := k.small.1
  clear k hel
  go_enter Tryz.func159, Tryz.ntmps159
  go_wp2
  go_ret
  exact ⟨rfl, rfl⟩
end Go.Proofs.YtemamhkhjijdlaaGreatDoor
/-
  WINDOW: Head, Retire.
-/
namespace Go.Proofs.YtemamhkhjijdlaaGreatDoor
open Go Go.RowKit
theorem blk_setCell_win {x : World} {g : Nat} {e : TypeId} {cur : Array Value} (h : x.heap[g]? = some (.cells cur e (0, 0))) (i : Nat) (u : Value) : (x.setCell ⟨g, i, none⟩ u).heap[g]? = some (.cells (cur.setIfInBounds i u) e (0, 0)) := by
  obtain ⟨hlt, hk⟩ := Array.getElem?_eq_some_iff.1 h
  show (x.heap.modify g _)[g]? = _
  rw [Array.getElem?_eq_getElem (by rw [Array.size_modify]; exact hlt), Array.getElem_modify_self, hk]
  rfl
theorem blk_setCells_win {g : Nat} {e : TypeId} : ∀ (us : List Value) (i : Nat) (x : World) (cur : Array Value), x.heap[g]? = some (.cells cur e (0, 0)) → ∃ cur', (x.setCells g i us).heap[g]? = some (.cells cur' e (0, 0)) ∧ cur'.size = cur.size
  | [], _, _, cur, h => ⟨cur, h, rfl⟩
  | u :: us, i, x, cur, h => by
    obtain ⟨cur', h1, h2⟩ := blk_setCells_win us (i + 1) (x.setCell ⟨g, i, none⟩ u) _ (blk_setCell_win h i u)
    exact ⟨cur', h1, by rw [h2]; simp⟩
theorem turned_setCells_win {g : Nat} : ∀ (us : List Value) (i : Nat) (x : World), Turned (fun k => k = g) x (x.setCells g i us)
  | [], _, x => Turned.refl _ x
  | u :: us, i, x => ((Turned.refl (fun k => k = g) x).set (b := g) rfl i u).trans (turned_setCells_win us (i + 1) _)
theorem flatE_one' : ∀ (l : List Ent), ∀ u ∈ flatE l, u.oneCell' = true
  | [], u, h => by simp [flatE] at h
  | e :: l, u, h => by
    simp only [flatE, List.mem_append] at h
    rcases h with h | h
    · simp [Ent.vs] at h
      rcases h with rfl | rfl | rfl | rfl | rfl <;> rfl
    · exact flatE_one' l u h
theorem own_of_cells_win {x : World} {B g n cap size : Nat} {e : TypeId} {cur : Array Value} {xs : List Value} (h : x.heap[g]? = some (.cells cur e (0, 0))) (hB : B ≤ g) (hn : n ≤ cap) (hm : cap ≤ maxLen) (hs : cur.size = cap * size) (hl : xs.length = n * size) (hc : ∀ j u, xs[j]? = some u → x.cell? ⟨g, j, none⟩ = some u) : x.ownsRow B e size (.slice (some ⟨g, 0, none⟩) n cap) n xs := by
  refine ⟨hl, Or.inr ⟨g, cap, cur, rfl, hB, h, hn, hm, hs, ?_⟩⟩
  have hle : n * size ≤ cur.size := by rw [hs]; exact Nat.mul_le_mul_right _ hn
  apply List.ext_getElem?
  intro j
  rw [List.getElem?_take]
  by_cases hj : j < n * size
  · rw [if_pos hj]
    obtain ⟨u, hu⟩ : ∃ u, xs[j]? = some u := ⟨xs[j]'(by omega), List.getElem?_eq_getElem (by omega)⟩
    have := hc j u hu
    rw [hu]
    simpa [World.cell?, h] using this
  · rw [if_neg hj, List.getElem?_eq_none (by omega)]
set_option maxHeartbeats 1000000 in
theorem head_some (B p h c : Nat) (v : Value) (S : WS) (w : World) (k : Win w B p h c v S) (hn : 0 < S.on.length) : Calls Tryz.prog 200 #[.pointer (some ⟨p, 0, none⟩)] w fun e w' => e = .returned (.tuple #[.int .i64 (S.num 0), .bool (S.st 0 == 2), .bool true]) ∧ Below w.heap.size w w' := by
  obtain ⟨hp, -, -, c2, -, -⟩ := k.cells
  obtain ⟨q, cap, rfl, hcap, hel⟩ := own_ents k.l
  obtain ⟨g, rfl, hB, hg, d0, -, -, -, d4, -⟩ := hel 0 hn
  have hs := k.small.1
  unfold WS.num WS.st
  obtain ⟨n0, a0⟩ : ∃ y, (S.on.getD 0 e0).num = y := ⟨_, rfl⟩
  obtain ⟨n4, a4⟩ : ∃ y, (S.on.getD 0 e0).st = y := ⟨_, rfl⟩
  rw [a0] at d0 ⊢
  rw [a4] at d4 ⊢
  simp only [Nat.zero_mul, Nat.zero_add] at d0 d4
  clear k hel a0 a4
  go_enter Tryz.func200, Tryz.ntmps200
  go_wp2
  go_quiet (fail)
  go_wp2
  refine bodyPost_ret (results_tmp3 Tryz.results200 _ _ _) rfl ?_
  exact ⟨rfl, below_drewN_win w _⟩
theorem append_op0_win {P : Program} {o : Oper} {a : Act} {w w' : World} {K : Act → World → Prop} {Q : Exit → Act → World → Prop} {s x : Operand} {t : TypeId} {v u v' : Value} (ho : o.op = Op.call { callee := Callee.builtin Builtin.append, args := #[s, x], argTypes := #[t, t] }) (hs : a.eval s = v) (hx : a.eval x = u) (hr : (Builtin.append_ #[t, t] o.type #[v, u]).run P w = .ok v' w') (hK : K (a.put o.dst v') w') : o.wp P a w K Q := by
  unfold Oper.wp
  simp [execOp, ho, resolve, invoke, builtin, hs, hx, hr, Result.andThen]
  exact hK
def z5 : List Value := [.int .i64 0, .int .i64 0, .int .i64 0, .int .i64 0, .int .i64 0]
theorem clear_run_win (w : World) (g o c : Nat) (ty : TypeId) (hc : ∀ j, j < 5 → (w.cell? ⟨g, o + j, none⟩).isSome = true) (hf : ∀ j, j < 5 → w.frozen? ⟨g, o + j, none⟩ = false) : (Builtin.clear_ #[188] ty #[.slice (some ⟨g, o, none⟩) 1 c]).run Tryz.prog w = .ok (.tuple #[]) (w.setCells g o z5) := by
  have hst := run_storeCells_cells (P := Tryz.prog) g o z5 0 w (by simpa [z5] using hc) (by simpa [z5] using hf) (by intro v hv; simp [z5] at hv; subst hv; rfl)
  simp only [Nat.add_zero] at hst
  have hz : (Builtin.zeroCells (Value.cells (.agg #[.int .i64 0, .int .i64 0, .int .i64 0, .int .i64 0, .int .i64 0])) 1).toList = z5 := by kernel_rfl
  simp [Builtin.clear_, run_underlying Tryz.underlying188, hz, hst]
/-- what Delete does to a row -/
theorem delete_mem_win (B g cap : Nat) (y : Ent) (l : List Ent) (w : World) (hl : w.ownsRow B 298 5 (.slice (some ⟨g, 0, none⟩) (l.length + 1) cap) (l.length + 1) (flatE (y :: l))) :
    l.length + 1 ≤ cap ∧ cap ≤ maxLen ∧ ∃ U V, (∀ ad c, (l ≠ [] → ad = ⟨g, 5, none⟩) → (Builtin.append_ #[188, 188] 188 #[.slice (some ⟨g, 0, none⟩) 0 cap, .slice (some ad) l.length c]).run Tryz.prog w.drew = .ok (.slice (some ⟨g, 0, none⟩) l.length cap) U) ∧
      (Builtin.clear_ #[188] 0 #[.slice (some ⟨g, l.length * 5, none⟩) 1 (cap - l.length)]).run Tryz.prog U = .ok (.tuple #[]) V ∧ V.ownsRow B 298 5 (.slice (some ⟨g, 0, none⟩) l.length cap) l.length (flatE l) ∧ Turned (fun k => k = g) w V := by
  have HL := hl
  obtain ⟨i0, hi0, hz0, hz1, hz2⟩ := info_parts (show (Tryz.prog.info? 298).map (fun i => (i.zero, i.size, i.bytes)) = some (some (.agg #[.int .i64 0, .int .i64 0, .int .i64 0, .int .i64 0, .int .i64 0]), 5, 40) by kernel_rfl)
  have hone : ∀ u ∈ flatE l, u.oneCell' = true := flatE_one' l
  obtain ⟨cur, b2, b3, b4, b5, b6⟩ : ∃ cur, B ≤ g ∧ w.heap[g]? = some (.cells cur 298 (0, 0)) ∧ l.length + 1 ≤ cap ∧ cap ≤ maxLen ∧ cur.size = cap * 5 := by
    rcases hl.2 with ⟨h1, -⟩ | ⟨g', cap', cur, h1, h2, h3, h4, h5, h6, -⟩
    · cases h1
    · simp only [Value.slice.injEq, Option.some.injEq, Addr.mk.injEq] at h1
      obtain ⟨⟨rfl, -, -⟩, -, rfl⟩ := h1
      exact ⟨cur, h2, h3, h4, h5, h6⟩
  have b3' : w.drew.heap[g]? = some (.cells cur 298 (0, 0)) := b3
  have hsome : ∀ j, j < cap * 5 → (w.drew.cell? ⟨g, j, none⟩).isSome = true := by
    intro j hj
    simp only [World.cell?, b3']
    rw [Array.getElem?_eq_getElem (by omega)]
    rfl
  have hfree : ∀ j, w.drew.frozen? ⟨g, j, none⟩ = false := by
    intro j
    simp [World.frozen?, b3']
  have hcells : ∀ j u, (flatE l)[j]? = some u → w.drew.cell? ⟨g, 5 + j, none⟩ = some u := by
    intro j u hu
    have q := World.ownsRow.cells HL rfl (5 + j) u (by
      show (y.vs ++ flatE l)[5 + j]? = some u
      rw [List.getElem?_append_right (by simp [Ent.vs])]
      simpa [Ent.vs] using hu)
    rw [Addr.add_lit, Nat.zero_add] at q
    exact q
  have hfl := flatE_len l
  obtain ⟨U, hU⟩ : ∃ U, w.drew.setCells g 0 (flatE l) = U := ⟨_, rfl⟩
  have hUs : ∀ j, j < cap * 5 → (U.cell? ⟨g, j, none⟩).isSome = true := fun j hj => by rw [← hU]; exact World.isSome_setCells g _ _ _ _ (hsome j hj)
  have hUf : ∀ j, U.frozen? ⟨g, j, none⟩ = false := fun j => by rw [← hU, World.frozen?_setCells]; exact hfree j
  refine ⟨b4, b5, U, U.setCells g (l.length * 5) z5, fun ad c had => ?_, clear_run_win U g (l.length * 5) (cap - l.length) 0 (fun j hj => hUs _ (by omega)) (fun j _ => hUf _), ?_, ?_⟩
  · have hrun := run_append_room_cells (P := Tryz.prog) (w := w.drew) 188 188 298 i0 Tryz.underlying188 hi0 g 0 0 cap ad l.length c (flatE l) (by rw [hz1]; exact hfl) (fun j u h => by
        rw [had (fun e => by rw [e] at h; simp [flatE] at h), Addr.add_lit]
        exact hcells j u h) hone (by omega) (fun j h => by simpa using hsome j (by omega)) (fun j h => hfree _)
    simp only [Nat.zero_mul, Nat.zero_add] at hrun
    rw [hU] at hrun
    exact hrun
  · obtain ⟨cur1, e1, e2⟩ := blk_setCells_win (flatE l) 0 w.drew cur b3
    rw [hU] at e1
    obtain ⟨cur2, e3, e4⟩ := blk_setCells_win z5 (l.length * 5) U cur1 e1
    refine own_of_cells_win e3 b2 (by omega) b5 (by omega) hfl (fun j u hu => ?_)
    have hj : j < l.length * 5 := by
      rcases Nat.lt_or_ge j (l.length * 5) with q | q
      · exact q
      · rw [List.getElem?_eq_none (by omega)] at hu; cases hu
    rw [World.cell?_setCells_out g _ _ _ _ (fun _ _ => Or.inl hj), ← hU]
    have q := World.cell?_setCells_in g (flatE l) 0 w.drew (fun j hj => by rw [Nat.zero_add]; exact hsome j (by omega)) j (by omega)
    rw [Nat.zero_add] at q
    rw [q, ← hu, List.getElem?_eq_getElem (by omega)]
  · refine Turned.trans (y := U) ?_ (turned_setCells_win z5 _ _)
    rw [← hU]
    exact ((Turned.refl (fun k => k = g) w).drew).trans (turned_setCells_win _ _ _)
set_option maxRecDepth 100000 in
set_option maxHeartbeats 1000000 in
theorem delete_any_win (B g cap : Nat) (y : Ent) (l : List Ent) (w : World) (hl : w.ownsRow B 298 5 (.slice (some ⟨g, 0, none⟩) (l.length + 1) cap) (l.length + 1) (flatE (y :: l))) (h64 : l.length < 64) :
    Calls Tryz.prog 201 #[.slice (some ⟨g, 0, none⟩) (l.length + 1) cap, .int .i64 0, .int .i64 1] w fun e w' => e = .returned (.slice (some ⟨g, 0, none⟩) l.length cap) ∧ w'.ownsRow B 298 5 (.slice (some ⟨g, 0, none⟩) l.length cap) l.length (flatE l) ∧ Turned (fun k => k = g) w w' := by
  obtain ⟨hcap, hmax, U, V, h1, h2, h3⟩ := delete_mem_win B g cap y l w hl
  obtain ⟨m, hm⟩ : ∃ m, l.length = m := ⟨_, rfl⟩
  rw [hm] at h1 h2 h3 hcap h64 ⊢
  have hnil : m ≠ 0 → l ≠ [] := fun h e => h (by rw [← hm, e]; rfl)
  have hnil2 : l ≠ [] → m ≠ 0 := fun h e => h (List.eq_nil_of_length_eq_zero (by omega))
  have HR : Hid (∀ ad c, (m ≠ 0 → ad = ⟨g, 5, none⟩) → (Builtin.append_ #[188, 188] 188 #[.slice (some ⟨g, 0, none⟩) 0 cap, .slice (some ad) m c]).run Tryz.prog w.drew = .ok (.slice (some ⟨g, 0, none⟩) m cap) U) := fun ad c hh => h1 ad c (fun e => hh (hnil2 e))
  have HC := Hid.in h2
  have HF := Hid.in h3
  unfold maxLen at hmax
  clear hl h1 h2 h3 hm hnil hnil2
  go_enter Tryz.func201, Tryz.ntmps201
  go_wp2
  rename_i Qx Kx hx
  by_cases hc1 : cap = 1
  · obtain rfl : m = 0 := by omega
    subst hc1
    refine wp_region_any (by kernel_rfl) ?_
    change wpAny _ _ _ _ _ _ _ (World.drew _)
    refine wpAny_take (i := 0) (v := .slice (some ⟨g, 0, none⟩) (0 + 1) 1) rfl (by kernel_rfl) (by kernel_rfl) (by kernel_rfl) (fun _ _ _ h => h) (Or.inl ⟨by rfl, fun w => by go_simp⟩) ?_
    refine wpAny_take (i := 1) (v := .int .i64 0) rfl (by kernel_rfl) (by kernel_rfl) (by kernel_rfl) (fun _ _ _ h => h) (Or.inl ⟨by rfl, fun w => by go_simp⟩) ?_
    refine wpAny_take (i := 2) (v := .slice (some ⟨g, 0, none⟩) 0 1) rfl (by kernel_rfl) (by kernel_rfl) (by kernel_rfl) (fun _ _ _ h => h) (Or.inl ⟨by rfl, fun w => by go_simp⟩) ?_
    refine wpAny_take (i := 3) (v := .slice (some ⟨g, 0, none⟩) (0 + 1) 1) rfl (by kernel_rfl) (by kernel_rfl) (by kernel_rfl) (fun _ _ _ h => h) (Or.inl ⟨by rfl, fun w => by go_simp⟩) ?_
    refine wpAny_take (i := 4) (v := .int .i64 1) rfl (by kernel_rfl) (by kernel_rfl) (by kernel_rfl) (fun _ _ _ h => h) (Or.inl ⟨by rfl, fun w => by go_simp⟩) ?_
    refine wpAny_take (i := 5) (v := .slice (some ⟨g, 0, none⟩) 0 0) rfl (by kernel_rfl) (by kernel_rfl) (by kernel_rfl) (fun _ _ _ h => h) (Or.inl ⟨by rfl, fun w => by go_simp⟩) ?_
    have hrun := HR.out ⟨g, 0, none⟩ 0 (fun h => absurd rfl h)
    refine wpAny_ready (rs := [6]) (by kernel_rfl) (by simp) ?_
    refine AllReady.cons rfl (fun K hK => ?_) AllReady.nil
    rw [if_pos (by rfl)]
    refine append_op0_win (v := .slice (some ⟨g, 0, none⟩) 0 1) (u := .slice (some ⟨g, 0, none⟩) 0 0) rfl (by kernel_rfl) (by kernel_rfl) hrun (hK _ _ ?_)
    clear hK K
    refine wpAny_ready (rs := [7]) (by kernel_rfl) (by simp) ?_
    refine AllReady.cons rfl (fun K hK => ?_) AllReady.nil
    go_simp
    refine hK _ _ ?_
    clear hK K
    refine wpAny_done (by kernel_rfl) ?_ _
    refine hx _ _ ?_
    clear hx Kx
    have hC := HC.out
    go_wp2
    go_ret
    exact ⟨rfl, HF.out⟩
  · have hcc : 1 < cap := by omega
    refine wp_region_any (by kernel_rfl) ?_
    change wpAny _ _ _ _ _ _ _ (World.drew _)
    refine wpAny_take (i := 0) (v := .slice (some ⟨g, 0, none⟩) (m + 1) cap) rfl (by kernel_rfl) (by kernel_rfl) (by kernel_rfl) (fun _ _ _ h => h) (Or.inl ⟨by rfl, fun w => by go_simp⟩) ?_
    refine wpAny_take (i := 1) (v := .int .i64 0) rfl (by kernel_rfl) (by kernel_rfl) (by kernel_rfl) (fun _ _ _ h => h) (Or.inl ⟨by rfl, fun w => by go_simp⟩) ?_
    refine wpAny_take (i := 2) (v := .slice (some ⟨g, 0, none⟩) 0 cap) rfl (by kernel_rfl) (by kernel_rfl) (by kernel_rfl) (fun _ _ _ h => h) (Or.inl ⟨by rfl, fun w => by go_simp⟩) ?_
    refine wpAny_take (i := 3) (v := .slice (some ⟨g, 0, none⟩) (m + 1) cap) rfl (by kernel_rfl) (by kernel_rfl) (by kernel_rfl) (fun _ _ _ h => h) (Or.inl ⟨by rfl, fun w => by go_simp⟩) ?_
    refine wpAny_take (i := 4) (v := .int .i64 1) rfl (by kernel_rfl) (by kernel_rfl) (by kernel_rfl) (fun _ _ _ h => h) (Or.inl ⟨by rfl, fun w => by go_simp⟩) ?_
    refine wpAny_take (i := 5) (v := .slice (some ⟨g, 5, none⟩) m (cap - 1)) rfl (by kernel_rfl) (by kernel_rfl) (by kernel_rfl) (fun _ _ _ h => h) (Or.inl ⟨by rfl, fun w => by go_simp; intro q; omega⟩) ?_
    have hrun := HR.out ⟨g, 5, none⟩ (cap - 1) (fun _ => rfl)
    refine wpAny_ready (rs := [6]) (by kernel_rfl) (by simp) ?_
    refine AllReady.cons rfl (fun K hK => ?_) AllReady.nil
    rw [if_pos (by rfl)]
    refine append_op0_win (v := .slice (some ⟨g, 0, none⟩) 0 cap) (u := .slice (some ⟨g, 5, none⟩) m (cap - 1)) rfl (by kernel_rfl) (by kernel_rfl) hrun (hK _ _ ?_)
    clear hK K
    refine wpAny_ready (rs := [7]) (by kernel_rfl) (by simp) ?_
    refine AllReady.cons rfl (fun K hK => ?_) AllReady.nil
    go_simp
    refine hK _ _ ?_
    clear hK K
    refine wpAny_done (by kernel_rfl) ?_ _
    refine hx _ _ ?_
    clear hx Kx
    have hC := HC.out
    go_wp2
    go_ret
    exact ⟨rfl, HF.out⟩
end Go.Proofs.YtemamhkhjijdlaaGreatDoor
/-
  WINDOW: Retire, New, Enter.
-/
namespace Go.Proofs.YtemamhkhjijdlaaGreatDoor
open Go Go.RowKit
def WS.pop (S : WS) : WS := { S with on := S.on.tail }
set_option maxHeartbeats 1000000 in
theorem retire_good (B p h c : Nat) (v : Value) (S : WS) (w : World) (k : Win w B p h c v S) (hn : 0 < S.on.length) (hd : S.st 0 = 2) : Calls Tryz.prog 134 #[.pointer (some ⟨p, 0, none⟩)] w fun e w' => e = .returned (.tuple #[.int .i64 (S.num 0), .nilIface]) ∧ ∃ v', v'.ownBlock = v.ownBlock ∧ Win w' B p h c v' S.pop ∧ Turned (fun k => k = p ∨ v.ownBlock = some k) w w' := by
  obtain ⟨q, cap, rfl, hcap, hel⟩ := own_ents k.l
  obtain ⟨g, rfl, -⟩ := hel 0 hn
  obtain ⟨y, l, hyl⟩ : ∃ y l, S.on = y :: l := by
    cases e : S.on with
    | nil => rw [e] at hn; simp at hn
    | cons y l => exact ⟨y, l, rfl⟩
  have hlen : S.on.length = l.length + 1 := by rw [hyl]; rfl
  have hs := k.small.1
  have HK := Hid.in k
  have HD : Hid ((S.st 0 == 2) = true) := by rw [hd]; rfl
  have HN := Hid.in hn
  obtain ⟨n0, hn0⟩ : ∃ n0, S.num 0 = n0 := ⟨_, rfl⟩
  rw [hn0]
  have HN0 := Hid.in hn0
  have HY := Hid.in hyl
  have np : p ≠ g := fun e => k.vp (by rw [e]; rfl)
  clear k hel hn hd hn0 hyl
  rw [hlen] at hs hcap HK ⊢
  go_enter Tryz.func134, Tryz.ntmps134
  go_wp2_with (first
    | (go_at_call 200; refine (head_some B p h c _ S _ HK.out HN.out).mono ?_; rintro e w1 ⟨rfl, hb1⟩; rw [HD.out, HN0.out]; have HK1 := Hid.in (HK.out.below hb1); have HB1 := Hid.in hb1; clear hb1; obtain ⟨hp, -, -, c2, -, fp⟩ := HK1.out.cells; have f2 := fp 2; clear fp)
    | (go_at_call 201; refine (delete_any_win B g cap y l _ (by have := HK1.out.l; rw [HY.out] at this; exact this) (by omega)).mono ?_; rintro e w2 ⟨rfl, hr2, ht2⟩; have HR2 := Hid.in hr2; have HT2 := Hid.in ht2; clear hr2 ht2; have c2' := HT2.out.to_cell hp np c2; have f2' := (World.frozen?_of_block (w := w1) (HT2.out.block p hp np)).trans f2))
  go_ret2
  have k1 := HK1.out
  have nh : h ≠ g := fun e => k1.vh (by rw [e]; rfl)
  have T : Turned (fun k => k = p ∨ (Value.slice (some ⟨g, 0, none⟩) (l.length + 1) cap).ownBlock = some k) w1 (w2.setCell ⟨p, 2, none⟩ (.slice (some ⟨g, 0, none⟩) l.length cap)) := (HT2.out.mono (R := fun k => k = p ∨ (Value.slice (some ⟨g, 0, none⟩) (l.length + 1) cap).ownBlock = some k) (fun k e => Or.inr (by rw [e]; rfl))).set (b := p) (Or.inl rfl) _ _
  refine ⟨rfl, .slice (some ⟨g, 0, none⟩) l.length cap, rfl, ?_, (Turned.of_below HB1.out).trans T⟩
  have hpop : S.pop.on = l := by simp [WS.pop, HY.out]
  have hp2 : S.pop.on.length = l.length := by rw [hpop]
  refine ⟨?_, ?_, ?_, k1.ne, fun e => np ?_, fun e => nh ?_, ⟨by rw [hp2]; omega, k1.small.2⟩, k1.lo, fun j hj => ?_⟩
  · refine ((HT2.out.cells k1.c np).set 2 (by omega) _).ext fun o ho => ?_
    match o, ho with
    | 0, _ => rfl
    | 1, _ => rfl
    | 2, _ => rfl
    | 3, _ => rfl
  · rw [hp2, hpop]
    exact own_turned_win HR2.out ((Turned.refl (fun k => k = p) w2).set (b := p) rfl _ _) (fun j hj e => by simp [Value.ownBlock] at hj; omega)
  · exact ((HT2.out.cells k1.a nh).setOther _ _ (fun e => k1.ne e.symm))
  · simp [Value.ownBlock] at e; omega
  · simp [Value.ownBlock] at e; omega
  · rw [hp2] at hj
    have := k1.fit (j + 1) (by rw [HY.out]; simp; omega)
    rw [HY.out, List.getD_cons_succ] at this
    rw [hpop]
    exact this
set_option maxHeartbeats 1000000 in
theorem isClass_any (cl : Int) (w : World) : Calls Tryz.prog 227 #[.int .i64 cl] w fun e w' => e = .returned (.bool (decide (0 ≤ cl ∧ cl ≤ 7))) ∧ w' = w := by
  by_cases h0 : 0 ≤ cl
  · by_cases h7 : cl ≤ 7
    · have e1 : decide (0 ≤ cl ∧ cl ≤ 7) = true := by simp [h0, h7]
      rw [e1]
      go_enter Tryz.func227, Tryz.ntmps227
      go_wp2
      go_ret
      exact ⟨rfl, rfl⟩
    · have e1 : decide (0 ≤ cl ∧ cl ≤ 7) = false := by simp [h7]
      rw [e1]
      go_enter Tryz.func227, Tryz.ntmps227
      go_wp2
      go_ret
      exact ⟨rfl, rfl⟩
  · have e1 : decide (0 ≤ cl ∧ cl ≤ 7) = false := by simp [h0]
    have hu : undef = Value.tuple #[] := rfl
    have hd : decide (0 ≤ cl) = false := by simp [h0]
    rw [e1]
    go_enter Tryz.func227, Tryz.ntmps227
    go_wp2
    go_ret
    exact ⟨rfl, rfl⟩
set_option maxHeartbeats 1000000 in
theorem isOperand_any (B p h c : Nat) (v : Value) (S : WS) (q : Int) (w : World) (k : Win w B p h c v S) : Calls Tryz.prog 228 #[.pointer (some ⟨p, 0, none⟩), .int .i64 q] w fun e w' => e = .returned (.bool (decide (-1 ≤ q ∧ q < S.nr))) ∧ w' = w := by
  obtain ⟨hp, -, -, -, c3, -⟩ := k.cells
  have hs := k.small.2.1
  clear k
  by_cases h0 : -1 ≤ q
  · by_cases h7 : q < S.nr
    · have e1 : decide (-1 ≤ q ∧ q < S.nr) = true := by simp [h0, h7]
      rw [e1]
      go_enter Tryz.func228, Tryz.ntmps228
      go_wp2
      go_ret
      exact ⟨rfl, rfl⟩
    · have e1 : decide (-1 ≤ q ∧ q < S.nr) = false := by simp [h7]
      rw [e1]
      go_enter Tryz.func228, Tryz.ntmps228
      go_wp2
      go_ret
      exact ⟨rfl, rfl⟩
  · have e1 : decide (-1 ≤ q ∧ q < S.nr) = false := by simp [h0]
    have hu : undef = Value.tuple #[] := rfl
    have hd : decide (-1 ≤ q) = false := by simp [h0]
    rw [e1]
    go_enter Tryz.func228, Tryz.ntmps228
    go_wp2
    go_ret
    exact ⟨rfl, rfl⟩
def WS.enter (S : WS) (cl s1 s2 d : Int) : WS := { S with next := S.next + 1, on := S.on ++ [⟨S.next, cl, s1, s2, 0⟩], ab := if 0 ≤ d then upd S.ab d.toNat true else S.ab }
theorem Win.setNext {x : World} {B p h c : Nat} {v : Value} {S : WS} (k : Win x B p h c v S) (n : Nat) (hn : n ≤ 1000000) : Win (x.setCell ⟨p, 1, none⟩ (.int .i64 n)) B p h c v { S with next := n } := by
  refine ⟨(k.c.set 1 (by omega) _).ext fun o ho => ?_, own_turned_win k.l ((Turned.refl (fun k => k = p) x).set (b := p) rfl _ _) (fun j hj e => k.vp (by rw [hj, e])), k.a.setOther _ _ (fun e => k.ne e.symm), k.ne, k.vp, k.vh, ⟨k.small.1, k.small.2.1, hn, k.small.2.2.2⟩, k.lo, k.fit⟩
  match o, ho with
  | 0, _ => rfl
  | 1, _ => rfl
  | 2, _ => rfl
  | 3, _ => rfl
theorem Win.push {x y : World} {B p h c : Nat} {v v' : Value} {S : WS} (k : Win x B p h c v S) (e : Ent) (hr : y.ownsRow B 298 5 v' (S.on.length + 1) (flatE (S.on ++ [e]))) (t : Turned (fun k => v.ownBlock = some k) x y) (hb : v'.ownBlock = v.ownBlock ∨ ∃ j, v'.ownBlock = some j ∧ x.heap.size ≤ j) (hl : S.on.length < 64) (hf : e.s1 < S.nr ∧ e.s2 < S.nr) : Win (y.setCell ⟨p, 2, none⟩ v') B p h c v' { S with on := S.on ++ [e] } := by
  have hp := k.c.here
  have hh := k.a.here
  have np : v'.ownBlock ≠ some p := by
    intro q
    rcases hb with e1 | ⟨j, e1, e2⟩
    · exact k.vp (by rw [← e1, q])
    · rw [e1] at q
      simp at q
      omega
  have nh : v'.ownBlock ≠ some h := by
    intro q
    rcases hb with e1 | ⟨j, e1, e2⟩
    · exact k.vh (by rw [← e1, q])
    · rw [e1] at q
      simp at q
      omega
  have e3 : (S.on ++ [e]).length = S.on.length + 1 := by simp
  refine ⟨((t.cells k.c k.vp).set 2 (by omega) _).ext fun o ho => ?_, ?_, (t.cells k.a k.vh).setOther _ _ (fun e => k.ne e.symm), k.ne, np, nh, ⟨by rw [e3]; omega, k.small.2⟩, k.lo, fun j hj => ?_⟩
  · match o, ho with
    | 0, _ => rfl
    | 1, _ => rfl
    | 2, _ => rfl
    | 3, _ => rfl
  · rw [e3]
    exact own_turned_win hr ((Turned.refl (fun k => k = p) y).set (b := p) rfl _ _) (fun j hj e => np (by rw [hj, e]))
  · rw [e3] at hj
    show ((S.on ++ [e]).getD j e0).s1 < S.nr ∧ ((S.on ++ [e]).getD j e0).s2 < S.nr
    simp only [List.getD_eq_getElem?_getD]
    by_cases q : j < S.on.length
    · rw [List.getElem?_append_left q]
      have := k.fit j q
      simp only [List.getD_eq_getElem?_getD] at this
      exact this
    · have : j = S.on.length := by omega
      subst this
      simp
      exact hf
theorem Win.mark {x : World} {B p h c : Nat} {v : Value} {S : WS} {cl s1 s2 : Int} (k : Win x B p h c v { { S with next := S.next + 1 } with on := S.on ++ [⟨S.next, cl, s1, s2, 0⟩] }) (d : Nat) (hd : d < S.nr) {y : World} (hy : y = (x.setCell ⟨h, d, none⟩ (.bool true)).drew) : Win y B p h c v (S.enter cl s1 s2 d) := by
  subst hy
  have e : S.enter cl s1 s2 d = { S with next := S.next + 1, on := S.on ++ [⟨S.next, cl, s1, s2, 0⟩], ab := upd S.ab d true } := by
    unfold WS.enter
    rw [if_pos (by omega)]
    rfl
  rw [e]
  have T : Turned (fun k => k = h) x (x.setCell ⟨h, d, none⟩ (.bool true)).drew := ((Turned.refl (fun k => k = h) x).set (b := h) rfl _ _).drew
  refine ⟨(k.c.setOther _ _ k.ne).drew, own_turned_win k.l T (fun j hj e => k.vh (by rw [hj, e])), ((k.a.set d hd _).drew.ext fun o ho => ?_), k.ne, k.vp, k.vh, k.small, k.lo, k.fit⟩
  unfold upd
  by_cases q : o = d
  · simp [q]
  · simp [q]
set_option maxRecDepth 100000 in
set_option maxHeartbeats 2000000 in
theorem enter_good_win (B p h c : Nat) (v : Value) (S : WS) (cl s1 s2 d : Int) (w : World) (k : Win w B p h c v S) (hc : 0 ≤ cl ∧ cl ≤ 7) (h1 : -1 ≤ s1 ∧ s1 < S.nr) (h2 : -1 ≤ s2 ∧ s2 < S.nr) (h3 : -1 ≤ d ∧ d < S.nr) (hroom : S.on.length < S.size) (hnx : S.next < 1000000) :
    Calls Tryz.prog 166 #[.pointer (some ⟨p, 0, none⟩), .agg #[.int .i64 cl, .int .i64 s1, .int .i64 s2, .int .i64 d]] w fun e w' => e = .returned (.tuple #[.int .i64 S.next, .nilIface]) ∧ ∃ v', (v'.ownBlock = v.ownBlock ∨ ∃ j, v'.ownBlock = some j ∧ w.heap.size ≤ j) ∧ Win w' B p h c v' (S.enter cl s1 s2 d) ∧ Turned (fun k => k = p ∨ k = h ∨ v.ownBlock = some k) w w' := by
  obtain ⟨q, cap, hv, hcap, hel⟩ := own_ents k.l
  clear hel
  have hs := k.small
  have hp := k.c.here
  have HOB : Hid (∀ j, v.ownBlock = some j → j < w.heap.size) := fun j hj => (own_base_win k.l j hj).2
  have HLH : Hid (h < w.heap.size) := k.a.here
  have hb0 : Below w.heap.size w (w.alloc (.cells #[.int .i64 cl, .int .i64 s1, .int .i64 s2, .int .i64 d] 322)) := (Below.refl _ w).alloc (Nat.le_refl _) _
  have k0 := k.below hb0
  obtain ⟨X, hX⟩ : ∃ X, w.alloc (.cells #[.int .i64 cl, .int .i64 s1, .int .i64 s2, .int .i64 d] 322) = X := ⟨_, rfl⟩
  have x0 : CellsAt 4 X w.heap.size (fun o => match o with | 0 => .int .i64 cl | 1 => .int .i64 s1 | 2 => .int .i64 s2 | _ => .int .i64 d) := by
    rw [← hX]
    refine cells_new w fun i hi => ?_
    match i, hi with
    | 0, _ => rfl
    | 1, _ => rfl
    | 2, _ => rfl
    | 3, _ => rfl
  have HK0 := Hid.in k0
  have HB0 := Hid.in hb0
  have HX := Hid.in hX
  have HX0 := Hid.in x0
  have HV := Hid.in hv
  have HC := Hid.in hc
  have H1 := Hid.in h1
  have H2 := Hid.in h2
  have H3 := Hid.in h3
  have tc : decide (0 ≤ cl ∧ cl ≤ 7) = true := by simp [hc]
  have t1 : decide (-1 ≤ s1 ∧ s1 < S.nr) = true := by simp [h1]
  have t2 : decide (-1 ≤ s2 ∧ s2 < S.nr) = true := by simp [h2]
  have t3 : decide (-1 ≤ d ∧ d < S.nr) = true := by simp [h3]
  have TC := Hid.in tc
  have T1 := Hid.in t1
  have T2 := Hid.in t2
  have T3 := Hid.in t3
  clear k k0 hb0 hX x0 hc h1 h2 h3 tc t1 t2 t3 hv
  go_enter Tryz.func166, Tryz.ntmps166
  go_wp2_with (first
    | (go_at_call 227; refine (isClass_any cl _).mono ?_; rintro e w1 ⟨rfl, rfl⟩; rw [TC.out])
    | (go_at_call 228; refine (isOperand_any B p h c v S _ _ HK0.out).mono ?_; rintro e w1 ⟨rfl, rfl⟩; first | rw [T1.out] | rw [T2.out] | rw [T3.out]))
  rw [HX.out]
  have k0 := HK0.out
  have hb0 := HB0.out
  rw [HX.out] at k0 hb0
  clear HK0 HB0 HX TC T1 T2 T3
  obtain ⟨hpX, q0, q1, q2, q3, qf⟩ := k0.cells
  have hv := HV.out
  rw [hv] at q2
  have HQF := Hid.in qf
  have HK0 := Hid.in k0
  have HB0 := Hid.in hb0
  have hroom2 : ¬ (S.size : Int) ≤ (S.on.length : Int) := by omega
  clear qf k0 hb0 hv
  go_quiet (fail)
  have f1 := HQF.out 1
  go_wp2
  obtain ⟨Y, hY⟩ : ∃ Y, (X.drewN nq).setCell ⟨p, 1, none⟩ (.int .i64 ((S.next : Int) + 1)) = Y := ⟨_, rfl⟩
  have TY : Turned (fun k => k = p) X Y := by
    rw [← hY]
    exact ((Turned.refl (fun k => k = p) X).drewN nq).set (b := p) rfl _ _
  have kY : Win Y B p h c v { S with next := S.next + 1 } := by
    rw [← hY]
    have e1 : (S.next : Int) + 1 = ((S.next + 1 : Nat) : Int) := by omega
    rw [e1]
    exact (HK0.out.below (below_drewN_win X nq)).setNext (S.next + 1) (by omega)
  have hbx : w.heap.size < X.heap.size := HX0.out.here
  have xY := TY.cells HX0.out (by omega)
  have hob : ∀ j, v.ownBlock = some j → j < w.heap.size := fun j hj => HOB.out j hj
  rw [hY]
  clear hY q0 q1 q2 q3 f1
  obtain ⟨i0, hi0, hz0, hz1, hz2⟩ := info_parts (show (Tryz.prog.info? 298).map (fun i => (i.zero, i.size, i.bytes)) = some (some (.agg #[.int .i64 0, .int .i64 0, .int .i64 0, .int .i64 0, .int .i64 0]), 5, 40) by kernel_rfl)
  obtain ⟨v', w1, hrun, r1, r2, r3, r4⟩ := run_append_own_at (P := Tryz.prog) (w := Y.drew.alloc (.cells #[.int .i64 S.next, .int .i64 cl, .int .i64 s1, .int .i64 s2, .int .i64 0] 298)) B 188 188 298 i0 (.agg #[.int .i64 0, .int .i64 0, .int .i64 0, .int .i64 0, .int .i64 0]) 5 40 Tryz.underlying188 hi0 hz0 hz1 hz2 rfl (by decide) v S.on.length (flatE S.on) (World.ownsRow.alloc (w := Y.drew) kY.l _) ⟨Y.heap.size, 0, none⟩ 1 1 (Ent.vs ⟨S.next, cl, s1, s2, 0⟩) rfl (fun j u hj => by
      rw [Addr.add_lit, Nat.zero_add]
      have e2 := World.cell?_alloc_new Y.drew #[.int .i64 S.next, .int .i64 cl, .int .i64 s1, .int .i64 s2, .int .i64 0] 298 j
      refine e2.trans ?_
      rw [← hj]
      simp [Ent.vs]) (fun u hu => by
      simp [Ent.vs] at hu
      rcases hu with rfl | rfl | rfl | rfl | rfl <;> rfl) (by unfold maxLen; omega) (by omega) (by have := kY.lo; have := kY.c.here; simp; omega)
  have e3 : flatE S.on ++ (Ent.mk S.next cl s1 s2 0).vs = flatE (S.on ++ [⟨S.next, cl, s1, s2, 0⟩]) := by rw [flatE_app, flatE_one]
  rw [e3] at r1
  have T1 : Turned (fun k => v.ownBlock = some k) Y (Y.drew.alloc (.cells #[.int .i64 S.next, .int .i64 cl, .int .i64 s1, .int .i64 s2, .int .i64 0] 298)) := ((Turned.refl _ Y).drew).alloc _
  have T2 := T1.trans (turned_grown_win r2)
  have hbY : w.heap.size < Y.heap.size := xY.here
  have hbw : w.heap.size < w1.heap.size := by have := T2.size; omega
  have xw := T2.cells xY (fun e => by have := hob _ e; omega)
  have hr4 : v'.ownBlock = v.ownBlock ∨ ∃ j, v'.ownBlock = some j ∧ Y.heap.size ≤ j := by
    rcases r4 with e | e
    · exact Or.inl e
    · exact Or.inr ⟨_, e, by rw [World.size_alloc]; exact Nat.le_succ _⟩
  have kF := kY.push ⟨S.next, cl, s1, s2, 0⟩ r1 T2 hr4 (show S.on.length < 64 by omega) ⟨H1.out.2, H2.out.2⟩
  have TF : Turned (fun k => k = p ∨ k = h ∨ v.ownBlock = some k) w (w1.setCell ⟨p, 2, none⟩ v') := (((Turned.of_below HB0.out).trans (TY.mono (fun k e => Or.inl e))).trans (T2.mono (fun k e => Or.inr (Or.inr e)))).set (b := p) (Or.inl rfl) _ _
  have xF : CellsAt 4 (w1.setCell ⟨p, 2, none⟩ v') w.heap.size (fun o => match o with | 0 => .int .i64 cl | 1 => .int .i64 s1 | 2 => .int .i64 s2 | _ => .int .i64 d) := xw.setOther _ _ (by omega)
  have hr5 : v'.ownBlock = v.ownBlock ∨ ∃ j, v'.ownBlock = some j ∧ w.heap.size ≤ j := by
    rcases hr4 with e | ⟨j, e, e2⟩
    · exact Or.inl e
    · exact Or.inr ⟨j, e, by omega⟩
  obtain ⟨g', cap', rfl⟩ := Go.ownsRow_succ r1
  obtain ⟨hpY, -, -, y2, -, -⟩ := kY.cells
  have hpw : p < w1.heap.size := by have := T2.size; omega
  have z2 : w1.cell? ⟨p, 2, none⟩ = some v := T2.to_cell hpY kY.vp y2
  have zf : w1.frozen? ⟨p, 2, none⟩ = false := (World.frozen?_of_block (w := Y) (T2.block p hpY kY.vp)).trans (kY.c.free 2)
  have b0 : Y.cell? ⟨w.heap.size, 0, none⟩ = some (.int .i64 cl) := xY.cell 0 (by omega)
  have b1 : Y.cell? ⟨w.heap.size, 1, none⟩ = some (.int .i64 s1) := xY.cell 1 (by omega)
  have b2 : Y.cell? ⟨w.heap.size, 2, none⟩ = some (.int .i64 s2) := xY.cell 2 (by omega)
  have d0 : w1.cell? ⟨w.heap.size, 0, none⟩ = some (.int .i64 cl) := xw.cell 0 (by omega)
  have d1 : w1.cell? ⟨w.heap.size, 1, none⟩ = some (.int .i64 s1) := xw.cell 1 (by omega)
  have d2 : w1.cell? ⟨w.heap.size, 2, none⟩ = some (.int .i64 s2) := xw.cell 2 (by omega)
  have n1 := World.new_ne Y ⟨w.heap.size, 0, none⟩ b0
  have n2 := World.new_ne Y ⟨p, 2, none⟩ y2
  have HKF := Hid.in kF
  have HTF := Hid.in TF
  have HXF := Hid.in xF
  have HR5 := Hid.in hr5
  clear kF TF xF hr5 hr4 r1 r2 r3 r4 T1 T2 kY TY xY xw HQF HK0 HB0 HX0 hz0 hz1 hz2 hi0 hob HOB
  have hpws : p ≠ w.heap.size := by omega
  have a0 : (Y.drew.alloc (.cells #[.int .i64 S.next, .int .i64 cl, .int .i64 s1, .int .i64 s2, .int .i64 0] 298)).cell? ⟨w.heap.size, 0, none⟩ = some (.int .i64 cl) := by go_simp
  have a1 : (Y.drew.alloc (.cells #[.int .i64 S.next, .int .i64 cl, .int .i64 s1, .int .i64 s2, .int .i64 0] 298)).cell? ⟨w.heap.size, 1, none⟩ = some (.int .i64 s1) := by go_simp
  have a2 : (Y.drew.alloc (.cells #[.int .i64 S.next, .int .i64 cl, .int .i64 s1, .int .i64 s2, .int .i64 0] 298)).cell? ⟨w.heap.size, 2, none⟩ = some (.int .i64 s2) := by go_simp
  obtain ⟨Z, hZ⟩ : ∃ Z, w1.setCell ⟨p, 2, none⟩ (.slice (some ⟨g', 0, none⟩) (S.on.length + 1) cap') = Z := ⟨_, rfl⟩
  have kZ := HKF.out
  have tZ := HTF.out
  have xZ := HXF.out
  rw [hZ] at kZ tZ xZ
  obtain ⟨hpZ, -, -, -, z3, -⟩ := kZ.cells
  have zc0 : Z.cell? ⟨w.heap.size, 0, none⟩ = some (.int .i64 cl) := xZ.cell 0 (by omega)
  have zc1 : Z.cell? ⟨w.heap.size, 1, none⟩ = some (.int .i64 s1) := xZ.cell 1 (by omega)
  have zc2 : Z.cell? ⟨w.heap.size, 2, none⟩ = some (.int .i64 s2) := xZ.cell 2 (by omega)
  have zd : Z.cell? ⟨w.heap.size, 3, none⟩ = some (.int .i64 d) := xZ.cell 3 (by omega)
  have hhZ := kZ.a.here
  have hxZ := xZ.here
  have HKZ := Hid.in kZ
  have HTZ := Hid.in tZ
  have nph : ¬ h = p := fun e => kZ.ne e.symm
  have nwh : ¬ h = w.heap.size := by
    intro e
    have := HLH.out
    omega
  clear kZ tZ xZ HKF HTF HXF
  rename_i Qx Kx hx
  refine wp_region_held_drew (S := fun w' => w'.cell? ⟨w.heap.size, 0, none⟩ = some (.int .i64 cl) ∧ w'.cell? ⟨w.heap.size, 1, none⟩ = some (.int .i64 s1) ∧ w'.cell? ⟨w.heap.size, 2, none⟩ = some (.int .i64 s2)) (by kernel_rfl) ⟨b0, b1, b2⟩ (fun hHeld => ?_)
  refine wpAnyH_take (i := 0) (v := .pointer (some ⟨p, 0, none⟩)) rfl (by kernel_rfl) (by kernel_rfl) (by kernel_rfl) (fun _ _ _ h => h) (Or.inl ⟨by rfl, fun w hSw => by go_simp⟩) hHeld ?_
  refine wpAnyH_take (i := 1) (v := .pointer (some ⟨p, 0, none⟩)) rfl (by kernel_rfl) (by kernel_rfl) (by kernel_rfl) (fun _ _ _ h => h) (Or.inl ⟨by rfl, fun w hSw => by go_simp⟩) hHeld ?_
  refine wpAnyH_take (i := 2) (v := .pointer (some ⟨p, 0, none⟩)) rfl (by kernel_rfl) (by kernel_rfl) (by kernel_rfl) (fun _ _ _ h => h) (Or.inl ⟨by rfl, fun w hSw => by go_simp⟩) hHeld ?_
  refine wpAnyH_take (i := 3) (v := .pointer (some ⟨p, 2, none⟩)) rfl (by kernel_rfl) (by kernel_rfl) (by kernel_rfl) (fun _ _ _ h => h) (Or.inl ⟨by rfl, fun w hSw => by go_simp⟩) hHeld ?_
  refine wpAnyH_take (i := 5) (v := .int .i64 S.next) rfl (by kernel_rfl) (by kernel_rfl) (by kernel_rfl) (fun _ _ _ h => h) (Or.inl ⟨by rfl, fun w hSw => by go_simp⟩) hHeld ?_
  refine wpAnyH_take (i := 6) (v := .pointer (some ⟨w.heap.size, 0, none⟩)) rfl (by kernel_rfl) (by kernel_rfl) (by kernel_rfl) (fun _ _ _ h => h) (Or.inl ⟨by rfl, fun w hSw => by go_simp⟩) hHeld ?_
  refine wpAnyH_take (i := 7) (v := .int .i64 cl) rfl (by kernel_rfl) (by kernel_rfl) (by kernel_rfl) (fun _ _ _ h => h) (Or.inl ⟨by rfl, fun w hSw => by obtain ⟨hs0, hs1, hs2⟩ := hSw; go_simp⟩) hHeld ?_
  refine wpAnyH_take (i := 8) (v := .pointer (some ⟨w.heap.size, 1, none⟩)) rfl (by kernel_rfl) (by kernel_rfl) (by kernel_rfl) (fun _ _ _ h => h) (Or.inl ⟨by rfl, fun w hSw => by go_simp⟩) hHeld ?_
  refine wpAnyH_take (i := 9) (v := .int .i64 s1) rfl (by kernel_rfl) (by kernel_rfl) (by kernel_rfl) (fun _ _ _ h => h) (Or.inl ⟨by rfl, fun w hSw => by obtain ⟨hs0, hs1, hs2⟩ := hSw; go_simp⟩) hHeld ?_
  refine wpAnyH_take (i := 10) (v := .pointer (some ⟨w.heap.size, 2, none⟩)) rfl (by kernel_rfl) (by kernel_rfl) (by kernel_rfl) (fun _ _ _ h => h) (Or.inl ⟨by rfl, fun w hSw => by go_simp⟩) hHeld ?_
  refine wpAnyH_take (i := 11) (v := .int .i64 s2) rfl (by kernel_rfl) (by kernel_rfl) (by kernel_rfl) (fun _ _ _ h => h) (Or.inl ⟨by rfl, fun w hSw => by obtain ⟨hs0, hs1, hs2⟩ := hSw; go_simp⟩) hHeld ?_
  refine wpAnyH_take (i := 12) (v := .agg #[.int .i64 S.next, .int .i64 cl, .int .i64 s1, .int .i64 s2, .int .i64 0]) rfl (by kernel_rfl) (by kernel_rfl) (by kernel_rfl) (fun _ _ _ h => h) (Or.inl ⟨by rfl, fun w hSw => by go_simp⟩) hHeld ?_
  refine wpAnyH_ready (rs := [4, 13]) (by kernel_rfl) (by simp) ?_
  refine AllReadyH.cons rfl (fun K hK => ?_) ?_
  · skip
    go_simp
    refine hK.out _ _ hHeld (fun hHeld => ?_)
    clear hK K
    refine wpAnyH_ready (rs := [13]) (by kernel_rfl) (by simp) ?_
    refine AllReadyH.cons rfl (fun K hK => ?_) AllReadyH.nil
    go_simp
    refine hK.out _ _ ⟨a0, a1, a2⟩ (fun hHeld => ?_)
    clear hK K
    refine wpAnyH_ready (rs := [14]) (by kernel_rfl) (by simp) ?_
    refine AllReadyH.cons rfl (fun K hK => ?_) AllReadyH.nil
    rw [if_pos (by rfl)]
    refine append_op0_win (v := v) (u := .slice (some ⟨Y.heap.size, 0, none⟩) 1 1) rfl (by kernel_rfl) (by kernel_rfl) hrun ?_
    refine hK.out _ _ ⟨d0, d1, d2⟩ (fun hHeld => ?_)
    clear hK K
    refine wpAnyH_take (i := 15) (v := .pointer (some ⟨p, 0, none⟩)) rfl (by kernel_rfl) (by kernel_rfl) (by kernel_rfl) (fun _ _ _ h => h) (Or.inl ⟨by rfl, fun w hSw => by go_simp⟩) hHeld ?_
    refine wpAnyH_take (i := 16) (v := .pointer (some ⟨p, 2, none⟩)) rfl (by kernel_rfl) (by kernel_rfl) (by kernel_rfl) (fun _ _ _ h => h) (Or.inl ⟨by rfl, fun w hSw => by go_simp⟩) hHeld ?_
    refine wpAnyH_ready (rs := [17]) (by kernel_rfl) (by simp) ?_
    refine AllReadyH.cons rfl (fun K hK => ?_) AllReadyH.nil
    go_simp
    refine hK.out _ _ ⟨zc0, zc1, zc2⟩ (fun hHeld => ?_)
    clear hK K
    refine wpAnyH_done (by kernel_rfl) ?_ _
    refine hx _ _ ?_
    clear hx Kx hHeld
    by_cases hd : 0 ≤ d
    · have hds := H3.out
      obtain ⟨dn, rfl⟩ : ∃ dn : Nat, d = dn := ⟨d.toNat, by omega⟩
      have hdn : dn < S.nr := by omega
      have e9 := HKZ.out.flag dn hdn
      have e8 := HKZ.out.a.free dn
      have hsn : S.nr ≤ 128 := hs.2.1
      go_wp2
      go_region_held3 (fun w' => w'.cell? ⟨p, 3, none⟩ = some (.slice (some ⟨h, 0, none⟩) S.nr c) ∧ w'.cell? ⟨w.heap.size, 3, none⟩ = some (.int .i64 dn)) (go_keep) (fail)
      go_wp2
      go_ret2
      exact ⟨rfl, _, HR5.out, HKZ.out.mark dn hdn rfl, (HTZ.out.set (b := h) (Or.inr (Or.inl rfl)) _ _).drew⟩
    · have hd2 : d < 0 := by omega
      go_wp2
      go_ret2
      refine ⟨rfl, _, HR5.out, ?_, HTZ.out⟩
      have e : S.enter cl s1 s2 d = { { S with next := S.next + 1 } with on := S.on ++ [⟨S.next, cl, s1, s2, 0⟩] } := by
        unfold WS.enter
        rw [if_neg (show ¬ 0 ≤ d by omega)]
      rw [e]
      exact HKZ.out
  refine AllReadyH.cons rfl (fun K hK => ?_) AllReadyH.nil
  go_simp
  refine hK.out _ _ ⟨a0, a1, a2⟩ (fun hHeld => ?_)
  clear hK K
  refine wpAnyH_ready (rs := [4]) (by kernel_rfl) (by simp) ?_
  refine AllReadyH.cons rfl (fun K hK => ?_) AllReadyH.nil
  go_simp
  refine hK.out _ _ hHeld (fun hHeld => ?_)
  clear hK K
  refine wpAnyH_ready (rs := [14]) (by kernel_rfl) (by simp) ?_
  refine AllReadyH.cons rfl (fun K hK => ?_) AllReadyH.nil
  rw [if_pos (by rfl)]
  refine append_op0_win (v := v) (u := .slice (some ⟨Y.heap.size, 0, none⟩) 1 1) rfl (by kernel_rfl) (by kernel_rfl) hrun ?_
  refine hK.out _ _ ⟨d0, d1, d2⟩ (fun hHeld => ?_)
  clear hK K
  refine wpAnyH_take (i := 15) (v := .pointer (some ⟨p, 0, none⟩)) rfl (by kernel_rfl) (by kernel_rfl) (by kernel_rfl) (fun _ _ _ h => h) (Or.inl ⟨by rfl, fun w hSw => by go_simp⟩) hHeld ?_
  refine wpAnyH_take (i := 16) (v := .pointer (some ⟨p, 2, none⟩)) rfl (by kernel_rfl) (by kernel_rfl) (by kernel_rfl) (fun _ _ _ h => h) (Or.inl ⟨by rfl, fun w hSw => by go_simp⟩) hHeld ?_
  refine wpAnyH_ready (rs := [17]) (by kernel_rfl) (by simp) ?_
  refine AllReadyH.cons rfl (fun K hK => ?_) AllReadyH.nil
  go_simp
  refine hK.out _ _ ⟨zc0, zc1, zc2⟩ (fun hHeld => ?_)
  clear hK K
  refine wpAnyH_done (by kernel_rfl) ?_ _
  refine hx _ _ ?_
  clear hx Kx hHeld
  by_cases hd : 0 ≤ d
  · have hds := H3.out
    obtain ⟨dn, rfl⟩ : ∃ dn : Nat, d = dn := ⟨d.toNat, by omega⟩
    have hdn : dn < S.nr := by omega
    have e9 := HKZ.out.flag dn hdn
    have e8 := HKZ.out.a.free dn
    have hsn : S.nr ≤ 128 := hs.2.1
    go_wp2
    go_region_held3 (fun w' => w'.cell? ⟨p, 3, none⟩ = some (.slice (some ⟨h, 0, none⟩) S.nr c) ∧ w'.cell? ⟨w.heap.size, 3, none⟩ = some (.int .i64 dn)) (go_keep) (fail)
    go_wp2
    go_ret2
    exact ⟨rfl, _, HR5.out, HKZ.out.mark dn hdn rfl, (HTZ.out.set (b := h) (Or.inr (Or.inl rfl)) _ _).drew⟩
  · have hd2 : d < 0 := by omega
    go_wp2
    go_ret2
    refine ⟨rfl, _, HR5.out, ?_, HTZ.out⟩
    have e : S.enter cl s1 s2 d = { { S with next := S.next + 1 } with on := S.on ++ [⟨S.next, cl, s1, s2, 0⟩] } := by
      unfold WS.enter
      rw [if_neg (show ¬ 0 ≤ d by omega)]
    rw [e]
    exact HKZ.out
end Go.Proofs.YtemamhkhjijdlaaGreatDoor
