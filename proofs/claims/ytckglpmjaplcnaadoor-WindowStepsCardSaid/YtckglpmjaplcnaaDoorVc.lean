/-
  WINDOW: what may begin; Wake, Len, Head.
-/
import Derived.Test.YtckglpmjaplcnaaDoorVb
import Derived.BigQuiet
import Derived.Deep.RegionHeld3
namespace Go.Proofs.YtckglpmjaplcnaaDoor
open Go Go.RowKit
def WS.there (S : WS) (p : Int) : Bool := decide (p < 0) || !S.ab p.toNat
def WS.may (S : WS) (i : Nat) : Bool := decide ((S.on.getD i e0).st = 0) && S.there (S.on.getD i e0).s1 && S.there (S.on.getD i e0).s2
theorem Win.cells {x : World} {B p h c : Nat} {v : Value} {S : WS} (k : Win x B p h c v S) : p < x.heap.size ∧ x.cell? ⟨p, 0, none⟩ = some (.int .i64 S.size) ∧ x.cell? ⟨p, 1, none⟩ = some (.int .i64 S.next) ∧ x.cell? ⟨p, 2, none⟩ = some v ∧ x.cell? ⟨p, 3, none⟩ = some (.slice (some ⟨h, 0, none⟩) S.nr c) ∧ (∀ o, x.frozen? ⟨p, o, none⟩ = false) :=
  ⟨k.c.here, k.c.cell 0 (by omega), k.c.cell 1 (by omega), k.c.cell 2 (by omega), k.c.cell 3 (by omega), k.c.free⟩
theorem Win.flag {x : World} {B p h c : Nat} {v : Value} {S : WS} (k : Win x B p h c v S) (q : Nat) (hq : q < S.nr) : x.cell? ⟨h, q, none⟩ = some (.bool (S.ab q)) := k.a.cell q hq
set_option maxHeartbeats 400000 in
theorem isThere_any (B p h c : Nat) (v : Value) (S : WS) (q : Int) (w : World) (k : Win w B p h c v S) (hq : q < S.nr) : Calls Tryd.prog 43 #[.pointer (some ⟨p, 0, none⟩), .int .i64 q] w fun e w' => e = .returned (.bool (S.there q)) ∧ w' = w := by
  obtain ⟨hp, -, -, -, c3, -⟩ := k.cells
  by_cases hn : q < 0
  · have hu : undef = Value.tuple #[] := rfl
    have ht : S.there q = true := by simp [WS.there, hn]
    rw [ht]
    clear k
    go_enter Tryd.func43, Tryd.ntmps43
    go_wp2
    go_ret
    exact ⟨rfl, rfl⟩
  · obtain ⟨j, rfl⟩ : ∃ j : Nat, q = j := ⟨q.toNat, by omega⟩
    have hj : j < S.nr := by omega
    have c4 := k.flag j hj
    have ht : S.there (j : Int) = !S.ab j := by simp [WS.there, hn]
    rw [ht]
    have hd : decide ((j : Int) < 0) = false := by simp
    clear k
    go_enter Tryd.func43, Tryd.ntmps43
    go_wp2
    go_ret
    exact ⟨rfl, rfl⟩
set_option maxHeartbeats 400000 in
theorem mayBegin_any (B p h c : Nat) (v : Value) (S : WS) (i : Nat) (w : World) (k : Win w B p h c v S) (hi : i < S.on.length) : Calls Tryd.prog 34 #[.pointer (some ⟨p, 0, none⟩), .int .i64 i] w fun e w' => e = .returned (.bool (S.may i)) ∧ Below w.heap.size w w' := by
  obtain ⟨hp, -, -, c2, -, -⟩ := k.cells
  obtain ⟨q, cap, rfl, hcap, hel⟩ := own_ents k.l
  obtain ⟨g, rfl, hB, hg, d0, d1, d2, d3, d4, -⟩ := hel i hi
  have hs := k.small
  have HW := Hid.in k
  obtain ⟨f1, f2⟩ := k.fit i hi
  have hF1 := Hid.in f1
  have hF2 := Hid.in f2
  unfold WS.may
  obtain ⟨n0, a0⟩ : ∃ y, (S.on.getD i e0).num = y := ⟨_, rfl⟩
  obtain ⟨n1, a1⟩ : ∃ y, (S.on.getD i e0).cls = y := ⟨_, rfl⟩
  obtain ⟨n2, a2⟩ : ∃ y, (S.on.getD i e0).s1 = y := ⟨_, rfl⟩
  obtain ⟨n3, a3⟩ : ∃ y, (S.on.getD i e0).s2 = y := ⟨_, rfl⟩
  obtain ⟨n4, a4⟩ : ∃ y, (S.on.getD i e0).st = y := ⟨_, rfl⟩
  rw [a0] at d0
  rw [a1] at d1
  rw [a2] at d2 hF1
  rw [a3] at d3 hF2
  rw [a4] at d4
  rw [a2, a3, a4]
  have hb : Below w.heap.size w (w.alloc (.cells #[.int .i64 n0, .int .i64 n1, .int .i64 n2, .int .i64 n3, .int .i64 n4] 76)) := (Below.refl _ _).alloc (Nat.le_refl _) _
  have HK := Hid.in (HW.out.below hb)
  have HB := Hid.in hb
  clear k f1 f2 a0 a1 a2 a3 a4 hel hb
  by_cases h4 : n4 = 0
  · obtain ⟨b1, hb1⟩ : ∃ b, S.there n2 = b := ⟨_, rfl⟩
    obtain ⟨b2, hb2⟩ : ∃ b, S.there n3 = b := ⟨_, rfl⟩
    have HS1 := Hid.in hb1
    have HS2 := Hid.in hb2
    rw [hb1, hb2]
    subst h4
    clear hb1 hb2
    cases b1
    · have hu : undef = Value.tuple #[] := rfl
      go_enter Tryd.func34, Tryd.ntmps34
      go_wp2_with (go_at_call 43; refine (isThere_any B p h c _ S n2 _ HK.out hF1.out).mono ?_; rintro e w1 ⟨rfl, rfl⟩; rw [HS1.out])
      go_ret
      exact ⟨rfl, HB.out⟩
    · go_enter Tryd.func34, Tryd.ntmps34
      go_wp2_with (first
        | (go_at_call 43; have hx := HX1.out; refine (isThere_any B p h c _ S n3 _ HK.out hF2.out).mono ?_; rintro e w1 ⟨rfl, rfl⟩; rw [HS2.out])
        | (go_at_call 43; refine (isThere_any B p h c _ S n2 _ HK.out hF1.out).mono ?_; rintro e w1 ⟨rfl, rfl⟩; rw [HS1.out]; have HX1 := Hid.in hp))
      go_ret
      exact ⟨rfl, HB.out⟩
  · have hd : decide (n4 = 0) = false := by simp [h4]
    have hu : undef = Value.tuple #[] := rfl
    rw [hd]
    simp only [Bool.false_and]
    go_enter Tryd.func34, Tryd.ntmps34
    go_wp2
    go_ret
    exact ⟨rfl, HB.out⟩
end Go.Proofs.YtckglpmjaplcnaaDoor
