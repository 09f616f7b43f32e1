/-
  THE ANSWER: able, Able, Turn.
-/
import Derived.Test.YtckglpmjaplcnaaDoorUb
namespace Go.Proofs.YtckglpmjaplcnaaDoor
open Go Go.RowKit
def WS.mayE (S : WS) (y : Ent) : Bool := decide (y.st = 0) && S.there y.s1 && S.there y.s2
theorem WS.may_is (S : WS) (i : Nat) : S.may i = S.mayE (S.on.getD i e0) := rfl
set_option maxRecDepth 100000 in
set_option maxHeartbeats 2000000 in
theorem rable_any (B p h c : Nat) (v : Value) (S : WS) (n0 n1 n2 n3 n4 : Int) (w : World) (k : RWin w B p h c v S) (h1 : n2 < S.nr) (h2 : n3 < S.nr) : Calls Tryd.prog 35 #[.pointer (some ⟨p, 0, none⟩), .agg #[.int .i64 n0, .int .i64 n1, .int .i64 n2, .int .i64 n3, .int .i64 n4]] w fun e w' => e = .returned (.bool (S.mayE ⟨n0, n1, n2, n3, n4⟩)) ∧ Below w.heap.size w w' := by
  obtain ⟨hp, -, -, -, c3, -⟩ := k.cells
  have hb : Below w.heap.size w (w.alloc (.cells #[.int .i64 n0, .int .i64 n1, .int .i64 n2, .int .i64 n3, .int .i64 n4] 63)) := (Below.refl _ w).alloc (Nat.le_refl _) _
  have HB := Hid.in hb
  have hs := k.small.2.1
  have hh := k.a.here
  have hfl := k.flag
  have HFL := Hid.in hfl
  unfold WS.mayE
  dsimp only
  clear k hb hfl
  by_cases h4 : n4 = 0
  · subst h4
    by_cases a1 : n2 < 0
    · have t1 : S.there n2 = true := by simp [WS.there, a1]
      rw [t1]
      by_cases a2 : n3 < 0
      · have t2 : S.there n3 = true := by simp [WS.there, a2]
        rw [t2]
        go_enter Tryd.func35, Tryd.ntmps35
        go_wp2
        go_quiet (fail)
        go_wp2
        go_ret
        exact ⟨rfl, HB.out.trans ⟨rfl, rfl, rfl, Nat.le_refl _, fun _ _ => rfl⟩⟩
      · obtain ⟨j2, rfl⟩ : ∃ j : Nat, n3 = j := ⟨n3.toNat, by omega⟩
        have e2 := HFL.out j2 (by omega)
        have d2 : decide ((j2 : Int) < 0) = false := by simp
        have t2 : S.there (j2 : Int) = !S.ab j2 := by simp [WS.there, a2]
        rw [t2]
        go_enter Tryd.func35, Tryd.ntmps35
        go_wp2
        go_quiet (fail)
        go_wp2
        go_ret
        exact ⟨rfl, HB.out.trans ⟨rfl, rfl, rfl, Nat.le_refl _, fun _ _ => rfl⟩⟩
    · obtain ⟨j1, rfl⟩ : ∃ j : Nat, n2 = j := ⟨n2.toNat, by omega⟩
      have e1 := HFL.out j1 (by omega)
      have d1 : decide ((j1 : Int) < 0) = false := by simp
      have t1 : S.there (j1 : Int) = !S.ab j1 := by simp [WS.there, a1]
      rw [t1]
      obtain ⟨b1, hb1⟩ : ∃ b, (!S.ab j1) = b := ⟨_, rfl⟩
      rw [hb1] at e1 ⊢
      clear hb1 t1
      cases b1 with
      | true =>
        by_cases a2 : n3 < 0
        · have t2 : S.there n3 = true := by simp [WS.there, a2]
          rw [t2]
          go_enter Tryd.func35, Tryd.ntmps35
          go_wp2
          go_quiet (fail)
          go_wp2
          go_ret
          exact ⟨rfl, HB.out.trans ⟨rfl, rfl, rfl, Nat.le_refl _, fun _ _ => rfl⟩⟩
        · obtain ⟨j2, rfl⟩ : ∃ j : Nat, n3 = j := ⟨n3.toNat, by omega⟩
          have e2 := HFL.out j2 (by omega)
          have d2 : decide ((j2 : Int) < 0) = false := by simp
          have t2 : S.there (j2 : Int) = !S.ab j2 := by simp [WS.there, a2]
          rw [t2]
          go_enter Tryd.func35, Tryd.ntmps35
          go_wp2
          go_quiet (fail)
          go_wp2
          go_ret
          exact ⟨rfl, HB.out.trans ⟨rfl, rfl, rfl, Nat.le_refl _, fun _ _ => rfl⟩⟩
      | false =>
        have hu : undef = Value.tuple #[] := rfl
        simp only [Bool.and_false, Bool.false_and]
        go_enter Tryd.func35, Tryd.ntmps35
        go_wp2
        go_quiet (fail)
        go_wp2
        go_ret
        exact ⟨rfl, HB.out.trans ⟨rfl, rfl, rfl, Nat.le_refl _, fun _ _ => rfl⟩⟩
  · have hd : decide (n4 = 0) = false := by simp [h4]
    have hd2 : (n4 == 0) = false := by simp [h4]
    have hu : undef = Value.tuple #[] := rfl
    rw [hd]
    simp only [Bool.false_and]
    go_enter Tryd.func35, Tryd.ntmps35
    go_wp2
    go_quiet (fail)
    go_wp2
    go_ret
    exact ⟨rfl, HB.out.trans ⟨rfl, rfl, rfl, Nat.le_refl _, fun _ _ => rfl⟩⟩
end Go.Proofs.YtckglpmjaplcnaaDoor
