/-
  PREDICT: whether numbers are a predictor's; its directions.
-/
import Derived.Test.YtaioaakaffafoaaDoorDl
namespace Go.Proofs.YtaioaakaffafoaaDoor
open Go Go.RowKit
def gOk (kind bits hist tg ret : Int) : Bool := (((((decide (0 ≤ kind) && decide (kind ≤ 3)) && (decide (1 ≤ bits) && decide (bits ≤ 10))) && (decide (0 ≤ hist) && decide (hist ≤ bits))) && (decide (0 ≤ tg) && decide (tg ≤ 8))) && (decide (1 ≤ ret) && decide (ret ≤ 16)))
set_option maxHeartbeats 2000000 in
theorem isGuessing_any (kind bits hist tg ret : Int) (w : World) : Calls Tryd.prog 20 #[.agg #[.int .i64 kind, .int .i64 bits, .int .i64 hist, .int .i64 tg, .int .i64 ret]] w fun e w' => e = .returned (.bool (gOk kind bits hist tg ret)) ∧ Below w.heap.size w w' := by
  unfold gOk
  generalize h0 : (decide (0 ≤ kind) && decide (kind ≤ 3)) = c0
  generalize h1 : (decide (1 ≤ bits) && decide (bits ≤ 10)) = c1
  generalize h2 : (decide (0 ≤ hist) && decide (hist ≤ bits)) = c2
  generalize h3 : (decide (0 ≤ tg) && decide (tg ≤ 8)) = c3
  generalize h4 : (decide (1 ≤ ret) && decide (ret ≤ 16)) = c4
  have H0 := Hid.in h0
  have H1 := Hid.in h1
  have H2 := Hid.in h2
  have H3 := Hid.in h3
  have H4 := Hid.in h4
  clear h0 h1 h2 h3 h4
  have hu : undef = Value.tuple #[] := rfl
  cases c0
  ·
    go_enter Tryd.func20, Tryd.ntmps20
    go_wp2_with (first
        | (go_at_call 32; with_reducible refine (within_is kind 0 _ _ H0.out _).mono ?_; rintro e w1 ⟨rfl, rfl⟩)
        | (go_at_call 32; with_reducible refine (within_is bits 1 _ _ H1.out _).mono ?_; rintro e w1 ⟨rfl, rfl⟩)
        | (go_at_call 32; with_reducible refine (within_is hist 0 _ _ H2.out _).mono ?_; rintro e w1 ⟨rfl, rfl⟩)
        | (go_at_call 32; with_reducible refine (within_is tg 0 _ _ H3.out _).mono ?_; rintro e w1 ⟨rfl, rfl⟩)
        | (go_at_call 32; with_reducible refine (within_is ret 1 _ _ H4.out _).mono ?_; rintro e w1 ⟨rfl, rfl⟩))
    go_ret
    exact ⟨by simp, (Below.refl _ _).alloc (Nat.le_refl _) _⟩
  ·
    cases c1
    ·
      go_enter Tryd.func20, Tryd.ntmps20
      go_wp2_with (first
          | (go_at_call 32; with_reducible refine (within_is kind 0 _ _ H0.out _).mono ?_; rintro e w1 ⟨rfl, rfl⟩)
          | (go_at_call 32; with_reducible refine (within_is bits 1 _ _ H1.out _).mono ?_; rintro e w1 ⟨rfl, rfl⟩)
          | (go_at_call 32; with_reducible refine (within_is hist 0 _ _ H2.out _).mono ?_; rintro e w1 ⟨rfl, rfl⟩)
          | (go_at_call 32; with_reducible refine (within_is tg 0 _ _ H3.out _).mono ?_; rintro e w1 ⟨rfl, rfl⟩)
          | (go_at_call 32; with_reducible refine (within_is ret 1 _ _ H4.out _).mono ?_; rintro e w1 ⟨rfl, rfl⟩))
      go_ret
      exact ⟨by simp, (Below.refl _ _).alloc (Nat.le_refl _) _⟩
    ·
      cases c2
      ·
        go_enter Tryd.func20, Tryd.ntmps20
        go_wp2_with (first
            | (go_at_call 32; with_reducible refine (within_is kind 0 _ _ H0.out _).mono ?_; rintro e w1 ⟨rfl, rfl⟩)
            | (go_at_call 32; with_reducible refine (within_is bits 1 _ _ H1.out _).mono ?_; rintro e w1 ⟨rfl, rfl⟩)
            | (go_at_call 32; with_reducible refine (within_is hist 0 _ _ H2.out _).mono ?_; rintro e w1 ⟨rfl, rfl⟩)
            | (go_at_call 32; with_reducible refine (within_is tg 0 _ _ H3.out _).mono ?_; rintro e w1 ⟨rfl, rfl⟩)
            | (go_at_call 32; with_reducible refine (within_is ret 1 _ _ H4.out _).mono ?_; rintro e w1 ⟨rfl, rfl⟩))
        go_ret
        exact ⟨by simp, (Below.refl _ _).alloc (Nat.le_refl _) _⟩
      ·
        cases c3
        ·
          go_enter Tryd.func20, Tryd.ntmps20
          go_wp2_with (first
              | (go_at_call 32; with_reducible refine (within_is kind 0 _ _ H0.out _).mono ?_; rintro e w1 ⟨rfl, rfl⟩)
              | (go_at_call 32; with_reducible refine (within_is bits 1 _ _ H1.out _).mono ?_; rintro e w1 ⟨rfl, rfl⟩)
              | (go_at_call 32; with_reducible refine (within_is hist 0 _ _ H2.out _).mono ?_; rintro e w1 ⟨rfl, rfl⟩)
              | (go_at_call 32; with_reducible refine (within_is tg 0 _ _ H3.out _).mono ?_; rintro e w1 ⟨rfl, rfl⟩)
              | (go_at_call 32; with_reducible refine (within_is ret 1 _ _ H4.out _).mono ?_; rintro e w1 ⟨rfl, rfl⟩))
          go_ret
          exact ⟨by simp, (Below.refl _ _).alloc (Nat.le_refl _) _⟩
        ·
          cases c4
          ·
            go_enter Tryd.func20, Tryd.ntmps20
            go_wp2_with (first
                | (go_at_call 32; with_reducible refine (within_is kind 0 _ _ H0.out _).mono ?_; rintro e w1 ⟨rfl, rfl⟩)
                | (go_at_call 32; with_reducible refine (within_is bits 1 _ _ H1.out _).mono ?_; rintro e w1 ⟨rfl, rfl⟩)
                | (go_at_call 32; with_reducible refine (within_is hist 0 _ _ H2.out _).mono ?_; rintro e w1 ⟨rfl, rfl⟩)
                | (go_at_call 32; with_reducible refine (within_is tg 0 _ _ H3.out _).mono ?_; rintro e w1 ⟨rfl, rfl⟩)
                | (go_at_call 32; with_reducible refine (within_is ret 1 _ _ H4.out _).mono ?_; rintro e w1 ⟨rfl, rfl⟩))
            go_ret
            exact ⟨by simp, (Below.refl _ _).alloc (Nat.le_refl _) _⟩
          ·
            go_enter Tryd.func20, Tryd.ntmps20
            go_wp2_with (first
                | (go_at_call 32; with_reducible refine (within_is kind 0 _ _ H0.out _).mono ?_; rintro e w1 ⟨rfl, rfl⟩)
                | (go_at_call 32; with_reducible refine (within_is bits 1 _ _ H1.out _).mono ?_; rintro e w1 ⟨rfl, rfl⟩)
                | (go_at_call 32; with_reducible refine (within_is hist 0 _ _ H2.out _).mono ?_; rintro e w1 ⟨rfl, rfl⟩)
                | (go_at_call 32; with_reducible refine (within_is tg 0 _ _ H3.out _).mono ?_; rintro e w1 ⟨rfl, rfl⟩)
                | (go_at_call 32; with_reducible refine (within_is ret 1 _ _ H4.out _).mono ?_; rintro e w1 ⟨rfl, rfl⟩))
            go_ret
            exact ⟨by simp, (Below.refl _ _).alloc (Nat.le_refl _) _⟩
def dTy (kind : Int) : TypeId := if kind = 1 then 96 else if kind = 2 then 99 else if kind = 3 then 102 else 103
def dVal (kind : Int) (gc nc : Nat) : Value := if kind = 2 ∨ kind = 3 then .agg #[.slice (some ⟨gc, 0, none⟩) nc nc] else .agg #[]
set_option maxHeartbeats 1000000 in
theorem directionOf_any (kind hist tg ret : Int) (bits : Nat) (w : World) (hk : 0 ≤ kind ∧ kind ≤ 3) (h2 : bits ≤ 10) : Calls Tryd.prog 21 #[.agg #[.int .i64 kind, .int .i64 bits, .int .i64 hist, .int .i64 tg, .int .i64 ret]] w fun e w' => ∃ gc nc, e = .returned (.iface (dTy kind) (dVal kind gc nc)) ∧ CellsAt nc w' gc (fun _ => .int .u8 1) ∧ w.heap.size ≤ gc ∧ nc ≤ 1024 ∧ (2 ≤ kind → nc = 2 ^ bits) ∧ Below w.heap.size w w' := by
  have c9 : CellsAt 0 (w.alloc (.cells #[.int .i64 kind, .int .i64 bits, .int .i64 hist, .int .i64 tg, .int .i64 ret] 30)) w.heap.size (fun _ => .int .u8 1) := cells_new w (fun i hi => by omega)
  have b9 : Below w.heap.size w (w.alloc (.cells #[.int .i64 kind, .int .i64 bits, .int .i64 hist, .int .i64 tg, .int .i64 ret] 30)) := (Below.refl _ _).alloc (Nat.le_refl _) _
  have C9 := Hid.in c9
  have B9 := Hid.in b9
  clear c9 b9
  by_cases k1 : kind = 1
  · subst k1
    go_enter Tryd.func21, Tryd.ntmps21
    go_wp2
    go_ret
    exact ⟨w.heap.size, 0, rfl, C9.out, Nat.le_refl _, by omega, fun h => by omega, B9.out⟩
  by_cases k2 : kind = 2
  · subst k2
    go_enter Tryd.func21, Tryd.ntmps21
    go_wp2_with (go_at_call 33; refine (newCounted_any bits _ rfl _ h2).mono ?_; rintro e w2 ⟨rfl, hc2, hb2⟩)
    go_ret
    rw [World.size_alloc] at hc2
    exact ⟨_, _, rfl, hc2, by omega, (pow_le10 bits h2).2, fun _ => rfl, B9.out.trans (hb2.mono (by simp))⟩
  by_cases k3 : kind = 3
  · subst k3
    go_enter Tryd.func21, Tryd.ntmps21
    go_wp2_with (go_at_call 33; refine (newCounted_any bits _ rfl _ h2).mono ?_; rintro e w2 ⟨rfl, hc2, hb2⟩)
    go_ret
    rw [World.size_alloc] at hc2
    exact ⟨_, _, rfl, hc2, by omega, (pow_le10 bits h2).2, fun _ => rfl, B9.out.trans (hb2.mono (by simp))⟩
  · have k0 : kind = 0 := by omega
    subst k0
    go_enter Tryd.func21, Tryd.ntmps21
    go_wp2
    go_ret
    exact ⟨w.heap.size, 0, rfl, C9.out, Nat.le_refl _, by omega, fun h => by omega, B9.out⟩
end Go.Proofs.YtaioaakaffafoaaDoor
