/-
  WINDOW's LAW WindowSteps: the walk.
-/
import Derived.Test.YtckglpmjaplcnaaDoorUm
namespace Go.Proofs.YtckglpmjaplcnaaDoor
open Go Go.RowKit
def OpsAt (w : World) (q : Option Addr) (m : Nat) (g : Nat → Nat → Int) : Prop := ∀ i, i < m → ∃ b o, q = some ⟨b, o, none⟩ ∧ b < w.heap.size ∧ w.cell? ⟨b, o + i * 5, none⟩ = some (.int .i64 (g i 0)) ∧ w.cell? ⟨b, o + i * 5 + 1, none⟩ = some (.int .i64 (g i 1)) ∧ w.cell? ⟨b, o + i * 5 + 2, none⟩ = some (.int .i64 (g i 2)) ∧ w.cell? ⟨b, o + i * 5 + 3, none⟩ = some (.int .i64 (g i 3)) ∧ w.cell? ⟨b, o + i * 5 + 4, none⟩ = some (.int .i64 (g i 4))
set_option maxRecDepth 100000 in
set_option maxHeartbeats 4000000 in
theorem steps_bad (n r : Int) (wp : Option Addr) (m cw : Nat) (w : World) (hn : ¬ ((2 ≤ n ∧ n ≤ 64) ∧ 34 ≤ r ∧ r ≤ 128)) (hg : w.cell? ⟨0, 0, none⟩ = some (.iface 100 (.agg #[.pointer (some ⟨1, 25, none⟩)]))) (hm : m ≤ 9223372036854775807) : Calls Tryd.prog 3 #[.int .i64 n, .int .i64 r, .slice wp m cw] w fun e w' => e = .returned (.bool true) ∧ Below w.heap.size w w' := by
  have HG := Hid.in hg
  have HN := Hid.in hn
  have hu : undef = Value.tuple #[] := rfl
  clear hg hn
  go_enter Tryd.func3, Tryd.ntmps3
  go_wp2_with (first
    | (go_at_call 5; refine (new_bad n r _ HN.out).mono ?_; rintro e w1 ⟨rfl, hww⟩; have hww2 := hww.symm; clear hww; subst hww2)
    | (go_at_call 6; refine (rnew_bad n r _ HN.out).mono ?_; rintro e w1 ⟨rfl, hww⟩; have hww2 := hww.symm; clear hww; subst hww2)
    | (go_at_call 7; refine (ltold_err 2 _ HG.out).mono ?_; rintro e w1 ⟨rfl, hb⟩; have HB := Hid.in hb; clear hb))
  go_loopw [11, 12, 13] (fun _ _ kv wr => kv = .int .i64 0 ∧ Below w.heap.size w wr) (fun _ _ _ _ => 0)
  case atStart => exact ⟨rfl, HB.out⟩
  case round =>
    obtain ⟨rfl, hbr⟩ := hrel
    have HBR := Hid.in hbr
    clear hbr
    by_cases h0 : m = 0
    · subst h0
      go_wp2
      go_ret
      exact ⟨rfl, HBR.out⟩
    · have h1 : (0 : Int) < (m : Int) := by omega
      go_wp2
      go_ret
      exact ⟨rfl, HBR.out⟩
theorem wl_start {w w1 w2 : World} {n r : Nat} (k1 : Win w1 w.heap.size (w.heap.size + 1) w.heap.size r (.slice none 0 0) (newW n r)) (b1 : Below w.heap.size w w1) (k2 : RWin w2 w1.heap.size (w1.heap.size + 1) w1.heap.size r (.slice none 0 0) (newW n r)) (b2 : Below w1.heap.size w1 w2) : Wl w w2 r (w.heap.size + 1) w.heap.size (w1.heap.size + 1) w1.heap.size (.slice none 0 0) (.slice none 0 0) (.slice none 0 0) (newW n r) (newW n r) [] := by
  have hs := b1.size
  have h1 := k1.c.here
  refine ⟨k1.below b2, ⟨k2.c, own_lower k2.l hs, k2.a, k2.ne, k2.vp, k2.vh, k2.small, ⟨by omega, hs⟩, k2.fit⟩, World.ownsRow_nil _ _ _ _, b1.trans (b2.mono hs), fun k a b => ?_, fun k _ e => by simp [Value.ownBlock] at e, fun k _ e => by simp [Value.ownBlock] at e, fun e he => by simp at he⟩
  simp only [Tri, Value.ownBlock, reduceCtorEq, or_false] at a b
  omega
theorem inv_start (n r : Nat) : (newW n r).Inv 0 := ⟨fun i j _ hj => by simp [newW] at hj, fun i hi => by simp [newW] at hi, Nat.le_refl _, by simp [newW]⟩
end Go.Proofs.YtckglpmjaplcnaaDoor
