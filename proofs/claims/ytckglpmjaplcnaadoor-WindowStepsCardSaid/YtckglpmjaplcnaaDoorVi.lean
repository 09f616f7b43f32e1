/-
  WINDOW: Ready, Squash.
-/
import Derived.Test.YtckglpmjaplcnaaDoorVh
namespace Go.Proofs.YtckglpmjaplcnaaDoor
open Go Go.RowKit
def WS.ready (S : WS) (cl most : Int) : List Int := tl (fun i => S.isCls cl i && S.may i) (fun i => S.num i) most S.on.length
def WS.gone (S : WS) (af : Int) : List Int := tl (fun i => decide (af < S.num (S.on.length - 1 - i))) (fun i => S.num (S.on.length - 1 - i)) S.on.length S.on.length
def WS.squash (S : WS) (af : Int) : WS := { S with on := S.on.take (S.on.length - (S.gone af).length) }
theorem numbersO_any (B p h c : Nat) (v : Value) (S : WS) (most cl : Int) (b1 b2 : Nat) (w : World) (k : Win w B p h c v S) (q1 : w.cell? ⟨b1, 0, none⟩ = some (.pointer (some ⟨p, 0, none⟩))) (q2 : w.cell? ⟨b2, 0, none⟩ = some (.int .i64 cl)) :
    Calls Tryd.prog 31 #[.pointer (some ⟨p, 0, none⟩), .func (.func 32) #[.pointer (some ⟨p, 0, none⟩)] #[], .int .i64 most, .func (.func 33) #[] #[.pointer (some ⟨b1, 0, none⟩), .pointer (some ⟨b2, 0, none⟩)]] w fun e w' => ∃ u, e = .returned u ∧ w'.ownsRow w.heap.size 3 1 u (S.ready cl most).length (ints (S.ready cl most)) ∧ Below w.heap.size w w' :=
  callsIn_wide.1 (numbersO_in B p h c v S most _ _ w k (fun i W hi hb => readyW_any B p h c v S cl i b1 b2 W (k.below hb) hi ((hb.cell (p := ⟨b1, 0, none⟩) (cell_here q1)).trans q1) ((hb.cell (p := ⟨b2, 0, none⟩) (cell_here q2)).trans q2)))
theorem numbersY_any (B p h c : Nat) (v : Value) (S : WS) (af : Int) (b1 b2 : Nat) (w : World) (k : Win w B p h c v S) (q1 : w.cell? ⟨b1, 0, none⟩ = some (.pointer (some ⟨p, 0, none⟩))) (q2 : w.cell? ⟨b2, 0, none⟩ = some (.int .i64 af)) :
    Calls Tryd.prog 31 #[.pointer (some ⟨p, 0, none⟩), .func (.func 40) #[.pointer (some ⟨p, 0, none⟩)] #[], .int .i64 S.on.length, .func (.func 41) #[] #[.pointer (some ⟨b1, 0, none⟩), .pointer (some ⟨b2, 0, none⟩)]] w fun e w' => ∃ u, e = .returned u ∧ w'.ownsRow w.heap.size 3 1 u (S.gone af).length (ints (S.gone af)) ∧ Below w.heap.size w w' :=
  callsIn_wide.1 (numbersY_in B p h c v S S.on.length _ _ w k (fun i W hi hb => by
    have e : (S.on.length : Int) - 1 - i = ((S.on.length - 1 - i : Nat) : Int) := by omega
    rw [e]
    exact squashW_any B p h c v S af (S.on.length - 1 - i) b1 b2 W (k.below hb) (by omega) ((hb.cell (p := ⟨b1, 0, none⟩) (cell_here q1)).trans q1) ((hb.cell (p := ⟨b2, 0, none⟩) (cell_here q2)).trans q2)))
set_option maxHeartbeats 1000000 in
theorem ready_any (B p h c : Nat) (v : Value) (S : WS) (cl most : Int) (w : World) (k : Win w B p h c v S) : Calls Tryd.prog 12 #[.pointer (some ⟨p, 0, none⟩), .int .i64 cl, .int .i64 most] w fun e w' => ∃ u, e = .returned u ∧ w'.ownsRow w.heap.size 3 1 u (S.ready cl most).length (ints (S.ready cl most)) ∧ Below w.heap.size w w' := by
  have hp := k.c.here
  have hb : Below w.heap.size w ((w.alloc (.cells #[.pointer (some ⟨p, 0, none⟩)] 23)).alloc (.cells #[.int .i64 cl] 41)) := ((Below.refl _ w).alloc (Nat.le_refl _) _).alloc (by simp) _
  have HK := Hid.in (k.below hb)
  have HB := Hid.in hb
  clear k hb
  go_enter Tryd.func12, Tryd.ntmps12
  go_wp2_with (go_at_call 31; refine (numbersO_any B p h c v S most cl w.heap.size (w.heap.size + 1) _ HK.out (by simp) (by simp)).mono ?_; rintro e w1 ⟨u, rfl, hr, hb1⟩; have HR := Hid.in hr; have HB1 := Hid.in hb1; clear hr hb1)
  go_ret
  exact ⟨u, rfl, own_low HR.out (by simp; omega), HB.out.trans (HB1.out.mono (by simp; omega))⟩
end Go.Proofs.YtckglpmjaplcnaaDoor
