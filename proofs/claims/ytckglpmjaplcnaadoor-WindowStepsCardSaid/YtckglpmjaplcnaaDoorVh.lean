/-
  WINDOW: Ready, Squash: which are wanted.
-/
import Derived.Test.YtckglpmjaplcnaaDoorVg
namespace Go.Proofs.YtckglpmjaplcnaaDoor
open Go Go.RowKit
theorem below_drewN (w : World) (n : Nat) : Below w.heap.size w (w.drewN n) := ⟨rfl, rfl, rfl, Nat.le_refl _, fun _ _ => rfl⟩
def WS.isCls (S : WS) (cl : Int) (i : Nat) : Bool := decide ((S.on.getD i e0).cls = cl)
set_option maxHeartbeats 1000000 in
theorem readyW_any (B p h c : Nat) (v : Value) (S : WS) (cl : Int) (i b1 b2 : Nat) (w : World) (k : Win w B p h c v S) (hi : i < S.on.length) (q1 : w.cell? ⟨b1, 0, none⟩ = some (.pointer (some ⟨p, 0, none⟩))) (q2 : w.cell? ⟨b2, 0, none⟩ = some (.int .i64 cl)) :
    Calls Tryd.prog 33 #[.int .i64 i, .pointer (some ⟨b1, 0, none⟩), .pointer (some ⟨b2, 0, none⟩)] w fun e w' => e = .returned (.bool (S.isCls cl i && S.may i)) ∧ Below w.heap.size w w' := by
  obtain ⟨hp, -, -, c2, -, -⟩ := k.cells
  have r1 := cell_here q1
  have r2 := cell_here q2
  obtain ⟨q, cap, rfl, hcap, hel⟩ := own_ents k.l
  obtain ⟨g, rfl, hB, hg, d0, d1, d2, d3, d4, -⟩ := hel i hi
  obtain ⟨hs, -, -, -⟩ := k.small
  have HW := Hid.in k
  unfold WS.isCls
  obtain ⟨n1, a1⟩ : ∃ y, (S.on.getD i e0).cls = y := ⟨_, rfl⟩
  rw [a1] at d1 ⊢
  clear k d0 d2 d3 d4 hel a1
  by_cases e1 : n1 = cl
  · subst e1
    simp only [decide_true, Bool.true_and]
    obtain ⟨mb, hm⟩ : ∃ b, S.may i = b := ⟨_, rfl⟩
    have HM := Hid.in hm
    rw [hm]
    clear hm
    go_enter Tryd.func33, Tryd.ntmps33
    go_wp2
    go_region_held3 (fun w' => w'.cell? ⟨b1, 0, none⟩ = some (.pointer (some ⟨p, 0, none⟩)) ∧ w'.cell? ⟨b2, 0, none⟩ = some (.int .i64 n1) ∧ w'.cell? ⟨p, 2, none⟩ = some (.slice (some ⟨g, 0, none⟩) S.on.length cap) ∧ w'.cell? ⟨g, i * 5 + 1, none⟩ = some (.int .i64 n1)) (go_keep) ((go_at_call 34; refine (mayBegin_any B p h c _ S i _ (HW.out.below (Below.refl _ _).drew) hi).mono ?_; rintro e w1 ⟨rfl, hb⟩; rw [HM.out]; have hb' := belowU hb; have t1 := (hb'.cell (p := ⟨b1, 0, none⟩) r1).trans q1; have t2 := (hb'.cell (p := ⟨b2, 0, none⟩) r2).trans q2; have t3 := (hb'.cell (p := ⟨p, 2, none⟩) hp).trans c2; have t4 := (hb'.cell (p := ⟨g, i * 5 + 1, none⟩) hg).trans d1))
    all_goals (try go_wp2)
    all_goals go_ret
    all_goals exact ⟨rfl, hb'⟩
  · have hd : decide (n1 = cl) = false := by simp [e1]
    have hd2 : (n1 == cl) = false := by simp [e1]
    have hu : undef = Value.tuple #[] := rfl
    rw [hd]
    simp only [Bool.false_and]
    go_enter Tryd.func33, Tryd.ntmps33
    go_wp2
    go_quiet (fail)
    go_wp2
    go_ret
    exact ⟨rfl, below_drewN w _⟩
set_option maxHeartbeats 1000000 in
theorem squashW_any (B p h c : Nat) (v : Value) (S : WS) (af : Int) (i b1 b2 : Nat) (w : World) (k : Win w B p h c v S) (hi : i < S.on.length) (q1 : w.cell? ⟨b1, 0, none⟩ = some (.pointer (some ⟨p, 0, none⟩))) (q2 : w.cell? ⟨b2, 0, none⟩ = some (.int .i64 af)) :
    Calls Tryd.prog 41 #[.int .i64 i, .pointer (some ⟨b1, 0, none⟩), .pointer (some ⟨b2, 0, none⟩)] w fun e w' => e = .returned (.bool (decide (af < S.num i))) ∧ Below w.heap.size w w' := by
  obtain ⟨hp, -, -, c2, -, -⟩ := k.cells
  obtain ⟨q, cap, rfl, hcap, hel⟩ := own_ents k.l
  obtain ⟨g, rfl, hB, hg, d0, -⟩ := hel i hi
  obtain ⟨hs, -, -, -⟩ := k.small
  unfold WS.num
  obtain ⟨n1, a1⟩ : ∃ y, (S.on.getD i e0).num = y := ⟨_, rfl⟩
  rw [a1] at d0 ⊢
  clear k hel a1
  go_enter Tryd.func41, Tryd.ntmps41
  go_wp2
  go_quiet (fail)
  go_wp2
  go_ret
  exact ⟨rfl, below_drewN w _⟩
end Go.Proofs.YtckglpmjaplcnaaDoor
