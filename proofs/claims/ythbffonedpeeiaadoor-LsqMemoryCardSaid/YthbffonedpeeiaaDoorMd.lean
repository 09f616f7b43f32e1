/-
  LSQ: which are wanted.
-/
import Derived.Test.YthbffonedpeeiaaDoorMb
namespace Go.Proofs.YthbffonedpeeiaaDoor
open Go Go.RowKit
theorem retireW (e : Ac) (w : World) : Calls Tryd.prog 51 #[.agg e.vs.toArray] w fun r w' => r = .returned (.bool (!e.rt)) ∧ Below w.heap.size w w' := by
  obtain ⟨X, hX, r1, hb, hs⟩ := boxed e w 86
  obtain ⟨c0, c1, c2, c3, c4, c5, c6, c7⟩ := row_cells0 r1
  have HX := Hid.in hX
  have HB := Hid.in hb
  clear r1 hX hb c0 c1 c2 c3 c4 c5 c7
  go_enter Tryd.func51, Tryd.ntmps51
  go_upto_region 1 with fail
  rw [HX.out]
  go_wp2
  go_ret
  exact ⟨rfl, HB.out⟩
theorem pendingW (e : Ac) (b : Nat) (num : Int) (w : World) (q : w.cell? ⟨b, 0, none⟩ = some (.int .i64 num)) : Calls Tryd.prog 65 #[.agg e.vs.toArray, .pointer (some ⟨b, 0, none⟩)] w fun r w' => r = .returned (.bool (decide (e.n = num) && !e.rt)) ∧ Below w.heap.size w w' := by
  obtain ⟨X, hX, r1, hb, hs⟩ := boxed e w 86
  obtain ⟨c0, c1, c2, c3, c4, c5, c6, c7⟩ := row_cells0 r1
  have q2 := (hb.cell (p := ⟨b, 0, none⟩) (cell_here q)).trans q
  have HX := Hid.in hX
  have HB := Hid.in hb
  obtain ⟨n1, hn1⟩ : ∃ n1, e.n = n1 := ⟨_, rfl⟩
  rw [hn1] at c0 ⊢
  clear r1 hX hb c1 c2 c3 c4 c5 c7 q hn1
  by_cases h : n1 = num
  · subst h
    go_enter Tryd.func65, Tryd.ntmps65
    go_upto_region 1 with fail
    rw [HX.out]
    go_wp2
    go_ret
    exact ⟨by simp, HB.out⟩
  · have hd : (n1 == num) = false := by simpa using h
    rw [decide_eq_false h]
    go_enter Tryd.func65, Tryd.ntmps65
    go_upto_region 1 with fail
    rw [HX.out]
    go_wp2
    go_ret
    exact ⟨by simp, HB.out⟩
theorem squashW (e : Ac) (b : Nat) (af : Int) (w : World) (q : w.cell? ⟨b, 0, none⟩ = some (.int .i64 af)) : Calls Tryd.prog 63 #[.agg e.vs.toArray, .pointer (some ⟨b, 0, none⟩)] w fun r w' => r = .returned (.bool (decide (af < e.n) && !e.rt)) ∧ Below w.heap.size w w' := by
  obtain ⟨X, hX, r1, hb, hs⟩ := boxed e w 86
  obtain ⟨c0, c1, c2, c3, c4, c5, c6, c7⟩ := row_cells0 r1
  have q2 := (hb.cell (p := ⟨b, 0, none⟩) (cell_here q)).trans q
  have HX := Hid.in hX
  have HB := Hid.in hb
  obtain ⟨n1, hn1⟩ : ∃ n1, e.n = n1 := ⟨_, rfl⟩
  rw [hn1] at c0 ⊢
  clear r1 hX hb c1 c2 c3 c4 c5 c7 q hn1
  by_cases h : af < n1
  · rw [decide_eq_true h]
    go_enter Tryd.func63, Tryd.ntmps63
    go_upto_region 1 with fail
    rw [HX.out]
    go_wp2
    go_ret
    exact ⟨by simp, HB.out⟩
  · rw [decide_eq_false h]
    go_enter Tryd.func63, Tryd.ntmps63
    go_upto_region 1 with fail
    rw [HX.out]
    go_wp2
    go_ret
    exact ⟨by simp, HB.out⟩
theorem placedW (e : Ac) (b : Nat) (num : Int) (w : World) (q : w.cell? ⟨b, 0, none⟩ = some (.int .i64 num)) : Calls Tryd.prog 68 #[.agg e.vs.toArray, .pointer (some ⟨b, 0, none⟩)] w fun r w' => r = .returned (.bool (decide (e.n = num) && !e.st && e.placed)) ∧ Below w.heap.size w w' := by
  obtain ⟨X, hX, r1, hb, hs⟩ := boxed e w 86
  obtain ⟨c0, c1, c2, c3, c4, c5, c6, c7⟩ := row_cells0 r1
  have q2 := (hb.cell (p := ⟨b, 0, none⟩) (cell_here q)).trans q
  have HX := Hid.in hX
  have HB := Hid.in hb
  have HR := Hid.in r1
  obtain ⟨n1, hn1⟩ : ∃ n1, e.n = n1 := ⟨_, rfl⟩
  obtain ⟨sb, hsb⟩ : ∃ sb, e.st = sb := ⟨_, rfl⟩
  rw [hn1] at c0 ⊢
  rw [hsb] at c1 ⊢
  clear r1 hX hb c2 c3 c4 c5 c6 c7 q hn1 hsb
  by_cases h : n1 = num
  · subst h
    cases sb
    · go_enter Tryd.func68, Tryd.ntmps68
      go_upto_region 1 with fail
      rw [HX.out]
      go_wp2_with (first
        | (refine ld_accG _ 0 e HR.out rfl _ rfl rfl ?_)
        | (go_at_call 39; refine (isPlaced_any e _).mono ?_; rintro r w2 ⟨rfl, hb2⟩; have HB2 := Hid.in hb2; clear hb2))
      go_ret
      exact ⟨by simp, HB.out.trans (HB2.out.mono (by omega))⟩
    · go_enter Tryd.func68, Tryd.ntmps68
      go_upto_region 1 with fail
      rw [HX.out]
      go_wp2
      go_ret
      exact ⟨by simp, HB.out⟩
  · have hd : (n1 == num) = false := by simpa using h
    rw [decide_eq_false h]
    go_enter Tryd.func68, Tryd.ntmps68
    go_upto_region 1 with fail
    rw [HX.out]
    go_wp2
    go_ret
    exact ⟨by simp, HB.out⟩
end Go.Proofs.YthbffonedpeeiaaDoor
