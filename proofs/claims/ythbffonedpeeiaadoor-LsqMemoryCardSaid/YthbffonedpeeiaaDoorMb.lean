/-
  LSQ: what an access tells of itself.
-/
import Derived.Test.YthbffonedpeeiaaDoorMa
namespace Go.Proofs.YthbffonedpeeiaaDoor
open Go Go.RowKit
theorem row_cells0 {x : World} {g : Nat} {e : Ac} (h : x.rangeAt g 0 e.vs) : x.cell? ⟨g, 0, none⟩ = some (.int .i64 e.n) ∧ x.cell? ⟨g, 1, none⟩ = some (.bool e.st) ∧ x.cell? ⟨g, 2, none⟩ = some (.int .u32 e.a) ∧ x.cell? ⟨g, 3, none⟩ = some (.int .i64 e.z) ∧ x.cell? ⟨g, 4, none⟩ = some (.int .u32 e.d) ∧ x.cell? ⟨g, 5, none⟩ = some (.bool e.hv) ∧ x.cell? ⟨g, 6, none⟩ = some (.bool e.rt) ∧ x.cell? ⟨g, 7, none⟩ = some e.v :=
  ⟨h 0 _ rfl, h 1 _ rfl, h 2 _ rfl, h 3 _ rfl, h 4 _ rfl, h 5 _ rfl, h 6 _ rfl, h 7 _ rfl⟩
/-- a boxed access -/
theorem boxed (e : Ac) (w : World) (t : TypeId) : ∃ X, w.alloc (.cells e.vs.toArray t) = X ∧ X.rangeAt w.heap.size 0 e.vs ∧ Below w.heap.size w X ∧ X.heap.size = w.heap.size + 1 :=
  ⟨_, rfl, range_new w e t, (Below.refl _ _).alloc (Nat.le_refl _) _, by simp⟩
def Ac.placed (e : Ac) : Bool := decide (0 < e.z)
def Ac.loaded (e : Ac) : Bool := decide (0 < e.fr.length)
def Ac.done (e : Ac) : Bool := if e.st then e.placed && e.hv else e.loaded
def Ac.cov (e : Ac) (y : Nat) : Bool := decide (e.a ≤ y ∧ y < e.a + e.z)
def Ac.line (e : Ac) (y : Nat) : Bool := decide (e.a / 16 = y / 16)
theorem isPlaced_any (e : Ac) (w : World) : Calls Tryd.prog 39 #[.agg e.vs.toArray] w fun r w' => r = .returned (.bool e.placed) ∧ Below w.heap.size w w' := by
  obtain ⟨X, hX, r1, hb, hs⟩ := boxed e w 86
  obtain ⟨c0, c1, c2, c3, c4, c5, c6, c7⟩ := row_cells0 r1
  have HX := Hid.in hX
  have HB := Hid.in hb
  clear r1 hX hb c0 c1 c2 c4 c5 c6 c7
  go_enter Tryd.func39, Tryd.ntmps39
  go_upto_region 1 with fail
  rw [HX.out]
  go_wp2
  go_ret
  exact ⟨by simp [Ac.placed], HB.out⟩
theorem isLoaded_any (e : Ac) (w : World) : Calls Tryd.prog 49 #[.agg e.vs.toArray] w fun r w' => r = .returned (.bool e.loaded) ∧ Below w.heap.size w w' := by
  obtain ⟨X, hX, r1, hb, hs⟩ := boxed e w 86
  obtain ⟨c0, c1, c2, c3, c4, c5, c6, c7⟩ := row_cells0 r1
  have HX := Hid.in hX
  have HB := Hid.in hb
  unfold Ac.v at c7
  clear r1 hX hb c0 c1 c2 c3 c4 c5 c6
  go_enter Tryd.func49, Tryd.ntmps49
  go_upto_region 1 with fail
  rw [HX.out]
  go_wp2
  go_ret
  exact ⟨by simp [Ac.loaded], HB.out⟩
theorem line_is (e : Ac) (y : Nat) : ((e.a : Int) / 16 == (y : Int) / 16) = e.line y := by
  unfold Ac.line
  by_cases h : e.a / 16 = y / 16
  · rw [decide_eq_true h, beq_iff_eq]
    omega
  · rw [decide_eq_false h, beq_eq_false_iff_ne]
    omega
theorem isInLine_any (e : Ac) (y : Nat) (w : World) (ha : e.a < 4294967296) (hy : y < 4294967296) : Calls Tryd.prog 60 #[.agg e.vs.toArray, .int .u32 y] w fun r w' => r = .returned (.bool (e.line y)) ∧ Below w.heap.size w w' := by
  obtain ⟨X, hX, r1, hb, hs⟩ := boxed e w 86
  obtain ⟨c0, c1, c2, c3, c4, c5, c6, c7⟩ := row_cells0 r1
  have HX := Hid.in hX
  have HB := Hid.in hb
  have HL := Hid.in (line_is e y)
  clear r1 hX hb c0 c1 c3 c4 c5 c6 c7
  go_enter Tryd.func60, Tryd.ntmps60
  go_upto_region 1 with fail
  rw [HX.out]
  go_wp2
  go_ret
  exact ⟨congrArg (fun b => Ending.returned (.bool b)) HL.out, HB.out⟩
theorem cov_is {e : Ac} (hf : e.Fit) {y : Nat} (hy : y < 4294967296) : decide (((y : Int) - (e.a : Int)) % 4294967296 < (e.z : Int) % 4294967296) = e.cov y := by
  unfold Ac.cov
  rw [decide_eq_decide]
  have := hf.a
  have := hf.az
  have := hf.z
  omega
theorem covers_any (e : Ac) (y : Nat) (w : World) (hf : e.Fit) (hy : y < 4294967296) : Calls Tryd.prog 71 #[.agg e.vs.toArray, .int .u32 y] w fun r w' => r = .returned (.bool (e.cov y)) ∧ Below w.heap.size w w' := by
  obtain ⟨X, hX, r1, hb, hs⟩ := boxed e w 86
  obtain ⟨c0, c1, c2, c3, c4, c5, c6, c7⟩ := row_cells0 r1
  have HX := Hid.in hX
  have HB := Hid.in hb
  have HL := Hid.in (cov_is hf hy)
  clear r1 hX hb c0 c1 c4 c5 c6 c7
  go_enter Tryd.func71, Tryd.ntmps71
  go_upto_region 1 with fail
  rw [HX.out]
  go_wp2
  go_ret
  exact ⟨congrArg (fun b => Ending.returned (.bool b)) HL.out, HB.out⟩
theorem isFinished_any (e : Ac) (w : World) : Calls Tryd.prog 52 #[.agg e.vs.toArray] w fun r w' => r = .returned (.bool e.done) ∧ Below w.heap.size w w' := by
  obtain ⟨X, hX, r1, hb, hs⟩ := boxed e w 86
  obtain ⟨c0, c1, c2, c3, c4, c5, c6, c7⟩ := row_cells0 r1
  have HX := Hid.in hX
  have HB := Hid.in hb
  have HR := Hid.in r1
  have hlt : w.heap.size < X.heap.size := by omega
  unfold Ac.done
  obtain ⟨sb, hsb⟩ : ∃ sb, e.st = sb := ⟨_, rfl⟩
  obtain ⟨hb', hhb⟩ : ∃ hb', e.hv = hb' := ⟨_, rfl⟩
  obtain ⟨pb, hpb⟩ : ∃ pb, e.placed = pb := ⟨_, rfl⟩
  rw [hsb] at c1 ⊢
  rw [hhb] at c5 ⊢
  rw [hpb]
  have HP := Hid.in hpb
  clear r1 hX hb c0 c2 c3 c4 c6 c7 hsb hhb hpb hs
  cases sb
  · go_enter Tryd.func52, Tryd.ntmps52
    go_upto_region 1 with fail
    rw [HX.out]
    go_wp2_with (first
      | (refine ld_acc _ 0 e HR.out rfl _ rfl rfl ?_)
      | (go_at_call 49; refine (isLoaded_any e _).mono ?_; rintro r w2 ⟨rfl, hb2⟩; have HB2 := Hid.in hb2; clear hb2))
    go_ret
    exact ⟨rfl, HB.out.trans (HB2.out.mono (by omega))⟩
  · cases pb
    · go_enter Tryd.func52, Tryd.ntmps52
      go_upto_region 1 with fail
      rw [HX.out]
      go_wp2_with (first
        | (refine ld_acc _ 0 e HR.out rfl _ rfl rfl ?_)
        | (go_at_call 39; refine (isPlaced_any e _).mono ?_; rintro r w2 ⟨rfl, hb2⟩; rw [HP.out]; have HB2 := Hid.in hb2; clear hb2))
      go_ret
      exact ⟨rfl, HB.out.trans (HB2.out.mono (by omega))⟩
    · go_enter Tryd.func52, Tryd.ntmps52
      go_upto_region 1 with fail
      rw [HX.out]
      go_wp2_with (first
        | (refine ld_acc _ 0 e HR.out rfl _ rfl rfl ?_)
        | (go_at_call 39; refine (isPlaced_any e _).mono ?_; rintro r w2 ⟨rfl, hb2⟩; rw [HP.out]; have c5' := (hb2.cell (p := ⟨w.heap.size, 5, none⟩) hlt).trans c5; have HB2 := Hid.in hb2; clear hb2))
      go_ret
      exact ⟨rfl, HB.out.trans (HB2.out.mono (by omega))⟩
end Go.Proofs.YthbffonedpeeiaaDoor
