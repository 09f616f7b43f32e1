/-
  LSQ: rows of numbers that are looked through.
-/
import Derived.Test.YthbffonedpeeiaaDoorMc
namespace Go.Proofs.YthbffonedpeeiaaDoor
open Go Go.RowKit
/-- a row of numbers in memory -/
def Nums (w : World) (q : Option Addr) (l : List Int) : Prop := ∀ i, i < l.length → ∃ g, q = some ⟨g, 0, none⟩ ∧ g < w.heap.size ∧ w.cell? ⟨g, i, none⟩ = some (.int .i64 (l.getD i 0))
theorem Nums.below {w y : World} {q : Option Addr} {l : List Int} (h : Nums w q l) (b : Below w.heap.size w y) : Nums y q l := fun i hi => by
  obtain ⟨g, h1, h2, h3⟩ := h i hi
  exact ⟨g, h1, Nat.lt_of_lt_of_le h2 b.size, (b.cell (p := ⟨g, i, none⟩) h2).trans h3⟩
set_option maxRecDepth 100000 in
set_option maxHeartbeats 1000000 in
theorem indexI_any (q : Option Addr) (cap : Nat) (l : List Int) (x : Int) (w : World) (h : Nums w q l) (h4 : l.length ≤ 4) : Calls Tryd.prog 82 #[.slice q l.length cap, .int .i64 x] w fun e w' => ∃ r, e = .returned (.int .i64 r) ∧ First (fun i => decide (x = l.getD i 0)) l.length r ∧ w' = w := by
  have HH := Hid.in h
  obtain ⟨m, hm⟩ : ∃ m, l.length = m := ⟨_, rfl⟩
  have HM := Hid.in hm
  rw [hm] at h4 ⊢
  clear h hm
  go_enter Tryd.func82, Tryd.ntmps82
  go_wp2
  go_loopw [8] (fun u wr => ∃ i : Nat, u = .int .i64 i ∧ i ≤ m ∧ (∀ j, j < i → decide (x = l.getD j 0) = false) ∧ w = wr) (fun v _ => 5 - (intOf v).toNat)
  case atStart => exact ⟨0, rfl, by omega, fun j hj => by omega, rfl⟩
  case round =>
    obtain ⟨i, rfl, hi, hno, rfl⟩ := hrel
    have HN := Hid.in hno
    clear hno
    by_cases him : i < m
    · obtain ⟨g, rfl, hg, d1⟩ := HH.out i (by rw [HM.out]; exact him)
      obtain ⟨y, hy⟩ : ∃ y, l.getD i 0 = y := ⟨_, rfl⟩
      rw [hy] at d1
      have HY := Hid.in hy
      clear hy
      by_cases he : x = y
      · subst he
        go_wp2
        go_ret
        exact ⟨_, rfl, Or.inl ⟨i, him, by simp only [HY.out, decide_true], HN.out, rfl⟩, rfl⟩
      · have hd : (x == y) = false := by simpa using he
        go_wp2
        go_roundw
        case rel =>
          refine ⟨i + 1, by simp, by omega, fun j hj => ?_, trivial⟩
          rcases Nat.lt_or_ge j i with q | q
          · exact HN.out j q
          · obtain rfl : j = i := by omega
            rw [HY.out, decide_eq_false he]
        case measure =>
          simp [intOf]
          omega
    · obtain rfl : i = m := by omega
      go_wp2
      go_ret
      exact ⟨_, rfl, Or.inr ⟨HN.out, rfl⟩, rfl⟩
theorem First.ge {f : Nat → Bool} {n : Nat} {r : Int} (h : First f n r) : decide (0 ≤ r) = (List.range n).any f := by
  rcases h with ⟨i, hi, h1, h2, rfl⟩ | ⟨h1, rfl⟩
  · have : (List.range n).any f = true := by
      rw [List.any_eq_true]
      exact ⟨i, List.mem_range.2 hi, h1⟩
    rw [this]
    exact decide_eq_true (by omega)
  · have : (List.range n).any f = false := by
      rw [List.any_eq_false]
      exact fun i hi => by rw [h1 i (List.mem_range.1 hi)]; simp
    rw [this]
    rfl
theorem contains_any (q : Option Addr) (cap : Nat) (l : List Int) (x : Int) (w : World) (h : Nums w q l) (h4 : l.length ≤ 4) : Calls Tryd.prog 61 #[.slice q l.length cap, .int .i64 x] w fun e w' => e = .returned (.bool ((List.range l.length).any fun i => decide (x = l.getD i 0))) ∧ w' = w := by
  have HC := Hid.in (indexI_any q cap l x w h h4)
  clear h
  go_enter Tryd.func61, Tryd.ntmps61
  go_wp2_with (first | (refine HC.out.mono ?_; rintro e w2 ⟨r, rfl, h1, rfl⟩; have H1 := Hid.in h1; clear h1))
  go_ret
  exact ⟨congrArg (fun b => Ending.returned (.bool b)) H1.out.ge, rfl⟩
set_option maxRecDepth 100000 in
set_option maxHeartbeats 1000000 in
theorem indexIF_any (q : Option Addr) (cap : Nat) (l : List Int) (F : Nat) (cap0 : Array Value) (f : Nat → Bool) (w : World) (hE : ∀ args w, (callFunc F args).run Tryd.prog w = .ok (.enter F args) w) (h : Nums w q l) (h4 : l.length ≤ 4)
    (hf : ∀ i, i < l.length → ∀ y, Below w.heap.size w y → Calls Tryd.prog F (#[.int .i64 (l.getD i 0)] ++ cap0) y fun e z => e = .returned (.bool (f i)) ∧ Below y.heap.size y z) :
    Calls Tryd.prog 83 #[.slice q l.length cap, .func (.func F) #[] cap0] w fun e w' => ∃ r, e = .returned (.int .i64 r) ∧ First f l.length r ∧ Below w.heap.size w w' := by
  obtain ⟨m, hm⟩ : ∃ m, l.length = m := ⟨_, rfl⟩
  have HE := Hid.in h
  have HM := Hid.in hm
  have HF := Hid.in hf
  rw [hm] at h4 ⊢
  clear h hm hf
  go_enter Tryd.func83, Tryd.ntmps83
  go_wp2
  go_loopw [8] (fun u wr => ∃ i : Nat, u = .int .i64 i ∧ i ≤ m ∧ (∀ j, j < i → f j = false) ∧ Below w.heap.size w wr) (fun v _ => 5 - (intOf v).toNat)
  case atStart => exact ⟨0, rfl, by omega, fun j hj => by omega, Below.refl _ _⟩
  case round =>
    obtain ⟨i, rfl, hi, hno, hbw⟩ := hrel
    have HN := Hid.in hno
    have HBW := Hid.in hbw
    clear hno
    by_cases him : i < m
    · obtain ⟨g, rfl, hg, d1⟩ := HE.out i (by rw [HM.out]; exact him)
      have d1 := (hbw.cell (p := ⟨g, i, none⟩) hg).trans d1
      have HC := Hid.in (HF.out i (by rw [HM.out]; exact him) wr hbw)
      generalize l.getD i 0 = ei at HC d1
      clear hbw
      obtain ⟨fi, hfi⟩ : ∃ fi, f i = fi := ⟨_, rfl⟩
      have HFI := Hid.in hfi
      clear hfi
      cases fi
      · go_wp2_with (first
          | (refine HC.out.mono ?_; rintro e w2 ⟨rfl, hb2⟩; rw [HFI.out]; have HB2 := Hid.in hb2; clear hb2))
        go_roundw
        case rel =>
          refine ⟨i + 1, by simp, by omega, fun j hj => ?_, HBW.out.trans (HB2.out.mono HBW.out.size)⟩
          rcases Nat.lt_or_ge j i with q | q
          · exact HN.out j q
          · obtain rfl : j = i := by omega
            exact HFI.out
        case measure =>
          simp [intOf]
          omega
      · go_wp2_with (first
          | (refine HC.out.mono ?_; rintro e w2 ⟨rfl, hb2⟩; rw [HFI.out]; have HB2 := Hid.in hb2; clear hb2))
        go_ret
        exact ⟨_, rfl, Or.inl ⟨i, him, HFI.out, HN.out, rfl⟩, HBW.out.trans (HB2.out.mono HBW.out.size)⟩
    · obtain rfl : i = m := by omega
      go_wp2
      go_ret
      exact ⟨_, rfl, Or.inr ⟨HN.out, rfl⟩, HBW.out⟩
theorem containsF_any (q : Option Addr) (cap : Nat) (l : List Int) (F : Nat) (cap0 : Array Value) (f : Nat → Bool) (w : World) (hE : ∀ args w, (callFunc F args).run Tryd.prog w = .ok (.enter F args) w) (h : Nums w q l) (h4 : l.length ≤ 4)
    (hf : ∀ i, i < l.length → ∀ y, Below w.heap.size w y → Calls Tryd.prog F (#[.int .i64 (l.getD i 0)] ++ cap0) y fun e z => e = .returned (.bool (f i)) ∧ Below y.heap.size y z) :
    Calls Tryd.prog 72 #[.slice q l.length cap, .func (.func F) #[] cap0] w fun e w' => e = .returned (.bool ((List.range l.length).any f)) ∧ Below w.heap.size w w' := by
  have HC := Hid.in (indexIF_any q cap l F cap0 f w hE h h4 hf)
  clear h hE hf
  go_enter Tryd.func72, Tryd.ntmps72
  go_wp2_with (first | (refine HC.out.mono ?_; rintro e w2 ⟨r, rfl, h1, h2⟩; have H1 := Hid.in h1; have H2 := Hid.in h2; clear h1 h2))
  go_ret
  exact ⟨congrArg (fun b => Ending.returned (.bool b)) H1.out.ge, H2.out⟩
end Go.Proofs.YthbffonedpeeiaaDoor
