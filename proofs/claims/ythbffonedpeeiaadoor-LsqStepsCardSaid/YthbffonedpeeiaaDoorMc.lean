/-
  LSQ: looking for the first one.
-/
import Derived.Test.YthbffonedpeeiaaDoorMb
namespace Go.Proofs.YthbffonedpeeiaaDoor
open Go Go.RowKit
/-- the first place at which f holds; -1: there is none -/
def First (f : Nat → Bool) (n : Nat) (r : Int) : Prop := (∃ i : Nat, i < n ∧ f i = true ∧ (∀ j, j < i → f j = false) ∧ r = i) ∨ (∀ j, j < n → f j = false) ∧ r = -1
set_option maxRecDepth 100000 in
set_option maxHeartbeats 1000000 in
theorem index_any (B : Nat) (v : Value) (l : List Ac) (F : Nat) (cap0 : Array Value) (f : Nat → Bool) (w : World) (hE : ∀ args w, (callFunc F args).run Tryd.prog w = .ok (.enter F args) w) (k : w.ownsRow B 86 8 v l.length (flatA l)) (hl : l.length ≤ 32)
    (hf : ∀ i, i < l.length → ∀ y, Below w.heap.size w y → Calls Tryd.prog F (#[.agg (l.getD i a0).vs.toArray] ++ cap0) y fun e z => e = .returned (.bool (f i)) ∧ Below y.heap.size y z) :
    Calls Tryd.prog 76 #[v, .func (.func F) #[] cap0] w fun e w' => ∃ r, e = .returned (.int .i64 r) ∧ First f l.length r ∧ Below w.heap.size w w' := by
  obtain ⟨q, cap, rfl, hcap, hel⟩ := own_row k
  obtain ⟨m, hm⟩ : ∃ m, l.length = m := ⟨_, rfl⟩
  have HE := Hid.in hel
  have HM := Hid.in hm
  have HF := Hid.in hf
  rw [hm] at hl ⊢
  clear hel k hcap hm hf
  go_enter Tryd.func76, Tryd.ntmps76
  go_wp2
  go_loopw [8] (fun u wr => ∃ i : Nat, u = .int .i64 i ∧ i ≤ m ∧ (∀ j, j < i → f j = false) ∧ Below w.heap.size w wr) (fun v _ => 33 - (intOf v).toNat)
  case atStart => exact ⟨0, rfl, by omega, fun j hj => by omega, Below.refl _ _⟩
  case round =>
    obtain ⟨i, rfl, hi, hno, hbw⟩ := hrel
    have HN := Hid.in hno
    have HBW := Hid.in hbw
    clear hno
    by_cases him : i < m
    · obtain ⟨g, rfl, -, hg, hr, -⟩ := HE.out i (by rw [HM.out]; exact him)
      have HC := Hid.in (HF.out i (by rw [HM.out]; exact him) wr hbw)
      have HR := range_turned hr (Turned.of_below (Q := fun _ => False) hbw) hg (fun q => q)
      generalize l.getD i a0 = ei at HC HR
      have HR := Hid.in HR
      clear hr hbw
      obtain ⟨fi, hfi⟩ : ∃ fi, f i = fi := ⟨_, rfl⟩
      have HFI := Hid.in hfi
      clear hfi
      have hmul : (i : Int) * 8 = ((i * 8 : Nat) : Int) := by omega
      cases fi
      · go_wp2_with (first
          | (refine ld_acc g (i * 8) ei HR.out rfl _ rfl rfl ?_)
          | (refine HC.out.mono ?_; rintro e w2 ⟨rfl, hb2⟩; rw [HFI.out]; have HB2 := Hid.in hb2; clear hb2))
        go_roundw
        case rel =>
          refine ⟨i + 1, by simp, by omega, fun j hj => ?_, HBW.out.trans (HB2.out.mono HBW.out.size)⟩
          rcases Nat.lt_or_ge j i with q | q
          · exact HN.out j q
          · obtain rfl : j = i := by omega
            exact HFI.out
        case measure =>
          simp [intOf]
          omega
      · go_wp2_with (first
          | (refine ld_acc g (i * 8) ei HR.out rfl _ rfl rfl ?_)
          | (refine HC.out.mono ?_; rintro e w2 ⟨rfl, hb2⟩; rw [HFI.out]; have HB2 := Hid.in hb2; clear hb2))
        go_ret
        exact ⟨_, rfl, Or.inl ⟨i, him, HFI.out, HN.out, rfl⟩, HBW.out.trans (HB2.out.mono HBW.out.size)⟩
    · obtain rfl : i = m := by omega
      go_wp2
      go_ret
      exact ⟨_, rfl, Or.inr ⟨HN.out, rfl⟩, HBW.out⟩
theorem oldest_any (B p : Nat) (v : Value) (S : QS) (F : Nat) (cap0 : Array Value) (f : Nat → Bool) (w : World) (hE : ∀ args w, (callFunc F args).run Tryd.prog w = .ok (.enter F args) w) (k : Qm w B p v S)
    (hf : ∀ i, i < S.on.length → ∀ y, Below w.heap.size w y → Calls Tryd.prog F (#[.agg (S.at i).vs.toArray] ++ cap0) y fun e z => e = .returned (.bool (f i)) ∧ Below y.heap.size y z) :
    Calls Tryd.prog 50 #[.pointer (some ⟨p, 0, none⟩), .func (.func F) #[] cap0] w fun e w' => ∃ r, e = .returned (.int .i64 r) ∧ First f S.on.length r ∧ Below w.heap.size w w' := by
  obtain ⟨hp, -, c1, -⟩ := k.cells
  have HC := Hid.in (index_any B v S.on F cap0 f w hE k.l k.small.1 hf)
  clear hf hE
  go_enter Tryd.func50, Tryd.ntmps50
  go_wp2_with (first | (refine HC.out.mono ?_; rintro e w2 ⟨r, rfl, h1, h2⟩; have H1 := Hid.in h1; have H2 := Hid.in h2; clear h1 h2))
  go_ret
  exact ⟨_, rfl, H1.out, H2.out⟩
/-- the last place at which f holds; -1: there is none -/
def Last (f : Nat → Bool) (n : Nat) (r : Int) : Prop := (∃ i : Nat, i < n ∧ f i = true ∧ (∀ j, i < j → j < n → f j = false) ∧ r = i) ∨ (∀ j, j < n → f j = false) ∧ r = -1
set_option maxRecDepth 100000 in
set_option maxHeartbeats 1000000 in
theorem youngest_any (B p : Nat) (v : Value) (S : QS) (F : Nat) (cap0 : Array Value) (f : Nat → Bool) (w : World) (hE : ∀ args w, (callFunc F args).run Tryd.prog w = .ok (.enter F args) w) (k : Qm w B p v S)
    (hf : ∀ i, i < S.on.length → ∀ y, Below w.heap.size w y → Calls Tryd.prog F (#[.agg (S.at i).vs.toArray] ++ cap0) y fun e z => e = .returned (.bool (f i)) ∧ Below y.heap.size y z) :
    Calls Tryd.prog 69 #[.pointer (some ⟨p, 0, none⟩), .func (.func F) #[] cap0] w fun e w' => ∃ r, e = .returned (.int .i64 r) ∧ Last f S.on.length r ∧ Below w.heap.size w w' := by
  obtain ⟨hp, -, c1, -⟩ := k.cells
  obtain ⟨q, cap, rfl, hcap, hel⟩ := own_row k.l
  have hl := k.small.1
  unfold QS.at at hf
  obtain ⟨m, hm⟩ : ∃ m, S.on.length = m := ⟨_, rfl⟩
  have HE := Hid.in hel
  have HM := Hid.in hm
  have HF := Hid.in hf
  rw [hm] at hl c1 ⊢
  have HC1 := Hid.in c1
  clear hel k hcap hm hf
  go_enter Tryd.func69, Tryd.ntmps69
  go_wp2
  clear c1
  go_loopw [5] (fun u wr => ∃ i : Nat, u = .int .i64 ((i : Int) - 1) ∧ i ≤ m ∧ (∀ j, i ≤ j → j < m → f j = false) ∧ Below w.heap.size w wr) (fun v _ => (intOf v + 1).toNat)
  case atStart => exact ⟨m, rfl, by omega, fun j h1 h2 => by omega, Below.refl _ _⟩
  case round =>
    obtain ⟨i, rfl, hi, hno, hbw⟩ := hrel
    have HN := Hid.in hno
    have HBW := Hid.in hbw
    have c1 := (hbw.cell (p := ⟨p, 1, none⟩) hp).trans HC1.out
    clear hno
    by_cases him : 0 < i
    · obtain ⟨i, rfl⟩ : ∃ i', i = i' + 1 := ⟨i - 1, by omega⟩
      obtain ⟨g, rfl, -, hg, hr, -⟩ := HE.out i (by rw [HM.out]; omega)
      have HC := Hid.in (HF.out i (by rw [HM.out]; omega) wr hbw)
      have HR := range_turned hr (Turned.of_below (Q := fun _ => False) hbw) hg (fun q => q)
      generalize S.on.getD i a0 = ei at HC HR
      have HR := Hid.in HR
      clear hr hbw
      obtain ⟨fi, hfi⟩ : ∃ fi, f i = fi := ⟨_, rfl⟩
      have HFI := Hid.in hfi
      clear hfi
      have hmul : (i : Int) * 8 = ((i * 8 : Nat) : Int) := by omega
      have hi1 : ((i + 1 : Nat) : Int) - 1 = i := by omega
      rw [hi1]
      cases fi
      · go_wp2_with (first
          | (refine ld_acc g (i * 8) ei HR.out rfl _ rfl rfl ?_)
          | (refine HC.out.mono ?_; rintro e w2 ⟨rfl, hb2⟩; rw [HFI.out]; have HB2 := Hid.in hb2; clear hb2))
        go_roundw
        case rel =>
          refine ⟨i, rfl, by omega, fun j h1 h2 => ?_, HBW.out.trans (HB2.out.mono HBW.out.size)⟩
          rcases Nat.lt_or_ge i j with q | q
          · exact HN.out j (by omega) h2
          · obtain rfl : j = i := by omega
            exact HFI.out
        case measure =>
          simp [intOf]
      · go_wp2_with (first
          | (refine ld_acc g (i * 8) ei HR.out rfl _ rfl rfl ?_)
          | (refine HC.out.mono ?_; rintro e w2 ⟨rfl, hb2⟩; rw [HFI.out]; have HB2 := Hid.in hb2; clear hb2))
        go_ret
        exact ⟨_, rfl, Or.inl ⟨i, by omega, HFI.out, fun j h1 h2 => HN.out j h1 h2, rfl⟩, HBW.out.trans (HB2.out.mono HBW.out.size)⟩
    · obtain rfl : i = 0 := by omega
      go_wp2
      go_ret
      exact ⟨_, rfl, Or.inr ⟨fun j h => HN.out j (Nat.zero_le _) h, rfl⟩, HBW.out⟩
end Go.Proofs.YthbffonedpeeiaaDoor
