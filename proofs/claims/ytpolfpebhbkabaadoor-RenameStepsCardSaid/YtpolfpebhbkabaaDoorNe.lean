/-
  RENAME: names are released, and undone.
-/
import Derived.Test.YtpolfpebhbkabaaDoorNd
namespace Go.Proofs.YtpolfpebhbkabaaDoor
open Go Go.RowKit
theorem release_range (p h n : Nat) (A : NT) (x : Int) (w : World) (t : Tab w p h n A) (hn : (decide (1 ≤ x) && decide (x < n)) = false) : Calls Tryd.prog 29 #[.pointer (some ⟨p, 0, none⟩), .int .i64 x] w fun e w' => e = .returned (.iface 35 (.int .i64 3)) ∧ w' = w := by
  have HB := Hid.in t
  have HN := Hid.in hn
  clear t hn
  go_enter Tryd.func29, Tryd.ntmps29
  go_wp2_with (go_at_call 47; refine (isName_any p h n A _ _ HB.out).mono ?_; rintro e w1 ⟨rfl, hw⟩; have hw2 := hw.symm; clear hw; subst hw2; rw [HN.out])
  go_ret
  exact ⟨rfl, rfl⟩
theorem release_free (p h n : Nat) (A : NT) (x : Nat) (w : World) (t : Tab w p h n A) (h1 : 1 ≤ x) (h2 : x < n) (hh : A.held x = false) : Calls Tryd.prog 29 #[.pointer (some ⟨p, 0, none⟩), .int .i64 x] w fun e w' => e = .returned (.iface 35 (.int .i64 6)) ∧ w' = w := by
  have HB := Hid.in t
  have HN : Hid ((decide (1 ≤ (x : Int)) && decide ((x : Int) < n)) = true) := by show _ = _; simp; omega
  obtain ⟨⟨ring, first, hr, hc⟩, hd, ne⟩ := t
  have ch : w.cell? ⟨p, 32, none⟩ = some (.slice (some ⟨h, 0, none⟩) n n) := hc.cell 32 (by decide)
  have cx : w.cell? ⟨h, x, none⟩ = some (.bool (A.held x)) := hd.cell x h2
  rw [hh] at cx
  have h3 := hc.here
  have h4 := hd.here
  clear hr hc hd hh
  go_enter Tryd.func29, Tryd.ntmps29
  go_wp2_with (go_at_call 47; refine (isName_any p h n A _ _ HB.out).mono ?_; rintro e w1 ⟨rfl, hw⟩; have hw2 := hw.symm; clear hw; subst hw2; rw [HN.out])
  go_ret
  exact ⟨rfl, rfl⟩
def NT.release (A : NT) (x : Nat) : NT := ⟨A.name, upd A.held x false, A.free ++ [x]⟩
set_option maxHeartbeats 1000000 in
theorem release_good (p h n : Nat) (A : NT) (x : Nat) (w : World) (t : Tab w p h n A) (h1 : 1 ≤ x) (h2 : x < n) (hh : A.held x = true) (hl : A.free.length < 128) : Calls Tryd.prog 29 #[.pointer (some ⟨p, 0, none⟩), .int .i64 x] w fun e w' => e = .returned .nilIface ∧ Tab w' p h n (A.release x) ∧ Turned (fun k => k = p ∨ k = h) w w' := by
  have HB := Hid.in t
  have HN : Hid ((decide (1 ≤ (x : Int)) && decide ((x : Int) < n)) = true) := by show _ = _; simp; omega
  obtain ⟨⟨ring, first, hr, hc⟩, hd, ne⟩ := t
  have ch : w.cell? ⟨p, 32, none⟩ = some (.slice (some ⟨h, 0, none⟩) n n) := hc.cell 32 (by decide)
  have cx : w.cell? ⟨h, x, none⟩ = some (.bool (A.held x)) := hd.cell x h2
  rw [hh] at cx
  have h3 := hc.here
  have h4 := hd.here
  have h5 := hd.free
  have HC := Hid.in hc
  have HD := Hid.in hd
  have HR := Hid.in hr
  have HL := Hid.in hl
  clear hr hc hd hh hl
  go_enter Tryd.func29, Tryd.ntmps29
  go_wp2_with (first
    | (go_at_call 47; refine (isName_any p h n A _ _ HB.out).mono ?_; rintro e w1 ⟨rfl, hw⟩; have hw2 := hw.symm; clear hw; subst hw2; rw [HN.out])
    | (go_at_call 44; refine (addLast_any p h n A.name ring first A.free.length x _ HR.out.low HL.out (HC.out.setOther x _ ne)).mono ?_; rintro e w2 ⟨rfl, hC2, hT2⟩))
  go_ret
  refine ⟨rfl, ⟨⟨_, first, HR.out.push HL.out x, ?_⟩, ?_, ne⟩, ?_⟩
  · show CellsAt 163 w2 p (encT A.name _ first (A.free ++ [x]).length h n)
    rw [List.length_append]
    exact hC2
  · exact hT2.cells (held_set HD.out x h2 false) (fun e => ne e.symm)
  · exact ((Turned.refl _ w).set (Or.inr rfl) _ _).trans (hT2.mono fun _ => Or.inl)
theorem undo_range1 (p : Nat) (r fresh old : Int) (w : World) (hr : regB r = false) : Calls Tryd.prog 27 #[.pointer (some ⟨p, 0, none⟩), .int .i64 r, .int .i64 fresh, .int .i64 old] w fun e w' => e = .returned (.iface 35 (.int .i64 3)) ∧ w' = w := by
  have HR := Hid.in hr
  clear hr
  have hu : undef = Value.tuple #[] := rfl
  go_enter Tryd.func27, Tryd.ntmps27
  go_wp2_with (go_at_call 45; refine (isNamed_any _ _).mono ?_; rintro e w1 ⟨rfl, hw⟩; have hw2 := hw.symm; clear hw; subst hw2; rw [HR.out])
  go_ret
  exact ⟨rfl, rfl⟩
theorem undo_range2 (p h n : Nat) (A : NT) (r fresh old : Int) (w : World) (t : Tab w p h n A) (hr : regB r = true) (hn : (decide (1 ≤ old) && decide (old < n)) = false) : Calls Tryd.prog 27 #[.pointer (some ⟨p, 0, none⟩), .int .i64 r, .int .i64 fresh, .int .i64 old] w fun e w' => e = .returned (.iface 35 (.int .i64 3)) ∧ w' = w := by
  have HR := Hid.in hr
  have HB := Hid.in t
  have HN := Hid.in hn
  clear hr t hn
  go_enter Tryd.func27, Tryd.ntmps27
  go_wp2_with (first | (go_at_call 45; refine (isNamed_any _ _).mono ?_; rintro e w1 ⟨rfl, hw⟩; have hw2 := hw.symm; clear hw; subst hw2; rw [HR.out]) | (go_at_call 47; refine (isName_any p h n A _ _ HB.out).mono ?_; rintro e w1 ⟨rfl, hw⟩; have hw2 := hw.symm; clear hw; subst hw2; rw [HN.out]))
  go_ret
  exact ⟨rfl, rfl⟩
theorem undo_order1 (p h n : Nat) (A : NT) (r : Nat) (fresh : Int) (old : Nat) (w : World) (t : Tab w p h n A) (hr : 1 ≤ r ∧ r < 32) (hn : 1 ≤ old ∧ old < n) (hf : ¬ (A.name r : Int) = fresh) : Calls Tryd.prog 27 #[.pointer (some ⟨p, 0, none⟩), .int .i64 r, .int .i64 fresh, .int .i64 old] w fun e w' => e = .returned (.iface 35 (.int .i64 5)) ∧ w' = w := by
  have HB := Hid.in t
  have HR : Hid (regB r = true) := by unfold regB; show _ = _; simp; omega
  have HN : Hid ((decide (1 ≤ (old : Int)) && decide ((old : Int) < n)) = true) := by show _ = _; simp; omega
  obtain ⟨⟨ring, first, hr', hc⟩, hd, ne⟩ := t
  have cn := CT.atName hc r hr.2
  have hne : ((A.name r : Int) != fresh) = true := by simpa using hf
  have h3 := hc.here
  obtain ⟨hr1, hr2⟩ := hr
  have hu : undef = Value.tuple #[] := rfl
  clear hr' hc hd hf hn
  go_enter Tryd.func27, Tryd.ntmps27
  go_wp2_with (first | (go_at_call 45; refine (isNamed_any _ _).mono ?_; rintro e w1 ⟨rfl, hw⟩; have hw2 := hw.symm; clear hw; subst hw2; rw [HR.out]) | (go_at_call 47; refine (isName_any p h n A _ _ HB.out).mono ?_; rintro e w1 ⟨rfl, hw⟩; have hw2 := hw.symm; clear hw; subst hw2; rw [HN.out]))
  go_ret
  exact ⟨rfl, rfl⟩
theorem undo_order2 (p h n : Nat) (A : NT) (r : Nat) (old : Nat) (w : World) (t : Tab w p h n A) (hr : 1 ≤ r ∧ r < 32) (hn : 1 ≤ old ∧ old < n) (hh : A.held old = false) : Calls Tryd.prog 27 #[.pointer (some ⟨p, 0, none⟩), .int .i64 r, .int .i64 (A.name r), .int .i64 old] w fun e w' => e = .returned (.iface 35 (.int .i64 5)) ∧ w' = w := by
  have HB := Hid.in t
  have HR : Hid (regB r = true) := by unfold regB; show _ = _; simp; omega
  have HN : Hid ((decide (1 ≤ (old : Int)) && decide ((old : Int) < n)) = true) := by show _ = _; simp; omega
  obtain ⟨⟨ring, first, hr', hc⟩, hd, ne⟩ := t
  have cn := CT.atName hc r hr.2
  have ch : w.cell? ⟨p, 32, none⟩ = some (.slice (some ⟨h, 0, none⟩) n n) := hc.cell 32 (by decide)
  have cx : w.cell? ⟨h, old, none⟩ = some (.bool (A.held old)) := hd.cell old hn.2
  rw [hh] at cx
  have h3 := hc.here
  have h4 := hd.here
  obtain ⟨hr1, hr2⟩ := hr
  obtain ⟨hn1, hn2⟩ := hn
  clear hr' hc hd hh
  go_enter Tryd.func27, Tryd.ntmps27
  go_wp2_with (first | (go_at_call 45; refine (isNamed_any _ _).mono ?_; rintro e w1 ⟨rfl, hw⟩; have hw2 := hw.symm; clear hw; subst hw2; rw [HR.out]) | (go_at_call 47; refine (isName_any p h n A _ _ HB.out).mono ?_; rintro e w1 ⟨rfl, hw⟩; have hw2 := hw.symm; clear hw; subst hw2; rw [HN.out]))
  go_ret
  exact ⟨rfl, rfl⟩
def NT.undo (A : NT) (r old : Nat) : NT := ⟨upd A.name r old, upd A.held old false, A.name r :: A.free⟩
set_option maxHeartbeats 1000000 in
theorem undo_good (p h n : Nat) (A : NT) (r : Nat) (old : Nat) (w : World) (t : Tab w p h n A) (hr : 1 ≤ r ∧ r < 32) (hn : 1 ≤ old ∧ old < n) (hh : A.held old = true) (hl : A.free.length < 128) : Calls Tryd.prog 27 #[.pointer (some ⟨p, 0, none⟩), .int .i64 r, .int .i64 (A.name r), .int .i64 old] w fun e w' => e = .returned .nilIface ∧ Tab w' p h n (A.undo r old) ∧ Turned (fun k => k = p ∨ k = h) w w' := by
  have HB := Hid.in t
  have HR : Hid (regB r = true) := by unfold regB; show _ = _; simp; omega
  have HN : Hid ((decide (1 ≤ (old : Int)) && decide ((old : Int) < n)) = true) := by show _ = _; simp; omega
  obtain ⟨⟨ring, first, hr', hc⟩, hd, ne⟩ := t
  have cn := CT.atName hc r hr.2
  have ch : w.cell? ⟨p, 32, none⟩ = some (.slice (some ⟨h, 0, none⟩) n n) := hc.cell 32 (by decide)
  have cx : w.cell? ⟨h, old, none⟩ = some (.bool (A.held old)) := hd.cell old hn.2
  rw [hh] at cx
  have h3 := hc.here
  have h4 := hd.here
  have h5 := hc.free
  have h6 := hd.free
  obtain ⟨hr1, hr2⟩ := hr
  obtain ⟨hn1, hn2⟩ := hn
  have HC := Hid.in hc
  have HD := Hid.in hd
  have HQ := Hid.in hr'
  have HL := Hid.in hl
  clear hr' hc hd hh hl
  go_enter Tryd.func27, Tryd.ntmps27
  go_wp2_with (first
    | (go_at_call 45; refine (isNamed_any _ _).mono ?_; rintro e w1 ⟨rfl, hw⟩; have hw2 := hw.symm; clear hw; subst hw2; rw [HR.out])
    | (go_at_call 47; refine (isName_any p h n A _ _ HB.out).mono ?_; rintro e w1 ⟨rfl, hw⟩; have hw2 := hw.symm; clear hw; subst hw2; rw [HN.out])
    | (go_at_call 48; refine (addFirst_any p h n (upd A.name r old) ring first A.free.length (A.name r) _ HQ.out.low HL.out ((CT.name HC.out r old hr2).setOther old _ ne)).mono ?_; rintro e w2 ⟨rfl, hC2, hT2⟩))
  go_ret
  refine ⟨rfl, ⟨⟨_, _, HQ.out.cons HL.out (A.name r), hC2⟩, ?_, ne⟩, ?_⟩
  · exact hT2.cells (held_set (HD.out.setOther r _ (fun e => ne e.symm)) old hn2 false) (fun e => ne e.symm)
  · exact ((((Turned.refl _ w).set (Or.inl rfl) _ _).set (Or.inr rfl) _ _)).trans (hT2.mono fun _ => Or.inl)
end Go.Proofs.YtpolfpebhbkabaaDoor
