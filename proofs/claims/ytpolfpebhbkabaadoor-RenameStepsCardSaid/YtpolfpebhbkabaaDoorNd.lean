/-
  RENAME: the program's table.
-/
import Derived.Test.YtpolfpebhbkabaaDoorNc
import Derived.Deep.RegionWith
import Derived.Deep.RegionHeld3
namespace Go.Proofs.YtpolfpebhbkabaaDoor
open Go Go.RowKit
def regB (r : Int) : Bool := decide (1 ≤ r) && decide (r < 32)
theorem isNamed_any (r : Int) (w : World) : Calls Tryd.prog 45 #[.int .i64 r] w fun e w' => e = .returned (.bool (regB r)) ∧ w' = w := by
  unfold regB
  by_cases h1 : 1 ≤ r
  all_goals
    by_cases h2 : r < 32
    all_goals
      go_enter Tryd.func45, Tryd.ntmps45
      go_wp2
      go_ret
      simp [h1, h2]
theorem isName_any (p h n : Nat) (A : NT) (x : Int) (w : World) (t : Tab w p h n A) : Calls Tryd.prog 47 #[.pointer (some ⟨p, 0, none⟩), .int .i64 x] w fun e w' => e = .returned (.bool (decide (1 ≤ x) && decide (x < n))) ∧ w' = w := by
  obtain ⟨⟨ring, first, hr, hc⟩, hh, ne⟩ := t
  have ch : w.cell? ⟨p, 32, none⟩ = some (.slice (some ⟨h, 0, none⟩) n n) := hc.cell 32 (by decide)
  have h3 := hc.here
  clear hr hc hh
  by_cases h1 : 1 ≤ x
  all_goals
    by_cases h2 : x < n
    all_goals
      go_enter Tryd.func47, Tryd.ntmps47
      go_wp2
      go_ret
      simp [h1, h2]
theorem look_in (p h n : Nat) (A : NT) (r : Nat) (w : World) (t : Tab w p h n A) (hr : r < 32) : Calls Tryd.prog 23 #[.pointer (some ⟨p, 0, none⟩), .int .i64 r] w fun e w' => e = .returned (.int .i64 (A.name r)) ∧ w' = w := by
  obtain ⟨⟨ring, first, hr', hc⟩, hh, ne⟩ := t
  have c := CT.atName hc r hr
  have h3 := hc.here
  clear hr' hc hh
  go_enter Tryd.func23, Tryd.ntmps23
  go_wp2
  go_ret
  exact ⟨rfl, rfl⟩
theorem look_out (p : Nat) (r : Int) (w : World) (hr : ¬ (0 ≤ r ∧ r < 32)) : Calls Tryd.prog 23 #[.pointer (some ⟨p, 0, none⟩), .int .i64 r] w fun e w' => e = .returned (.int .i64 (-1)) ∧ w' = w := by
  by_cases h1 : 0 ≤ r
  all_goals
    go_enter Tryd.func23, Tryd.ntmps23
    go_wp2
    all_goals first
      | (exfalso; omega)
      | (go_ret; exact ⟨rfl, rfl⟩)
theorem free_any (p h n : Nat) (A : NT) (w : World) (t : Tab w p h n A) : Calls Tryd.prog 51 #[.pointer (some ⟨p, 0, none⟩)] w fun e w' => e = .returned (.int .i64 A.free.length) ∧ w' = w := by
  obtain ⟨⟨ring, first, hr', hc⟩, hh, ne⟩ := t
  have cl : w.cell? ⟨p, 162, none⟩ = some (.int .i64 A.free.length) := hc.cell 162 (by decide)
  have h3 := hc.here
  clear hr' hc hh
  go_enter Tryd.func51, Tryd.ntmps51
  go_wp2
  go_ret
  exact ⟨rfl, rfl⟩
/-- no register -/
theorem take_range (p : Nat) (r : Int) (w : World) (hr : regB r = false) : Calls Tryd.prog 25 #[.pointer (some ⟨p, 0, none⟩), .int .i64 r] w fun e w' => e = .returned (.tuple #[.int .i64 0, .int .i64 0, .iface 35 (.int .i64 3)]) ∧ w' = w := by
  have HR := Hid.in hr
  clear hr
  go_enter Tryd.func25, Tryd.ntmps25
  go_wp2_with (go_at_call 45; refine (isNamed_any r _).mono ?_; rintro e w1 ⟨rfl, hw⟩; have hw2 := hw.symm; clear hw; subst hw2; rw [HR.out])
  exact bodyPost_ret (by simp [results, Tryd.results25, go_sem]) rfl ⟨rfl, rfl⟩
/-- none is free -/
theorem take_full (p h n : Nat) (A : NT) (r : Int) (w : World) (t : Tab w p h n A) (hr : regB r = true) (hf : A.free = []) : Calls Tryd.prog 25 #[.pointer (some ⟨p, 0, none⟩), .int .i64 r] w fun e w' => e = .returned (.tuple #[.int .i64 0, .int .i64 0, .iface 35 (.int .i64 4)]) ∧ w' = w := by
  obtain ⟨⟨ring, first, hr', hc⟩, hh, ne⟩ := t
  have cl : w.cell? ⟨p, 162, none⟩ = some (.int .i64 A.free.length) := hc.cell 162 (by decide)
  rw [hf] at cl
  have cl2 : w.cell? ⟨p, 162, none⟩ = some (.int .i64 0) := cl
  have h3 := hc.here
  have HR := Hid.in hr
  clear hr hr' hc hh cl hf
  go_enter Tryd.func25, Tryd.ntmps25
  go_wp2_with (go_at_call 45; refine (isNamed_any r _).mono ?_; rintro e w1 ⟨rfl, hw⟩; have hw2 := hw.symm; clear hw; subst hw2; rw [HR.out])
  exact bodyPost_ret (by simp [results, Tryd.results25, go_sem]) rfl ⟨rfl, rfl⟩
/-- a fresh name -/
def NT.take (A : NT) (r x : Nat) (l : List Nat) : NT := ⟨upd A.name r x, upd A.held (A.name r) true, l⟩
theorem held_set {w : World} {h n : Nat} {f : Nat → Bool} (hh : CellsAt n w h (fun k => .bool (f k))) (q : Nat) (hq : q < n) (b : Bool) : CellsAt n (w.setCell ⟨h, q, none⟩ (.bool b)) h (fun k => .bool (upd f q b k)) :=
  (hh.set q hq _).to (by
    funext k
    unfold upd
    split <;> rfl)
theorem held_take {w : World} {p h n r x q : Nat} {l : List Nat} {A : NT} {v : Value} (hh : CellsAt n w h (fun k => .bool (A.held k))) (hq : A.name r = q) (hn : q < n) (ne : p ≠ h) : CellsAt n ((w.setCell ⟨p, r, none⟩ v).setCell ⟨h, q, none⟩ (.bool true)) h (fun k => .bool ((A.take r x l).held k)) := by
  subst hq
  exact held_set (hh.setOther r v (fun e => ne e.symm)) _ hn true
theorem tk_turned {w w2 : World} {p h r q : Nat} {u v : Value} (h2 : Turned (fun x => x = p) w.drew w2) : Turned (fun k => k = p ∨ k = h) w ((w2.setCell ⟨p, r, none⟩ v).setCell ⟨h, q, none⟩ u) := by
  have q1 : Turned (fun k => k = p ∨ k = h) w w2 := ((Turned.refl _ w).drew).trans (h2.mono fun _ => Or.inl)
  exact (q1.set (Or.inl rfl) _ _).set (Or.inr rfl) _ _
set_option maxHeartbeats 2000000 in
theorem take_good (p h n : Nat) (A : NT) (r x : Nat) (l : List Nat) (w : World) (t : Tab w p h n A) (hr : 1 ≤ r ∧ r < 32) (hf : A.free = x :: l) (hn : A.name r < n) : Calls Tryd.prog 25 #[.pointer (some ⟨p, 0, none⟩), .int .i64 r] w fun e w' => e = .returned (.tuple #[.int .i64 x, .int .i64 (A.name r), .nilIface]) ∧ Tab w' p h n (A.take r x l) ∧ Turned (fun k => k = p ∨ k = h) w w' := by
  obtain ⟨⟨ring, first, hr', hc⟩, hh, ne⟩ := t
  rw [hf] at hr' hc
  obtain ⟨hx, hT⟩ := hr'.tail
  have hl : l.length < 128 := by have := hr'.room; simp at this; omega
  have hfi := hr'.low
  have cl : w.cell? ⟨p, 162, none⟩ = some (.int .i64 (l.length + 1)) := hc.cell 162 (by decide)
  have cn := CT.atName hc r hr.2
  have h3 := hc.here
  have HR : Hid (regB r = true) := by unfold regB; show _ = _; simp; omega
  have HC : Hid (CellsAt 163 w p (encT A.name ring first (l.length + 1) h n)) := hc
  have HD := Hid.in hh
  have HF := Hid.in hfi
  have HT := Hid.in hT
  obtain ⟨hr1, hr2⟩ := hr
  have hne : ((l.length : Int) + 1 == 0) = false := by simp; omega
  generalize hq : A.name r = q at hn cn ⊢
  clear hr' hc hh hf hfi hT
  go_enter Tryd.func25, Tryd.ntmps25
  go_wp2_with (go_at_call 45; refine (isNamed_any r _).mono ?_; rintro e w1 ⟨rfl, hw⟩; have hw2 := hw.symm; clear hw; subst hw2; rw [HR.out])
  first
    | go_region_with (go_at_call 46; refine (takeFirst_any p h n A.name ring first l.length _ HF.out hl HC.out.drew).mono ?_; rintro e w2 ⟨rfl, hC2, hT2⟩; rw [hx]; have cn2 := CT.atName hC2 r hr2; rw [hq] at cn2; have ch : w2.cell? ⟨p, 32, none⟩ = some (.slice (some ⟨h, 0, none⟩) n n) := hC2.cell 32 (by decide); have hp2 := hC2.here; have hfz := hC2.free; have hd2 := hT2.cells HD.out.drew (fun e => ne e.symm); have hd3 := hd2.here; have hd4 := hd2.free; have hd5 := hd2.cell q hn; have HC2 := Hid.in hC2; have HT2 := Hid.in hT2; have HD2 := Hid.in hd2; clear hC2 hT2 hd2)
    | fail
  all_goals go_wp2
  all_goals
    refine bodyPost_ret (v := .tuple #[.int .i64 x, .int .i64 q, .nilIface]) (by simp [results, Tryd.results25, go_sem]) rfl ⟨rfl, ⟨⟨ring, _, HT.out, ?_⟩, ?_, ne⟩, ?_⟩
    · first
        | exact (CT.name HC2.out r x hr2).setOther _ _ ne
        | exact ((CT.name HC2.out r x hr2).setOther _ _ ne).drew
    · first
        | exact held_take HD2.out hq hn ne
        | exact (held_take HD2.out hq hn ne).drew
    · first
        | exact tk_turned HT2.out
        | exact (tk_turned HT2.out).drew
end Go.Proofs.YtpolfpebhbkabaaDoor
