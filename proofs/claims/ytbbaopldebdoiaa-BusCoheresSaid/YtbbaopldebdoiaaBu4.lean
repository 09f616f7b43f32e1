/-
  BUS: has, State, Busy.
-/
import Derived.Test.YtbbaopldebdoiaaBu3
namespace Go.Proofs.Ytbbaopldebdoiaa
open Go Go.RowKit
/-- the state of an address's line in a cache -/
noncomputable def CS.st (T : CS) (a : Nat) : Nat :=
  open Classical in if h : ∃ i, At (T.set (T.of a)) a i then ((T.set (T.of a)).getD h.choose l0).s else 0
theorem CS.st_at {T : CS} {a i : Nat} (h : At (T.set (T.of a)) a i) : T.st a = ((T.set (T.of a)).getD i l0).s := by
  unfold CS.st
  have hx : ∃ i, At (T.set (T.of a)) a i := ⟨i, h⟩
  rw [dif_pos hx, at_inj hx.choose_spec h]
theorem CS.st_no {T : CS} {a : Nat} (h : No (T.set (T.of a)) a) : T.st a = 0 := by
  unfold CS.st
  rw [dif_neg (fun ⟨i, hi⟩ => h i hi.1 hi.2.1)]
theorem cst_any (B p h c : Nat) (V : Nat → Value) (T : CS) (a : Nat) (w : World) (k : Ch w B p h c V T) (ha : a < 4294967296) : Calls Try.prog 18 #[.pointer (some ⟨p, 0, none⟩), .int .u32 a] w fun e w' => e = .returned (.int .i64 (T.st a : Nat)) ∧ Below w.heap.size w w' := by
  rcases at_or_no (T.set (T.of a)) a with ⟨i, h1⟩ | h1
  · rw [CS.st_at h1]
    exact state_at B p h c V T a i w k ha h1
  · rw [CS.st_no h1]
    exact state_no B p h c V T a w k ha h1
def BS.has (S : BS) (core : Int) (a : Nat) : Bool := decide (0 ≤ core) && decide (core < S.nc) && hasB a S.len
section
variable {x : World} {B p rb rc mb mc nb ab kn ka : Nat} {P H C : Nat → Nat} {V : Nat → Nat → Value} {S : BS}
set_option maxRecDepth 100000 in
theorem bhas_any (k : Bm x B p rb rc mb mc nb ab kn ka P H C V S) (core : Int) (a : Nat) (ha : a < 4294967296) : Calls Try.prog 17 #[.pointer (some ⟨p, 0, none⟩), .int .i64 core, .int .u32 a] x fun e w' => e = .returned (.bool (S.has core a)) ∧ w' = x := by
  have c0 : x.cell? ⟨p, 0, none⟩ = some (.slice (some ⟨rb, 0, none⟩) S.nc rc) := k.c.cell 0 (by decide)
  have c2 : x.cell? ⟨p, 2, none⟩ = some (.slice (some ⟨mb, 0, none⟩) S.len mc) := k.c.cell 2 (by decide)
  have hp := k.c.here
  have HM := Hid.in (mhas_any (some ⟨mb, 0, none⟩) a S.len mc x ha k.sz.2.2.2.1)
  unfold BS.has
  clear k ha
  by_cases h0 : 0 ≤ core
  · by_cases h1 : core < (S.nc : Int)
    · rw [decide_eq_true h0, decide_eq_true h1]
      go_enter Try.func17, Try.ntmps17
      go_wp2_with (go_at_call 27; refine HM.out.mono ?_; rintro e y ⟨rfl, hy⟩; have hy2 := hy.symm; clear hy; subst hy2)
      go_ret
      exact ⟨rfl, rfl⟩
    · rw [decide_eq_true h0, decide_eq_false h1]
      go_enter Try.func17, Try.ntmps17
      go_wp2
      go_ret
      exact ⟨rfl, rfl⟩
  · rw [decide_eq_false h0]
    go_enter Try.func17, Try.ntmps17
    go_wp2
    go_ret
    exact ⟨rfl, rfl⟩
theorem has_core {core : Int} {a : Nat} (h : S.has core a = true) : ∃ i : Nat, core = i ∧ i < S.nc ∧ 65536 ≤ a ∧ a < 65536 + S.len := by
  unfold BS.has hasB at h
  simp only [Bool.and_eq_true, decide_eq_true_eq] at h
  exact ⟨core.toNat, by omega, by omega, h.2.1, h.2.2⟩
noncomputable def BS.st (S : BS) (core : Int) (a : Nat) : Nat := if S.has core a then (S.c core.toNat).st a else 0
set_option maxRecDepth 100000 in
theorem bstate_any (k : Bm x B p rb rc mb mc nb ab kn ka P H C V S) (core : Int) (a : Nat) (ha : a < 4294967296) : Calls Try.prog 6 #[.pointer (some ⟨p, 0, none⟩), .int .i64 core, .int .u32 a] x fun e w' => e = .returned (.int .i64 (S.st core a : Nat)) ∧ Below x.heap.size x w' := by
  have HH := Hid.in (bhas_any k core a ha)
  cases hh : S.has core a
  · have e : S.st core a = 0 := by unfold BS.st; rw [hh]; rfl
    rw [e]
    rw [hh] at HH
    clear k ha
    go_enter Try.func6, Try.ntmps6
    go_wp2_with (go_at_call 17; refine HH.out.mono ?_; rintro e y ⟨rfl, hy⟩; have hy2 := hy.symm; clear hy; subst hy2)
    go_ret
    exact ⟨rfl, Below.refl _ _⟩
  · obtain ⟨i, rfl, hi, -, -⟩ := has_core hh
    have e : S.st i a = (S.c i).st a := by unfold BS.st; rw [hh]; rfl
    rw [e]
    rw [hh] at HH
    have HS := Hid.in (cst_any B (P i) (H i) (C i) (V i) (S.c i) a x (k.ch i hi) ha)
    have c0 : x.cell? ⟨p, 0, none⟩ = some (.slice (some ⟨rb, 0, none⟩) S.nc rc) := k.c.cell 0 (by decide)
    have r0 : x.cell? ⟨rb, i, none⟩ = some (.pointer (some ⟨P i, 0, none⟩)) := k.row.cell i hi
    have hp := k.c.here
    have hr := k.row.here
    have hi' : (i : Int) < (S.nc : Int) := by omega
    clear k ha hh e
    go_enter Try.func6, Try.ntmps6
    go_wp2_with (first
      | (go_at_call 17; refine HH.out.mono ?_; rintro e y ⟨rfl, hy⟩; have hy2 := hy.symm; clear hy; subst hy2)
      | (go_at_call 18; refine HS.out.mono ?_; rintro e y ⟨rfl, hb⟩; have HB := Hid.in hb; clear hb))
    go_ret
    exact ⟨rfl, HB.out⟩
end
end Go.Proofs.Ytbbaopldebdoiaa
