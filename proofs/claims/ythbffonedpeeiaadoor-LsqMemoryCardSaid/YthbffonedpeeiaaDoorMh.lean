/-
  LSQ: the queue looked through.
-/
import Derived.Test.YthbffonedpeeiaaDoorMd
import Derived.Test.YthbffonedpeeiaaDoorMg
import Derived.Shelf.Abstract
namespace Go.Proofs.YthbffonedpeeiaaDoor
open Go Go.RowKit
/-- a boxed number -/
theorem boxed1 (u : Value) (w : World) (t : TypeId) : ∃ X, w.alloc (.cells #[u] t) = X ∧ X.cell? ⟨w.heap.size, 0, none⟩ = some u ∧ Below w.heap.size w X ∧ X.heap.size = w.heap.size + 1 :=
  ⟨_, rfl, World.cell?_alloc_new _ _ _ _, (Below.refl _ _).alloc (Nat.le_refl _) _, by simp⟩
def QS.pend (S : QS) (num : Int) (i : Nat) : Bool := decide ((S.at i).n = num) && !(S.at i).rt
def QS.plc (S : QS) (num : Int) (i : Nat) : Bool := decide ((S.at i).n = num) && !(S.at i).st && (S.at i).placed
def QS.went (S : QS) (s : Ac) (i : Nat) : Bool := decide (s.n < (S.at i).n) && (S.at i).early s
def QS.unk (S : QS) (num : Int) (i : Nat) : Bool := (S.at i).st && decide ((S.at i).n < num) && !(S.at i).placed
def QS.src (S : QS) (num : Int) (y : Nat) (i : Nat) : Bool := (S.at i).st && decide ((S.at i).n < num) && (S.at i).cov y
def QS.spo (S : QS) (y : Nat) (i : Nat) : Bool := (S.at i).line y && (S.at i).mem
theorem pending_any (B p : Nat) (v : Value) (S : QS) (num : Int) (w : World) (k : Qm w B p v S) : Calls Tryd.prog 38 #[.pointer (some ⟨p, 0, none⟩), .int .i64 num] w fun e w' => ∃ r, e = .returned (.int .i64 r) ∧ First (S.pend num) S.on.length r ∧ Below w.heap.size w w' := by
  obtain ⟨X, hX, q, hb, hs⟩ := boxed1 (.int .i64 num) w 3
  have HX := Hid.in hX
  have HB := Hid.in hb
  have HC := Hid.in (oldest_any B p v S 65 #[.pointer (some ⟨w.heap.size, 0, none⟩)] (S.pend num) X (fun args w => enters_of Tryd.func65 (by kernel_rfl) rfl args w) (k.below hb) (fun i hi y hy => pendingW (S.at i) w.heap.size num y ((hy.cell (p := ⟨w.heap.size, 0, none⟩) (cell_here q)).trans q)))
  clear k hX hb q
  go_enter Tryd.func38, Tryd.ntmps38
  go_upto_region 1 with fail
  rw [HX.out]
  go_wp2_with (first | (refine HC.out.mono ?_; rintro e w2 ⟨r, rfl, h1, h2⟩; have H1 := Hid.in h1; have H2 := Hid.in h2; clear h1 h2))
  go_ret
  exact ⟨_, rfl, H1.out, HB.out.trans (H2.out.mono (by omega))⟩
theorem placedLoad_any (B p : Nat) (v : Value) (S : QS) (num : Int) (w : World) (k : Qm w B p v S) : Calls Tryd.prog 43 #[.pointer (some ⟨p, 0, none⟩), .int .i64 num] w fun e w' => ∃ r, e = .returned (.int .i64 r) ∧ First (S.plc num) S.on.length r ∧ Below w.heap.size w w' := by
  obtain ⟨X, hX, q, hb, hs⟩ := boxed1 (.int .i64 num) w 3
  have HX := Hid.in hX
  have HB := Hid.in hb
  have HC := Hid.in (oldest_any B p v S 68 #[.pointer (some ⟨w.heap.size, 0, none⟩)] (S.plc num) X (fun args w => enters_of Tryd.func68 (by kernel_rfl) rfl args w) (k.below hb) (fun i hi y hy => placedW (S.at i) w.heap.size num y ((hy.cell (p := ⟨w.heap.size, 0, none⟩) (cell_here q)).trans q)))
  clear k hX hb q
  go_enter Tryd.func43, Tryd.ntmps43
  go_upto_region 1 with fail
  rw [HX.out]
  go_wp2_with (first | (refine HC.out.mono ?_; rintro e w2 ⟨r, rfl, h1, h2⟩; have H1 := Hid.in h1; have H2 := Hid.in h2; clear h1 h2))
  go_ret
  exact ⟨_, rfl, H1.out, HB.out.trans (H2.out.mono (by omega))⟩
theorem wentAhead_any (B p : Nat) (v : Value) (S : QS) (s : Ac) (w : World) (k : Qm w B p v S) (hf : s.Fit) : Calls Tryd.prog 41 #[.pointer (some ⟨p, 0, none⟩), .agg s.vs.toArray] w fun e w' => ∃ r, e = .returned (.int .i64 r) ∧ First (S.went s) S.on.length r ∧ Below w.heap.size w w' := by
  obtain ⟨X, hX, q, hb, hs⟩ := boxed s w 86
  have HX := Hid.in hX
  have HB := Hid.in hb
  have HC := Hid.in (oldest_any B p v S 66 #[.pointer (some ⟨w.heap.size, 0, none⟩)] (S.went s) X (fun args w => enters_of Tryd.func66 (by kernel_rfl) rfl args w) (k.below hb) (fun i hi y hy => wentW (S.at i) s w.heap.size y hf (k.fit i hi).fa (k.fit i hi).f (((k.fr i hi).below hb).below hy) (range_turned q (Turned.of_below (Q := fun _ => False) hy) (by omega) (fun q => q)) (by have := hy.size; omega)))
  clear k hX hb q
  go_enter Tryd.func41, Tryd.ntmps41
  go_upto_region 1 with fail
  rw [HX.out]
  go_wp2_with (first | (refine HC.out.mono ?_; rintro e w2 ⟨r, rfl, h1, h2⟩; have H1 := Hid.in h1; have H2 := Hid.in h2; clear h1 h2))
  go_ret
  exact ⟨_, rfl, H1.out, HB.out.trans (H2.out.mono (by omega))⟩
theorem isBehind_any (B p : Nat) (v : Value) (S : QS) (s : Ac) (w : World) (k : Qm w B p v S) : Calls Tryd.prog 46 #[.pointer (some ⟨p, 0, none⟩), .agg s.vs.toArray] w fun e w' => e = .returned (.bool ((List.range S.on.length).any (S.unk s.n))) ∧ Below w.heap.size w w' := by
  obtain ⟨X, hX, q, hb, hs⟩ := boxed s w 86
  obtain ⟨c0, -⟩ := row_cells0 q
  have HX := Hid.in hX
  have HB := Hid.in hb
  have HC := Hid.in (oldest_any B p v S 74 #[.pointer (some ⟨w.heap.size, 0, none⟩)] (S.unk s.n) X (fun args w => enters_of Tryd.func74 (by kernel_rfl) rfl args w) (k.below hb) (fun i hi y hy => unknownW (S.at i) w.heap.size s.n y ((hy.cell (p := ⟨w.heap.size, 0, none⟩) (cell_here c0)).trans c0)))
  clear k hX hb q c0
  go_enter Tryd.func46, Tryd.ntmps46
  go_upto_region 1 with fail
  rw [HX.out]
  go_wp2_with (first | (refine HC.out.mono ?_; rintro e w2 ⟨r, rfl, h1, h2⟩; have H1 := Hid.in h1; have H2 := Hid.in h2; clear h1 h2))
  go_ret
  refine ⟨congrArg (fun b => Ending.returned (.bool b)) ?_, HB.out.trans (H2.out.mono (by omega))⟩
  rw [← H1.out.ge]
  rcases H1.out with ⟨i, -, -, -, rfl⟩ | ⟨-, rfl⟩
  · simp
  · rfl
theorem numberAt_none (p : Nat) (w : World) : Calls Tryd.prog 37 #[.pointer (some ⟨p, 0, none⟩), .int .i64 (-1)] w fun e w' => e = .returned (.int .i64 (-1)) ∧ w' = w := by
  go_enter Tryd.func37, Tryd.ntmps37
  go_wp2
  go_ret
  exact ⟨rfl, rfl⟩
theorem numberAt_some (B p : Nat) (v : Value) (S : QS) (i : Nat) (w : World) (k : Qm w B p v S) (hi : i < S.on.length) : Calls Tryd.prog 37 #[.pointer (some ⟨p, 0, none⟩), .int .i64 i] w fun e w' => e = .returned (.int .i64 (S.at i).n) ∧ w' = w := by
  obtain ⟨hp, -, c1, -⟩ := k.cells
  have hs := k.small.1
  obtain ⟨q1, cap, rfl, hcap, hel⟩ := own_row k.l
  obtain ⟨g, rfl, -, hg, hr, -⟩ := hel i hi
  obtain ⟨d0, -⟩ := row_cells hr
  have hmul : (i : Int) * 8 = ((i * 8 : Nat) : Int) := by omega
  unfold QS.at
  generalize (S.on.getD i a0).n = x at d0 ⊢
  clear k hel hr
  go_enter Tryd.func37, Tryd.ntmps37
  go_wp2
  go_ret
  exact ⟨rfl, rfl⟩
/-- the number of what was found -/
def QS.num (S : QS) (r : Int) : Int := if r = -1 then -1 else (S.at r.toNat).n
theorem numberAt_any (B p : Nat) (v : Value) (S : QS) (r : Int) (w : World) (k : Qm w B p v S) (hr : r = -1 ∨ (0 ≤ r ∧ r < S.on.length)) : Calls Tryd.prog 37 #[.pointer (some ⟨p, 0, none⟩), .int .i64 r] w fun e w' => e = .returned (.int .i64 (S.num r)) ∧ w' = w := by
  by_cases h : r = -1
  · subst h
    exact numberAt_none p w
  · obtain ⟨i, rfl⟩ : ∃ i : Nat, r = i := ⟨r.toNat, by omega⟩
    unfold QS.num
    rw [if_neg h, Int.toNat_natCast]
    exact numberAt_some B p v S i w k (by omega)
theorem First.range {f : Nat → Bool} {n : Nat} {r : Int} (h : First f n r) : r = -1 ∨ (0 ≤ r ∧ r < n) := by
  rcases h with ⟨i, hi, -, -, rfl⟩ | ⟨-, rfl⟩
  · exact Or.inr ⟨by omega, by omega⟩
  · exact Or.inl rfl
theorem Last.range {f : Nat → Bool} {n : Nat} {r : Int} (h : Last f n r) : r = -1 ∨ (0 ≤ r ∧ r < n) := by
  rcases h with ⟨i, hi, -, -, rfl⟩ | ⟨-, rfl⟩
  · exact Or.inr ⟨by omega, by omega⟩
  · exact Or.inl rfl
theorem len_any (B p : Nat) (v : Value) (S : QS) (w : World) (k : Qm w B p v S) : Calls Tryd.prog 31 #[.pointer (some ⟨p, 0, none⟩)] w fun e w' => e = .returned (.int .i64 S.on.length) ∧ w' = w := by
  obtain ⟨hp, -, c1, -⟩ := k.cells
  obtain ⟨q1, cap, rfl, hcap, hel⟩ := own_row k.l
  clear k hel
  go_enter Tryd.func31, Tryd.ntmps31
  go_wp2
  go_ret
  exact ⟨rfl, rfl⟩
theorem spoil_any (B p : Nat) (v : Value) (S : QS) (y : Nat) (w : World) (k : Qm w B p v S) (hy : y < 4294967296) : Calls Tryd.prog 25 #[.pointer (some ⟨p, 0, none⟩), .int .u32 y] w fun e w' => ∃ r, e = .returned (.int .i64 (S.num r)) ∧ First (S.spo y) S.on.length r ∧ Below w.heap.size w w' := by
  obtain ⟨X, hX, q, hb, hs⟩ := boxed1 (.int .u32 y) w 38
  have HX := Hid.in hX
  have HB := Hid.in hb
  have HK := Hid.in (k.below hb)
  have HC := Hid.in (oldest_any B p v S 59 #[.pointer (some ⟨w.heap.size, 0, none⟩)] (S.spo y) X (fun args w => enters_of Tryd.func59 (by kernel_rfl) rfl args w) (k.below hb) (fun i hi z hz => spoilW (S.at i) w.heap.size y z (k.fit i hi) hy (((k.fr i hi).below hb).below hz) ((hz.cell (p := ⟨w.heap.size, 0, none⟩) (cell_here q)).trans q)))
  clear k hX hb q
  go_enter Tryd.func25, Tryd.ntmps25
  go_upto_region 1 with fail
  rw [HX.out]
  go_wp2_with (first
    | (go_at_call 50; refine HC.out.mono ?_; rintro e w2 ⟨r, rfl, h1, h2⟩; have H1 := Hid.in h1; have H2 := Hid.in h2; clear h1 h2)
    | (go_at_call 37; refine (numberAt_any B p v S r _ (HK.out.below H2.out) H1.out.range).mono ?_; rintro e w3 ⟨rfl, rfl⟩))
  go_ret
  exact ⟨r, rfl, H1.out, HB.out.trans (H2.out.mono (by omega))⟩
end Go.Proofs.YthbffonedpeeiaaDoor
