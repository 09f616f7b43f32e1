/-
  THE ANSWER's HART: how it is made.
-/
import Derived.Test.YtnlagbiikpbjdaaGreatDoorHr
namespace Go.Proofs.YtnlagbiikpbjdaaGreatDoor
open Go Go.RowKit
/-- are these code and data -/
def imageB (n : Nat) (d : Int) : Bool := decide (1 ≤ n) && decide (n ≤ 4096) && decide (0 ≤ d) && decide (d ≤ 4096) && (d % 16 == 0)
set_option maxHeartbeats 1000000 in
theorem image_any (p : Option Addr) (n cp : Nat) (d : Int) (w : World) : Calls Tryz.prog 37 #[.slice p n cp, .int .i64 d] w fun e w' => e = .returned (.bool (imageB n d)) ∧ w' = w := by
  by_cases a1 : 1 ≤ n ∧ n ≤ 4096 ∧ 0 ≤ d ∧ d ≤ 4096
  · have e : imageB n d = (d % 16 == 0) := by unfold imageB; simp [a1]
    obtain ⟨b1, b2, b3, b4⟩ := a1
    have b5 : d.tmod 16 = d % 16 := Int.tmod_eq_emod_of_nonneg b3
    rw [e]
    clear e
    go_enter Tryz.func37, Tryz.ntmps37
    go_wp2
    go_ret
    exact ⟨rfl, rfl⟩
  · have e : imageB n d = false := by unfold imageB; simp; omega
    rw [e]
    clear e
    go_enter Tryz.func37, Tryz.ntmps37
    go_wp2
    all_goals
      go_ret
      exact ⟨by first | rfl | (exfalso; omega), rfl⟩
/-- a new hart -/
def newH (code : Value) (d num : Int) : HS := ⟨code, d, num, 0, fun _ => 0, false, 0, 0, 0, 0, 0, 0, 0, 0⟩
def newE (n : Nat) (d num : Int) : Int := if imageB n d then (if 0 ≤ num ∧ num < 2 then 0 else 3) else 1
theorem new_fit (code : Value) (d num : Int) (h : 0 ≤ d ∧ d ≤ 4096) : (newH code d num).Fit :=
  ⟨⟨by show U32 0; decide, fun _ _ => by show U32 0; decide, h⟩, rfl, by show U32 0; decide, by show U32 0; decide, by show U32 0; decide, by show U32 0; decide, by show U32 0; decide, by show U32 0; decide, by show U32 0; decide⟩
set_option maxHeartbeats 1000000 in
theorem new_bad (p : Option Addr) (n cp : Nat) (d num : Int) (w : World) (h : newE n d num ≠ 0) : Calls Tryz.prog 21 #[.slice p n cp, .int .i64 d, .int .i64 num] w fun e w' => e = .returned (.tuple #[.pointer none, .int .i64 (newE n d num)]) ∧ w' = w := by
  unfold newE at h ⊢
  by_cases hi : imageB n d = true
  · rw [if_pos hi] at h ⊢
    by_cases hn : 0 ≤ num ∧ num < 2
    · rw [if_pos hn] at h
      exact absurd rfl h
    · rw [if_neg hn]
      have HI : Hid (imageB n d = true) := hi
      clear hi h
      go_enter Tryz.func21, Tryz.ntmps21
      go_wp2_with (first | (go_at_call 37; refine (image_any _ _ _ _ _).mono ?_; rintro e w1 ⟨rfl, rfl⟩; rw [HI.out]))
      all_goals first
        | (exfalso; omega)
        | exact bodyPost_ret (by simp [results, Tryz.results21, go_sem]) rfl ⟨rfl, rfl⟩
  · have hi' : imageB n d = false := by simpa using hi
    rw [if_neg hi]
    have HI : Hid (imageB n d = false) := hi'
    clear hi hi' h
    go_enter Tryz.func21, Tryz.ntmps21
    go_wp2_with (first | (go_at_call 37; refine (image_any _ _ _ _ _).mono ?_; rintro e w1 ⟨rfl, rfl⟩; rw [HI.out]))
    exact bodyPost_ret (by simp [results, Tryz.results21, go_sem]) rfl ⟨rfl, rfl⟩
theorem cells_new {n : Nat} {c : Array Value} {t : TypeId} {g : Nat → Value} (w : World) (h : ∀ i, i < n → c[i]? = some (g i)) : CellsAt n (w.alloc (.cells c t)) w.heap.size g :=
  ⟨by simp, fun i hi => (World.cell?_alloc_new w c t i).trans (h i hi), fun i => World.frozen?_alloc_at c t _ i rfl⟩
theorem new_cells (p : Option Addr) (n cp : Nat) (d num : Int) : ∀ i, i < 45 → (#[.slice p n cp, .int .i64 d, .int .i64 num, .int .u32 0, .int .u32 0, .int .u32 0, .int .u32 0, .int .u32 0, .int .u32 0, .int .u32 0, .int .u32 0, .int .u32 0, .int .u32 0, .int .u32 0, .int .u32 0, .int .u32 0, .int .u32 0, .int .u32 0, .int .u32 0, .int .u32 0, .int .u32 0, .int .u32 0, .int .u32 0, .int .u32 0, .int .u32 0, .int .u32 0, .int .u32 0, .int .u32 0, .int .u32 0, .int .u32 0, .int .u32 0, .int .u32 0, .int .u32 0, .int .u32 0, .int .u32 0, .int .u32 0, .bool false, .int .i64 0, .int .u32 0, .int .u32 0, .int .u32 0, .int .u32 0, .int .u32 0, .int .u32 0, .int .u32 0] : Array Value)[i]? = some ((newH (.slice p n cp) d num).enc i) := fun i hi =>
  range_of 45 (fun i => (#[.slice p n cp, .int .i64 d, .int .i64 num, .int .u32 0, .int .u32 0, .int .u32 0, .int .u32 0, .int .u32 0, .int .u32 0, .int .u32 0, .int .u32 0, .int .u32 0, .int .u32 0, .int .u32 0, .int .u32 0, .int .u32 0, .int .u32 0, .int .u32 0, .int .u32 0, .int .u32 0, .int .u32 0, .int .u32 0, .int .u32 0, .int .u32 0, .int .u32 0, .int .u32 0, .int .u32 0, .int .u32 0, .int .u32 0, .int .u32 0, .int .u32 0, .int .u32 0, .int .u32 0, .int .u32 0, .int .u32 0, .int .u32 0, .bool false, .int .i64 0, .int .u32 0, .int .u32 0, .int .u32 0, .int .u32 0, .int .u32 0, .int .u32 0, .int .u32 0] : Array Value)[i]?) (fun i => some ((newH (.slice p n cp) d num).enc i)) (by kernel_rfl) i hi
set_option maxRecDepth 100000 in
set_option maxHeartbeats 1000000 in
theorem new_good (p : Option Addr) (n cp : Nat) (d num : Int) (w : World) (h : newE n d num = 0) : Calls Tryz.prog 21 #[.slice p n cp, .int .i64 d, .int .i64 num] w fun e w' => e = .returned (.tuple #[.pointer (some ⟨w.heap.size, 0, none⟩), .int .i64 0]) ∧ RH w' w.heap.size (newH (.slice p n cp) d num) ∧ Below w.heap.size w w' := by
  unfold newE at h
  by_cases hi : imageB n d = true
  · rw [if_pos hi] at h
    by_cases hn : 0 ≤ num ∧ num < 2
    · have HI : Hid (imageB n d = true) := hi
      clear hi h
      go_enter Tryz.func21, Tryz.ntmps21
      go_wp2_with (first | (go_at_call 37; refine (image_any _ _ _ _ _).mono ?_; rintro e w1 ⟨rfl, rfl⟩; rw [HI.out]))
      refine bodyPost_ret (v := .tuple #[.pointer (some ⟨_, 0, none⟩), .int .i64 0]) (by simp [results, Tryz.results21, go_sem]) rfl ⟨rfl, ?_, ?_⟩
      · exact cells_new _ (new_cells p n cp d num)
      · exact (Below.refl _ _).alloc (Nat.le_refl _) _
    · rw [if_neg hn] at h
      exact absurd h (by decide)
  · rw [if_neg hi] at h
    exact absurd h (by decide)
end Go.Proofs.YtnlagbiikpbjdaaGreatDoor
