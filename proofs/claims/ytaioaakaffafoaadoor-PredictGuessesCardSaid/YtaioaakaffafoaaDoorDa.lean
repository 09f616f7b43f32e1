/-
  PREDICT: the classes of operations, as the program has them.
-/
import Derived.Test.YtaioaakaffafoaaDoorWa
import Derived.Test.YtaioaakaffafoaaDoorNa
import Derived.BigQuiet
import Derived.Deep.QuietTactic
import Derived.WalkSmall
namespace Go.Proofs.YtaioaakaffafoaaDoor
open Go Go.RowKit
theorem Laid.alloc {w : World} (h : Laid w) (o : Obj) : Laid (w.alloc o) := h.below ((Below.refl _ _).alloc (Nat.le_refl _) _)
theorem Laid.drewN {w : World} (h : Laid w) (n : Nat) : Laid (w.drewN n) := h.below (below_drewN (Below.refl _ _) _)
theorem Laid.drew {w : World} (h : Laid w) : Laid w.drew := h.below (Below.refl _ _).drew
theorem shapeOf_out (op : Int) (k : Nat) (hk : opN op = k) (w : World) (hL : Laid w) : Calls Tryd.prog 44 #[.int .i64 op] w fun e w' => e = .returned (.agg #[.int .i64 (fmtAt k), .int .u32 (codeAt k), .int .u32 (fAt k), .int .u32 (gAt k)]) ∧ Below w.heap.size w w' := by
  subst hk; exact shapeOf_any op w hL
set_option maxHeartbeats 400000 in
theorem classOf_any (op : Int) (k : Nat) (hk : opN op = k) (w : World) (hL : Laid w) : Calls Tryd.prog 38 #[.int .i64 op] w fun e w' => e = .returned (.int .i64 (classOf k)) ∧ Below w.heap.size w w' := by
  have HK : Hid (opN op = k) := hk
  have HL : Hid (Laid w) := hL
  by_cases h4 : op = 4
  · have e : classOf k = 3 := by rw [← hk, h4]; rfl
    rw [e]
    clear hk hL e
    subst h4
    go_enter Tryd.func38, Tryd.ntmps38
    go_wp2_with (go_at_call 44; refine (shapeOf_out _ k HK.out _ HL.out).mono ?_; rintro e w' ⟨rfl, hb⟩)
    go_ret
    exact ⟨rfl, Below.alloc (by assumption) (Below.size (by assumption)) _⟩
  · have h4' : (op == 4) = false := by simpa using h4
    have k4 : k ≠ 4 := by
      rw [← hk]; unfold opN; split <;> omega
    have ef : classOf k = if fmtAt k = 8 ∧ gAt k = 1 then 1 else lyClass (fmtAt k) := by unfold classOf; rw [if_neg k4]
    clear hk hL h4 k4
    by_cases h8 : fmtAt k = 8
    · by_cases h1 : gAt k = 1
      · have e : classOf k = 1 := by rw [ef, if_pos ⟨h8, h1⟩]
        have t8 : ((fmtAt k : Int) == 8) = true := by simp; omega
        have t1 : (gAt k == 1) = true := by simpa using h1
        rw [e]; clear e ef h8 h1
        go_enter Tryd.func38, Tryd.ntmps38
        go_wp2_with (go_at_call 44; refine (shapeOf_out _ k HK.out _ HL.out).mono ?_; rintro e w' ⟨rfl, hb⟩)
        go_ret
        exact ⟨rfl, Below.alloc (by assumption) (Below.size (by assumption)) _⟩
      · have e : classOf k = lyClass (fmtAt k) := by rw [ef, if_neg (fun h => h1 h.2)]
        have t8 : ((fmtAt k : Int) == 8) = true := by simp; omega
        have t1 : (gAt k == 1) = false := by simpa using h1
        rw [e]; clear e ef h8 h1
        go_enter Tryd.func38, Tryd.ntmps38
        go_wp2_with (first | (go_at_call 44; refine (shapeOf_out _ k HK.out _ HL.out).mono ?_; rintro e w' ⟨rfl, hb⟩) | (go_at_call 45; refine (class_any (fmtAt k) (fmt_lt k) _ ((HL.out.below hb).alloc _)).mono ?_; rintro e w'' ⟨rfl, rfl⟩))
        go_ret
        exact ⟨rfl, Below.alloc (by assumption) (Below.size (by assumption)) _⟩
    · have e : classOf k = lyClass (fmtAt k) := by rw [ef, if_neg (fun h => h8 h.1)]
      have t8 : ((fmtAt k : Int) == 8) = false := by simp; omega
      rw [e]; clear e ef h8
      go_enter Tryd.func38, Tryd.ntmps38
      go_wp2_with (first | (go_at_call 44; refine (shapeOf_out _ k HK.out _ HL.out).mono ?_; rintro e w' ⟨rfl, hb⟩) | (go_at_call 45; refine (class_any (fmtAt k) (fmt_lt k) _ ((HL.out.below hb).alloc _)).mono ?_; rintro e w'' ⟨rfl, rfl⟩))
      go_ret
      exact ⟨rfl, Below.alloc (by assumption) (Below.size (by assumption)) _⟩
end Go.Proofs.YtaioaakaffafoaaDoor
