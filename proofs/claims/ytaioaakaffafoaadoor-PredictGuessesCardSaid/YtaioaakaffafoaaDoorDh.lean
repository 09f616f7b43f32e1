/-
  PREDICT: the four ways to guess a branch.
-/
import Derived.Test.YtaioaakaffafoaaDoorDg
namespace Go.Proofs.YtaioaakaffafoaaDoor
open Go Go.RowKit
theorem never_guess (pc imm hist : Int) (w : World) : Calls Tryd.prog 73 #[.agg #[], .int .u32 pc, .int .i64 imm, .int .i64 hist] w fun e w' => e = .returned (.bool false) ∧ Below w.heap.size w w' := by
  go_enter Tryd.func73, Tryd.ntmps73
  go_wp2
  go_ret
  first | exact ⟨rfl, Below.refl _ _⟩ | exact ⟨rfl, (Below.refl _ _).alloc (Nat.le_refl _) _⟩
theorem back_guess (pc imm hist : Int) (w : World) : Calls Tryd.prog 64 #[.agg #[], .int .u32 pc, .int .i64 imm, .int .i64 hist] w fun e w' => e = .returned (.bool (decide (imm < 0))) ∧ Below w.heap.size w w' := by
  go_enter Tryd.func64, Tryd.ntmps64
  go_wp2
  go_ret
  first | exact ⟨rfl, Below.refl _ _⟩ | exact ⟨rfl, (Below.refl _ _).alloc (Nat.le_refl _) _⟩
theorem never_learn (pc hist : Int) (taken : Bool) (w : World) : Calls Tryd.prog 74 #[.agg #[], .int .u32 pc, .int .i64 hist, .bool taken] w fun e w' => e = .returned (.tuple #[]) ∧ Below w.heap.size w w' := by
  go_enter Tryd.func74, Tryd.ntmps74
  go_wp2
  exact bodyPost_end (results_none Tryd.results74 _ _ _) rfl (by first | exact ⟨rfl, Below.refl _ _⟩ | exact ⟨rfl, (Below.refl _ _).alloc (Nat.le_refl _) _⟩)
theorem back_learn (pc hist : Int) (taken : Bool) (w : World) : Calls Tryd.prog 65 #[.agg #[], .int .u32 pc, .int .i64 hist, .bool taken] w fun e w' => e = .returned (.tuple #[]) ∧ Below w.heap.size w w' := by
  go_enter Tryd.func65, Tryd.ntmps65
  go_wp2
  exact bodyPost_end (results_none Tryd.results65 _ _ _) rfl (by first | exact ⟨rfl, Below.refl _ _⟩ | exact ⟨rfl, (Below.refl _ _).alloc (Nat.le_refl _) _⟩)
set_option maxHeartbeats 1000000 in
theorem counted_guess (gc nc : Nat) (f : Nat → Nat) (pc imm hist : Int) (w : World) (h : Ct w gc nc f) (hp : 0 ≤ pc ∧ pc < 4294967296) : Calls Tryd.prog 67 #[.agg #[.slice (some ⟨gc, 0, none⟩) nc nc], .int .u32 pc, .int .i64 imm, .int .i64 hist] w fun e w' => e = .returned (.bool (decide ((2 : Int) ≤ (f (cix nc (pc / 4)) : Int)))) ∧ Below w.heap.size w w' := by
  have HC := Hid.in h
  have HN : Hid (0 ≤ pc / 4 ∧ pc / 4 < 4294967296) := by show _ ∧ _; omega
  obtain ⟨p1, p2⟩ := hp
  clear h
  go_enter Tryd.func67, Tryd.ntmps67
  go_wp2_with (go_at_call 69; go_loud (refine (isLikely_any gc nc f (pc / 4) _ (HC.out.below (by first | exact (Below.refl _ _).alloc (Nat.le_refl _) _ | exact ((Below.refl _ _).alloc (Nat.le_refl _) _).drew)) HN.out).mono ?_; rintro e w1 ⟨rfl, hb1⟩; obtain ⟨k1, k2, k3, k4⟩ := keepB hb1))
  go_ret
  exact ⟨rfl, k4⟩
set_option maxHeartbeats 1000000 in
theorem counted_learn (gc nc : Nat) (f : Nat → Nat) (pc hist : Int) (taken : Bool) (w : World) (h : Ct w gc nc f) (hf : ∀ k, k < nc → f k ≤ 3) (hp : 0 ≤ pc ∧ pc < 4294967296) : Calls Tryd.prog 68 #[.agg #[.slice (some ⟨gc, 0, none⟩) nc nc], .int .u32 pc, .int .i64 hist, .bool taken] w fun e w' => e = .returned (.tuple #[]) ∧ Ct w' gc nc (cnt f (cix nc (pc / 4)) taken) ∧ Turned (· = gc) w w' := by
  have HC := Hid.in h
  have HF := Hid.in hf
  have HN : Hid (0 ≤ pc / 4 ∧ pc / 4 < 4294967296) := by show _ ∧ _; omega
  obtain ⟨p1, p2⟩ := hp
  clear h hf
  go_enter Tryd.func68, Tryd.ntmps68
  go_wp2_with (go_at_call 66; go_loud (refine (count_any gc nc f (pc / 4) taken _ (HC.out.below ((Below.refl _ _).alloc (Nat.le_refl _) _)) HF.out HN.out).mono ?_; rintro e w1 ⟨rfl, hc1, ht1⟩))
  exact bodyPost_end (results_none Tryd.results68 _ _ _) rfl ⟨rfl, hc1, ((Turned.refl (· = gc) w).alloc _).trans ht1⟩
end Go.Proofs.YtaioaakaffafoaaDoor
