/-
  THE ANSWER's fields.
-/
import Derived.Test.YtnlagbiikpbjdaaGreatDoorPm
namespace Go.Proofs.YtnlagbiikpbjdaaGreatDoor
open Go Go.RowKit
theorem bitsR_int (x : Nat) (a n : Int) (h : x < 4294967296) (h1 : 0 ≤ a ∧ a < 32) (h2 : 0 ≤ n ∧ n < 32) (w : World) : Calls Tryz.prog 157 #[.int .u32 x, .int .i64 a, .int .i64 n] w fun e w' => e = .returned (.int .i64 (bN x a.toNat n.toNat : Nat)) ∧ ∃ m, w' = w.drewN m := by
  obtain ⟨A, rfl⟩ := Int.eq_ofNat_of_zero_le h1.1
  obtain ⟨N, rfl⟩ := Int.eq_ofNat_of_zero_le h2.1
  exact bitsR_any x A N h (by omega) (by omega) w
theorem orJ (x : Nat) : bits .or .i64 (bits .or .i64 (bits .or .i64 ((bN x 21 10 : Nat) * 2) ((bN x 20 1 : Nat) * 2048)) ((bN x 12 8 : Nat) * 4096)) ((bN x 31 1 : Nat) * 1048576) = (immJ x : Nat) := by
  have hb := bN_lts x
  have e1 := i64_or_nat (bN x 21 10 * 2) (bN x 20 1 * 2048) (by omega) (by omega)
  rw [or_lo 11 (bN x 20 1) (bN x 21 10 * 2) (by omega)] at e1
  have e2 := i64_or_nat (bN x 21 10 * 2 + bN x 20 1 * 2 ^ 11) (bN x 12 8 * 4096) (by omega) (by omega)
  rw [or_lo 12 (bN x 12 8) _ (by omega)] at e2
  have e3 := i64_or_nat (bN x 21 10 * 2 + bN x 20 1 * 2 ^ 11 + bN x 12 8 * 2 ^ 12) (bN x 31 1 * 1048576) (by omega) (by omega)
  rw [or_lo 20 (bN x 31 1) _ (by omega)] at e3
  have e4 : immJ x = bN x 21 10 * 2 + bN x 20 1 * 2 ^ 11 + bN x 12 8 * 2 ^ 12 + bN x 31 1 * 2 ^ 20 := by unfold immJ; omega
  rw [show ((bN x 21 10 : Nat) : Int) * 2 = ((bN x 21 10 * 2 : Nat) : Int) by simp, show ((bN x 20 1 : Nat) : Int) * 2048 = ((bN x 20 1 * 2048 : Nat) : Int) by simp, show ((bN x 12 8 : Nat) : Int) * 4096 = ((bN x 12 8 * 4096 : Nat) : Int) by simp, show ((bN x 31 1 : Nat) : Int) * 1048576 = ((bN x 31 1 * 1048576 : Nat) : Int) by simp, e1, e2, e3, e4]
theorem orB (x : Nat) : bits .or .i64 (bits .or .i64 (bits .or .i64 ((bN x 8 4 : Nat) * 2) ((bN x 25 6 : Nat) * 32)) ((bN x 7 1 : Nat) * 2048)) ((bN x 31 1 : Nat) * 4096) = (immB x : Nat) := by
  have hb := bN_lts x
  have e1 := i64_or_nat (bN x 8 4 * 2) (bN x 25 6 * 32) (by omega) (by omega)
  rw [or_lo 5 (bN x 25 6) (bN x 8 4 * 2) (by omega)] at e1
  have e2 := i64_or_nat (bN x 8 4 * 2 + bN x 25 6 * 2 ^ 5) (bN x 7 1 * 2048) (by omega) (by omega)
  rw [or_lo 11 (bN x 7 1) _ (by omega)] at e2
  have e3 := i64_or_nat (bN x 8 4 * 2 + bN x 25 6 * 2 ^ 5 + bN x 7 1 * 2 ^ 11) (bN x 31 1 * 4096) (by omega) (by omega)
  rw [or_lo 12 (bN x 31 1) _ (by omega)] at e3
  have e4 : immB x = bN x 8 4 * 2 + bN x 25 6 * 2 ^ 5 + bN x 7 1 * 2 ^ 11 + bN x 31 1 * 2 ^ 12 := by unfold immB; omega
  rw [show ((bN x 8 4 : Nat) : Int) * 2 = ((bN x 8 4 * 2 : Nat) : Int) by simp, show ((bN x 25 6 : Nat) : Int) * 32 = ((bN x 25 6 * 32 : Nat) : Int) by simp, show ((bN x 7 1 : Nat) : Int) * 2048 = ((bN x 7 1 * 2048 : Nat) : Int) by simp, show ((bN x 31 1 : Nat) : Int) * 4096 = ((bN x 31 1 * 4096 : Nat) : Int) by simp, e1, e2, e3, e4]
theorem orS (x : Nat) : bits .or .i64 (bN x 7 5 : Nat) ((bN x 25 7 : Nat) * 32) = (immS x : Nat) := by
  have hb := bN_lts x
  have e1 := i64_or_nat (bN x 7 5) (bN x 25 7 * 32) (by omega) (by omega)
  rw [or_lo 5 (bN x 25 7) (bN x 7 5) (by omega)] at e1
  have e4 : immS x = bN x 7 5 + bN x 25 7 * 2 ^ 5 := by unfold immS; omega
  rw [e4, ← e1]
  simp
theorem at3 {w W : World} {A : Obj} {c I : Array Value} {t u : TypeId} {m : Nat} (hW : (((w.alloc A).alloc (.cells c t)).drewN m).alloc (.cells I u) = W) :
    (∀ i, W.cell? ⟨w.heap.size + 1 + 1, i, none⟩ = I[i]?) ∧ (∀ i, W.cell? ⟨w.heap.size + 1, i, none⟩ = c[i]?) ∧ (∀ i, W.frozen? ⟨w.heap.size + 1, i, none⟩ = false) ∧ Below w.heap.size w W := by
  subst hW
  have hz : (((w.alloc A).alloc (.cells c t)).drewN m).heap.size = w.heap.size + 1 + 1 := by show ((w.alloc A).alloc (.cells c t)).heap.size = _; simp
  refine ⟨fun i => World.cell?_alloc_at I u _ i hz.symm, fun i => ?_, fun i => ?_, ?_⟩
  · rw [World.cell?_alloc_past _ _ _ (by omega)]
    exact World.cell?_alloc_at c t _ i (by simp)
  · rw [Below.frozen ((Below.refl _ _).alloc (Nat.le_refl _) _) (by show w.heap.size + 1 < _; omega)]
    exact World.frozen?_alloc_at c t _ i (by simp)
  · exact (below_drewN (((Below.refl _ _).alloc (Nat.le_refl _) _).alloc (by simp) _) _).alloc (by omega) _
set_option maxRecDepth 100000 in
set_option maxHeartbeats 1000000 in
theorem fields_J (s : ByteArray) (C F G : Int) (x : Nat) (hx : x < 4294967296) (w : World) : Calls Tryz.prog 111 #[.agg #[.string s, .int .u8 74, .int .i64 C, .int .i64 F, .int .i64 G], .int .u32 x] w fun e w' => e = .returned (.agg #[.int .i64 0, .int .i64 (bN x 7 5 : Nat), .int .i64 0, .int .i64 0, .int .i64 (sgn (immJ x) 21)]) ∧ Below w.heap.size w w' := by
  have q0 := bN_lt x 21 10
  have q1 := bN_lt x 20 1
  have q2 := bN_lt x 12 8
  have q3 := bN_lt x 31 1
  simp only [Nat.reducePow] at q0 q1 q2 q3
  have ej := orJ x
  have lj : immJ x < 4294967296 := by unfold immJ; omega
  go_enter Tryz.func111, Tryz.ntmps111
  go_wp2_with (first | (go_at_call 157; refine (bitsR_int x _ _ hx (by decide) (by decide) _).mono ?_; rintro e w1 ⟨rfl, m, rfl⟩) | (go_at_call 158; refine (signed_any (immJ x) 21 lj (by decide) (by decide) _).mono ?_; rintro e w1 ⟨rfl, rfl⟩))
  refine bodyPost_ret (v := .agg #[.int .i64 0, .int .i64 (bN x 7 5 : Nat), .int .i64 0, .int .i64 0, .int .i64 (sgn (immJ x) 21)]) (by simp [results, Tryz.results111, go_sem]) rfl ⟨rfl, ?_⟩
  repeat' (first | assumption | with_reducible exact Below.refl _ _ | with_reducible refine below_drewN ?_ _ | with_reducible refine Below.drew ?_ | with_reducible refine Below.setCell ?_ ?_ _ | with_reducible refine Below.alloc ?_ ?_ _)
  all_goals (simp; try omega)
set_option maxRecDepth 100000 in
set_option maxHeartbeats 1000000 in
theorem fields_I (s : ByteArray) (C F G : Int) (x : Nat) (hx : x < 4294967296) (w : World) : Calls Tryz.prog 111 #[.agg #[.string s, .int .u8 73, .int .i64 C, .int .i64 F, .int .i64 G], .int .u32 x] w fun e w' => e = .returned (.agg #[.int .i64 0, .int .i64 (bN x 7 5 : Nat), .int .i64 (bN x 15 5 : Nat), .int .i64 0, .int .i64 (sgn (bN x 20 12) 12)]) ∧ Below w.heap.size w w' := by
  have q0 := bN_lt x 20 12
  simp only [Nat.reducePow] at q0
  have lj : bN x 20 12 < 4294967296 := by omega
  go_enter Tryz.func111, Tryz.ntmps111
  go_wp2_with (first | (go_at_call 157; refine (bitsR_int x _ _ hx (by decide) (by decide) _).mono ?_; rintro e w1 ⟨rfl, m, rfl⟩) | (go_at_call 158; refine (signed_any (bN x 20 12) 12 lj (by decide) (by decide) _).mono ?_; rintro e w1 ⟨rfl, rfl⟩))
  refine bodyPost_ret (v := .agg #[.int .i64 0, .int .i64 (bN x 7 5 : Nat), .int .i64 (bN x 15 5 : Nat), .int .i64 0, .int .i64 (sgn (bN x 20 12) 12)]) (by simp [results, Tryz.results111, go_sem]) rfl ⟨rfl, ?_⟩
  repeat' (first | assumption | with_reducible exact Below.refl _ _ | with_reducible refine below_drewN ?_ _ | with_reducible refine Below.drew ?_ | with_reducible refine Below.setCell ?_ ?_ _ | with_reducible refine Below.alloc ?_ ?_ _)
  all_goals (simp; try omega)
set_option maxRecDepth 100000 in
set_option maxHeartbeats 1000000 in
theorem fields_L (s : ByteArray) (C F G : Int) (x : Nat) (hx : x < 4294967296) (w : World) : Calls Tryz.prog 111 #[.agg #[.string s, .int .u8 76, .int .i64 C, .int .i64 F, .int .i64 G], .int .u32 x] w fun e w' => e = .returned (.agg #[.int .i64 0, .int .i64 (bN x 7 5 : Nat), .int .i64 (bN x 15 5 : Nat), .int .i64 0, .int .i64 (sgn (bN x 20 12) 12)]) ∧ Below w.heap.size w w' := by
  have q0 := bN_lt x 20 12
  simp only [Nat.reducePow] at q0
  have lj : bN x 20 12 < 4294967296 := by omega
  go_enter Tryz.func111, Tryz.ntmps111
  go_wp2_with (first | (go_at_call 157; refine (bitsR_int x _ _ hx (by decide) (by decide) _).mono ?_; rintro e w1 ⟨rfl, m, rfl⟩) | (go_at_call 158; refine (signed_any (bN x 20 12) 12 lj (by decide) (by decide) _).mono ?_; rintro e w1 ⟨rfl, rfl⟩))
  refine bodyPost_ret (v := .agg #[.int .i64 0, .int .i64 (bN x 7 5 : Nat), .int .i64 (bN x 15 5 : Nat), .int .i64 0, .int .i64 (sgn (bN x 20 12) 12)]) (by simp [results, Tryz.results111, go_sem]) rfl ⟨rfl, ?_⟩
  repeat' (first | assumption | with_reducible exact Below.refl _ _ | with_reducible refine below_drewN ?_ _ | with_reducible refine Below.drew ?_ | with_reducible refine Below.setCell ?_ ?_ _ | with_reducible refine Below.alloc ?_ ?_ _)
  all_goals (simp; try omega)
set_option maxRecDepth 100000 in
set_option maxHeartbeats 1000000 in
theorem fields_H (s : ByteArray) (C F G : Int) (x : Nat) (hx : x < 4294967296) (w : World) : Calls Tryz.prog 111 #[.agg #[.string s, .int .u8 72, .int .i64 C, .int .i64 F, .int .i64 G], .int .u32 x] w fun e w' => e = .returned (.agg #[.int .i64 0, .int .i64 (bN x 7 5 : Nat), .int .i64 (bN x 15 5 : Nat), .int .i64 0, .int .i64 (bN x 20 5 : Nat)]) ∧ Below w.heap.size w w' := by
  go_enter Tryz.func111, Tryz.ntmps111
  go_wp2_with ((go_at_call 157; refine (bitsR_int x _ _ hx (by decide) (by decide) _).mono ?_; rintro e w1 ⟨rfl, m, rfl⟩))
  refine bodyPost_ret (v := .agg #[.int .i64 0, .int .i64 (bN x 7 5 : Nat), .int .i64 (bN x 15 5 : Nat), .int .i64 0, .int .i64 (bN x 20 5 : Nat)]) (by simp [results, Tryz.results111, go_sem]) rfl ⟨rfl, ?_⟩
  repeat' (first | assumption | with_reducible exact Below.refl _ _ | with_reducible refine below_drewN ?_ _ | with_reducible refine Below.drew ?_ | with_reducible refine Below.setCell ?_ ?_ _ | with_reducible refine Below.alloc ?_ ?_ _)
  all_goals (simp; try omega)
set_option maxRecDepth 100000 in
set_option maxHeartbeats 1000000 in
theorem fields_R (s : ByteArray) (C F G : Int) (x : Nat) (hx : x < 4294967296) (w : World) : Calls Tryz.prog 111 #[.agg #[.string s, .int .u8 82, .int .i64 C, .int .i64 F, .int .i64 G], .int .u32 x] w fun e w' => e = .returned (.agg #[.int .i64 0, .int .i64 (bN x 7 5 : Nat), .int .i64 (bN x 15 5 : Nat), .int .i64 (bN x 20 5 : Nat), .int .i64 0]) ∧ Below w.heap.size w w' := by
  go_enter Tryz.func111, Tryz.ntmps111
  go_wp2_with ((go_at_call 157; refine (bitsR_int x _ _ hx (by decide) (by decide) _).mono ?_; rintro e w1 ⟨rfl, m, rfl⟩))
  refine bodyPost_ret (v := .agg #[.int .i64 0, .int .i64 (bN x 7 5 : Nat), .int .i64 (bN x 15 5 : Nat), .int .i64 (bN x 20 5 : Nat), .int .i64 0]) (by simp [results, Tryz.results111, go_sem]) rfl ⟨rfl, ?_⟩
  repeat' (first | assumption | with_reducible exact Below.refl _ _ | with_reducible refine below_drewN ?_ _ | with_reducible refine Below.drew ?_ | with_reducible refine Below.setCell ?_ ?_ _ | with_reducible refine Below.alloc ?_ ?_ _)
  all_goals (simp; try omega)
set_option maxRecDepth 100000 in
set_option maxHeartbeats 1000000 in
theorem fields_F (s : ByteArray) (C F G : Int) (x : Nat) (hx : x < 4294967296) (w : World) : Calls Tryz.prog 111 #[.agg #[.string s, .int .u8 70, .int .i64 C, .int .i64 F, .int .i64 G], .int .u32 x] w fun e w' => e = .returned (.agg #[.int .i64 0, .int .i64 0, .int .i64 0, .int .i64 0, .int .i64 (bN x 20 8 : Nat)]) ∧ Below w.heap.size w w' := by
  go_enter Tryz.func111, Tryz.ntmps111
  go_wp2_with ((go_at_call 157; refine (bitsR_int x _ _ hx (by decide) (by decide) _).mono ?_; rintro e w1 ⟨rfl, m, rfl⟩))
  refine bodyPost_ret (v := .agg #[.int .i64 0, .int .i64 0, .int .i64 0, .int .i64 0, .int .i64 (bN x 20 8 : Nat)]) (by simp [results, Tryz.results111, go_sem]) rfl ⟨rfl, ?_⟩
  repeat' (first | assumption | with_reducible exact Below.refl _ _ | with_reducible refine below_drewN ?_ _ | with_reducible refine Below.drew ?_ | with_reducible refine Below.setCell ?_ ?_ _ | with_reducible refine Below.alloc ?_ ?_ _)
  all_goals (simp; try omega)
set_option maxRecDepth 100000 in
set_option maxHeartbeats 1000000 in
theorem fields_N (s : ByteArray) (C F G : Int) (x : Nat) (hx : x < 4294967296) (w : World) : Calls Tryz.prog 111 #[.agg #[.string s, .int .u8 78, .int .i64 C, .int .i64 F, .int .i64 G], .int .u32 x] w fun e w' => e = .returned (.agg #[.int .i64 0, .int .i64 0, .int .i64 0, .int .i64 0, .int .i64 0]) ∧ Below w.heap.size w w' := by
  go_enter Tryz.func111, Tryz.ntmps111
  go_wp2_with ((go_at_call 157; refine (bitsR_int x _ _ hx (by decide) (by decide) _).mono ?_; rintro e w1 ⟨rfl, m, rfl⟩))
  refine bodyPost_ret (v := .agg #[.int .i64 0, .int .i64 0, .int .i64 0, .int .i64 0, .int .i64 0]) (by simp [results, Tryz.results111, go_sem]) rfl ⟨rfl, ?_⟩
  repeat' (first | assumption | with_reducible exact Below.refl _ _ | with_reducible refine below_drewN ?_ _ | with_reducible refine Below.drew ?_ | with_reducible refine Below.setCell ?_ ?_ _ | with_reducible refine Below.alloc ?_ ?_ _)
  all_goals (simp; try omega)
set_option maxRecDepth 100000 in
set_option maxHeartbeats 1000000 in
theorem fields_B (s : ByteArray) (C F G : Int) (x : Nat) (hx : x < 4294967296) (w : World) : Calls Tryz.prog 111 #[.agg #[.string s, .int .u8 66, .int .i64 C, .int .i64 F, .int .i64 G], .int .u32 x] w fun e w' => e = .returned (.agg #[.int .i64 0, .int .i64 0, .int .i64 (bN x 15 5 : Nat), .int .i64 (bN x 20 5 : Nat), .int .i64 (sgn (immB x) 13)]) ∧ Below w.heap.size w w' := by
  have q0 := bN_lt x 8 4
  have q1 := bN_lt x 25 6
  have q2 := bN_lt x 7 1
  have q3 := bN_lt x 31 1
  simp only [Nat.reducePow] at q0 q1 q2 q3
  have ej := orB x
  have lj : immB x < 4294967296 := by unfold immB; omega
  go_enter Tryz.func111, Tryz.ntmps111
  go_wp2_with (first | (go_at_call 157; refine (bitsR_int x _ _ hx (by decide) (by decide) _).mono ?_; rintro e w1 ⟨rfl, m, rfl⟩) | (go_at_call 158; refine (signed_any (immB x) 13 lj (by decide) (by decide) _).mono ?_; rintro e w1 ⟨rfl, rfl⟩))
  refine bodyPost_ret (v := .agg #[.int .i64 0, .int .i64 0, .int .i64 (bN x 15 5 : Nat), .int .i64 (bN x 20 5 : Nat), .int .i64 (sgn (immB x) 13)]) (by simp [results, Tryz.results111, go_sem]) rfl ⟨rfl, ?_⟩
  repeat' (first | assumption | with_reducible exact Below.refl _ _ | with_reducible refine below_drewN ?_ _ | with_reducible refine Below.drew ?_ | with_reducible refine Below.setCell ?_ ?_ _ | with_reducible refine Below.alloc ?_ ?_ _)
  all_goals (simp; try omega)
set_option maxRecDepth 100000 in
set_option maxHeartbeats 1000000 in
theorem fields_S (s : ByteArray) (C F G : Int) (x : Nat) (hx : x < 4294967296) (w : World) : Calls Tryz.prog 111 #[.agg #[.string s, .int .u8 83, .int .i64 C, .int .i64 F, .int .i64 G], .int .u32 x] w fun e w' => e = .returned (.agg #[.int .i64 0, .int .i64 0, .int .i64 (bN x 15 5 : Nat), .int .i64 (bN x 20 5 : Nat), .int .i64 (sgn (immS x) 12)]) ∧ Below w.heap.size w w' := by
  have q0 := bN_lt x 7 5
  have q1 := bN_lt x 25 7
  simp only [Nat.reducePow] at q0 q1
  have ej := orS x
  have lj : immS x < 4294967296 := by unfold immS; omega
  go_enter Tryz.func111, Tryz.ntmps111
  go_wp2_with (first | (go_at_call 157; refine (bitsR_int x _ _ hx (by decide) (by decide) _).mono ?_; rintro e w1 ⟨rfl, m, rfl⟩) | (go_at_call 158; refine (signed_any (immS x) 12 lj (by decide) (by decide) _).mono ?_; rintro e w1 ⟨rfl, rfl⟩))
  refine bodyPost_ret (v := .agg #[.int .i64 0, .int .i64 0, .int .i64 (bN x 15 5 : Nat), .int .i64 (bN x 20 5 : Nat), .int .i64 (sgn (immS x) 12)]) (by simp [results, Tryz.results111, go_sem]) rfl ⟨rfl, ?_⟩
  repeat' (first | assumption | with_reducible exact Below.refl _ _ | with_reducible refine below_drewN ?_ _ | with_reducible refine Below.drew ?_ | with_reducible refine Below.setCell ?_ ?_ _ | with_reducible refine Below.alloc ?_ ?_ _)
  all_goals (simp; try omega)
set_option maxRecDepth 100000 in
set_option maxHeartbeats 1000000 in
theorem fields_U (s : ByteArray) (C F G : Int) (x : Nat) (hx : x < 4294967296) (w : World) : Calls Tryz.prog 111 #[.agg #[.string s, .int .u8 85, .int .i64 C, .int .i64 F, .int .i64 G], .int .u32 x] w fun e w' => e = .returned (.agg #[.int .i64 0, .int .i64 (bN x 7 5 : Nat), .int .i64 0, .int .i64 0, .int .i64 (bN x 12 20 : Nat)]) ∧ Below w.heap.size w w' := by
  go_enter Tryz.func111, Tryz.ntmps111
  go_wp2_with ((go_at_call 157; refine (bitsR_int x _ _ hx (by decide) (by decide) _).mono ?_; rintro e w1 ⟨rfl, m, rfl⟩))
  generalize hW : ((((w.alloc _).alloc _).drewN _).alloc _) = W
  obtain ⟨h1, h2, h4, h5⟩ := at3 hW
  clear hW
  go_region_held3 (fun w' => w'.cell? ⟨w.heap.size + 1 + 1, 1, none⟩ = some (.int .i64 (bN x 7 5 : Nat))) (go_keep) ((go_at_call 157; refine (bitsR_int x _ _ hx (by decide) (by decide) _).mono ?_; rintro e w1 ⟨rfl, m, rfl⟩))
  go_wp2
  refine bodyPost_ret (v := .agg #[.int .i64 0, .int .i64 (bN x 7 5 : Nat), .int .i64 0, .int .i64 0, .int .i64 (bN x 12 20 : Nat)]) (by simp [results, Tryz.results111, go_sem, h2]) rfl ⟨rfl, ?_⟩
  repeat' (first | assumption | with_reducible exact Below.refl _ _ | with_reducible refine below_drewN ?_ _ | with_reducible refine Below.drew ?_ | with_reducible refine Below.setCell ?_ ?_ _ | with_reducible refine Below.alloc ?_ ?_ _)
  all_goals (simp; try omega)
set_option maxRecDepth 100000 in
set_option maxHeartbeats 1000000 in
theorem fields_C (s : ByteArray) (C F G : Int) (x : Nat) (hx : x < 4294967296) (w : World) : Calls Tryz.prog 111 #[.agg #[.string s, .int .u8 67, .int .i64 C, .int .i64 F, .int .i64 G], .int .u32 x] w fun e w' => e = .returned (.agg #[.int .i64 0, .int .i64 (bN x 7 5 : Nat), .int .i64 (bN x 15 5 : Nat), .int .i64 0, .int .i64 (bN x 20 12 : Nat)]) ∧ Below w.heap.size w w' := by
  go_enter Tryz.func111, Tryz.ntmps111
  go_wp2_with ((go_at_call 157; refine (bitsR_int x _ _ hx (by decide) (by decide) _).mono ?_; rintro e w1 ⟨rfl, m, rfl⟩))
  generalize hW : ((((w.alloc _).alloc _).drewN _).alloc _) = W
  obtain ⟨h1, h2, h4, h5⟩ := at3 hW
  clear hW
  go_region_held3 (fun w' => w'.cell? ⟨w.heap.size + 1 + 1, 1, none⟩ = some (.int .i64 (bN x 7 5 : Nat)) ∧ w'.cell? ⟨w.heap.size + 1 + 1, 2, none⟩ = some (.int .i64 (bN x 15 5 : Nat))) (go_keep) ((go_at_call 157; refine (bitsR_int x _ _ hx (by decide) (by decide) _).mono ?_; rintro e w1 ⟨rfl, m, rfl⟩))
  go_wp2
  refine bodyPost_ret (v := .agg #[.int .i64 0, .int .i64 (bN x 7 5 : Nat), .int .i64 (bN x 15 5 : Nat), .int .i64 0, .int .i64 (bN x 20 12 : Nat)]) (by simp [results, Tryz.results111, go_sem, h2]) rfl ⟨rfl, ?_⟩
  repeat' (first | assumption | with_reducible exact Below.refl _ _ | with_reducible refine below_drewN ?_ _ | with_reducible refine Below.drew ?_ | with_reducible refine Below.setCell ?_ ?_ _ | with_reducible refine Below.alloc ?_ ?_ _)
  all_goals (simp; try omega)
set_option maxRecDepth 100000 in
set_option maxHeartbeats 1000000 in
theorem fields_D (s : ByteArray) (C F G : Int) (x : Nat) (hx : x < 4294967296) (w : World) : Calls Tryz.prog 111 #[.agg #[.string s, .int .u8 68, .int .i64 C, .int .i64 F, .int .i64 G], .int .u32 x] w fun e w' => e = .returned (.agg #[.int .i64 0, .int .i64 (bN x 7 5 : Nat), .int .i64 (bN x 15 5 : Nat), .int .i64 0, .int .i64 (bN x 20 12 : Nat)]) ∧ Below w.heap.size w w' := by
  go_enter Tryz.func111, Tryz.ntmps111
  go_wp2_with ((go_at_call 157; refine (bitsR_int x _ _ hx (by decide) (by decide) _).mono ?_; rintro e w1 ⟨rfl, m, rfl⟩))
  generalize hW : ((((w.alloc _).alloc _).drewN _).alloc _) = W
  obtain ⟨h1, h2, h4, h5⟩ := at3 hW
  clear hW
  go_region_held3 (fun w' => w'.cell? ⟨w.heap.size + 1 + 1, 1, none⟩ = some (.int .i64 (bN x 7 5 : Nat)) ∧ w'.cell? ⟨w.heap.size + 1 + 1, 2, none⟩ = some (.int .i64 (bN x 15 5 : Nat))) (go_keep) ((go_at_call 157; refine (bitsR_int x _ _ hx (by decide) (by decide) _).mono ?_; rintro e w1 ⟨rfl, m, rfl⟩))
  go_wp2
  refine bodyPost_ret (v := .agg #[.int .i64 0, .int .i64 (bN x 7 5 : Nat), .int .i64 (bN x 15 5 : Nat), .int .i64 0, .int .i64 (bN x 20 12 : Nat)]) (by simp [results, Tryz.results111, go_sem, h2]) rfl ⟨rfl, ?_⟩
  repeat' (first | assumption | with_reducible exact Below.refl _ _ | with_reducible refine below_drewN ?_ _ | with_reducible refine Below.drew ?_ | with_reducible refine Below.setCell ?_ ?_ _ | with_reducible refine Below.alloc ?_ ?_ _)
  all_goals (simp; try omega)
set_option maxRecDepth 100000 in
set_option maxHeartbeats 1000000 in
theorem fields_K (s : ByteArray) (C F G : Int) (x : Nat) (hx : x < 4294967296) (w : World) : Calls Tryz.prog 111 #[.agg #[.string s, .int .u8 75, .int .i64 C, .int .i64 F, .int .i64 G], .int .u32 x] w fun e w' => e = .returned (.agg #[.int .i64 0, .int .i64 (bN x 7 5 : Nat), .int .i64 (bN x 15 5 : Nat), .int .i64 0, .int .i64 (bN x 25 2 : Nat)]) ∧ Below w.heap.size w w' := by
  go_enter Tryz.func111, Tryz.ntmps111
  go_wp2_with ((go_at_call 157; refine (bitsR_int x _ _ hx (by decide) (by decide) _).mono ?_; rintro e w1 ⟨rfl, m, rfl⟩))
  generalize hW : ((((w.alloc _).alloc _).drewN _).alloc _) = W
  obtain ⟨h1, h2, h4, h5⟩ := at3 hW
  clear hW
  go_region_held3 (fun w' => w'.cell? ⟨w.heap.size + 1 + 1, 1, none⟩ = some (.int .i64 (bN x 7 5 : Nat)) ∧ w'.cell? ⟨w.heap.size + 1 + 1, 2, none⟩ = some (.int .i64 (bN x 15 5 : Nat))) (go_keep) ((go_at_call 157; refine (bitsR_int x _ _ hx (by decide) (by decide) _).mono ?_; rintro e w1 ⟨rfl, m, rfl⟩))
  go_wp2
  refine bodyPost_ret (v := .agg #[.int .i64 0, .int .i64 (bN x 7 5 : Nat), .int .i64 (bN x 15 5 : Nat), .int .i64 0, .int .i64 (bN x 25 2 : Nat)]) (by simp [results, Tryz.results111, go_sem, h2]) rfl ⟨rfl, ?_⟩
  repeat' (first | assumption | with_reducible exact Below.refl _ _ | with_reducible refine below_drewN ?_ _ | with_reducible refine Below.drew ?_ | with_reducible refine Below.setCell ?_ ?_ _ | with_reducible refine Below.alloc ?_ ?_ _)
  all_goals (simp; try omega)
set_option maxRecDepth 100000 in
set_option maxHeartbeats 1000000 in
theorem fields_A (s : ByteArray) (C F G : Int) (x : Nat) (hx : x < 4294967296) (w : World) : Calls Tryz.prog 111 #[.agg #[.string s, .int .u8 65, .int .i64 C, .int .i64 F, .int .i64 G], .int .u32 x] w fun e w' => e = .returned (.agg #[.int .i64 0, .int .i64 (bN x 7 5 : Nat), .int .i64 (bN x 15 5 : Nat), .int .i64 (bN x 20 5 : Nat), .int .i64 (bN x 25 2 : Nat)]) ∧ Below w.heap.size w w' := by
  go_enter Tryz.func111, Tryz.ntmps111
  go_wp2_with ((go_at_call 157; refine (bitsR_int x _ _ hx (by decide) (by decide) _).mono ?_; rintro e w1 ⟨rfl, m, rfl⟩))
  generalize hW : ((((w.alloc _).alloc _).drewN _).alloc _) = W
  obtain ⟨h1, h2, h4, h5⟩ := at3 hW
  clear hW
  go_region_held3 (fun w' => w'.cell? ⟨w.heap.size + 1 + 1, 1, none⟩ = some (.int .i64 (bN x 7 5 : Nat)) ∧ w'.cell? ⟨w.heap.size + 1 + 1, 2, none⟩ = some (.int .i64 (bN x 15 5 : Nat)) ∧ w'.cell? ⟨w.heap.size + 1 + 1, 3, none⟩ = some (.int .i64 (bN x 20 5 : Nat))) (go_keep) ((go_at_call 157; refine (bitsR_int x _ _ hx (by decide) (by decide) _).mono ?_; rintro e w1 ⟨rfl, m, rfl⟩))
  go_wp2
  refine bodyPost_ret (v := .agg #[.int .i64 0, .int .i64 (bN x 7 5 : Nat), .int .i64 (bN x 15 5 : Nat), .int .i64 (bN x 20 5 : Nat), .int .i64 (bN x 25 2 : Nat)]) (by simp [results, Tryz.results111, go_sem, h2]) rfl ⟨rfl, ?_⟩
  repeat' (first | assumption | with_reducible exact Below.refl _ _ | with_reducible refine below_drewN ?_ _ | with_reducible refine Below.drew ?_ | with_reducible refine Below.setCell ?_ ?_ _ | with_reducible refine Below.alloc ?_ ?_ _)
  all_goals (simp; try omega)
end Go.Proofs.YtnlagbiikpbjdaaGreatDoor
