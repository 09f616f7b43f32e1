/-
  THE PROGRAM's Decode.
-/
import Derived.Test.YtnlagbiikpbjdaaGreatDoorWh
namespace Go.Proofs.YtnlagbiikpbjdaaGreatDoor
open Go Go.RowKit
def wantL : List Nat := [0, 55, 23, 111, 103, 99, 4195, 16483, 20579, 24675, 28771, 3, 4099, 8195, 16387, 20483, 35, 4131, 8227, 19, 8211, 12307, 16403, 24595, 28691, 4115, 20499, 1073762323, 51, 1073741875, 4147, 8243, 12339, 16435, 20531, 1073762355, 24627, 28723, 33554483, 33558579, 33562675, 33566771, 33570867, 33574963, 33579059, 33583155, 268443695, 402661423, 134225967, 8239, 536879151, 1610620975, 1073750063, 2147491887, 2684362799, 3221233711, 3758104623, 15, 115, 1048691, 807403635, 273678451, 4211, 8307, 12403, 20595, 24691, 28787]
def maskL : List Nat := [0, 127, 127, 127, 28799, 28799, 28799, 28799, 28799, 28799, 28799, 28799, 28799, 28799, 28799, 28799, 28799, 28799, 28799, 28799, 28799, 28799, 28799, 28799, 28799, 4261441663, 4261441663, 4261441663, 4261441663, 4261441663, 4261441663, 4261441663, 4261441663, 4261441663, 4261441663, 4261441663, 4261441663, 4261441663, 4261441663, 4261441663, 4261441663, 4261441663, 4261441663, 4261441663, 4261441663, 4261441663, 4193284223, 4160778367, 4160778367, 4160778367, 4160778367, 4160778367, 4160778367, 4160778367, 4160778367, 4160778367, 4160778367, 4027580415, 4294967295, 4294967295, 4294967295, 4294967295, 28799, 28799, 28799, 28799, 28799, 28799]
def wantN (k : Nat) : Nat := wantL.getD k 0
def maskN (k : Nat) : Nat := maskL.getD k 0
def matchB (k x : Nat) : Bool := (x &&& maskN k) == wantN k
theorem want_eq (k : Nat) (hk : k ≤ 67) : wantI k = (wantN k : Int) := by
  have : ∀ k, k < 68 → wantI k = (wantN k : Int) := by decide +kernel
  exact this k (by omega)
theorem mask_eq (k : Nat) (hk : k ≤ 67) : maskI k = (maskN k : Int) ∧ maskN k < 4294967296 := by
  have : ∀ k, k < 68 → maskI k = (maskN k : Int) ∧ maskN k < 4294967296 := by decide +kernel
  exact this k (by omega)
theorem match_eq (k x : Nat) (hk : k ≤ 67) (hx : x < 4294967296) : (bits .and .u32 (x : Int) (maskI k) == wantI k) = matchB k x := by
  obtain ⟨h1, h2⟩ := mask_eq k hk
  rw [h1, want_eq k hk, u32_and_nat x _ hx h2]
  unfold matchB
  rw [Bool.eq_iff_iff]
  simp only [beq_iff_eq]
  omega
theorem pairs_apart : ∀ j, j < 67 → ∀ k, k < 67 → j ≠ k → wantN (j + 1) &&& maskN (k + 1) ≠ wantN (k + 1) &&& maskN (j + 1) := by decide +kernel
theorem match_uniq (x j k : Nat) (hj : 1 ≤ j) (hj' : j ≤ 67) (hk : 1 ≤ k) (hk' : k ≤ 67) (h1 : matchB j x = true) (h2 : matchB k x = true) : j = k := by
  refine Classical.byContradiction fun hne => ?_
  unfold matchB at h1 h2
  simp only [beq_iff_eq] at h1 h2
  have := pairs_apart (j - 1) (by omega) (k - 1) (by omega) (by omega)
  rw [show j - 1 + 1 = j by omega, show k - 1 + 1 = k by omega, ← h1, ← h2] at this
  apply this
  rw [Nat.and_assoc, Nat.and_assoc, Nat.and_comm (maskN j)]
theorem opN_nat (j : Nat) (hj : j ≤ 67) : opN (j : Int) = j := by unfold opN; split <;> omega
theorem matches_at (k x : Nat) (hk : k ≤ 67) (hx : x < 4294967296) (w : World) (hL : Laid w) : Calls Tryz.prog 99 #[.agg #[.int .i64 (fmtAt k), .int .u32 (codeAt k), .int .u32 (fAt k), .int .u32 (gAt k)], .int .u32 x] w fun e w' => e = .returned (.bool (matchB k x)) ∧ Below w.heap.size w w' := by
  rw [← match_eq k x hk hx]
  exact matches_any k x w hL
abbrev Z25 : Obj := .cells #[.int .i64 0, .int .i64 0, .int .i64 0, .int .i64 0, .int .i64 0] 112
theorem keep1 {w w2 : World} {c : Array Value} {t : TypeId} (hb : Below (w.heap.size + 1) (w.alloc (.cells c t)) w2) :
    (∀ i, w2.cell? ⟨w.heap.size, i, none⟩ = c[i]?) ∧ (∀ i, w2.frozen? ⟨w.heap.size, i, none⟩ = false) ∧ w.heap.size < w2.heap.size ∧ Below w.heap.size w w2 := by
  have hs := hb.size
  simp only [World.size_alloc] at hs
  refine ⟨fun i => ?_, fun i => ?_, by omega, ((Below.refl _ _).alloc (Nat.le_refl _) _).trans (hb.mono (by omega))⟩
  · rw [hb.cell (p := ⟨w.heap.size, i, none⟩) (by show w.heap.size < _; omega)]
    exact World.cell?_alloc_new w c t i
  · rw [hb.frozen (p := ⟨w.heap.size, i, none⟩) (by show w.heap.size < _; omega)]
    exact World.frozen?_alloc_at c t _ i rfl
theorem keepA {w w2 : World} {c : Array Value} {t : TypeId} (hb : Below (w.alloc (.cells c t)).heap.size (w.alloc (.cells c t)) w2) :
    (∀ i, w2.cell? ⟨w.heap.size, i, none⟩ = c[i]?) ∧ (∀ i, w2.frozen? ⟨w.heap.size, i, none⟩ = false) ∧ w.heap.size < w2.heap.size ∧ Below w.heap.size w w2 := keep1 (hb.mono (by simp))
theorem chain_next {B : Nat} {a b c : World} (h : Below B a b) (hB : B ≤ b.heap.size) (h2 : Below b.heap.size b c) : Below B a c ∧ B ≤ c.heap.size := ⟨h.trans (h2.mono hB), Nat.le_trans hB h2.size⟩
set_option maxHeartbeats 1000000 in
theorem decode_some (x k : Nat) (hx : x < 4294967296) (hk1 : 1 ≤ k) (hk2 : k ≤ 67) (hm : matchB k x = true) (w : World) (hL : Laid w) : Calls Tryz.prog 79 #[.int .u32 x] w fun e w' => e = .returned (.tuple #[.agg #[.int .i64 k, .int .i64 (rdI (fmtAt k) x), .int .i64 (rs1I (fmtAt k) x), .int .i64 (rs2I (fmtAt k) x), .int .i64 (immI (fmtAt k) x)], .bool true]) ∧ Below w.heap.size w w' := by
  have HL : Hid (Laid w) := hL
  have HM : Hid (matchB k x = true) := hm
  clear hL hm
  go_enter Tryz.func79, Tryz.ntmps79
  go_wp2_with fail
  go_loopw [4] (fun v wr => ∃ j : Nat, 1 ≤ j ∧ j ≤ k ∧ v = .int .i64 j ∧ Below (w.heap.size + 1) (w.alloc Z25) wr) (fun v _ => 68 - (intOf v).toNat)
  case atStart => exact ⟨1, by omega, hk1, rfl, Below.refl _ _⟩
  case round =>
    obtain ⟨j, hj1, hj2, rfl, hbr⟩ := hrel
    obtain ⟨k1, k2, k3, k4⟩ := keep1 hbr
    have HB : Hid (Below (w.heap.size + 1) (w.alloc Z25) wr) := hbr
    have HLr : Hid (Laid wr) := HL.out.below k4
    have HO : Hid (opN (j : Int) = j) := opN_nat j (by omega)
    clear hbr k4
    by_cases hlt : j < k
    · have hno : matchB j x = false := by
        cases e : matchB j x
        · rfl
        · exact absurd (match_uniq x j k hj1 (by omega) hk1 hk2 e HM.out) (by omega)
      clear k1 k2
      go_wp2_with (first | (go_at_call 74; refine (shapeOf_out _ j HO.out _ HLr.out).mono ?_; rintro e w1 ⟨rfl, hb1⟩) | (go_at_call 99; refine (matches_at j x (by omega) hx _ ((HLr.out.below hb1).alloc _)).mono ?_; rintro e w2 ⟨rfl, hb2⟩))
      obtain ⟨b1, z1⟩ := chain_next HB.out (by omega) hb1
      obtain ⟨b2, z2⟩ := chain_next b1 z1 (keepA hb2).2.2.2
      go_roundw
      case rel => exact ⟨j + 1, by omega, by omega, by go_num, b2⟩
      case measure => simp [intOf]; omega
    · have hjk : j = k := by omega
      subst hjk
      have hyes := HM.out
      clear k1 k2
      have HZ : Hid (w.heap.size < wr.heap.size) := k3
      clear k3
      go_wp2_with (first | (go_at_call 74; refine (shapeOf_out _ j HO.out _ HLr.out).mono ?_; rintro e w1 ⟨rfl, hb1⟩) | (go_at_call 99; refine (matches_at j x (by omega) hx _ ((HLr.out.below hb1).alloc _)).mono ?_; rintro e w2 ⟨rfl, hb2⟩; obtain ⟨s1, s2, s3, s4⟩ := keepA hb2; clear hb2) | (go_at_call 100; refine (read_any (fmtAt j) (fmt_lt j) x hx _ ((HLr.out.below hb1).below s4)).mono ?_; rintro e w3 ⟨rfl, hb3⟩; obtain ⟨b1, z1⟩ := chain_next HB.out (HZ.out) hb1; obtain ⟨b2, z2⟩ := chain_next b1 z1 s4; obtain ⟨b3, z3⟩ := chain_next b2 z2 hb3; clear s1 s2 s4 b1 b2 hb1 hb3 z1 z2; obtain ⟨k1, k2, k3, k4⟩ := keep1 b3))
      refine bodyPost_ret (v := .tuple #[.agg #[.int .i64 j, .int .i64 (rdI (fmtAt j) x), .int .i64 (rs1I (fmtAt j) x), .int .i64 (rs2I (fmtAt j) x), .int .i64 (immI (fmtAt j) x)], .bool true]) (by simp [results, Tryz.results79, go_sem, k1, k3]) rfl ⟨rfl, ?_⟩
      exact (((((k4.setCell (Nat.le_refl _) _).setCell (Nat.le_refl _) _).setCell (Nat.le_refl _) _).setCell (Nat.le_refl _) _).setCell (Nat.le_refl _) _).alloc (by simp; omega) _
set_option maxHeartbeats 1000000 in
theorem decode_none (x : Nat) (hx : x < 4294967296) (hm : ∀ k, 1 ≤ k → k ≤ 67 → matchB k x = false) (w : World) (hL : Laid w) : Calls Tryz.prog 79 #[.int .u32 x] w fun e w' => e = .returned (.tuple #[.agg #[.int .i64 0, .int .i64 0, .int .i64 0, .int .i64 0, .int .i64 0], .bool false]) ∧ Below w.heap.size w w' := by
  have HL : Hid (Laid w) := hL
  have HM : Hid (∀ k, 1 ≤ k → k ≤ 67 → matchB k x = false) := hm
  clear hL hm
  go_enter Tryz.func79, Tryz.ntmps79
  go_wp2_with fail
  go_loopw [4] (fun v wr => ∃ j : Nat, 1 ≤ j ∧ j ≤ 68 ∧ v = .int .i64 j ∧ Below (w.heap.size + 1) (w.alloc Z25) wr) (fun v _ => 68 - (intOf v).toNat)
  case atStart => exact ⟨1, by omega, by omega, rfl, Below.refl _ _⟩
  case round =>
    obtain ⟨j, hj1, hj2, rfl, hbr⟩ := hrel
    obtain ⟨k1, k2, k3, k4⟩ := keep1 hbr
    have HB : Hid (Below (w.heap.size + 1) (w.alloc Z25) wr) := hbr
    have HLr : Hid (Laid wr) := HL.out.below k4
    have HK4 : Hid (Below w.heap.size w wr) := k4
    clear hbr k4
    by_cases hlt : j < 68
    · have HO : Hid (opN (j : Int) = j) := opN_nat j (by omega)
      have hno : matchB j x = false := HM.out j hj1 (by omega)
      clear k1 k2
      go_wp2_with (first | (go_at_call 74; refine (shapeOf_out _ j HO.out _ HLr.out).mono ?_; rintro e w1 ⟨rfl, hb1⟩) | (go_at_call 99; refine (matches_at j x (by omega) hx _ ((HLr.out.below hb1).alloc _)).mono ?_; rintro e w2 ⟨rfl, hb2⟩))
      obtain ⟨b1, z1⟩ := chain_next HB.out (by omega) hb1
      obtain ⟨b2, z2⟩ := chain_next b1 z1 (keepA hb2).2.2.2
      go_roundw
      case rel => exact ⟨j + 1, by omega, by omega, by go_num, b2⟩
      case measure => simp [intOf]; omega
    · have h67 : ¬ (j : Int) ≤ 67 := by omega
      go_wp2
      refine bodyPost_ret (v := .tuple #[.agg #[.int .i64 0, .int .i64 0, .int .i64 0, .int .i64 0, .int .i64 0], .bool false]) (by simp [results, Tryz.results79, go_sem, k1]) rfl ⟨rfl, ?_⟩
      exact ((((HK4.out.setCell (Nat.le_refl _) _).setCell (Nat.le_refl _) _).setCell (Nat.le_refl _) _).setCell (Nat.le_refl _) _).setCell (Nat.le_refl _) _
end Go.Proofs.YtnlagbiikpbjdaaGreatDoor
