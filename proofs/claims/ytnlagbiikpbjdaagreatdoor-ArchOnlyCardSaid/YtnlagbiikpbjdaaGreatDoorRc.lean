/-
  THE ANSWER's Decode.
-/
import Derived.Test.YtnlagbiikpbjdaaGreatDoorRb
namespace Go.Proofs.YtnlagbiikpbjdaaGreatDoor
open Go Go.RowKit
theorem fields_row (i : Nat) (hi : i < 67) (x : Nat) (hx : x < 4294967296) (w : World) : Calls Tryz.prog 111 #[.agg #[.string (nameAt i), .int .u8 (letAt i), .int .i64 (codeRAt i), .int .i64 (fRAt i), .int .i64 (gRAt i)], .int .u32 x] w fun e w' => e = .returned (.agg #[.int .i64 0, .int .i64 (rdI (fmtAt (i + 1)) x), .int .i64 (rs1I (fmtAt (i + 1)) x), .int .i64 (rs2I (fmtAt (i + 1)) x), .int .i64 (immI (fmtAt (i + 1)) x)]) ∧ Below w.heap.size w w' := by
  have hm := let_mem i hi
  rw [lf_fmt i hi]
  generalize letAt i = L at hm
  simp only [letters, List.mem_cons, List.not_mem_nil, or_false] at hm
  rcases hm with rfl | rfl | rfl | rfl | rfl | rfl | rfl | rfl | rfl | rfl | rfl | rfl | rfl | rfl
  · rw [show rdI (lf 85) x = (bN x 7 5 : Nat) from (regZ_bN x).1, show rs1I (lf 85) x = 0 from rfl, show rs2I (lf 85) x = 0 from rfl, show immI (lf 85) x = (bN x 12 20 : Nat) from imm_U x]
    exact fields_U _ _ _ _ x hx w
  · rw [show rdI (lf 74) x = (bN x 7 5 : Nat) from (regZ_bN x).1, show rs1I (lf 74) x = 0 from rfl, show rs2I (lf 74) x = 0 from rfl, show immI (lf 74) x = sgn (immJ x) 21 from imm_J x]
    exact fields_J _ _ _ _ x hx w
  · rw [show rdI (lf 73) x = (bN x 7 5 : Nat) from (regZ_bN x).1, show rs1I (lf 73) x = (bN x 15 5 : Nat) from (regZ_bN x).2.1, show rs2I (lf 73) x = 0 from rfl, show immI (lf 73) x = sgn (bN x 20 12) 12 from imm_I 3 x (Or.inl rfl)]
    exact fields_I _ _ _ _ x hx w
  · rw [show rdI (lf 76) x = (bN x 7 5 : Nat) from (regZ_bN x).1, show rs1I (lf 76) x = (bN x 15 5 : Nat) from (regZ_bN x).2.1, show rs2I (lf 76) x = 0 from rfl, show immI (lf 76) x = sgn (bN x 20 12) 12 from imm_I 4 x (Or.inr rfl)]
    exact fields_L _ _ _ _ x hx w
  · rw [show rdI (lf 66) x = 0 from rfl, show rs1I (lf 66) x = (bN x 15 5 : Nat) from (regZ_bN x).2.1, show rs2I (lf 66) x = (bN x 20 5 : Nat) from (regZ_bN x).2.2, show immI (lf 66) x = sgn (immB x) 13 from imm_B x]
    exact fields_B _ _ _ _ x hx w
  · rw [show rdI (lf 83) x = 0 from rfl, show rs1I (lf 83) x = (bN x 15 5 : Nat) from (regZ_bN x).2.1, show rs2I (lf 83) x = (bN x 20 5 : Nat) from (regZ_bN x).2.2, show immI (lf 83) x = sgn (immS x) 12 from imm_S x]
    exact fields_S _ _ _ _ x hx w
  · rw [show rdI (lf 72) x = (bN x 7 5 : Nat) from (regZ_bN x).1, show rs1I (lf 72) x = (bN x 15 5 : Nat) from (regZ_bN x).2.1, show rs2I (lf 72) x = 0 from rfl, show immI (lf 72) x = (bN x 20 5 : Nat) from imm_H x]
    exact fields_H _ _ _ _ x hx w
  · rw [show rdI (lf 82) x = (bN x 7 5 : Nat) from (regZ_bN x).1, show rs1I (lf 82) x = (bN x 15 5 : Nat) from (regZ_bN x).2.1, show rs2I (lf 82) x = (bN x 20 5 : Nat) from (regZ_bN x).2.2, show immI (lf 82) x = 0 from imm_0 8 x (Or.inr (Or.inl rfl))]
    exact fields_R _ _ _ _ x hx w
  · rw [show rdI (lf 65) x = (bN x 7 5 : Nat) from (regZ_bN x).1, show rs1I (lf 65) x = (bN x 15 5 : Nat) from (regZ_bN x).2.1, show rs2I (lf 65) x = (bN x 20 5 : Nat) from (regZ_bN x).2.2, show immI (lf 65) x = (bN x 25 2 : Nat) from imm_A 9 x (Or.inl rfl)]
    exact fields_A _ _ _ _ x hx w
  · rw [show rdI (lf 75) x = (bN x 7 5 : Nat) from (regZ_bN x).1, show rs1I (lf 75) x = (bN x 15 5 : Nat) from (regZ_bN x).2.1, show rs2I (lf 75) x = 0 from rfl, show immI (lf 75) x = (bN x 25 2 : Nat) from imm_A 10 x (Or.inr rfl)]
    exact fields_K _ _ _ _ x hx w
  · rw [show rdI (lf 70) x = 0 from rfl, show rs1I (lf 70) x = 0 from rfl, show rs2I (lf 70) x = 0 from rfl, show immI (lf 70) x = (bN x 20 8 : Nat) from imm_F x]
    exact fields_F _ _ _ _ x hx w
  · rw [show rdI (lf 78) x = 0 from rfl, show rs1I (lf 78) x = 0 from rfl, show rs2I (lf 78) x = 0 from rfl, show immI (lf 78) x = 0 from imm_0 12 x (Or.inr (Or.inr rfl))]
    exact fields_N _ _ _ _ x hx w
  · rw [show rdI (lf 67) x = (bN x 7 5 : Nat) from (regZ_bN x).1, show rs1I (lf 67) x = (bN x 15 5 : Nat) from (regZ_bN x).2.1, show rs2I (lf 67) x = 0 from rfl, show immI (lf 67) x = (bN x 20 12 : Nat) from imm_C 13 x (Or.inl rfl)]
    exact fields_C _ _ _ _ x hx w
  · rw [show rdI (lf 68) x = (bN x 7 5 : Nat) from (regZ_bN x).1, show rs1I (lf 68) x = (bN x 15 5 : Nat) from (regZ_bN x).2.1, show rs2I (lf 68) x = 0 from rfl, show immI (lf 68) x = (bN x 20 12 : Nat) from imm_C 14 x (Or.inr rfl)]
    exact fields_D _ _ _ _ x hx w
theorem rows_bd (i : Nat) (hi : i < 67) : (0 ≤ codeRAt i ∧ codeRAt i < 128) ∧ (0 ≤ fRAt i ∧ fRAt i < 8) ∧ (0 ≤ gRAt i ∧ gRAt i < 1024) := by
  have : ∀ i, i < 67 → (0 ≤ codeRAt i ∧ codeRAt i < 128) ∧ (0 ≤ fRAt i ∧ fRAt i < 8) ∧ (0 ≤ gRAt i ∧ gRAt i < 1024) := by decide
  exact this i hi
theorem fixed_row (i : Nat) (hi : i < 67) (w : World) : Calls Tryz.prog 110 #[.agg #[.string (nameAt i), .int .u8 (letAt i), .int .i64 (codeRAt i), .int .i64 (fRAt i), .int .i64 (gRAt i)]] w fun e w' => e = .returned (.tuple #[.int .u32 (maskN (i + 1) : Nat), .int .u32 (wantN (i + 1) : Nat)]) ∧ Below w.heap.size w w' := by
  have hb := rows_bd i hi
  have := fixed_let (nameAt i) (letAt i) (codeRAt i) (fRAt i) (gRAt i) (let_mem i hi) hb.1 hb.2.1 hb.2.2 w
  rw [(mw_eq i hi).1, (mw_eq i hi).2] at this
  exact this
abbrev Z29 : Obj := .cells #[.int .i64 0, .int .i64 0, .int .i64 0, .int .i64 0, .int .i64 0] 123
theorem match_at (k x : Nat) (hk : k ≤ 67) (hx : x < 4294967296) : (bits .and .u32 (x : Int) (maskN k : Nat) == (wantN k : Nat)) = matchB k x := by
  obtain ⟨h1, h2⟩ := mask_eq k hk
  have := match_eq k x hk hx
  rw [h1, want_eq k hk] at this
  exact this
set_option maxHeartbeats 1000000 in
theorem decodeR_some (x k : Nat) (hx : x < 4294967296) (hk2 : k < 67) (hm : matchB (k + 1) x = true) (w : World) : Calls Tryz.prog 92 #[.int .u32 x] w fun e w' => e = .returned (.tuple #[.agg #[.int .i64 (k + 1 : Nat), .int .i64 (rdI (fmtAt (k + 1)) x), .int .i64 (rs1I (fmtAt (k + 1)) x), .int .i64 (rs2I (fmtAt (k + 1)) x), .int .i64 (immI (fmtAt (k + 1)) x)], .bool true]) ∧ Below w.heap.size w w' := by
  have HM : Hid (matchB (k + 1) x = true) := hm
  clear hm
  go_enter Tryz.func92, Tryz.ntmps92
  go_wp2_with (go_at_call 61; refine (rows_made _).mono ?_; rintro e w1 ⟨rfl, hR, hb, hz⟩)
  have hR0 : RowsAt w1 (w.heap.size + 1) := by simpa using hR
  have hb0 : Below (w.heap.size + 1) (w.alloc Z29) w1 := hb.mono (by simp)
  clear hR hb hz
  go_loopw [5] (fun v wr => ∃ j : Nat, j ≤ k ∧ v = .int .i64 j ∧ Below (w.heap.size + 1) (w.alloc Z29) wr ∧ RowsAt wr (w.heap.size + 1)) (fun v _ => 68 - (intOf v).toNat)
  case atStart => exact ⟨0, Nat.zero_le _, rfl, hb0, hR0⟩
  case round =>
    clear hb0 hR0
    obtain ⟨j, hj2, rfl, hbr, hRr⟩ := hrel
    obtain ⟨k1, k2, k3, k4⟩ := keep1 hbr
    have c0 := hRr.r0 j (by omega)
    have c1 := hRr.r1 j (by omega)
    have c2 := hRr.r2 j (by omega)
    have c3 := hRr.r3 j (by omega)
    have c4 := hRr.r4 j (by omega)
    have HR : Hid (RowsAt wr (w.heap.size + 1)) := hRr
    have hz := hRr.here
    have HB : Hid (Below (w.heap.size + 1) (w.alloc Z29) wr) := hbr
    clear hbr k4 hRr
    by_cases hlt : j < k
    · have hno : matchB (j + 1) x = false := by
        cases e : matchB (j + 1) x
        · rfl
        · exact absurd (match_uniq x (j + 1) (k + 1) (by omega) (by omega) (by omega) (by omega) e HM.out) (by omega)
      have ht := match_at (j + 1) x (by omega) hx
      rw [hno] at ht
      clear k1 k2 hno
      go_wp2_with (go_at_call 110; refine (fixed_row j (by omega) _).mono ?_; rintro e w2 ⟨rfl, hb2⟩)
      obtain ⟨b1, z1⟩ := chain_next HB.out (by omega) hb2
      go_roundw
      case rel => exact ⟨j + 1, by omega, by go_num, b1, HR.out.below hz hb2⟩
      case measure => simp [intOf]; omega
    · have hjk : j = k := by omega
      subst hjk
      have ht := match_at (j + 1) x (by omega) hx
      rw [HM.out] at ht
      clear k1 k2
      have HZ : Hid (w.heap.size + 1 ≤ wr.heap.size) := by show _ ≤ _; omega
      have HZ1 : Hid (w.heap.size + 1 < wr.heap.size) := hz
      clear k3
      go_wp2_with (first | (go_at_call 110; refine (fixed_row j (by omega) _).mono ?_; rintro e w2 ⟨rfl, hb2⟩; have hR2 := HR.out.below HZ1.out hb2; have d0 := hR2.r0 j (by omega); have d1 := hR2.r1 j (by omega); have d2 := hR2.r2 j (by omega); have d3 := hR2.r3 j (by omega); have d4 := hR2.r4 j (by omega); clear hR2 c0 c1 c2 c3 c4) | (go_at_call 111; refine (fields_row j (by omega) x hx _).mono ?_; rintro e w3 ⟨rfl, hb3⟩; obtain ⟨b1, z1⟩ := chain_next HB.out (HZ.out) hb2; obtain ⟨b2, z2⟩ := chain_next b1 z1 hb3; clear d0 d1 d2 d3 d4 b1 z1 hb2 hb3; obtain ⟨k1, k2, k3, k4⟩ := keep1 b2))
      refine bodyPost_ret (v := .tuple #[.agg #[.int .i64 (j + 1 : Nat), .int .i64 (rdI (fmtAt (j + 1)) x), .int .i64 (rs1I (fmtAt (j + 1)) x), .int .i64 (rs2I (fmtAt (j + 1)) x), .int .i64 (immI (fmtAt (j + 1)) x)], .bool true]) (by simp [results, Tryz.results92, go_sem, k1, k3]) rfl ⟨rfl, ?_⟩
      exact (((((k4.setCell (Nat.le_refl _) _).setCell (Nat.le_refl _) _).setCell (Nat.le_refl _) _).setCell (Nat.le_refl _) _).setCell (Nat.le_refl _) _).alloc (by simp; omega) _
set_option maxHeartbeats 1000000 in
theorem decodeR_none (x : Nat) (hx : x < 4294967296) (hm : ∀ k, 1 ≤ k → k ≤ 67 → matchB k x = false) (w : World) : Calls Tryz.prog 92 #[.int .u32 x] w fun e w' => e = .returned (.tuple #[.agg #[.int .i64 0, .int .i64 0, .int .i64 0, .int .i64 0, .int .i64 0], .bool false]) ∧ Below w.heap.size w w' := by
  have HM : Hid (∀ k, 1 ≤ k → k ≤ 67 → matchB k x = false) := hm
  clear hm
  go_enter Tryz.func92, Tryz.ntmps92
  go_wp2_with (go_at_call 61; refine (rows_made _).mono ?_; rintro e w1 ⟨rfl, hR, hb, hz⟩)
  have hR0 : RowsAt w1 (w.heap.size + 1) := by simpa using hR
  have hb0 : Below (w.heap.size + 1) (w.alloc Z29) w1 := hb.mono (by simp)
  clear hR hb hz
  go_loopw [5] (fun v wr => ∃ j : Nat, j ≤ 67 ∧ v = .int .i64 j ∧ Below (w.heap.size + 1) (w.alloc Z29) wr ∧ RowsAt wr (w.heap.size + 1)) (fun v _ => 68 - (intOf v).toNat)
  case atStart => exact ⟨0, Nat.zero_le _, rfl, hb0, hR0⟩
  case round =>
    clear hb0 hR0
    obtain ⟨j, hj2, rfl, hbr, hRr⟩ := hrel
    obtain ⟨k1, k2, k3, k4⟩ := keep1 hbr
    have HR : Hid (RowsAt wr (w.heap.size + 1)) := hRr
    have hz := hRr.here
    have HB : Hid (Below (w.heap.size + 1) (w.alloc Z29) wr) := hbr
    have HK4 : Hid (Below w.heap.size w wr) := k4
    clear hbr k4 hRr
    by_cases hlt : j < 67
    · have hno : matchB (j + 1) x = false := HM.out (j + 1) (by omega) (by omega)
      have c0 := HR.out.r0 j (by omega)
      have c1 := HR.out.r1 j (by omega)
      have c2 := HR.out.r2 j (by omega)
      have c3 := HR.out.r3 j (by omega)
      have c4 := HR.out.r4 j (by omega)
      have ht := match_at (j + 1) x (by omega) hx
      rw [hno] at ht
      clear k1 k2 hno
      go_wp2_with (go_at_call 110; refine (fixed_row j (by omega) _).mono ?_; rintro e w2 ⟨rfl, hb2⟩)
      obtain ⟨b1, z1⟩ := chain_next HB.out (by omega) hb2
      go_roundw
      case rel => exact ⟨j + 1, by omega, by go_num, b1, HR.out.below hz hb2⟩
      case measure => simp [intOf]; omega
    · go_wp2
      refine bodyPost_ret (v := .tuple #[.agg #[.int .i64 0, .int .i64 0, .int .i64 0, .int .i64 0, .int .i64 0], .bool false]) (by simp [results, Tryz.results92, go_sem, k1]) rfl ⟨rfl, ?_⟩
      exact ((((HK4.out.setCell (Nat.le_refl _) _).setCell (Nat.le_refl _) _).setCell (Nat.le_refl _) _).setCell (Nat.le_refl _) _).setCell (Nat.le_refl _) _
end Go.Proofs.YtnlagbiikpbjdaaGreatDoor
