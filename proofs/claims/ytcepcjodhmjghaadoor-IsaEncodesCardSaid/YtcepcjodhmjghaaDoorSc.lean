/-
  THE ANSWER's Encode.
-/
import Derived.Test.YtcepcjodhmjghaaDoorSa
import Derived.Test.YtcepcjodhmjghaaDoorRc
namespace Go.Proofs.YtcepcjodhmjghaaDoor
open Go Go.RowKit
theorem Hid.in4 {p : Prop} (h : p) : Hid p := h
set_option maxRecDepth 100000 in
set_option maxHeartbeats 2000000 in
theorem encR_bad (op rd rs1 rs2 imm : Int) (h : op < 1 ∨ 67 < op ∨ rd < 0 ∨ 31 < rd ∨ rs1 < 0 ∨ 31 < rs1 ∨ rs2 < 0 ∨ 31 < rs2) (w : World) :
    Calls Tryd.prog 12 #[.agg #[.int .i64 op, .int .i64 rd, .int .i64 rs1, .int .i64 rs2, .int .i64 imm]] w fun e w' => e = .returned (.tuple #[.int .u32 0, .bool false]) ∧ Below w.heap.size w w' := by
  by_cases h1 : op < 1
  · clear h
    go_enter Tryd.func12, Tryd.ntmps12
    go_wp2
    go_ret2
    exact ⟨rfl, (Below.refl _ _).alloc (Nat.le_refl _) _⟩
  by_cases h2 : 67 < op
  · clear h
    go_enter Tryd.func12, Tryd.ntmps12
    go_wp2
    go_ret2
    exact ⟨rfl, (Below.refl _ _).alloc (Nat.le_refl _) _⟩
  by_cases h3 : rd < 0
  · clear h
    go_enter Tryd.func12, Tryd.ntmps12
    go_wp2
    go_ret2
    exact ⟨rfl, (Below.refl _ _).alloc (Nat.le_refl _) _⟩
  by_cases h4 : 31 < rd
  · clear h
    go_enter Tryd.func12, Tryd.ntmps12
    go_wp2
    go_ret2
    exact ⟨rfl, (Below.refl _ _).alloc (Nat.le_refl _) _⟩
  by_cases h5 : rs1 < 0
  · clear h
    go_enter Tryd.func12, Tryd.ntmps12
    go_wp2
    go_ret2
    exact ⟨rfl, (Below.refl _ _).alloc (Nat.le_refl _) _⟩
  by_cases h6 : 31 < rs1
  · clear h
    go_enter Tryd.func12, Tryd.ntmps12
    go_wp2
    go_ret2
    exact ⟨rfl, (Below.refl _ _).alloc (Nat.le_refl _) _⟩
  by_cases h7 : rs2 < 0
  · clear h
    go_enter Tryd.func12, Tryd.ntmps12
    go_wp2
    go_ret2
    exact ⟨rfl, (Below.refl _ _).alloc (Nat.le_refl _) _⟩
  have h8 : 31 < rs2 := by omega
  clear h
  go_enter Tryd.func12, Tryd.ntmps12
  go_wp2
  go_ret2
  exact ⟨rfl, (Below.refl _ _).alloc (Nat.le_refl _) _⟩
set_option maxRecDepth 100000 in
set_option maxHeartbeats 2000000 in
theorem encR_yes (i : Nat) (hi : i < 67) (imm : Int) (rd rs1 rs2 v X : Nat) (h1 : rd < 32) (h2 : rs1 < 32) (h3 : rs2 < 32) (hv : imm % 4294967296 = (v : Int)) (hv2 : v < 4294967296) (hX : bits .or .u32 (wantN (i + 1) : Nat) (spI (letAt i) rd rs1 rs2 v) = (X : Nat))
    (h9 : ∀ w, Calls Tryd.prog 9 #[.int .u32 X] w fun r w' => r = .returned (.tuple #[.agg #[.int .i64 ((i : Int) + 1), .int .i64 rd, .int .i64 rs1, .int .i64 rs2, .int .i64 imm], .bool true]) ∧ Below w.heap.size w w') (w : World) :
    Calls Tryd.prog 12 #[.agg #[.int .i64 ((i : Int) + 1), .int .i64 rd, .int .i64 rs1, .int .i64 rs2, .int .i64 imm]] w fun e w' => e = .returned (.tuple #[.int .u32 X, .bool true]) ∧ Below w.heap.size w w' := by
  have H9 := Hid.in4 h9
  have HV := Hid.in4 hv
  clear h9 hv
  go_enter Tryd.func12, Tryd.ntmps12
  go_wp2_with (first | (go_at_call 22; refine (rows_made _).mono ?_; rintro r w1 ⟨rfl, hR, hb, hz⟩; obtain ⟨k1, k2, k3, k4⟩ := keepA hb; simp only [World.size_alloc] at hR; have c0 := hR.r0 i hi; have c1 := hR.r1 i hi; have c2 := hR.r2 i hi; have c3 := hR.r3 i hi; have c4 := hR.r4 i hi; clear hR hb hz k2) | (go_at_call 23; refine (fixed_row i hi _).mono ?_; rintro r w2 ⟨rfl, hb2⟩; obtain ⟨s1, s2, s3, s4⟩ := keepA hb2; have m1 := kept1 k1 k3 s4; obtain ⟨b2, z2⟩ := chain_next k4 k4.size s4; have y2 := Nat.lt_of_lt_of_le k3 s4.size; clear hb2 s2 k1 c0 c1 c2 c3 c4) | (go_at_call 28; refine (spread_let _ _ _ _ _ _ _ (let_mem i hi) rd rs1 rs2 v h1 h2 h3 HV.out hv2 _).mono ?_; rintro r w3 ⟨rfl, hb3⟩; have m3 := kept1 m1 y2 hb3; obtain ⟨b3, z3⟩ := chain_next b2 z2 hb3; have y3 := Nat.lt_of_lt_of_le y2 hb3.size; clear hb3 m1 s1) | (go_at_call 9; refine (H9.out _).mono ?_; rintro r w4 ⟨rfl, hb4⟩; have m4 := kept1 m3 y3 hb4; obtain ⟨b4, z4⟩ := chain_next b3 z3 hb4; have y4 := Nat.lt_of_lt_of_le y3 hb4.size; clear hb4 m3))
  go_ret2
  exact ⟨rfl, b4.alloc z4 _⟩
set_option maxRecDepth 100000 in
set_option maxHeartbeats 2000000 in
theorem encR_none (i : Nat) (hi : i < 67) (imm : Int) (rd rs1 rs2 v X : Nat) (h1 : rd < 32) (h2 : rs1 < 32) (h3 : rs2 < 32) (hv : imm % 4294967296 = (v : Int)) (hv2 : v < 4294967296) (hX : bits .or .u32 (wantN (i + 1) : Nat) (spI (letAt i) rd rs1 rs2 v) = (X : Nat))
    (a b c d e : Int) (h9 : ∀ w, Calls Tryd.prog 9 #[.int .u32 X] w fun r w' => r = .returned (.tuple #[.agg #[.int .i64 a, .int .i64 b, .int .i64 c, .int .i64 d, .int .i64 e], .bool false]) ∧ Below w.heap.size w w') (w : World) :
    Calls Tryd.prog 12 #[.agg #[.int .i64 ((i : Int) + 1), .int .i64 rd, .int .i64 rs1, .int .i64 rs2, .int .i64 imm]] w fun e w' => e = .returned (.tuple #[.int .u32 0, .bool false]) ∧ Below w.heap.size w w' := by
  have H9 := Hid.in4 h9
  have HV := Hid.in4 hv
  clear h9 hv
  go_enter Tryd.func12, Tryd.ntmps12
  go_wp2_with (first | (go_at_call 22; refine (rows_made _).mono ?_; rintro r w1 ⟨rfl, hR, hb, hz⟩; obtain ⟨k1, k2, k3, k4⟩ := keepA hb; simp only [World.size_alloc] at hR; have c0 := hR.r0 i hi; have c1 := hR.r1 i hi; have c2 := hR.r2 i hi; have c3 := hR.r3 i hi; have c4 := hR.r4 i hi; clear hR hb hz k2) | (go_at_call 23; refine (fixed_row i hi _).mono ?_; rintro r w2 ⟨rfl, hb2⟩; obtain ⟨s1, s2, s3, s4⟩ := keepA hb2; have m1 := kept1 k1 k3 s4; obtain ⟨b2, z2⟩ := chain_next k4 k4.size s4; have y2 := Nat.lt_of_lt_of_le k3 s4.size; clear hb2 s2 k1 c0 c1 c2 c3 c4) | (go_at_call 28; refine (spread_let _ _ _ _ _ _ _ (let_mem i hi) rd rs1 rs2 v h1 h2 h3 HV.out hv2 _).mono ?_; rintro r w3 ⟨rfl, hb3⟩; have m3 := kept1 m1 y2 hb3; obtain ⟨b3, z3⟩ := chain_next b2 z2 hb3; have y3 := Nat.lt_of_lt_of_le y2 hb3.size; clear hb3 m1 s1) | (go_at_call 9; refine (H9.out _).mono ?_; rintro r w4 ⟨rfl, hb4⟩; have m4 := kept1 m3 y3 hb4; obtain ⟨b4, z4⟩ := chain_next b3 z3 hb4; have y4 := Nat.lt_of_lt_of_le y3 hb4.size; clear hb4 m3))
  go_ret2
  exact ⟨rfl, b4.alloc z4 _⟩
set_option maxRecDepth 100000 in
set_option maxHeartbeats 2000000 in
theorem encR_no (i : Nat) (hi : i < 67) (imm : Int) (rd rs1 rs2 v X : Nat) (h1 : rd < 32) (h2 : rs1 < 32) (h3 : rs2 < 32) (hv : imm % 4294967296 = (v : Int)) (hv2 : v < 4294967296) (hX : bits .or .u32 (wantN (i + 1) : Nat) (spI (letAt i) rd rs1 rs2 v) = (X : Nat))
    (a b c d e : Int) (hne : ¬ (a = (i : Int) + 1 ∧ b = rd ∧ c = rs1 ∧ d = rs2 ∧ e = imm)) (h9 : ∀ w, Calls Tryd.prog 9 #[.int .u32 X] w fun r w' => r = .returned (.tuple #[.agg #[.int .i64 a, .int .i64 b, .int .i64 c, .int .i64 d, .int .i64 e], .bool true]) ∧ Below w.heap.size w w') (w : World) :
    Calls Tryd.prog 12 #[.agg #[.int .i64 ((i : Int) + 1), .int .i64 rd, .int .i64 rs1, .int .i64 rs2, .int .i64 imm]] w fun e w' => e = .returned (.tuple #[.int .u32 0, .bool false]) ∧ Below w.heap.size w w' := by
  have H9 := Hid.in4 h9
  have HV := Hid.in4 hv
  clear h9 hv
  have HN := Hid.in4 hne
  clear hne
  go_enter Tryd.func12, Tryd.ntmps12
  go_wp2_with (first | (go_at_call 22; refine (rows_made _).mono ?_; rintro r w1 ⟨rfl, hR, hb, hz⟩; obtain ⟨k1, k2, k3, k4⟩ := keepA hb; simp only [World.size_alloc] at hR; have c0 := hR.r0 i hi; have c1 := hR.r1 i hi; have c2 := hR.r2 i hi; have c3 := hR.r3 i hi; have c4 := hR.r4 i hi; clear hR hb hz k2) | (go_at_call 23; refine (fixed_row i hi _).mono ?_; rintro r w2 ⟨rfl, hb2⟩; obtain ⟨s1, s2, s3, s4⟩ := keepA hb2; have m1 := kept1 k1 k3 s4; obtain ⟨b2, z2⟩ := chain_next k4 k4.size s4; have y2 := Nat.lt_of_lt_of_le k3 s4.size; clear hb2 s2 k1 c0 c1 c2 c3 c4) | (go_at_call 28; refine (spread_let _ _ _ _ _ _ _ (let_mem i hi) rd rs1 rs2 v h1 h2 h3 HV.out hv2 _).mono ?_; rintro r w3 ⟨rfl, hb3⟩; have m3 := kept1 m1 y2 hb3; obtain ⟨b3, z3⟩ := chain_next b2 z2 hb3; have y3 := Nat.lt_of_lt_of_le y2 hb3.size; clear hb3 m1 s1) | (go_at_call 9; refine (H9.out _).mono ?_; rintro r w4 ⟨rfl, hb4⟩; have m4 := kept1 m3 y3 hb4; obtain ⟨b4, z4⟩ := chain_next b3 z3 hb4; have y4 := Nat.lt_of_lt_of_le y3 hb4.size; clear hb4 m3))
  all_goals first | (exfalso; exact HN.out ⟨by assumption, by assumption, by assumption, by assumption, by assumption⟩) | (go_ret2; exact ⟨rfl, b4.alloc z4 _⟩)
end Go.Proofs.YtcepcjodhmjghaaDoor
