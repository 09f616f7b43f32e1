import Derived.Test.YtnlagbiikpbjdaaGreatDoorXu1
import Derived.Deep.RegionHeld3
import Derived.Deep.RegionWith
import Derived.Test.YtnlagbiikpbjdaaGreatDoorWi
/-
  THE PROGRAM's HART: what a register becomes.
-/
namespace Go.Proofs.YtnlagbiikpbjdaaGreatDoor
open Go Go.RowKit
theorem keepT2 {B : Nat} {x y : World} {Z : Array Value} (z : ∀ i, x.cell? ⟨B, i, none⟩ = Z[i]?) (s : B < x.heap.size) (hb : Below x.heap.size x y) : (∀ i, y.cell? ⟨B, i, none⟩ = Z[i]?) ∧ B < y.heap.size :=
  ⟨fun i => (hb.cell (p := ⟨B, i, none⟩) s).trans (z i), Nat.lt_of_lt_of_le s hb.size⟩
set_option maxHeartbeats 1000000 in
theorem result_c0 (p : Nat) (cv : Value) (S : HS) (op rd : Int) (rs1 rs2 : Nat) (imm : Int) (v : Int) (held : Bool) (w : World) (h : PH w p cv S) (hL : Laid w) (hc : clR op = 0) (hr : rs1 < 32) (hs : rs2 < 32) (hA : U32 (S.oprA op rs1)) (hB : U32 (S.oprB op rs2 imm)) : Calls Tryz.prog 54 #[.pointer (some ⟨p, 0, none⟩), .agg #[.int .i64 op, .int .i64 rd, .int .i64 rs1, .int .i64 rs2, .int .i64 imm], .int .u32 v, .bool held] w fun e w' => e = .returned (.int .u32 (exI op (S.oprA op rs1) (S.oprB op rs2 imm))) ∧ Below w.heap.size w w' := by
  have h3 := h.here
  have HH : Hid (PH w p cv S) := h
  have HL : Hid (Laid w) := hL
  clear h hL
  go_enter Tryz.func54, Tryz.ntmps54
  go_wp2_with (first
    | (go_at_call 44; refine (p_class _ _ (HL.out.alloc _)).mono ?_; rintro e w1 ⟨rfl, hb1⟩; rw [hc]; obtain ⟨k1, k2, k3, k4⟩ := keepB hb1; have h31 := Nat.lt_of_lt_of_le h3 k4.size)
    | (go_at_call 84; refine (operands_any p cv S _ _ _ _ _ _ (HH.out.below k4) (HL.out.below k4) hr hs).mono ?_; rintro e w2 ⟨rfl, hb2⟩; obtain ⟨m1, m2⟩ := keepT2 k1 k3 hb2)
    | (go_at_call 85; refine (p_exec _ _ _ _ hA hB).mono ?_; rintro e w3 ⟨rfl, hb3⟩))
  go_ret
  exact ⟨rfl, below2 (below2 k4 hb2) hb3⟩
set_option maxHeartbeats 1000000 in
theorem result_c1 (p : Nat) (cv : Value) (S : HS) (op rd : Int) (rs1 rs2 : Nat) (imm : Int) (v : Int) (held : Bool) (w : World) (h : PH w p cv S) (hL : Laid w) (hc : clR op = 1) (hr : rs1 < 32) (hs : rs2 < 32) (hA : U32 (S.oprA op rs1)) (hB : U32 (S.oprB op rs2 imm)) : Calls Tryz.prog 54 #[.pointer (some ⟨p, 0, none⟩), .agg #[.int .i64 op, .int .i64 rd, .int .i64 rs1, .int .i64 rs2, .int .i64 imm], .int .u32 v, .bool held] w fun e w' => e = .returned (.int .u32 (exI op (S.oprA op rs1) (S.oprB op rs2 imm))) ∧ Below w.heap.size w w' := by
  have h3 := h.here
  have HH : Hid (PH w p cv S) := h
  have HL : Hid (Laid w) := hL
  clear h hL
  go_enter Tryz.func54, Tryz.ntmps54
  go_wp2_with (first
    | (go_at_call 44; refine (p_class _ _ (HL.out.alloc _)).mono ?_; rintro e w1 ⟨rfl, hb1⟩; rw [hc]; obtain ⟨k1, k2, k3, k4⟩ := keepB hb1; have h31 := Nat.lt_of_lt_of_le h3 k4.size)
    | (go_at_call 84; refine (operands_any p cv S _ _ _ _ _ _ (HH.out.below k4) (HL.out.below k4) hr hs).mono ?_; rintro e w2 ⟨rfl, hb2⟩; obtain ⟨m1, m2⟩ := keepT2 k1 k3 hb2)
    | (go_at_call 85; refine (p_exec _ _ _ _ hA hB).mono ?_; rintro e w3 ⟨rfl, hb3⟩))
  go_ret
  exact ⟨rfl, below2 (below2 k4 hb2) hb3⟩
set_option maxHeartbeats 1000000 in
theorem result_c3 (p : Nat) (cv : Value) (S : HS) (op rd : Int) (rs1 rs2 : Nat) (imm : Int) (v : Int) (held : Bool) (w : World) (h : PH w p cv S) (hL : Laid w) (hc : clR op = 3) : Calls Tryz.prog 54 #[.pointer (some ⟨p, 0, none⟩), .agg #[.int .i64 op, .int .i64 rd, .int .i64 rs1, .int .i64 rs2, .int .i64 imm], .int .u32 v, .bool held] w fun e w' => e = .returned (.int .u32 ((S.pc + 4) % 4294967296)) ∧ Below w.heap.size w w' := by
  have cpc : w.cell? ⟨p, 11, none⟩ = some (.int .u32 S.pc) := h.cell 11 (by decide)
  have h3 := h.here
  have HH : Hid (PH w p cv S) := h
  have HL : Hid (Laid w) := hL
  clear h hL
  go_enter Tryz.func54, Tryz.ntmps54
  go_wp2_with (first
    | (go_at_call 44; refine (p_class _ _ (HL.out.alloc _)).mono ?_; rintro e w1 ⟨rfl, hb1⟩; rw [hc]; obtain ⟨k1, k2, k3, k4⟩ := keepB hb1; have h31 := Nat.lt_of_lt_of_le h3 k4.size; have cpc1 : w1.cell? ⟨p, 11, none⟩ = some (.int .u32 S.pc) := (k4.cell (p := ⟨p, 11, none⟩) h3).trans cpc))
  go_ret
  exact ⟨rfl, k4⟩
set_option maxHeartbeats 1000000 in
theorem result_c4 (p : Nat) (cv : Value) (S : HS) (op rd : Int) (rs1 rs2 : Nat) (imm : Int) (v : Int) (held : Bool) (w : World) (h : PH w p cv S) (hL : Laid w) (hc : clR op = 4) : Calls Tryz.prog 54 #[.pointer (some ⟨p, 0, none⟩), .agg #[.int .i64 op, .int .i64 rd, .int .i64 rs1, .int .i64 rs2, .int .i64 imm], .int .u32 v, .bool held] w fun e w' => e = .returned (.int .u32 (wdI op v)) ∧ Below w.heap.size w w' := by
  have h3 := h.here
  have HH : Hid (PH w p cv S) := h
  have HL : Hid (Laid w) := hL
  clear h hL
  go_enter Tryz.func54, Tryz.ntmps54
  go_wp2_with (first
    | (go_at_call 44; refine (p_class _ _ (HL.out.alloc _)).mono ?_; rintro e w1 ⟨rfl, hb1⟩; rw [hc]; obtain ⟨k1, k2, k3, k4⟩ := keepB hb1; have h31 := Nat.lt_of_lt_of_le h3 k4.size)
    | (go_at_call 86; refine (p_widen _ _ _ (HL.out.below k4)).mono ?_; rintro e w3 ⟨rfl, hb3⟩))
  go_ret
  exact ⟨rfl, below2 k4 hb3⟩
set_option maxHeartbeats 1000000 in
theorem result_c6s (p : Nat) (cv : Value) (S : HS) (op rd : Int) (rs1 rs2 : Nat) (imm : Int) (v : Int) (held : Bool) (w : World) (h : PH w p cv S) (hL : Laid w) (hc : clR op = 6) (ho : op = 47) : Calls Tryz.prog 54 #[.pointer (some ⟨p, 0, none⟩), .agg #[.int .i64 op, .int .i64 rd, .int .i64 rs1, .int .i64 rs2, .int .i64 imm], .int .u32 v, .bool held] w fun e w' => e = .returned (.int .u32 (if held then 0 else 1)) ∧ Below w.heap.size w w' := by
  have h3 := h.here
  have HH : Hid (PH w p cv S) := h
  have HL : Hid (Laid w) := hL
  clear h hL
  obtain ⟨r, hr⟩ : ∃ r : Int, (if held then 0 else 1) = r := ⟨_, rfl⟩
  rw [hr]
  subst ho
  go_enter Tryz.func54, Tryz.ntmps54
  go_wp2_with (first
    | (go_at_call 44; refine (p_class _ _ (HL.out.alloc _)).mono ?_; rintro e w1 ⟨rfl, hb1⟩; rw [hc]; obtain ⟨k1, k2, k3, k4⟩ := keepB hb1; have h31 := Nat.lt_of_lt_of_le h3 k4.size)
    | (go_at_call 87; refine (missed_any _ _).mono ?_; rintro e w3 ⟨rfl, rfl⟩; rw [hr]))
  go_ret
  exact ⟨rfl, k4⟩
set_option maxHeartbeats 1000000 in
theorem result_c6 (p : Nat) (cv : Value) (S : HS) (op rd : Int) (rs1 rs2 : Nat) (imm : Int) (v : Int) (held : Bool) (w : World) (h : PH w p cv S) (hL : Laid w) (hc : clR op = 6) (ho : (op == 47) = false) : Calls Tryz.prog 54 #[.pointer (some ⟨p, 0, none⟩), .agg #[.int .i64 op, .int .i64 rd, .int .i64 rs1, .int .i64 rs2, .int .i64 imm], .int .u32 v, .bool held] w fun e w' => e = .returned (.int .u32 (v)) ∧ Below w.heap.size w w' := by
  have h3 := h.here
  have HH : Hid (PH w p cv S) := h
  have HL : Hid (Laid w) := hL
  clear h hL
  go_enter Tryz.func54, Tryz.ntmps54
  go_wp2_with (first
    | (go_at_call 44; refine (p_class _ _ (HL.out.alloc _)).mono ?_; rintro e w1 ⟨rfl, hb1⟩; rw [hc]; obtain ⟨k1, k2, k3, k4⟩ := keepB hb1; have h31 := Nat.lt_of_lt_of_le h3 k4.size))
  go_ret
  exact ⟨rfl, k4⟩
set_option maxHeartbeats 1000000 in
theorem result_c7 (p : Nat) (cv : Value) (S : HS) (op rd : Int) (rs1 rs2 : Nat) (imm : Int) (v : Int) (held : Bool) (w : World) (h : PH w p cv S) (hL : Laid w) (hc : clR op = 7) : Calls Tryz.prog 54 #[.pointer (some ⟨p, 0, none⟩), .agg #[.int .i64 op, .int .i64 rd, .int .i64 rs1, .int .i64 rs2, .int .i64 imm], .int .u32 v, .bool held] w fun e w' => e = .returned (.int .u32 (S.csrV imm)) ∧ Below w.heap.size w w' := by
  have h3 := h.here
  have HH : Hid (PH w p cv S) := h
  have HL : Hid (Laid w) := hL
  clear h hL
  go_enter Tryz.func54, Tryz.ntmps54
  go_wp2_with (first
    | (go_at_call 44; refine (p_class _ _ (HL.out.alloc _)).mono ?_; rintro e w1 ⟨rfl, hb1⟩; rw [hc]; obtain ⟨k1, k2, k3, k4⟩ := keepB hb1; have h31 := Nat.lt_of_lt_of_le h3 k4.size)
    | (go_at_call 35; refine (pcsr_any p cv S _ _ (HH.out.below k4)).mono ?_; rintro e w3 ⟨rfl, rfl⟩))
  go_ret
  exact ⟨rfl, k4⟩
end Go.Proofs.YtnlagbiikpbjdaaGreatDoor
/-
  THE PROGRAM's HART: what is wrong with an instruction.
-/
namespace Go.Proofs.YtnlagbiikpbjdaaGreatDoor
open Go Go.RowKit
theorem fine_any (w : World) : Calls Tryz.prog 104 #[] w fun e w' => e = .returned (.agg #[.int .i64 (-1), .int .u32 0]) ∧ Below w.heap.size w w' := by
  go_enter Tryz.func104, Tryz.ntmps104
  go_wp2
  exact bodyPost_ret (v := .agg #[.int .i64 (-1), .int .u32 0]) (by simp [results, Tryz.results104, go_sem]) rfl ⟨rfl, (Below.refl _ _).alloc (Nat.le_refl _) _⟩
/-- what is wrong with an address -/
def HS.pfa (S : HS) (op x : Int) : Int := if x % szI op != 0 then (if loadB op then 4 else 6) else if S.hasB op x then -1 else (if loadB op then 5 else 7)
theorem sz_cases (op : Int) : szI op = 0 ∨ szI op = 1 ∨ szI op = 2 ∨ szI op = 4 := by
  unfold szI
  split
  · unfold szN
    split <;> simp
  · simp
theorem keep2g {w w2 : World} {I Z : Array Value} {t u : TypeId} (hb : Below ((w.alloc (.cells I t)).alloc (.cells Z u)).heap.size ((w.alloc (.cells I t)).alloc (.cells Z u)) w2) :
    (∀ i, w2.cell? ⟨w.heap.size, i, none⟩ = I[i]?) ∧ (∀ i, w2.frozen? ⟨w.heap.size, i, none⟩ = false) ∧ (∀ i, w2.cell? ⟨w.heap.size + 1, i, none⟩ = Z[i]?) ∧ (∀ i, w2.frozen? ⟨w.heap.size + 1, i, none⟩ = false) ∧ w.heap.size + 1 < w2.heap.size ∧ Below w.heap.size w w2 := by
  have hs := hb.size
  simp only [World.size_alloc] at hs
  have q1 : ∀ i, ((w.alloc (.cells I t)).alloc (.cells Z u)).cell? ⟨w.heap.size, i, none⟩ = I[i]? := fun i => (alloc_old (by simp)).trans (World.cell?_alloc_new w I t i)
  have q2 : ∀ i, ((w.alloc (.cells I t)).alloc (.cells Z u)).cell? ⟨w.heap.size + 1, i, none⟩ = Z[i]? := fun i => by first | simp | simpa using World.cell?_alloc_new (w.alloc (.cells I t)) Z u i
  have r1 : ∀ i, ((w.alloc (.cells I t)).alloc (.cells Z u)).frozen? ⟨w.heap.size, i, none⟩ = false := fun i => (alloc_oldf (by simp)).trans (World.frozen?_alloc_at I t _ i rfl)
  have r2 : ∀ i, ((w.alloc (.cells I t)).alloc (.cells Z u)).frozen? ⟨w.heap.size + 1, i, none⟩ = false := fun i => World.frozen?_alloc_at Z u _ i (by simp)
  exact ⟨fun i => (hb.cell (p := ⟨w.heap.size, i, none⟩) (by simp <;> omega)).trans (q1 i), fun i => (hb.frozen (p := ⟨w.heap.size, i, none⟩) (by simp <;> omega)).trans (r1 i), fun i => (hb.cell (p := ⟨w.heap.size + 1, i, none⟩) (by simp)).trans (q2 i), fun i => (hb.frozen (p := ⟨w.heap.size + 1, i, none⟩) (by simp)).trans (r2 i), by omega, (((Below.refl _ _).alloc (Nat.le_refl _) _).alloc (by simp) _).trans (hb.mono (by simp <;> omega))⟩
theorem keep2h {B : Nat} {x y : World} {I Z : Array Value} (a : ∀ i, x.cell? ⟨B, i, none⟩ = I[i]?) (b : ∀ i, x.frozen? ⟨B, i, none⟩ = false) (c : ∀ i, x.cell? ⟨B + 1, i, none⟩ = Z[i]?) (d : ∀ i, x.frozen? ⟨B + 1, i, none⟩ = false) (s : B + 1 < x.heap.size) (hb : Below x.heap.size x y) :
    (∀ i, y.cell? ⟨B, i, none⟩ = I[i]?) ∧ (∀ i, y.frozen? ⟨B, i, none⟩ = false) ∧ (∀ i, y.cell? ⟨B + 1, i, none⟩ = Z[i]?) ∧ (∀ i, y.frozen? ⟨B + 1, i, none⟩ = false) ∧ B + 1 < y.heap.size :=
  ⟨fun i => (hb.cell (p := ⟨B, i, none⟩) (by show B < _; omega)).trans (a i), fun i => (hb.frozen (p := ⟨B, i, none⟩) (by show B < _; omega)).trans (b i), fun i => (hb.cell (p := ⟨B + 1, i, none⟩) s).trans (c i), fun i => (hb.frozen (p := ⟨B + 1, i, none⟩) s).trans (d i), Nat.lt_of_lt_of_le s hb.size⟩
set_option maxHeartbeats 4000000 in
theorem fa_1_h (p : Nat) (cv : Value) (S : HS) (op rd : Int) (rs1 rs2 : Nat) (imm : Int) (x : Int) (w : World) (h : PH w p cv S) (hL : Laid w) (hr : rs1 < 32) (hX : S.whereI op rs1 imm = x) (hn : szI op = 1) (hh : S.hasB op x = true) : Calls Tryz.prog 103 #[.pointer (some ⟨p, 0, none⟩), .agg #[.int .i64 op, .int .i64 rd, .int .i64 rs1, .int .i64 rs2, .int .i64 imm]] w fun e w' => e = .returned (.agg #[.int .i64 (-1), .int .u32 0]) ∧ Below w.heap.size w w' := by
  have HH : Hid (PH w p cv S) := h
  have HL : Hid (Laid w) := hL
  clear h hL
  obtain ⟨c, hc⟩ : ∃ c, clR op = c := ⟨_, rfl⟩
  try unfold loadB
  try rw [hc]
  cases l1 : (c == 4)
  · cases l2 : (op == 46)
    all_goals
      go_enter Tryz.func103, Tryz.ntmps103
      go_wp2_with (first
    | (go_at_call 50; refine (paddr_any p cv S _ _ _ _ _ _ ((HH.out.alloc _).alloc _) ((HL.out.alloc _).alloc _) hr).mono ?_; rintro e w1 ⟨rfl, hb1⟩; rw [hX]; obtain ⟨m1, n1, k1, j1, l1, o1⟩ := keep2g hb1)
    | (go_at_call 44; refine (p_class _ _ (HL.out.below o1)).mono ?_; rintro e w2 ⟨rfl, hb2⟩; rw [hc]; obtain ⟨m2, n2, k2, j2, l2⟩ := keep2h m1 n1 k1 j1 l1 hb2; have o2 := below2 o1 hb2)
    | (go_at_call 49; refine (p_size _ _ (HL.out.below o2)).mono ?_; rintro e w3 ⟨rfl, hb3⟩; rw [hn]; obtain ⟨m3, n3, k3, j3, l3⟩ := keep2h m2 n2 k2 j2 l2 hb3; have o3 := below2 o2 hb3)
    | (go_at_call 128; refine (has_any p cv S _ _ _ _ _ _ _ (HH.out.below o3) (HL.out.below o3)).mono ?_; rintro e w4 ⟨rfl, hb4⟩; rw [hh]; obtain ⟨m4, n4, k4, j4, l4⟩ := keep2h m3 n3 k3 j3 l3 hb4; have o4 := below2 o3 hb4)
    | (go_at_call 104; refine (fine_any _).mono ?_; rintro e w5 ⟨rfl, hb5⟩; obtain ⟨m5, n5, k5, j5, l5⟩ := keep2h m4 n4 k4 j4 l4 hb5; have o5 := below2 o4 hb5))
      refine bodyPost_ret (v := _) (by simp [results, Tryz.results103, go_sem, k5]; try rfl) rfl ⟨rfl, ?_⟩
      exact (o5.setCell (Nat.le_succ _) _).setCell (Nat.le_succ _) _
  · go_enter Tryz.func103, Tryz.ntmps103
    go_wp2_with (first
    | (go_at_call 50; refine (paddr_any p cv S _ _ _ _ _ _ ((HH.out.alloc _).alloc _) ((HL.out.alloc _).alloc _) hr).mono ?_; rintro e w1 ⟨rfl, hb1⟩; rw [hX]; obtain ⟨m1, n1, k1, j1, l1, o1⟩ := keep2g hb1)
    | (go_at_call 44; refine (p_class _ _ (HL.out.below o1)).mono ?_; rintro e w2 ⟨rfl, hb2⟩; rw [hc]; obtain ⟨m2, n2, k2, j2, l2⟩ := keep2h m1 n1 k1 j1 l1 hb2; have o2 := below2 o1 hb2)
    | (go_at_call 49; refine (p_size _ _ (HL.out.below o2)).mono ?_; rintro e w3 ⟨rfl, hb3⟩; rw [hn]; obtain ⟨m3, n3, k3, j3, l3⟩ := keep2h m2 n2 k2 j2 l2 hb3; have o3 := below2 o2 hb3)
    | (go_at_call 128; refine (has_any p cv S _ _ _ _ _ _ _ (HH.out.below o3) (HL.out.below o3)).mono ?_; rintro e w4 ⟨rfl, hb4⟩; rw [hh]; obtain ⟨m4, n4, k4, j4, l4⟩ := keep2h m3 n3 k3 j3 l3 hb4; have o4 := below2 o3 hb4)
    | (go_at_call 104; refine (fine_any _).mono ?_; rintro e w5 ⟨rfl, hb5⟩; obtain ⟨m5, n5, k5, j5, l5⟩ := keep2h m4 n4 k4 j4 l4 hb5; have o5 := below2 o4 hb5))
    refine bodyPost_ret (v := _) (by simp [results, Tryz.results103, go_sem, k5]; try rfl) rfl ⟨rfl, ?_⟩
    exact (o5.setCell (Nat.le_succ _) _).setCell (Nat.le_succ _) _
set_option maxHeartbeats 4000000 in
theorem fa_1_n (p : Nat) (cv : Value) (S : HS) (op rd : Int) (rs1 rs2 : Nat) (imm : Int) (x : Int) (w : World) (h : PH w p cv S) (hL : Laid w) (hr : rs1 < 32) (hX : S.whereI op rs1 imm = x) (hn : szI op = 1) (hh : S.hasB op x = false) : Calls Tryz.prog 103 #[.pointer (some ⟨p, 0, none⟩), .agg #[.int .i64 op, .int .i64 rd, .int .i64 rs1, .int .i64 rs2, .int .i64 imm]] w fun e w' => e = .returned (.agg #[.int .i64 (if loadB op then 5 else 7), .int .u32 x]) ∧ Below w.heap.size w w' := by
  have HH : Hid (PH w p cv S) := h
  have HL : Hid (Laid w) := hL
  clear h hL
  obtain ⟨c, hc⟩ : ∃ c, clR op = c := ⟨_, rfl⟩
  try unfold loadB
  try rw [hc]
  cases l1 : (c == 4)
  · cases l2 : (op == 46)
    all_goals
      go_enter Tryz.func103, Tryz.ntmps103
      go_wp2_with (first
    | (go_at_call 50; refine (paddr_any p cv S _ _ _ _ _ _ ((HH.out.alloc _).alloc _) ((HL.out.alloc _).alloc _) hr).mono ?_; rintro e w1 ⟨rfl, hb1⟩; rw [hX]; obtain ⟨m1, n1, k1, j1, l1, o1⟩ := keep2g hb1)
    | (go_at_call 44; refine (p_class _ _ (HL.out.below o1)).mono ?_; rintro e w2 ⟨rfl, hb2⟩; rw [hc]; obtain ⟨m2, n2, k2, j2, l2⟩ := keep2h m1 n1 k1 j1 l1 hb2; have o2 := below2 o1 hb2)
    | (go_at_call 49; refine (p_size _ _ (HL.out.below o2)).mono ?_; rintro e w3 ⟨rfl, hb3⟩; rw [hn]; obtain ⟨m3, n3, k3, j3, l3⟩ := keep2h m2 n2 k2 j2 l2 hb3; have o3 := below2 o2 hb3)
    | (go_at_call 128; refine (has_any p cv S _ _ _ _ _ _ _ (HH.out.below o3) (HL.out.below o3)).mono ?_; rintro e w4 ⟨rfl, hb4⟩; rw [hh]; obtain ⟨m4, n4, k4, j4, l4⟩ := keep2h m3 n3 k3 j3 l3 hb4; have o4 := below2 o3 hb4))
      refine bodyPost_ret (v := _) (by simp [results, Tryz.results103, go_sem, k4]; try rfl) rfl ⟨rfl, ?_⟩
      exact (o4.setCell (Nat.le_succ _) _).setCell (Nat.le_succ _) _
  · go_enter Tryz.func103, Tryz.ntmps103
    go_wp2_with (first
    | (go_at_call 50; refine (paddr_any p cv S _ _ _ _ _ _ ((HH.out.alloc _).alloc _) ((HL.out.alloc _).alloc _) hr).mono ?_; rintro e w1 ⟨rfl, hb1⟩; rw [hX]; obtain ⟨m1, n1, k1, j1, l1, o1⟩ := keep2g hb1)
    | (go_at_call 44; refine (p_class _ _ (HL.out.below o1)).mono ?_; rintro e w2 ⟨rfl, hb2⟩; rw [hc]; obtain ⟨m2, n2, k2, j2, l2⟩ := keep2h m1 n1 k1 j1 l1 hb2; have o2 := below2 o1 hb2)
    | (go_at_call 49; refine (p_size _ _ (HL.out.below o2)).mono ?_; rintro e w3 ⟨rfl, hb3⟩; rw [hn]; obtain ⟨m3, n3, k3, j3, l3⟩ := keep2h m2 n2 k2 j2 l2 hb3; have o3 := below2 o2 hb3)
    | (go_at_call 128; refine (has_any p cv S _ _ _ _ _ _ _ (HH.out.below o3) (HL.out.below o3)).mono ?_; rintro e w4 ⟨rfl, hb4⟩; rw [hh]; obtain ⟨m4, n4, k4, j4, l4⟩ := keep2h m3 n3 k3 j3 l3 hb4; have o4 := below2 o3 hb4))
    refine bodyPost_ret (v := _) (by simp [results, Tryz.results103, go_sem, k4]; try rfl) rfl ⟨rfl, ?_⟩
    exact (o4.setCell (Nat.le_succ _) _).setCell (Nat.le_succ _) _
set_option maxHeartbeats 4000000 in
theorem fa_2_b (p : Nat) (cv : Value) (S : HS) (op rd : Int) (rs1 rs2 : Nat) (imm : Int) (x : Int) (w : World) (h : PH w p cv S) (hL : Laid w) (hr : rs1 < 32) (hX : S.whereI op rs1 imm = x) (hn : szI op = 2) (hb : (x.tmod 2 != 0) = true) : Calls Tryz.prog 103 #[.pointer (some ⟨p, 0, none⟩), .agg #[.int .i64 op, .int .i64 rd, .int .i64 rs1, .int .i64 rs2, .int .i64 imm]] w fun e w' => e = .returned (.agg #[.int .i64 (if loadB op then 4 else 6), .int .u32 x]) ∧ Below w.heap.size w w' := by
  have HH : Hid (PH w p cv S) := h
  have HL : Hid (Laid w) := hL
  clear h hL
  obtain ⟨c, hc⟩ : ∃ c, clR op = c := ⟨_, rfl⟩
  try unfold loadB
  try rw [hc]
  cases l1 : (c == 4)
  · cases l2 : (op == 46)
    all_goals
      go_enter Tryz.func103, Tryz.ntmps103
      go_wp2_with (first
    | (go_at_call 50; refine (paddr_any p cv S _ _ _ _ _ _ ((HH.out.alloc _).alloc _) ((HL.out.alloc _).alloc _) hr).mono ?_; rintro e w1 ⟨rfl, hb1⟩; rw [hX]; obtain ⟨m1, n1, k1, j1, l1, o1⟩ := keep2g hb1)
    | (go_at_call 44; refine (p_class _ _ (HL.out.below o1)).mono ?_; rintro e w2 ⟨rfl, hb2⟩; rw [hc]; obtain ⟨m2, n2, k2, j2, l2⟩ := keep2h m1 n1 k1 j1 l1 hb2; have o2 := below2 o1 hb2)
    | (go_at_call 49; refine (p_size _ _ (HL.out.below o2)).mono ?_; rintro e w3 ⟨rfl, hb3⟩; rw [hn]; obtain ⟨m3, n3, k3, j3, l3⟩ := keep2h m2 n2 k2 j2 l2 hb3; have o3 := below2 o2 hb3))
      refine bodyPost_ret (v := _) (by simp [results, Tryz.results103, go_sem, k3]; try rfl) rfl ⟨rfl, ?_⟩
      exact (o3.setCell (Nat.le_succ _) _).setCell (Nat.le_succ _) _
  · go_enter Tryz.func103, Tryz.ntmps103
    go_wp2_with (first
    | (go_at_call 50; refine (paddr_any p cv S _ _ _ _ _ _ ((HH.out.alloc _).alloc _) ((HL.out.alloc _).alloc _) hr).mono ?_; rintro e w1 ⟨rfl, hb1⟩; rw [hX]; obtain ⟨m1, n1, k1, j1, l1, o1⟩ := keep2g hb1)
    | (go_at_call 44; refine (p_class _ _ (HL.out.below o1)).mono ?_; rintro e w2 ⟨rfl, hb2⟩; rw [hc]; obtain ⟨m2, n2, k2, j2, l2⟩ := keep2h m1 n1 k1 j1 l1 hb2; have o2 := below2 o1 hb2)
    | (go_at_call 49; refine (p_size _ _ (HL.out.below o2)).mono ?_; rintro e w3 ⟨rfl, hb3⟩; rw [hn]; obtain ⟨m3, n3, k3, j3, l3⟩ := keep2h m2 n2 k2 j2 l2 hb3; have o3 := below2 o2 hb3))
    refine bodyPost_ret (v := _) (by simp [results, Tryz.results103, go_sem, k3]; try rfl) rfl ⟨rfl, ?_⟩
    exact (o3.setCell (Nat.le_succ _) _).setCell (Nat.le_succ _) _
set_option maxHeartbeats 4000000 in
theorem fa_2_h (p : Nat) (cv : Value) (S : HS) (op rd : Int) (rs1 rs2 : Nat) (imm : Int) (x : Int) (w : World) (h : PH w p cv S) (hL : Laid w) (hr : rs1 < 32) (hX : S.whereI op rs1 imm = x) (hn : szI op = 2) (hb : (x.tmod 2 != 0) = false) (hh : S.hasB op x = true) : Calls Tryz.prog 103 #[.pointer (some ⟨p, 0, none⟩), .agg #[.int .i64 op, .int .i64 rd, .int .i64 rs1, .int .i64 rs2, .int .i64 imm]] w fun e w' => e = .returned (.agg #[.int .i64 (-1), .int .u32 0]) ∧ Below w.heap.size w w' := by
  have HH : Hid (PH w p cv S) := h
  have HL : Hid (Laid w) := hL
  clear h hL
  obtain ⟨c, hc⟩ : ∃ c, clR op = c := ⟨_, rfl⟩
  try unfold loadB
  try rw [hc]
  cases l1 : (c == 4)
  · cases l2 : (op == 46)
    all_goals
      go_enter Tryz.func103, Tryz.ntmps103
      go_wp2_with (first
    | (go_at_call 50; refine (paddr_any p cv S _ _ _ _ _ _ ((HH.out.alloc _).alloc _) ((HL.out.alloc _).alloc _) hr).mono ?_; rintro e w1 ⟨rfl, hb1⟩; rw [hX]; obtain ⟨m1, n1, k1, j1, l1, o1⟩ := keep2g hb1)
    | (go_at_call 44; refine (p_class _ _ (HL.out.below o1)).mono ?_; rintro e w2 ⟨rfl, hb2⟩; rw [hc]; obtain ⟨m2, n2, k2, j2, l2⟩ := keep2h m1 n1 k1 j1 l1 hb2; have o2 := below2 o1 hb2)
    | (go_at_call 49; refine (p_size _ _ (HL.out.below o2)).mono ?_; rintro e w3 ⟨rfl, hb3⟩; rw [hn]; obtain ⟨m3, n3, k3, j3, l3⟩ := keep2h m2 n2 k2 j2 l2 hb3; have o3 := below2 o2 hb3)
    | (go_at_call 128; refine (has_any p cv S _ _ _ _ _ _ _ (HH.out.below o3) (HL.out.below o3)).mono ?_; rintro e w4 ⟨rfl, hb4⟩; rw [hh]; obtain ⟨m4, n4, k4, j4, l4⟩ := keep2h m3 n3 k3 j3 l3 hb4; have o4 := below2 o3 hb4)
    | (go_at_call 104; refine (fine_any _).mono ?_; rintro e w5 ⟨rfl, hb5⟩; obtain ⟨m5, n5, k5, j5, l5⟩ := keep2h m4 n4 k4 j4 l4 hb5; have o5 := below2 o4 hb5))
      refine bodyPost_ret (v := _) (by simp [results, Tryz.results103, go_sem, k5]; try rfl) rfl ⟨rfl, ?_⟩
      exact (o5.setCell (Nat.le_succ _) _).setCell (Nat.le_succ _) _
  · go_enter Tryz.func103, Tryz.ntmps103
    go_wp2_with (first
    | (go_at_call 50; refine (paddr_any p cv S _ _ _ _ _ _ ((HH.out.alloc _).alloc _) ((HL.out.alloc _).alloc _) hr).mono ?_; rintro e w1 ⟨rfl, hb1⟩; rw [hX]; obtain ⟨m1, n1, k1, j1, l1, o1⟩ := keep2g hb1)
    | (go_at_call 44; refine (p_class _ _ (HL.out.below o1)).mono ?_; rintro e w2 ⟨rfl, hb2⟩; rw [hc]; obtain ⟨m2, n2, k2, j2, l2⟩ := keep2h m1 n1 k1 j1 l1 hb2; have o2 := below2 o1 hb2)
    | (go_at_call 49; refine (p_size _ _ (HL.out.below o2)).mono ?_; rintro e w3 ⟨rfl, hb3⟩; rw [hn]; obtain ⟨m3, n3, k3, j3, l3⟩ := keep2h m2 n2 k2 j2 l2 hb3; have o3 := below2 o2 hb3)
    | (go_at_call 128; refine (has_any p cv S _ _ _ _ _ _ _ (HH.out.below o3) (HL.out.below o3)).mono ?_; rintro e w4 ⟨rfl, hb4⟩; rw [hh]; obtain ⟨m4, n4, k4, j4, l4⟩ := keep2h m3 n3 k3 j3 l3 hb4; have o4 := below2 o3 hb4)
    | (go_at_call 104; refine (fine_any _).mono ?_; rintro e w5 ⟨rfl, hb5⟩; obtain ⟨m5, n5, k5, j5, l5⟩ := keep2h m4 n4 k4 j4 l4 hb5; have o5 := below2 o4 hb5))
    refine bodyPost_ret (v := _) (by simp [results, Tryz.results103, go_sem, k5]; try rfl) rfl ⟨rfl, ?_⟩
    exact (o5.setCell (Nat.le_succ _) _).setCell (Nat.le_succ _) _
set_option maxHeartbeats 4000000 in
theorem fa_2_n (p : Nat) (cv : Value) (S : HS) (op rd : Int) (rs1 rs2 : Nat) (imm : Int) (x : Int) (w : World) (h : PH w p cv S) (hL : Laid w) (hr : rs1 < 32) (hX : S.whereI op rs1 imm = x) (hn : szI op = 2) (hb : (x.tmod 2 != 0) = false) (hh : S.hasB op x = false) : Calls Tryz.prog 103 #[.pointer (some ⟨p, 0, none⟩), .agg #[.int .i64 op, .int .i64 rd, .int .i64 rs1, .int .i64 rs2, .int .i64 imm]] w fun e w' => e = .returned (.agg #[.int .i64 (if loadB op then 5 else 7), .int .u32 x]) ∧ Below w.heap.size w w' := by
  have HH : Hid (PH w p cv S) := h
  have HL : Hid (Laid w) := hL
  clear h hL
  obtain ⟨c, hc⟩ : ∃ c, clR op = c := ⟨_, rfl⟩
  try unfold loadB
  try rw [hc]
  cases l1 : (c == 4)
  · cases l2 : (op == 46)
    all_goals
      go_enter Tryz.func103, Tryz.ntmps103
      go_wp2_with (first
    | (go_at_call 50; refine (paddr_any p cv S _ _ _ _ _ _ ((HH.out.alloc _).alloc _) ((HL.out.alloc _).alloc _) hr).mono ?_; rintro e w1 ⟨rfl, hb1⟩; rw [hX]; obtain ⟨m1, n1, k1, j1, l1, o1⟩ := keep2g hb1)
    | (go_at_call 44; refine (p_class _ _ (HL.out.below o1)).mono ?_; rintro e w2 ⟨rfl, hb2⟩; rw [hc]; obtain ⟨m2, n2, k2, j2, l2⟩ := keep2h m1 n1 k1 j1 l1 hb2; have o2 := below2 o1 hb2)
    | (go_at_call 49; refine (p_size _ _ (HL.out.below o2)).mono ?_; rintro e w3 ⟨rfl, hb3⟩; rw [hn]; obtain ⟨m3, n3, k3, j3, l3⟩ := keep2h m2 n2 k2 j2 l2 hb3; have o3 := below2 o2 hb3)
    | (go_at_call 128; refine (has_any p cv S _ _ _ _ _ _ _ (HH.out.below o3) (HL.out.below o3)).mono ?_; rintro e w4 ⟨rfl, hb4⟩; rw [hh]; obtain ⟨m4, n4, k4, j4, l4⟩ := keep2h m3 n3 k3 j3 l3 hb4; have o4 := below2 o3 hb4))
      refine bodyPost_ret (v := _) (by simp [results, Tryz.results103, go_sem, k4]; try rfl) rfl ⟨rfl, ?_⟩
      exact (o4.setCell (Nat.le_succ _) _).setCell (Nat.le_succ _) _
  · go_enter Tryz.func103, Tryz.ntmps103
    go_wp2_with (first
    | (go_at_call 50; refine (paddr_any p cv S _ _ _ _ _ _ ((HH.out.alloc _).alloc _) ((HL.out.alloc _).alloc _) hr).mono ?_; rintro e w1 ⟨rfl, hb1⟩; rw [hX]; obtain ⟨m1, n1, k1, j1, l1, o1⟩ := keep2g hb1)
    | (go_at_call 44; refine (p_class _ _ (HL.out.below o1)).mono ?_; rintro e w2 ⟨rfl, hb2⟩; rw [hc]; obtain ⟨m2, n2, k2, j2, l2⟩ := keep2h m1 n1 k1 j1 l1 hb2; have o2 := below2 o1 hb2)
    | (go_at_call 49; refine (p_size _ _ (HL.out.below o2)).mono ?_; rintro e w3 ⟨rfl, hb3⟩; rw [hn]; obtain ⟨m3, n3, k3, j3, l3⟩ := keep2h m2 n2 k2 j2 l2 hb3; have o3 := below2 o2 hb3)
    | (go_at_call 128; refine (has_any p cv S _ _ _ _ _ _ _ (HH.out.below o3) (HL.out.below o3)).mono ?_; rintro e w4 ⟨rfl, hb4⟩; rw [hh]; obtain ⟨m4, n4, k4, j4, l4⟩ := keep2h m3 n3 k3 j3 l3 hb4; have o4 := below2 o3 hb4))
    refine bodyPost_ret (v := _) (by simp [results, Tryz.results103, go_sem, k4]; try rfl) rfl ⟨rfl, ?_⟩
    exact (o4.setCell (Nat.le_succ _) _).setCell (Nat.le_succ _) _
set_option maxHeartbeats 4000000 in
theorem fa_4_b (p : Nat) (cv : Value) (S : HS) (op rd : Int) (rs1 rs2 : Nat) (imm : Int) (x : Int) (w : World) (h : PH w p cv S) (hL : Laid w) (hr : rs1 < 32) (hX : S.whereI op rs1 imm = x) (hn : szI op = 4) (hb : (x.tmod 4 != 0) = true) : Calls Tryz.prog 103 #[.pointer (some ⟨p, 0, none⟩), .agg #[.int .i64 op, .int .i64 rd, .int .i64 rs1, .int .i64 rs2, .int .i64 imm]] w fun e w' => e = .returned (.agg #[.int .i64 (if loadB op then 4 else 6), .int .u32 x]) ∧ Below w.heap.size w w' := by
  have HH : Hid (PH w p cv S) := h
  have HL : Hid (Laid w) := hL
  clear h hL
  obtain ⟨c, hc⟩ : ∃ c, clR op = c := ⟨_, rfl⟩
  try unfold loadB
  try rw [hc]
  cases l1 : (c == 4)
  · cases l2 : (op == 46)
    all_goals
      go_enter Tryz.func103, Tryz.ntmps103
      go_wp2_with (first
    | (go_at_call 50; refine (paddr_any p cv S _ _ _ _ _ _ ((HH.out.alloc _).alloc _) ((HL.out.alloc _).alloc _) hr).mono ?_; rintro e w1 ⟨rfl, hb1⟩; rw [hX]; obtain ⟨m1, n1, k1, j1, l1, o1⟩ := keep2g hb1)
    | (go_at_call 44; refine (p_class _ _ (HL.out.below o1)).mono ?_; rintro e w2 ⟨rfl, hb2⟩; rw [hc]; obtain ⟨m2, n2, k2, j2, l2⟩ := keep2h m1 n1 k1 j1 l1 hb2; have o2 := below2 o1 hb2)
    | (go_at_call 49; refine (p_size _ _ (HL.out.below o2)).mono ?_; rintro e w3 ⟨rfl, hb3⟩; rw [hn]; obtain ⟨m3, n3, k3, j3, l3⟩ := keep2h m2 n2 k2 j2 l2 hb3; have o3 := below2 o2 hb3))
      refine bodyPost_ret (v := _) (by simp [results, Tryz.results103, go_sem, k3]; try rfl) rfl ⟨rfl, ?_⟩
      exact (o3.setCell (Nat.le_succ _) _).setCell (Nat.le_succ _) _
  · go_enter Tryz.func103, Tryz.ntmps103
    go_wp2_with (first
    | (go_at_call 50; refine (paddr_any p cv S _ _ _ _ _ _ ((HH.out.alloc _).alloc _) ((HL.out.alloc _).alloc _) hr).mono ?_; rintro e w1 ⟨rfl, hb1⟩; rw [hX]; obtain ⟨m1, n1, k1, j1, l1, o1⟩ := keep2g hb1)
    | (go_at_call 44; refine (p_class _ _ (HL.out.below o1)).mono ?_; rintro e w2 ⟨rfl, hb2⟩; rw [hc]; obtain ⟨m2, n2, k2, j2, l2⟩ := keep2h m1 n1 k1 j1 l1 hb2; have o2 := below2 o1 hb2)
    | (go_at_call 49; refine (p_size _ _ (HL.out.below o2)).mono ?_; rintro e w3 ⟨rfl, hb3⟩; rw [hn]; obtain ⟨m3, n3, k3, j3, l3⟩ := keep2h m2 n2 k2 j2 l2 hb3; have o3 := below2 o2 hb3))
    refine bodyPost_ret (v := _) (by simp [results, Tryz.results103, go_sem, k3]; try rfl) rfl ⟨rfl, ?_⟩
    exact (o3.setCell (Nat.le_succ _) _).setCell (Nat.le_succ _) _
set_option maxHeartbeats 4000000 in
theorem fa_4_h (p : Nat) (cv : Value) (S : HS) (op rd : Int) (rs1 rs2 : Nat) (imm : Int) (x : Int) (w : World) (h : PH w p cv S) (hL : Laid w) (hr : rs1 < 32) (hX : S.whereI op rs1 imm = x) (hn : szI op = 4) (hb : (x.tmod 4 != 0) = false) (hh : S.hasB op x = true) : Calls Tryz.prog 103 #[.pointer (some ⟨p, 0, none⟩), .agg #[.int .i64 op, .int .i64 rd, .int .i64 rs1, .int .i64 rs2, .int .i64 imm]] w fun e w' => e = .returned (.agg #[.int .i64 (-1), .int .u32 0]) ∧ Below w.heap.size w w' := by
  have HH : Hid (PH w p cv S) := h
  have HL : Hid (Laid w) := hL
  clear h hL
  obtain ⟨c, hc⟩ : ∃ c, clR op = c := ⟨_, rfl⟩
  try unfold loadB
  try rw [hc]
  cases l1 : (c == 4)
  · cases l2 : (op == 46)
    all_goals
      go_enter Tryz.func103, Tryz.ntmps103
      go_wp2_with (first
    | (go_at_call 50; refine (paddr_any p cv S _ _ _ _ _ _ ((HH.out.alloc _).alloc _) ((HL.out.alloc _).alloc _) hr).mono ?_; rintro e w1 ⟨rfl, hb1⟩; rw [hX]; obtain ⟨m1, n1, k1, j1, l1, o1⟩ := keep2g hb1)
    | (go_at_call 44; refine (p_class _ _ (HL.out.below o1)).mono ?_; rintro e w2 ⟨rfl, hb2⟩; rw [hc]; obtain ⟨m2, n2, k2, j2, l2⟩ := keep2h m1 n1 k1 j1 l1 hb2; have o2 := below2 o1 hb2)
    | (go_at_call 49; refine (p_size _ _ (HL.out.below o2)).mono ?_; rintro e w3 ⟨rfl, hb3⟩; rw [hn]; obtain ⟨m3, n3, k3, j3, l3⟩ := keep2h m2 n2 k2 j2 l2 hb3; have o3 := below2 o2 hb3)
    | (go_at_call 128; refine (has_any p cv S _ _ _ _ _ _ _ (HH.out.below o3) (HL.out.below o3)).mono ?_; rintro e w4 ⟨rfl, hb4⟩; rw [hh]; obtain ⟨m4, n4, k4, j4, l4⟩ := keep2h m3 n3 k3 j3 l3 hb4; have o4 := below2 o3 hb4)
    | (go_at_call 104; refine (fine_any _).mono ?_; rintro e w5 ⟨rfl, hb5⟩; obtain ⟨m5, n5, k5, j5, l5⟩ := keep2h m4 n4 k4 j4 l4 hb5; have o5 := below2 o4 hb5))
      refine bodyPost_ret (v := _) (by simp [results, Tryz.results103, go_sem, k5]; try rfl) rfl ⟨rfl, ?_⟩
      exact (o5.setCell (Nat.le_succ _) _).setCell (Nat.le_succ _) _
  · go_enter Tryz.func103, Tryz.ntmps103
    go_wp2_with (first
    | (go_at_call 50; refine (paddr_any p cv S _ _ _ _ _ _ ((HH.out.alloc _).alloc _) ((HL.out.alloc _).alloc _) hr).mono ?_; rintro e w1 ⟨rfl, hb1⟩; rw [hX]; obtain ⟨m1, n1, k1, j1, l1, o1⟩ := keep2g hb1)
    | (go_at_call 44; refine (p_class _ _ (HL.out.below o1)).mono ?_; rintro e w2 ⟨rfl, hb2⟩; rw [hc]; obtain ⟨m2, n2, k2, j2, l2⟩ := keep2h m1 n1 k1 j1 l1 hb2; have o2 := below2 o1 hb2)
    | (go_at_call 49; refine (p_size _ _ (HL.out.below o2)).mono ?_; rintro e w3 ⟨rfl, hb3⟩; rw [hn]; obtain ⟨m3, n3, k3, j3, l3⟩ := keep2h m2 n2 k2 j2 l2 hb3; have o3 := below2 o2 hb3)
    | (go_at_call 128; refine (has_any p cv S _ _ _ _ _ _ _ (HH.out.below o3) (HL.out.below o3)).mono ?_; rintro e w4 ⟨rfl, hb4⟩; rw [hh]; obtain ⟨m4, n4, k4, j4, l4⟩ := keep2h m3 n3 k3 j3 l3 hb4; have o4 := below2 o3 hb4)
    | (go_at_call 104; refine (fine_any _).mono ?_; rintro e w5 ⟨rfl, hb5⟩; obtain ⟨m5, n5, k5, j5, l5⟩ := keep2h m4 n4 k4 j4 l4 hb5; have o5 := below2 o4 hb5))
    refine bodyPost_ret (v := _) (by simp [results, Tryz.results103, go_sem, k5]; try rfl) rfl ⟨rfl, ?_⟩
    exact (o5.setCell (Nat.le_succ _) _).setCell (Nat.le_succ _) _
set_option maxHeartbeats 4000000 in
theorem fa_4_n (p : Nat) (cv : Value) (S : HS) (op rd : Int) (rs1 rs2 : Nat) (imm : Int) (x : Int) (w : World) (h : PH w p cv S) (hL : Laid w) (hr : rs1 < 32) (hX : S.whereI op rs1 imm = x) (hn : szI op = 4) (hb : (x.tmod 4 != 0) = false) (hh : S.hasB op x = false) : Calls Tryz.prog 103 #[.pointer (some ⟨p, 0, none⟩), .agg #[.int .i64 op, .int .i64 rd, .int .i64 rs1, .int .i64 rs2, .int .i64 imm]] w fun e w' => e = .returned (.agg #[.int .i64 (if loadB op then 5 else 7), .int .u32 x]) ∧ Below w.heap.size w w' := by
  have HH : Hid (PH w p cv S) := h
  have HL : Hid (Laid w) := hL
  clear h hL
  obtain ⟨c, hc⟩ : ∃ c, clR op = c := ⟨_, rfl⟩
  try unfold loadB
  try rw [hc]
  cases l1 : (c == 4)
  · cases l2 : (op == 46)
    all_goals
      go_enter Tryz.func103, Tryz.ntmps103
      go_wp2_with (first
    | (go_at_call 50; refine (paddr_any p cv S _ _ _ _ _ _ ((HH.out.alloc _).alloc _) ((HL.out.alloc _).alloc _) hr).mono ?_; rintro e w1 ⟨rfl, hb1⟩; rw [hX]; obtain ⟨m1, n1, k1, j1, l1, o1⟩ := keep2g hb1)
    | (go_at_call 44; refine (p_class _ _ (HL.out.below o1)).mono ?_; rintro e w2 ⟨rfl, hb2⟩; rw [hc]; obtain ⟨m2, n2, k2, j2, l2⟩ := keep2h m1 n1 k1 j1 l1 hb2; have o2 := below2 o1 hb2)
    | (go_at_call 49; refine (p_size _ _ (HL.out.below o2)).mono ?_; rintro e w3 ⟨rfl, hb3⟩; rw [hn]; obtain ⟨m3, n3, k3, j3, l3⟩ := keep2h m2 n2 k2 j2 l2 hb3; have o3 := below2 o2 hb3)
    | (go_at_call 128; refine (has_any p cv S _ _ _ _ _ _ _ (HH.out.below o3) (HL.out.below o3)).mono ?_; rintro e w4 ⟨rfl, hb4⟩; rw [hh]; obtain ⟨m4, n4, k4, j4, l4⟩ := keep2h m3 n3 k3 j3 l3 hb4; have o4 := below2 o3 hb4))
      refine bodyPost_ret (v := _) (by simp [results, Tryz.results103, go_sem, k4]; try rfl) rfl ⟨rfl, ?_⟩
      exact (o4.setCell (Nat.le_succ _) _).setCell (Nat.le_succ _) _
  · go_enter Tryz.func103, Tryz.ntmps103
    go_wp2_with (first
    | (go_at_call 50; refine (paddr_any p cv S _ _ _ _ _ _ ((HH.out.alloc _).alloc _) ((HL.out.alloc _).alloc _) hr).mono ?_; rintro e w1 ⟨rfl, hb1⟩; rw [hX]; obtain ⟨m1, n1, k1, j1, l1, o1⟩ := keep2g hb1)
    | (go_at_call 44; refine (p_class _ _ (HL.out.below o1)).mono ?_; rintro e w2 ⟨rfl, hb2⟩; rw [hc]; obtain ⟨m2, n2, k2, j2, l2⟩ := keep2h m1 n1 k1 j1 l1 hb2; have o2 := below2 o1 hb2)
    | (go_at_call 49; refine (p_size _ _ (HL.out.below o2)).mono ?_; rintro e w3 ⟨rfl, hb3⟩; rw [hn]; obtain ⟨m3, n3, k3, j3, l3⟩ := keep2h m2 n2 k2 j2 l2 hb3; have o3 := below2 o2 hb3)
    | (go_at_call 128; refine (has_any p cv S _ _ _ _ _ _ _ (HH.out.below o3) (HL.out.below o3)).mono ?_; rintro e w4 ⟨rfl, hb4⟩; rw [hh]; obtain ⟨m4, n4, k4, j4, l4⟩ := keep2h m3 n3 k3 j3 l3 hb4; have o4 := below2 o3 hb4))
    refine bodyPost_ret (v := _) (by simp [results, Tryz.results103, go_sem, k4]; try rfl) rfl ⟨rfl, ?_⟩
    exact (o4.setCell (Nat.le_succ _) _).setCell (Nat.le_succ _) _
end Go.Proofs.YtnlagbiikpbjdaaGreatDoor
/-
  THE PROGRAM's HART: what an instruction traps with.
-/
namespace Go.Proofs.YtnlagbiikpbjdaaGreatDoor
open Go Go.RowKit
theorem mod_cases (x n : Int) : (x % n != 0) = true ∨ (x % n != 0) = false := by cases (x % n != 0) <;> simp
theorem pfa_any (p : Nat) (cv : Value) (S : HS) (op rd : Int) (rs1 rs2 : Nat) (imm : Int) (w : World) (h : PH w p cv S) (hL : Laid w) (hr : rs1 < 32) (hz : szI op ≠ 0) (hx : 0 ≤ S.whereI op rs1 imm) : Calls Tryz.prog 103 #[.pointer (some ⟨p, 0, none⟩), .agg #[.int .i64 op, .int .i64 rd, .int .i64 rs1, .int .i64 rs2, .int .i64 imm]] w fun e w' => e = .returned (.agg #[.int .i64 (S.pfa op (S.whereI op rs1 imm)), .int .u32 (if S.pfa op (S.whereI op rs1 imm) = -1 then 0 else S.whereI op rs1 imm)]) ∧ Below w.heap.size w w' := by
  obtain ⟨x, hX⟩ : ∃ x, S.whereI op rs1 imm = x := ⟨_, rfl⟩
  rw [hX] at hx ⊢
  have l4 : ∀ b : Bool, ¬ (if b then (4 : Int) else 6) = -1 := by decide
  have l5 : ∀ b : Bool, ¬ (if b then (5 : Int) else 7) = -1 := by decide
  have hbad : (x % szI op != 0) = true → S.pfa op x = (if loadB op then 4 else 6) := fun q => by unfold HS.pfa; rw [if_pos q]
  have hhas : (x % szI op != 0) = false → S.hasB op x = true → S.pfa op x = -1 := fun q r => by unfold HS.pfa; rw [if_neg (by rw [q]; decide), if_pos r]
  have hno : (x % szI op != 0) = false → S.hasB op x = false → S.pfa op x = (if loadB op then 5 else 7) := fun q r => by unfold HS.pfa; rw [if_neg (by rw [q]; decide), if_neg (by rw [r]; decide)]
  rcases sz_cases op with hn | hn | hn | hn
  · exact absurd hn hz
  · have q : (x % szI op != 0) = false := by rw [hn]; simp
    cases hh : S.hasB op x
    · rw [hno q hh, if_neg (l5 _)]
      exact fa_1_n p cv S op rd rs1 rs2 imm x w h hL hr hX hn hh
    · rw [hhas q hh, if_pos rfl]
      exact fa_1_h p cv S op rd rs1 rs2 imm x w h hL hr hX hn hh
  · rcases mod_cases x 2 with q | q
    · rw [hbad (by rw [hn]; exact q), if_neg (l4 _)]
      exact fa_2_b p cv S op rd rs1 rs2 imm x w h hL hr hX hn (by rw [Int.tmod_eq_emod_of_nonneg hx]; exact q)
    · cases hh : S.hasB op x
      · rw [hno (by rw [hn]; exact q) hh, if_neg (l5 _)]
        exact fa_2_n p cv S op rd rs1 rs2 imm x w h hL hr hX hn (by rw [Int.tmod_eq_emod_of_nonneg hx]; exact q) hh
      · rw [hhas (by rw [hn]; exact q) hh, if_pos rfl]
        exact fa_2_h p cv S op rd rs1 rs2 imm x w h hL hr hX hn (by rw [Int.tmod_eq_emod_of_nonneg hx]; exact q) hh
  · rcases mod_cases x 4 with q | q
    · rw [hbad (by rw [hn]; exact q), if_neg (l4 _)]
      exact fa_4_b p cv S op rd rs1 rs2 imm x w h hL hr hX hn (by rw [Int.tmod_eq_emod_of_nonneg hx]; exact q)
    · cases hh : S.hasB op x
      · rw [hno (by rw [hn]; exact q) hh, if_neg (l5 _)]
        exact fa_4_n p cv S op rd rs1 rs2 imm x w h hL hr hX hn (by rw [Int.tmod_eq_emod_of_nonneg hx]; exact q) hh
      · rw [hhas (by rw [hn]; exact q) hh, if_pos rfl]
        exact fa_4_h p cv S op rd rs1 rs2 imm x w h hL hr hX hn (by rw [Int.tmod_eq_emod_of_nonneg hx]; exact q) hh
set_option maxHeartbeats 4000000 in
theorem fo_59 (p : Nat) (cv : Value) (S : HS) (op rd : Int) (rs1 rs2 : Nat) (imm : Int) (w : World) (h : PH w p cv S) (hL : Laid w) (_hr : rs1 < 32) (_hs : rs2 < 32) (ho : op = 59) : Calls Tryz.prog 81 #[.pointer (some ⟨p, 0, none⟩), .agg #[.int .i64 op, .int .i64 rd, .int .i64 rs1, .int .i64 rs2, .int .i64 imm]] w fun e w' => e = .returned (.agg #[.int .i64 (3), .int .u32 (S.pc)]) ∧ Below w.heap.size w w' := by
  have cpc : w.cell? ⟨p, 11, none⟩ = some (.int .u32 S.pc) := h.cell 11 (by decide)
  have h3 := h.here
  have h5 : p < w.heap.size + 1 := by omega
  have HH : Hid (PH w p cv S) := h
  have HL : Hid (Laid w) := hL
  clear h hL
  subst ho
  go_enter Tryz.func81, Tryz.ntmps81
  go_wp2
  refine bodyPost_ret (v := _) (by simp [results, Tryz.results81, go_sem]; try rfl) rfl ⟨rfl, ?_⟩
  exact ((Below.refl _ _).alloc (Nat.le_refl _) _).alloc (by simp) _
set_option maxHeartbeats 4000000 in
theorem fo_58 (p : Nat) (cv : Value) (S : HS) (op rd : Int) (rs1 rs2 : Nat) (imm : Int) (w : World) (h : PH w p cv S) (hL : Laid w) (_hr : rs1 < 32) (_hs : rs2 < 32) (ho : op = 58) : Calls Tryz.prog 81 #[.pointer (some ⟨p, 0, none⟩), .agg #[.int .i64 op, .int .i64 rd, .int .i64 rs1, .int .i64 rs2, .int .i64 imm]] w fun e w' => e = .returned (.agg #[.int .i64 (11), .int .u32 (0)]) ∧ Below w.heap.size w w' := by
  have h3 := h.here
  have h5 : p < w.heap.size + 1 := by omega
  have HH : Hid (PH w p cv S) := h
  have HL : Hid (Laid w) := hL
  clear h hL
  subst ho
  go_enter Tryz.func81, Tryz.ntmps81
  go_wp2
  refine bodyPost_ret (v := _) (by simp [results, Tryz.results81, go_sem]; try rfl) rfl ⟨rfl, ?_⟩
  exact ((Below.refl _ _).alloc (Nat.le_refl _) _).alloc (by simp) _
set_option maxHeartbeats 4000000 in
theorem fo_mem (p : Nat) (cv : Value) (S : HS) (op rd : Int) (rs1 rs2 : Nat) (imm : Int) (w : World) (h : PH w p cv S) (hL : Laid w) (hr : rs1 < 32) (_hs : rs2 < 32) (n9 : (op == 59) = false) (n8 : (op == 58) = false) (z : Int) (hz : szI op = z) (hz1 : (z != 0) = true) (hx0 : 0 ≤ S.whereI op rs1 imm) (P Q : Int) (hP : S.pfa op (S.whereI op rs1 imm) = P) (hQ : (if P = -1 then 0 else S.whereI op rs1 imm) = Q) : Calls Tryz.prog 81 #[.pointer (some ⟨p, 0, none⟩), .agg #[.int .i64 op, .int .i64 rd, .int .i64 rs1, .int .i64 rs2, .int .i64 imm]] w fun e w' => e = .returned (.agg #[.int .i64 (P), .int .u32 (Q)]) ∧ Below w.heap.size w w' := by
  have h3 := h.here
  have h5 : p < w.heap.size + 1 := by omega
  have HH : Hid (PH w p cv S) := h
  have HL : Hid (Laid w) := hL
  clear h hL
  have hz0 : szI op ≠ 0 := by rw [hz]; simpa using hz1
  go_enter Tryz.func81, Tryz.ntmps81
  go_wp2_with (first
    | (go_at_call 49; refine (p_size _ _ ((HL.out.alloc _).alloc _)).mono ?_; rintro e w1 ⟨rfl, hb1⟩; rw [hz]; obtain ⟨m1, n1, k1, j1, l1, o1⟩ := keep2g hb1)
    | (go_at_call 103; refine (pfa_any p cv S _ _ _ _ _ _ (HH.out.below o1) (HL.out.below o1) hr hz0 hx0).mono ?_; rintro e w2 ⟨rfl, hb2⟩; rw [hP, hQ]; obtain ⟨m2, n2, k2, j2, l2⟩ := keep2h m1 n1 k1 j1 l1 hb2; have o2 := below2 o1 hb2))
  refine bodyPost_ret (v := _) (by simp [results, Tryz.results81, go_sem, k2]; try rfl) rfl ⟨rfl, ?_⟩
  exact (o2.setCell (Nat.le_succ _) _).setCell (Nat.le_succ _) _
set_option maxHeartbeats 4000000 in
theorem fo_no (p : Nat) (cv : Value) (S : HS) (op rd : Int) (rs1 rs2 : Nat) (imm : Int) (w : World) (h : PH w p cv S) (hL : Laid w) (hr : rs1 < 32) (hs : rs2 < 32) (n9 : (op == 59) = false) (n8 : (op == 58) = false) (hz : szI op = 0) (tgt : Int) (hto : S.toI op rs1 rs2 imm = tgt) (hg : S.goB op rs1 rs2 = false) : Calls Tryz.prog 81 #[.pointer (some ⟨p, 0, none⟩), .agg #[.int .i64 op, .int .i64 rd, .int .i64 rs1, .int .i64 rs2, .int .i64 imm]] w fun e w' => e = .returned (.agg #[.int .i64 (-1), .int .u32 (0)]) ∧ Below w.heap.size w w' := by
  have h3 := h.here
  have h5 : p < w.heap.size + 1 := by omega
  have HH : Hid (PH w p cv S) := h
  have HL : Hid (Laid w) := hL
  clear h hL
  go_enter Tryz.func81, Tryz.ntmps81
  go_wp2_with (first
    | (go_at_call 49; refine (p_size _ _ ((HL.out.alloc _).alloc _)).mono ?_; rintro e w1 ⟨rfl, hb1⟩; rw [hz]; obtain ⟨m1, n1, k1, j1, l1, o1⟩ := keep2g hb1)
    | (go_at_call 82; refine (target_any p cv S _ _ _ _ _ _ (HH.out.below o1) hr hs).mono ?_; rintro e w2 ⟨rfl, hb2⟩; rw [hg, hto]; obtain ⟨m2, n2, k2, j2, l2⟩ := keep2h m1 n1 k1 j1 l1 hb2; have o2 := below2 o1 hb2)
    | (go_at_call 104; refine (fine_any _).mono ?_; rintro e w3 ⟨rfl, hb3⟩; obtain ⟨m3, n3, k3, j3, l3⟩ := keep2h m2 n2 k2 j2 l2 hb3; have o3 := below2 o2 hb3))
  refine bodyPost_ret (v := _) (by simp [results, Tryz.results81, go_sem, k3]; try rfl) rfl ⟨rfl, ?_⟩
  exact (o3.setCell (Nat.le_succ _) _).setCell (Nat.le_succ _) _
set_option maxHeartbeats 4000000 in
theorem fo_ok (p : Nat) (cv : Value) (S : HS) (op rd : Int) (rs1 rs2 : Nat) (imm : Int) (w : World) (h : PH w p cv S) (hL : Laid w) (hr : rs1 < 32) (hs : rs2 < 32) (n9 : (op == 59) = false) (n8 : (op == 58) = false) (hz : szI op = 0) (tgt : Int) (hto : S.toI op rs1 rs2 imm = tgt) (hg : S.goB op rs1 rs2 = true) (h4 : (tgt.tmod 4 != 0) = false) : Calls Tryz.prog 81 #[.pointer (some ⟨p, 0, none⟩), .agg #[.int .i64 op, .int .i64 rd, .int .i64 rs1, .int .i64 rs2, .int .i64 imm]] w fun e w' => e = .returned (.agg #[.int .i64 (-1), .int .u32 (0)]) ∧ Below w.heap.size w w' := by
  have h3 := h.here
  have h5 : p < w.heap.size + 1 := by omega
  have HH : Hid (PH w p cv S) := h
  have HL : Hid (Laid w) := hL
  clear h hL
  go_enter Tryz.func81, Tryz.ntmps81
  go_wp2_with (first
    | (go_at_call 49; refine (p_size _ _ ((HL.out.alloc _).alloc _)).mono ?_; rintro e w1 ⟨rfl, hb1⟩; rw [hz]; obtain ⟨m1, n1, k1, j1, l1, o1⟩ := keep2g hb1)
    | (go_at_call 82; refine (target_any p cv S _ _ _ _ _ _ (HH.out.below o1) hr hs).mono ?_; rintro e w2 ⟨rfl, hb2⟩; rw [hg, hto]; obtain ⟨m2, n2, k2, j2, l2⟩ := keep2h m1 n1 k1 j1 l1 hb2; have o2 := below2 o1 hb2)
    | (go_at_call 104; refine (fine_any _).mono ?_; rintro e w3 ⟨rfl, hb3⟩; obtain ⟨m3, n3, k3, j3, l3⟩ := keep2h m2 n2 k2 j2 l2 hb3; have o3 := below2 o2 hb3))
  refine bodyPost_ret (v := _) (by simp [results, Tryz.results81, go_sem, k3]; try rfl) rfl ⟨rfl, ?_⟩
  exact (o3.setCell (Nat.le_succ _) _).setCell (Nat.le_succ _) _
set_option maxHeartbeats 4000000 in
theorem fo_odd (p : Nat) (cv : Value) (S : HS) (op rd : Int) (rs1 rs2 : Nat) (imm : Int) (w : World) (h : PH w p cv S) (hL : Laid w) (hr : rs1 < 32) (hs : rs2 < 32) (n9 : (op == 59) = false) (n8 : (op == 58) = false) (hz : szI op = 0) (tgt : Int) (hto : S.toI op rs1 rs2 imm = tgt) (hg : S.goB op rs1 rs2 = true) (h4 : (tgt.tmod 4 != 0) = true) : Calls Tryz.prog 81 #[.pointer (some ⟨p, 0, none⟩), .agg #[.int .i64 op, .int .i64 rd, .int .i64 rs1, .int .i64 rs2, .int .i64 imm]] w fun e w' => e = .returned (.agg #[.int .i64 (0), .int .u32 (tgt)]) ∧ Below w.heap.size w w' := by
  have h3 := h.here
  have h5 : p < w.heap.size + 1 := by omega
  have HH : Hid (PH w p cv S) := h
  have HL : Hid (Laid w) := hL
  clear h hL
  go_enter Tryz.func81, Tryz.ntmps81
  go_wp2_with (first
    | (go_at_call 49; refine (p_size _ _ ((HL.out.alloc _).alloc _)).mono ?_; rintro e w1 ⟨rfl, hb1⟩; rw [hz]; obtain ⟨m1, n1, k1, j1, l1, o1⟩ := keep2g hb1)
    | (go_at_call 82; refine (target_any p cv S _ _ _ _ _ _ (HH.out.below o1) hr hs).mono ?_; rintro e w2 ⟨rfl, hb2⟩; rw [hg, hto]; obtain ⟨m2, n2, k2, j2, l2⟩ := keep2h m1 n1 k1 j1 l1 hb2; have o2 := below2 o1 hb2))
  refine bodyPost_ret (v := _) (by simp [results, Tryz.results81, go_sem, k2]; try rfl) rfl ⟨rfl, ?_⟩
  exact (o2.setCell (Nat.le_succ _) _).setCell (Nat.le_succ _) _
/-- what an instruction traps with (-1: it does not), and of what -/
def HS.pfc (S : HS) (op : Int) (rs1 rs2 : Nat) (imm : Int) : Int :=
  if op = 59 then 3 else if op = 58 then 11 else if szI op ≠ 0 then S.pfa op (S.whereI op rs1 imm) else if S.goB op rs1 rs2 = true ∧ (S.toI op rs1 rs2 imm % 4 != 0) = true then 0 else -1
def HS.pfv (S : HS) (op : Int) (rs1 rs2 : Nat) (imm : Int) : Int :=
  if op = 59 then S.pc else if op = 58 then 0 else if szI op ≠ 0 then (if S.pfa op (S.whereI op rs1 imm) = -1 then 0 else S.whereI op rs1 imm) else if S.goB op rs1 rs2 = true ∧ (S.toI op rs1 rs2 imm % 4 != 0) = true then S.toI op rs1 rs2 imm else 0
theorem toI_u32 {S : HS} (_h : S.Ok) (op : Int) (rs1 rs2 : Nat) (imm : Int) : U32 (S.toI op rs1 rs2 imm) := by
  unfold HS.toI
  repeat' split
  · exact u32_bits _ _ _
  · exact u32_mod _
  · exact u32_zero
theorem faultOf_any (p : Nat) (cv : Value) (S : HS) (op rd : Int) (rs1 rs2 : Nat) (imm : Int) (w : World) (h : PH w p cv S) (hL : Laid w) (hr : rs1 < 32) (hs : rs2 < 32) (hS : S.Ok) : Calls Tryz.prog 81 #[.pointer (some ⟨p, 0, none⟩), .agg #[.int .i64 op, .int .i64 rd, .int .i64 rs1, .int .i64 rs2, .int .i64 imm]] w fun e w' => e = .returned (.agg #[.int .i64 (S.pfc op rs1 rs2 imm), .int .u32 (S.pfv op rs1 rs2 imm)]) ∧ Below w.heap.size w w' := by
  unfold HS.pfc HS.pfv
  by_cases h9 : op = 59
  · rw [if_pos h9, if_pos h9]
    exact fo_59 p cv S op rd rs1 rs2 imm w h hL hr hs h9
  rw [if_neg h9, if_neg h9]
  by_cases h8 : op = 58
  · rw [if_pos h8, if_pos h8]
    exact fo_58 p cv S op rd rs1 rs2 imm w h hL hr hs h8
  rw [if_neg h8, if_neg h8]
  have n9 : (op == 59) = false := by simp; exact h9
  have n8 : (op == 58) = false := by simp; exact h8
  by_cases hz : szI op ≠ 0
  · rw [if_pos hz, if_pos hz]
    exact fo_mem p cv S op rd rs1 rs2 imm w h hL hr hs n9 n8 _ rfl (by simpa using hz) (whereI_u32 hS _ _ _ hr).1 _ _ rfl rfl
  rw [if_neg hz, if_neg hz]
  have hz' : szI op = 0 := Decidable.not_not.1 hz
  cases hg : S.goB op rs1 rs2
  · rw [if_neg (by simp), if_neg (by simp)]
    exact fo_no p cv S op rd rs1 rs2 imm w h hL hr hs n9 n8 hz' _ rfl hg
  · rcases mod_cases (S.toI op rs1 rs2 imm) 4 with q | q
    · rw [if_pos ⟨rfl, q⟩, if_pos ⟨rfl, q⟩]
      exact fo_odd p cv S op rd rs1 rs2 imm w h hL hr hs n9 n8 hz' _ rfl hg (by rw [Int.tmod_eq_emod_of_nonneg (toI_u32 hS _ _ _ _).1]; exact q)
    · rw [if_neg (by rw [q]; simp), if_neg (by rw [q]; simp)]
      exact fo_ok p cv S op rd rs1 rs2 imm w h hL hr hs n9 n8 hz' _ rfl hg (by rw [Int.tmod_eq_emod_of_nonneg (toI_u32 hS _ _ _ _).1]; exact q)
end Go.Proofs.YtnlagbiikpbjdaaGreatDoor
/-
  THE PROGRAM's HART: what it forbids; the next instruction.
-/
namespace Go.Proofs.YtnlagbiikpbjdaaGreatDoor
open Go Go.RowKit
set_option maxHeartbeats 1000000 in
theorem fb_a (p : Nat) (op rd : Int) (rs1 rs2 : Nat) (imm : Int) (w : World) (b1 : hcB op = false) (b3 : wcB op rs1 = false) : Calls Tryz.prog 80 #[.pointer (some ⟨p, 0, none⟩), .agg #[.int .i64 op, .int .i64 rd, .int .i64 rs1, .int .i64 rs2, .int .i64 imm]] w fun e w' => e = .returned (.bool false) ∧ Below w.heap.size w w' := by
  go_enter Tryz.func80, Tryz.ntmps80
  go_wp2
  first
    | go_region_with (first
    | (go_at_call 101; refine (handles_any _ _).mono ?_; rintro e w1 ⟨rfl, hw1⟩; have hw2 := hw1.symm; clear hw1; subst hw2; rw [b1])
    | (go_at_call 89; refine (writesC_any _ _ _ _ _ _).mono ?_; rintro e w3 ⟨rfl, hb3⟩; rw [b3]; obtain ⟨k1, k2, k3, k4⟩ := keepB (belowU hb3)))
    | fail
  all_goals (try go_wp2)
  all_goals go_ret
  all_goals exact ⟨rfl, by first | exact k4 | exact k4.drew⟩
set_option maxHeartbeats 1000000 in
theorem fb_c (p : Nat) (op rd : Int) (rs1 rs2 : Nat) (imm : Int) (w : World) (k : Nat) (b1 : hcB op = true) (b2 : csrK imm = some k) (b3 : wcB op rs1 = false) : Calls Tryz.prog 80 #[.pointer (some ⟨p, 0, none⟩), .agg #[.int .i64 op, .int .i64 rd, .int .i64 rs1, .int .i64 rs2, .int .i64 imm]] w fun e w' => e = .returned (.bool false) ∧ Below w.heap.size w w' := by
  go_enter Tryz.func80, Tryz.ntmps80
  go_wp2
  first
    | go_region_with (first
    | (go_at_call 101; refine (handles_any _ _).mono ?_; rintro e w1 ⟨rfl, hw1⟩; have hw2 := hw1.symm; clear hw1; subst hw2; rw [b1])
    | (go_at_call 69; refine (at_any p _ _).mono ?_; rintro e w1 ⟨rfl, hw1⟩; have hw2 := hw1.symm; clear hw1; subst hw2; rw [b2])
    | (go_at_call 89; refine (writesC_any _ _ _ _ _ _).mono ?_; rintro e w3 ⟨rfl, hb3⟩; rw [b3]; obtain ⟨k1, k2, k3, k4⟩ := keepB (belowU hb3)))
    | fail
  all_goals (try go_wp2)
  all_goals go_ret
  all_goals exact ⟨rfl, by first | exact k4 | exact k4.drew⟩
set_option maxHeartbeats 1000000 in
theorem fb_d (p : Nat) (op rd : Int) (rs1 rs2 : Nat) (imm : Int) (w : World) (k : Nat) (b1 : hcB op = true) (b2 : csrK imm = some k) (b3 : wcB op rs1 = true) (x : Int) (b4 : wrI imm = x) : Calls Tryz.prog 80 #[.pointer (some ⟨p, 0, none⟩), .agg #[.int .i64 op, .int .i64 rd, .int .i64 rs1, .int .i64 rs2, .int .i64 imm]] w fun e w' => e = .returned (.bool (x == 0)) ∧ Below w.heap.size w w' := by
  go_enter Tryz.func80, Tryz.ntmps80
  go_wp2
  first
    | go_region_with (first
    | (go_at_call 101; refine (handles_any _ _).mono ?_; rintro e w1 ⟨rfl, hw1⟩; have hw2 := hw1.symm; clear hw1; subst hw2; rw [b1])
    | (go_at_call 69; refine (at_any p _ _).mono ?_; rintro e w1 ⟨rfl, hw1⟩; have hw2 := hw1.symm; clear hw1; subst hw2; rw [b2])
    | (go_at_call 89; refine (writesC_any _ _ _ _ _ _).mono ?_; rintro e w3 ⟨rfl, hb3⟩; rw [b3]; obtain ⟨k1, k2, k3, k4⟩ := keepB (belowU hb3))
    | (go_at_call 102; refine (wr_any _ _).mono ?_; rintro e w4 ⟨rfl, hw1⟩; have hw2 := hw1.symm; clear hw1; subst hw2; rw [b4]))
    | fail
  all_goals (try go_wp2)
  all_goals go_ret
  all_goals exact ⟨rfl, by first | exact k4 | exact k4.drew⟩
end Go.Proofs.YtnlagbiikpbjdaaGreatDoor
/-
  THE PROGRAM's HART: what it forbids, one case more.
-/
namespace Go.Proofs.YtnlagbiikpbjdaaGreatDoor
open Go Go.RowKit
set_option maxHeartbeats 1000000 in
theorem fb_b (p : Nat) (op rd : Int) (rs1 rs2 : Nat) (imm : Int) (w : World) (b1 : hcB op = true) (b2 : csrK imm = none) : Calls Tryz.prog 80 #[.pointer (some ⟨p, 0, none⟩), .agg #[.int .i64 op, .int .i64 rd, .int .i64 rs1, .int .i64 rs2, .int .i64 imm]] w fun e w' => e = .returned (.bool true) ∧ Below w.heap.size w w' := by
  have hu : undef = Value.tuple #[] := rfl
  go_enter Tryz.func80, Tryz.ntmps80
  go_wp2
  first
    | go_region_with (first
    | (go_at_call 101; refine (handles_any _ _).mono ?_; rintro e w1 ⟨rfl, hw1⟩; have hw2 := hw1.symm; clear hw1; subst hw2; rw [b1])
    | (go_at_call 69; refine (at_any p _ _).mono ?_; rintro e w1 ⟨rfl, hw1⟩; have hw2 := hw1.symm; clear hw1; subst hw2; rw [b2]))
    | fail
  all_goals (try go_wp2)
  all_goals go_ret
  all_goals exact ⟨rfl, by first | exact ((Below.refl _ _).alloc (Nat.le_refl _) _).drew | exact (Below.refl _ _).alloc (Nat.le_refl _) _⟩
end Go.Proofs.YtnlagbiikpbjdaaGreatDoor
/-
  THE PROGRAM's HART: the next instruction.
-/
namespace Go.Proofs.YtnlagbiikpbjdaaGreatDoor
open Go Go.RowKit
/-- what a hart forbids -/
def fbB (op : Int) (rs1 : Nat) (imm : Int) : Bool := (hcB op && !csrB imm) || (wcB op rs1 && wrI imm == 0)
theorem forbids_any (p : Nat) (op rd : Int) (rs1 rs2 : Nat) (imm : Int) (w : World) : Calls Tryz.prog 80 #[.pointer (some ⟨p, 0, none⟩), .agg #[.int .i64 op, .int .i64 rd, .int .i64 rs1, .int .i64 rs2, .int .i64 imm]] w fun e w' => e = .returned (.bool (fbB op rs1 imm)) ∧ Below w.heap.size w w' := by
  unfold fbB
  rw [csrK_none]
  cases b1 : hcB op
  · have b3 : wcB op rs1 = false := by unfold wcB; rw [b1]; rfl
    rw [b3]
    exact fb_a p op rd rs1 rs2 imm w b1 b3
  · cases b2 : csrK imm with
    | none => exact fb_b p op rd rs1 rs2 imm w b1 b2
    | some k =>
      cases b3 : wcB op rs1
      · exact fb_c p op rd rs1 rs2 imm w k b1 b2 b3
      · exact fb_d p op rd rs1 rs2 imm w k b1 b2 b3 _ rfl
theorem keep5 {w w1 w2 : World} {i0 i1 i2 i3 i4 v0 v1 v2 v3 v4 : Value} {Z : Array Value} (m : ∀ i, w1.cell? ⟨w.heap.size, i, none⟩ = (#[i0, i1, i2, i3, i4] : Array Value)[i]?) (n : ∀ i, w1.frozen? ⟨w.heap.size, i, none⟩ = false) (k : ∀ i, w1.cell? ⟨w.heap.size + 1, i, none⟩ = Z[i]?) (j : ∀ i, w1.frozen? ⟨w.heap.size + 1, i, none⟩ = false) (l : w.heap.size + 1 < w1.heap.size) (o : Below w.heap.size w w1)
    (hb : Below (((((w1.setCell ⟨w.heap.size, 0, none⟩ v0).setCell ⟨w.heap.size, 1, none⟩ v1).setCell ⟨w.heap.size, 2, none⟩ v2).setCell ⟨w.heap.size, 3, none⟩ v3).setCell ⟨w.heap.size, 4, none⟩ v4).heap.size (((((w1.setCell ⟨w.heap.size, 0, none⟩ v0).setCell ⟨w.heap.size, 1, none⟩ v1).setCell ⟨w.heap.size, 2, none⟩ v2).setCell ⟨w.heap.size, 3, none⟩ v3).setCell ⟨w.heap.size, 4, none⟩ v4) w2) :
    (w2.cell? ⟨w.heap.size, 0, none⟩ = some v0 ∧ w2.cell? ⟨w.heap.size, 1, none⟩ = some v1 ∧ w2.cell? ⟨w.heap.size, 2, none⟩ = some v2 ∧ w2.cell? ⟨w.heap.size, 3, none⟩ = some v3 ∧ w2.cell? ⟨w.heap.size, 4, none⟩ = some v4) ∧ (∀ i, w2.frozen? ⟨w.heap.size, i, none⟩ = false) ∧ (∀ i, w2.cell? ⟨w.heap.size + 1, i, none⟩ = Z[i]?) ∧ (∀ i, w2.frozen? ⟨w.heap.size + 1, i, none⟩ = false) ∧ w.heap.size + 1 < w2.heap.size ∧ Below w.heap.size w w2 := by
  have C0 : CellsAt 5 w1 w.heap.size (fun i => (#[i0, i1, i2, i3, i4] : Array Value).getD i undef) := by
    refine ⟨by omega, fun i hi => ?_, n⟩
    rw [m i]
    match i, hi with
    | 0, _ => rfl
    | 1, _ => rfl
    | 2, _ => rfl
    | 3, _ => rfl
    | 4, _ => rfl
  have C5 := (((((C0.set 0 (by decide) v0).set 1 (by decide) v1).set 2 (by decide) v2).set 3 (by decide) v3).set 4 (by decide) v4).below hb
  have O5 : Only w.heap.size w1 (((((w1.setCell ⟨w.heap.size, 0, none⟩ v0).setCell ⟨w.heap.size, 1, none⟩ v1).setCell ⟨w.heap.size, 2, none⟩ v2).setCell ⟨w.heap.size, 3, none⟩ v3).setCell ⟨w.heap.size, 4, none⟩ v4) := (((((Only.refl _ _).set _ _).set _ _).set _ _).set _ _).set _ _
  have B5 : Below w.heap.size w (((((w1.setCell ⟨w.heap.size, 0, none⟩ v0).setCell ⟨w.heap.size, 1, none⟩ v1).setCell ⟨w.heap.size, 2, none⟩ v2).setCell ⟨w.heap.size, 3, none⟩ v3).setCell ⟨w.heap.size, 4, none⟩ v4) := ((((o.setCell (Nat.le_refl _) _).setCell (Nat.le_refl _) _).setCell (Nat.le_refl _) _).setCell (Nat.le_refl _) _).setCell (Nat.le_refl _) _
  have s5 : w1.heap.size ≤ (((((w1.setCell ⟨w.heap.size, 0, none⟩ v0).setCell ⟨w.heap.size, 1, none⟩ v1).setCell ⟨w.heap.size, 2, none⟩ v2).setCell ⟨w.heap.size, 3, none⟩ v3).setCell ⟨w.heap.size, 4, none⟩ v4).heap.size := O5.size
  exact ⟨⟨C5.cell 0 (by decide), C5.cell 1 (by decide), C5.cell 2 (by decide), C5.cell 3 (by decide), C5.cell 4 (by decide)⟩, C5.free, fun i => (hb.cell (p := ⟨w.heap.size + 1, i, none⟩) (by show w.heap.size + 1 < _; omega)).trans (O5.to_cell l (by omega) (k i)), fun i => (hb.frozen (p := ⟨w.heap.size + 1, i, none⟩) (by show w.heap.size + 1 < _; omega)).trans (O5.to_frozen l (by omega) (j i)), by have := hb.size; omega, B5.trans (hb.mono B5.size)⟩
theorem keep6 {w x y : World} {v0 v1 v2 v3 v4 : Value} {Z : Array Value} (a0 : x.cell? ⟨w.heap.size, 0, none⟩ = some v0) (a1 : x.cell? ⟨w.heap.size, 1, none⟩ = some v1) (a2 : x.cell? ⟨w.heap.size, 2, none⟩ = some v2) (a3 : x.cell? ⟨w.heap.size, 3, none⟩ = some v3) (a4 : x.cell? ⟨w.heap.size, 4, none⟩ = some v4) (n : ∀ i, x.frozen? ⟨w.heap.size, i, none⟩ = false) (k : ∀ i, x.cell? ⟨w.heap.size + 1, i, none⟩ = Z[i]?) (j : ∀ i, x.frozen? ⟨w.heap.size + 1, i, none⟩ = false) (l : w.heap.size + 1 < x.heap.size) (o : Below w.heap.size w x) (hb : Below x.heap.size x y) :
    y.cell? ⟨w.heap.size, 0, none⟩ = some v0 ∧ y.cell? ⟨w.heap.size, 1, none⟩ = some v1 ∧ y.cell? ⟨w.heap.size, 2, none⟩ = some v2 ∧ y.cell? ⟨w.heap.size, 3, none⟩ = some v3 ∧ y.cell? ⟨w.heap.size, 4, none⟩ = some v4 ∧ (∀ i, y.frozen? ⟨w.heap.size, i, none⟩ = false) ∧ (∀ i, y.cell? ⟨w.heap.size + 1, i, none⟩ = Z[i]?) ∧ (∀ i, y.frozen? ⟨w.heap.size + 1, i, none⟩ = false) ∧ w.heap.size + 1 < y.heap.size ∧ Below w.heap.size w y := by
  have c : ∀ i v, x.cell? ⟨w.heap.size, i, none⟩ = some v → y.cell? ⟨w.heap.size, i, none⟩ = some v := fun i v q => (hb.cell (p := ⟨w.heap.size, i, none⟩) (by show w.heap.size < _; omega)).trans q
  exact ⟨c _ _ a0, c _ _ a1, c _ _ a2, c _ _ a3, c _ _ a4, fun i => (hb.frozen (p := ⟨w.heap.size, i, none⟩) (by show w.heap.size < _; omega)).trans (n i), fun i => (hb.cell (p := ⟨w.heap.size + 1, i, none⟩) l).trans (k i), fun i => (hb.frozen (p := ⟨w.heap.size + 1, i, none⟩) l).trans (j i), Nat.lt_of_lt_of_le l hb.size, o.trans (hb.mono o.size)⟩
/-- the program's Decode, as a function -/
structure PDecOk (D : Int → Dec) : Prop where
  calls : ∀ (x : Int) (w : World), Laid w → U32 x → Calls Tryz.prog 79 #[.int .u32 x] w fun e w' => e = .returned (.tuple #[(D x).val, .bool (D x).ok]) ∧ Below w.heap.size w w'
  good : ∀ x : Int, U32 x → (D x).ok = true → 1 ≤ (D x).op ∧ (D x).op ≤ 67 ∧ (D x).rd < 32 ∧ (D x).rs1 < 32 ∧ (D x).rs2 < 32
set_option maxHeartbeats 1000000 in
theorem look_none (p : Nat) (S : HS) (cb co n cp : Nat) (w : World) (h : PH w p (.slice (some ⟨cb, co, none⟩) n cp) S) (hn : n ≤ 4096) (hp : U32 S.pc) (hk : ¬ S.pc / 4 < n) : Calls Tryz.prog 48 #[.pointer (some ⟨p, 0, none⟩)] w fun e w' => e = .returned (.tuple #[.int .u32 0, noDec.val, .agg #[.int .i64 1, .int .u32 S.pc]]) ∧ Below w.heap.size w w' := by
  have cpc : w.cell? ⟨p, 11, none⟩ = some (.int .u32 S.pc) := h.cell 11 (by decide)
  have ccode : w.cell? ⟨p, 9, none⟩ = some (.slice (some ⟨cb, co, none⟩) n cp) := h.cell 9 (by decide)
  have h3 := h.here
  have h5 : p < w.heap.size + 1 := by omega
  have h6 : p < w.heap.size + 1 + 1 := by omega
  have hp1 := hp.1
  have hp2 := hp.2
  have hnn : (n : Int) % 4294967296 = n := by omega
  clear h
  go_enter Tryz.func48, Tryz.ntmps48
  go_wp2
  go_region
  go_wp2
  go_region
  go_wp2
  refine bodyPost_ret (v := .tuple #[.int .u32 0, noDec.val, .agg #[.int .i64 1, .int .u32 S.pc]]) (by simp [results, Tryz.results48, go_sem, noDec, Dec.val]) rfl ⟨rfl, ?_⟩
  repeat (first | with_reducible exact (Below.refl _ _) | with_reducible refine Below.drew ?_ | with_reducible refine Below.alloc ?_ (by simp <;> omega) _ | with_reducible refine Below.setCell ?_ (by first | exact Nat.le_refl _ | exact Nat.le_succ _) _)
set_option maxHeartbeats 2000000 in
theorem look_bad (p : Nat) (S : HS) (cb co n cp : Nat) (w : World) (h : PH w p (.slice (some ⟨cb, co, none⟩) n cp) S) (hn : n ≤ 4096) (hp : U32 S.pc) (hL : Laid w) (f : Nat → Int) (hC : CodeAt w cb co n f) (k : Nat) (hk : S.pc / 4 = k) (hkn : k < n) {D : Int → Dec} (HD : PDecOk D) (d : Dec) (hd : D (f k) = d) (hok : d.ok = false) : Calls Tryz.prog 48 #[.pointer (some ⟨p, 0, none⟩)] w fun e w' => e = .returned (.tuple #[.int .u32 (f k), d.val, .agg #[.int .i64 2, .int .u32 (f k)]]) ∧ Below w.heap.size w w' := by
  have cpc : w.cell? ⟨p, 11, none⟩ = some (.int .u32 S.pc) := h.cell 11 (by decide)
  have ccode : w.cell? ⟨p, 9, none⟩ = some (.slice (some ⟨cb, co, none⟩) n cp) := h.cell 9 (by decide)
  have h3 := h.here
  have h5 : p < w.heap.size + 1 := by omega
  have h6 : p < w.heap.size + 1 + 1 := by omega
  have hp1 := hp.1
  have hp2 := hp.2
  have hnn : (n : Int) % 4294967296 = n := by omega
  have cw := hC.cell k hkn
  have hch := hC.here
  have hu := hC.word k hkn
  have hc5 : cb < w.heap.size + 1 := by omega
  have HH : Hid (PH w p (.slice (some ⟨cb, co, none⟩) n cp) S) := h
  have HL : Hid (Laid w) := hL
  clear h hL hC
  go_enter Tryz.func48, Tryz.ntmps48
  go_wp2
  go_region
  go_wp2
  go_region
  go_wp2_with (first
    | (go_at_call 79; refine (HD.calls _ _ (by repeat (first | exact HL.out | refine Laid.drew ?_ | refine Laid.alloc ?_ _)) hu).mono ?_; rintro e w1 ⟨rfl, hb1⟩; rw [hd, hok]; obtain ⟨m1, n1, k1, j1, l1, o1⟩ := keep2g (belowU (belowU hb1)); unfold Dec.val))
  obtain ⟨⟨d0, d1, d2, d3, d4⟩, n2, k2, j2, l2, o2⟩ := keep5 (v0 := .int .i64 d.op) (v1 := .int .i64 d.rd) (v2 := .int .i64 d.rs1) (v3 := .int .i64 d.rs2) (v4 := .int .i64 d.imm) m1 n1 k1 j1 l1 o1 (Below.refl _ _)
  generalize (((((w1.setCell ⟨w.heap.size, 0, none⟩ (.int .i64 d.op)).setCell ⟨w.heap.size, 1, none⟩ (.int .i64 d.rd)).setCell ⟨w.heap.size, 2, none⟩ (.int .i64 d.rs1)).setCell ⟨w.heap.size, 3, none⟩ (.int .i64 d.rs2)).setCell ⟨w.heap.size, 4, none⟩ (.int .i64 d.imm)) = x at d0 d1 d2 d3 d4 n2 k2 j2 l2 o2 ⊢
  go_region
  go_wp2
  refine bodyPost_ret (v := .tuple #[.int .u32 (f k), d.val, .agg #[.int .i64 2, .int .u32 (f k)]]) (by simp [results, Tryz.results48, go_sem, Dec.val, k2, d0, d1, d2, d3, d4]) rfl ⟨rfl, ?_⟩
  repeat (first | with_reducible exact o2 | with_reducible refine Below.drew ?_ | with_reducible refine Below.alloc ?_ (by simp <;> omega) _ | with_reducible refine Below.setCell ?_ (by first | exact Nat.le_refl _ | exact Nat.le_succ _) _)
set_option maxHeartbeats 2000000 in
theorem look_forb (p : Nat) (S : HS) (cb co n cp : Nat) (w : World) (h : PH w p (.slice (some ⟨cb, co, none⟩) n cp) S) (hn : n ≤ 4096) (hp : U32 S.pc) (hL : Laid w) (f : Nat → Int) (hC : CodeAt w cb co n f) (k : Nat) (hk : S.pc / 4 = k) (hkn : k < n) {D : Int → Dec} (HD : PDecOk D) (d : Dec) (hd : D (f k) = d) (hok : d.ok = true) (hf : fbB d.op d.rs1 d.imm = true) : Calls Tryz.prog 48 #[.pointer (some ⟨p, 0, none⟩)] w fun e w' => e = .returned (.tuple #[.int .u32 (f k), d.val, .agg #[.int .i64 2, .int .u32 (f k)]]) ∧ Below w.heap.size w w' := by
  have cpc : w.cell? ⟨p, 11, none⟩ = some (.int .u32 S.pc) := h.cell 11 (by decide)
  have ccode : w.cell? ⟨p, 9, none⟩ = some (.slice (some ⟨cb, co, none⟩) n cp) := h.cell 9 (by decide)
  have h3 := h.here
  have h5 : p < w.heap.size + 1 := by omega
  have h6 : p < w.heap.size + 1 + 1 := by omega
  have hp1 := hp.1
  have hp2 := hp.2
  have hnn : (n : Int) % 4294967296 = n := by omega
  have cw := hC.cell k hkn
  have hch := hC.here
  have hu := hC.word k hkn
  have hc5 : cb < w.heap.size + 1 := by omega
  have HH : Hid (PH w p (.slice (some ⟨cb, co, none⟩) n cp) S) := h
  have HL : Hid (Laid w) := hL
  clear h hL hC
  go_enter Tryz.func48, Tryz.ntmps48
  go_wp2
  go_region
  go_wp2
  go_region
  go_wp2_with (first
    | (go_at_call 79; refine (HD.calls _ _ (by repeat (first | exact HL.out | refine Laid.drew ?_ | refine Laid.alloc ?_ _)) hu).mono ?_; rintro e w1 ⟨rfl, hb1⟩; rw [hd, hok]; obtain ⟨m1, n1, k1, j1, l1, o1⟩ := keep2g (belowU (belowU hb1)); unfold Dec.val)
    | (go_at_call 80; refine (forbids_any p _ _ _ _ _ _).mono ?_; rintro e w2 ⟨rfl, hb2⟩; rw [hf]; obtain ⟨⟨d0, d1, d2, d3, d4⟩, n2, k2, j2, l2, o2⟩ := keep5 m1 n1 k1 j1 l1 o1 hb2))
  go_region
  go_wp2
  refine bodyPost_ret (v := .tuple #[.int .u32 (f k), d.val, .agg #[.int .i64 2, .int .u32 (f k)]]) (by simp [results, Tryz.results48, go_sem, Dec.val, k2, d0, d1, d2, d3, d4]) rfl ⟨rfl, ?_⟩
  repeat (first | with_reducible exact o2 | with_reducible refine Below.drew ?_ | with_reducible refine Below.alloc ?_ (by simp <;> omega) _ | with_reducible refine Below.setCell ?_ (by first | exact Nat.le_refl _ | exact Nat.le_succ _) _)
set_option maxHeartbeats 2000000 in
theorem look_good (p : Nat) (S : HS) (cb co n cp : Nat) (w : World) (h : PH w p (.slice (some ⟨cb, co, none⟩) n cp) S) (hn : n ≤ 4096) (hp : U32 S.pc) (hL : Laid w) (f : Nat → Int) (hC : CodeAt w cb co n f) (k : Nat) (hk : S.pc / 4 = k) (hkn : k < n) {D : Int → Dec} (HD : PDecOk D) (d : Dec) (hd : D (f k) = d) (hok : d.ok = true) (hf : fbB d.op d.rs1 d.imm = false) (hr : d.rs1 < 32) (hs : d.rs2 < 32) (hS : S.Ok) (c t : Int) (hc : S.pfc d.op d.rs1 d.rs2 d.imm = c) (ht : S.pfv d.op d.rs1 d.rs2 d.imm = t) : Calls Tryz.prog 48 #[.pointer (some ⟨p, 0, none⟩)] w fun e w' => e = .returned (.tuple #[.int .u32 (f k), d.val, .agg #[.int .i64 c, .int .u32 t]]) ∧ Below w.heap.size w w' := by
  have cpc : w.cell? ⟨p, 11, none⟩ = some (.int .u32 S.pc) := h.cell 11 (by decide)
  have ccode : w.cell? ⟨p, 9, none⟩ = some (.slice (some ⟨cb, co, none⟩) n cp) := h.cell 9 (by decide)
  have h3 := h.here
  have h5 : p < w.heap.size + 1 := by omega
  have h6 : p < w.heap.size + 1 + 1 := by omega
  have hp1 := hp.1
  have hp2 := hp.2
  have hnn : (n : Int) % 4294967296 = n := by omega
  have cw := hC.cell k hkn
  have hch := hC.here
  have hu := hC.word k hkn
  have hc5 : cb < w.heap.size + 1 := by omega
  have HH : Hid (PH w p (.slice (some ⟨cb, co, none⟩) n cp) S) := h
  have HL : Hid (Laid w) := hL
  clear h hL hC
  go_enter Tryz.func48, Tryz.ntmps48
  go_wp2
  go_region
  go_wp2
  go_region
  go_wp2_with (first
    | (go_at_call 79; refine (HD.calls _ _ (by repeat (first | exact HL.out | refine Laid.drew ?_ | refine Laid.alloc ?_ _)) hu).mono ?_; rintro e w1 ⟨rfl, hb1⟩; rw [hd, hok]; obtain ⟨m1, n1, k1, j1, l1, o1⟩ := keep2g (belowU (belowU hb1)); unfold Dec.val)
    | (go_at_call 80; refine (forbids_any p _ _ _ _ _ _).mono ?_; rintro e w2 ⟨rfl, hb2⟩; rw [hf]; obtain ⟨⟨d0, d1, d2, d3, d4⟩, n2, k2, j2, l2, o2⟩ := keep5 m1 n1 k1 j1 l1 o1 hb2))
  first
    | go_region_with (go_at_call 81; refine (faultOf_any p _ S _ _ _ _ _ _ (HH.out.below o2).drew (HL.out.below o2).drew hr hs hS).mono ?_; rintro e w3 ⟨rfl, hb3⟩; rw [hc, ht]; obtain ⟨e0, e1, e2, e3, e4, n3, k3, j3, l3, o3⟩ := keep6 d0 d1 d2 d3 d4 n2 k2 j2 l2 o2 (belowU hb3))
    | fail
  all_goals (try go_wp2)
  all_goals (refine bodyPost_ret (v := .tuple #[.int .u32 (f k), d.val, .agg #[.int .i64 c, .int .u32 t]]) (by simp [results, Tryz.results48, go_sem, Dec.val, k3, e0, e1, e2, e3, e4]) rfl ⟨rfl, ?_⟩)
  all_goals (repeat (first | with_reducible exact o3 | with_reducible refine Below.drew ?_ | with_reducible refine Below.alloc ?_ (by simp <;> omega) _ | with_reducible refine Below.setCell ?_ (by first | exact Nat.le_refl _ | exact Nat.le_succ _) _))
/-- the next instruction: its word, what it is, what it traps with -/
def HS.lookC (S : HS) (D : Int → Dec) (n : Nat) (f : Nat → Int) : Int :=
  if S.pc / 4 < n then (if (S.fetchD D n f).ok = true ∧ fbB (S.fetchD D n f).op (S.fetchD D n f).rs1 (S.fetchD D n f).imm = false then S.pfc (S.fetchD D n f).op (S.fetchD D n f).rs1 (S.fetchD D n f).rs2 (S.fetchD D n f).imm else 2) else 1
def HS.lookT (S : HS) (D : Int → Dec) (n : Nat) (f : Nat → Int) : Int :=
  if S.pc / 4 < n then (if (S.fetchD D n f).ok = true ∧ fbB (S.fetchD D n f).op (S.fetchD D n f).rs1 (S.fetchD D n f).imm = false then S.pfv (S.fetchD D n f).op (S.fetchD D n f).rs1 (S.fetchD D n f).rs2 (S.fetchD D n f).imm else S.fetchW n f) else S.pc
theorem look_any {D : Int → Dec} (HD : PDecOk D) (p : Nat) (S : HS) (cb co n cp : Nat) (w : World) (h : PH w p (.slice (some ⟨cb, co, none⟩) n cp) S) (hn : n ≤ 4096) (hp : U32 S.pc) (hL : Laid w) (f : Nat → Int) (hC : CodeAt w cb co n f) (hS : S.Ok) : Calls Tryz.prog 48 #[.pointer (some ⟨p, 0, none⟩)] w fun e w' => e = .returned (.tuple #[.int .u32 (S.fetchW n f), (S.fetchD D n f).val, .agg #[.int .i64 (S.lookC D n f), .int .u32 (S.lookT D n f)]]) ∧ Below w.heap.size w w' := by
  unfold HS.lookC HS.lookT
  by_cases hk : S.pc / 4 < n
  · rw [if_pos hk, if_pos hk]
    have e1 : S.fetchW n f = f (S.pc / 4).toNat := if_pos hk
    have e2 : S.fetchD D n f = D (f (S.pc / 4).toNat) := if_pos hk
    rw [e1, e2]
    have hkk : S.pc / 4 = ((S.pc / 4).toNat : Int) := by have := hp.1; omega
    have hkn : (S.pc / 4).toNat < n := by omega
    have hu := hC.word _ hkn
    have hg := HD.good _ hu
    generalize hd : D (f (S.pc / 4).toNat) = d at hg ⊢
    cases hok : d.ok
    · rw [if_neg (by simp), if_neg (by simp)]
      exact look_bad p S cb co n cp w h hn hp hL f hC _ hkk hkn HD d hd hok
    · obtain ⟨g1, g2, g3, g4, g5⟩ := hg hok
      cases hf : fbB d.op d.rs1 d.imm
      · rw [if_pos ⟨rfl, rfl⟩, if_pos ⟨rfl, rfl⟩]
        exact look_good p S cb co n cp w h hn hp hL f hC _ hkk hkn HD d hd hok hf g4 g5 hS _ _ rfl rfl
      · rw [if_neg (by simp), if_neg (by simp)]
        exact look_forb p S cb co n cp w h hn hp hL f hC _ hkk hkn HD d hd hok hf
  · rw [if_neg hk, if_neg hk]
    have e1 : S.fetchW n f = 0 := if_neg hk
    have e2 : S.fetchD D n f = noDec := if_neg hk
    rw [e1, e2]
    exact look_none p S cb co n cp w h hn hp hk
end Go.Proofs.YtnlagbiikpbjdaaGreatDoor
