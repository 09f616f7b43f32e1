import Derived.Test.YtengofkjlgajlaaGreatDoorGx2
import Derived.Deep.RegionHeld3
/-
  THE PROGRAM's HART: what a register becomes.
-/
namespace Go.Proofs.YtengofkjlgajlaaGreatDoor
open Go Go.RowKit
theorem keepT2 {B : Nat} {x y : World} {Z : Array Value} (z : ∀ i, x.cell? ⟨B, i, none⟩ = Z[i]?) (s : B < x.heap.size) (hb : Below x.heap.size x y) : (∀ i, y.cell? ⟨B, i, none⟩ = Z[i]?) ∧ B < y.heap.size :=
  ⟨fun i => (hb.cell (p := ⟨B, i, none⟩) s).trans (z i), Nat.lt_of_lt_of_le s hb.size⟩
set_option maxHeartbeats 1000000 in
theorem result_c0 (p : Nat) (cv : Value) (S : HS) (op rd : Int) (rs1 rs2 : Nat) (imm : Int) (v : Int) (held : Bool) (w : World) (h : PH w p cv S) (hL : Laid w) (hc : clR op = 0) (hr : rs1 < 32) (hs : rs2 < 32) (hA : U32 (S.oprA op rs1)) (hB : U32 (S.oprB op rs2 imm)) : Calls Tryz.prog 51 #[.pointer (some ⟨p, 0, none⟩), .agg #[.int .i64 op, .int .i64 rd, .int .i64 rs1, .int .i64 rs2, .int .i64 imm], .int .u32 v, .bool held] w fun e w' => e = .returned (.int .u32 (exI op (S.oprA op rs1) (S.oprB op rs2 imm))) ∧ Below w.heap.size w w' := by
  have h3 := h.here
  have HH : Hid (PH w p cv S) := h
  have HL : Hid (Laid w) := hL
  clear h hL
  go_enter Tryz.func51, Tryz.ntmps51
  go_wp2_with (first
    | (go_at_call 64; refine (p_class _ _ (HL.out.alloc _)).mono ?_; rintro e w1 ⟨rfl, hb1⟩; rw [hc]; obtain ⟨k1, k2, k3, k4⟩ := keepB hb1; have h31 := Nat.lt_of_lt_of_le h3 k4.size)
    | (go_at_call 79; refine (operands_any p cv S _ _ _ _ _ _ (HH.out.below k4) (HL.out.below k4) hr hs).mono ?_; rintro e w2 ⟨rfl, hb2⟩; obtain ⟨m1, m2⟩ := keepT2 k1 k3 hb2)
    | (go_at_call 80; refine (p_exec _ _ _ _ hA hB).mono ?_; rintro e w3 ⟨rfl, hb3⟩))
  go_ret
  exact ⟨rfl, below2 (below2 k4 hb2) hb3⟩
set_option maxHeartbeats 1000000 in
theorem result_c1 (p : Nat) (cv : Value) (S : HS) (op rd : Int) (rs1 rs2 : Nat) (imm : Int) (v : Int) (held : Bool) (w : World) (h : PH w p cv S) (hL : Laid w) (hc : clR op = 1) (hr : rs1 < 32) (hs : rs2 < 32) (hA : U32 (S.oprA op rs1)) (hB : U32 (S.oprB op rs2 imm)) : Calls Tryz.prog 51 #[.pointer (some ⟨p, 0, none⟩), .agg #[.int .i64 op, .int .i64 rd, .int .i64 rs1, .int .i64 rs2, .int .i64 imm], .int .u32 v, .bool held] w fun e w' => e = .returned (.int .u32 (exI op (S.oprA op rs1) (S.oprB op rs2 imm))) ∧ Below w.heap.size w w' := by
  have h3 := h.here
  have HH : Hid (PH w p cv S) := h
  have HL : Hid (Laid w) := hL
  clear h hL
  go_enter Tryz.func51, Tryz.ntmps51
  go_wp2_with (first
    | (go_at_call 64; refine (p_class _ _ (HL.out.alloc _)).mono ?_; rintro e w1 ⟨rfl, hb1⟩; rw [hc]; obtain ⟨k1, k2, k3, k4⟩ := keepB hb1; have h31 := Nat.lt_of_lt_of_le h3 k4.size)
    | (go_at_call 79; refine (operands_any p cv S _ _ _ _ _ _ (HH.out.below k4) (HL.out.below k4) hr hs).mono ?_; rintro e w2 ⟨rfl, hb2⟩; obtain ⟨m1, m2⟩ := keepT2 k1 k3 hb2)
    | (go_at_call 80; refine (p_exec _ _ _ _ hA hB).mono ?_; rintro e w3 ⟨rfl, hb3⟩))
  go_ret
  exact ⟨rfl, below2 (below2 k4 hb2) hb3⟩
set_option maxHeartbeats 1000000 in
theorem result_c3 (p : Nat) (cv : Value) (S : HS) (op rd : Int) (rs1 rs2 : Nat) (imm : Int) (v : Int) (held : Bool) (w : World) (h : PH w p cv S) (hL : Laid w) (hc : clR op = 3) : Calls Tryz.prog 51 #[.pointer (some ⟨p, 0, none⟩), .agg #[.int .i64 op, .int .i64 rd, .int .i64 rs1, .int .i64 rs2, .int .i64 imm], .int .u32 v, .bool held] w fun e w' => e = .returned (.int .u32 ((S.pc + 4) % 4294967296)) ∧ Below w.heap.size w w' := by
  have cpc : w.cell? ⟨p, 11, none⟩ = some (.int .u32 S.pc) := h.cell 11 (by decide)
  have h3 := h.here
  have HH : Hid (PH w p cv S) := h
  have HL : Hid (Laid w) := hL
  clear h hL
  go_enter Tryz.func51, Tryz.ntmps51
  go_wp2_with (first
    | (go_at_call 64; refine (p_class _ _ (HL.out.alloc _)).mono ?_; rintro e w1 ⟨rfl, hb1⟩; rw [hc]; obtain ⟨k1, k2, k3, k4⟩ := keepB hb1; have h31 := Nat.lt_of_lt_of_le h3 k4.size; have cpc1 : w1.cell? ⟨p, 11, none⟩ = some (.int .u32 S.pc) := (k4.cell (p := ⟨p, 11, none⟩) h3).trans cpc))
  go_ret
  exact ⟨rfl, k4⟩
set_option maxHeartbeats 1000000 in
theorem result_c4 (p : Nat) (cv : Value) (S : HS) (op rd : Int) (rs1 rs2 : Nat) (imm : Int) (v : Int) (held : Bool) (w : World) (h : PH w p cv S) (hL : Laid w) (hc : clR op = 4) : Calls Tryz.prog 51 #[.pointer (some ⟨p, 0, none⟩), .agg #[.int .i64 op, .int .i64 rd, .int .i64 rs1, .int .i64 rs2, .int .i64 imm], .int .u32 v, .bool held] w fun e w' => e = .returned (.int .u32 (wdI op v)) ∧ Below w.heap.size w w' := by
  have h3 := h.here
  have HH : Hid (PH w p cv S) := h
  have HL : Hid (Laid w) := hL
  clear h hL
  go_enter Tryz.func51, Tryz.ntmps51
  go_wp2_with (first
    | (go_at_call 64; refine (p_class _ _ (HL.out.alloc _)).mono ?_; rintro e w1 ⟨rfl, hb1⟩; rw [hc]; obtain ⟨k1, k2, k3, k4⟩ := keepB hb1; have h31 := Nat.lt_of_lt_of_le h3 k4.size)
    | (go_at_call 81; refine (p_widen _ _ _ (HL.out.below k4)).mono ?_; rintro e w3 ⟨rfl, hb3⟩))
  go_ret
  exact ⟨rfl, below2 k4 hb3⟩
set_option maxHeartbeats 1000000 in
theorem result_c6s (p : Nat) (cv : Value) (S : HS) (op rd : Int) (rs1 rs2 : Nat) (imm : Int) (v : Int) (held : Bool) (w : World) (h : PH w p cv S) (hL : Laid w) (hc : clR op = 6) (ho : op = 47) : Calls Tryz.prog 51 #[.pointer (some ⟨p, 0, none⟩), .agg #[.int .i64 op, .int .i64 rd, .int .i64 rs1, .int .i64 rs2, .int .i64 imm], .int .u32 v, .bool held] w fun e w' => e = .returned (.int .u32 (if held then 0 else 1)) ∧ Below w.heap.size w w' := by
  have h3 := h.here
  have HH : Hid (PH w p cv S) := h
  have HL : Hid (Laid w) := hL
  clear h hL
  obtain ⟨r, hr⟩ : ∃ r : Int, (if held then 0 else 1) = r := ⟨_, rfl⟩
  rw [hr]
  subst ho
  go_enter Tryz.func51, Tryz.ntmps51
  go_wp2_with (first
    | (go_at_call 64; refine (p_class _ _ (HL.out.alloc _)).mono ?_; rintro e w1 ⟨rfl, hb1⟩; rw [hc]; obtain ⟨k1, k2, k3, k4⟩ := keepB hb1; have h31 := Nat.lt_of_lt_of_le h3 k4.size)
    | (go_at_call 82; refine (missed_any _ _).mono ?_; rintro e w3 ⟨rfl, rfl⟩; rw [hr]))
  go_ret
  exact ⟨rfl, k4⟩
set_option maxHeartbeats 1000000 in
theorem result_c6 (p : Nat) (cv : Value) (S : HS) (op rd : Int) (rs1 rs2 : Nat) (imm : Int) (v : Int) (held : Bool) (w : World) (h : PH w p cv S) (hL : Laid w) (hc : clR op = 6) (ho : (op == 47) = false) : Calls Tryz.prog 51 #[.pointer (some ⟨p, 0, none⟩), .agg #[.int .i64 op, .int .i64 rd, .int .i64 rs1, .int .i64 rs2, .int .i64 imm], .int .u32 v, .bool held] w fun e w' => e = .returned (.int .u32 (v)) ∧ Below w.heap.size w w' := by
  have h3 := h.here
  have HH : Hid (PH w p cv S) := h
  have HL : Hid (Laid w) := hL
  clear h hL
  go_enter Tryz.func51, Tryz.ntmps51
  go_wp2_with (first
    | (go_at_call 64; refine (p_class _ _ (HL.out.alloc _)).mono ?_; rintro e w1 ⟨rfl, hb1⟩; rw [hc]; obtain ⟨k1, k2, k3, k4⟩ := keepB hb1; have h31 := Nat.lt_of_lt_of_le h3 k4.size))
  go_ret
  exact ⟨rfl, k4⟩
set_option maxHeartbeats 1000000 in
theorem result_c7 (p : Nat) (cv : Value) (S : HS) (op rd : Int) (rs1 rs2 : Nat) (imm : Int) (v : Int) (held : Bool) (w : World) (h : PH w p cv S) (hL : Laid w) (hc : clR op = 7) : Calls Tryz.prog 51 #[.pointer (some ⟨p, 0, none⟩), .agg #[.int .i64 op, .int .i64 rd, .int .i64 rs1, .int .i64 rs2, .int .i64 imm], .int .u32 v, .bool held] w fun e w' => e = .returned (.int .u32 (S.csrV imm)) ∧ Below w.heap.size w w' := by
  have h3 := h.here
  have HH : Hid (PH w p cv S) := h
  have HL : Hid (Laid w) := hL
  clear h hL
  go_enter Tryz.func51, Tryz.ntmps51
  go_wp2_with (first
    | (go_at_call 64; refine (p_class _ _ (HL.out.alloc _)).mono ?_; rintro e w1 ⟨rfl, hb1⟩; rw [hc]; obtain ⟨k1, k2, k3, k4⟩ := keepB hb1; have h31 := Nat.lt_of_lt_of_le h3 k4.size)
    | (go_at_call 35; refine (pcsr_any p cv S _ _ (HH.out.below k4)).mono ?_; rintro e w3 ⟨rfl, rfl⟩))
  go_ret
  exact ⟨rfl, k4⟩
end Go.Proofs.YtengofkjlgajlaaGreatDoor
/-
  THE PROGRAM's HART: what is wrong with an instruction.
-/
namespace Go.Proofs.YtengofkjlgajlaaGreatDoor
open Go Go.RowKit
theorem fine_any (w : World) : Calls Tryz.prog 103 #[] w fun e w' => e = .returned (.agg #[.int .i64 (-1), .int .u32 0]) ∧ Below w.heap.size w w' := by
  go_enter Tryz.func103, Tryz.ntmps103
  go_wp2
  exact bodyPost_ret (v := .agg #[.int .i64 (-1), .int .u32 0]) (by simp [results, Tryz.results103, go_sem]) rfl ⟨rfl, (Below.refl _ _).alloc (Nat.le_refl _) _⟩
/-- what is wrong with an address -/
def HS.pfa (S : HS) (op x : Int) : Int := if x % szI op != 0 then (if loadB op then 4 else 6) else if S.hasB op x then -1 else (if loadB op then 5 else 7)
theorem sz_cases (op : Int) : szI op = 0 ∨ szI op = 1 ∨ szI op = 2 ∨ szI op = 4 := by
  unfold szI
  split
  · unfold szN
    split <;> simp
  · simp
theorem keep2g {w w2 : World} {I Z : Array Value} {t u : TypeId} (hb : Below ((w.alloc (.cells I t)).alloc (.cells Z u)).heap.size ((w.alloc (.cells I t)).alloc (.cells Z u)) w2) :
    (∀ i, w2.cell? ⟨w.heap.size, i, none⟩ = I[i]?) ∧ (∀ i, w2.frozen? ⟨w.heap.size, i, none⟩ = false) ∧ (∀ i, w2.cell? ⟨w.heap.size + 1, i, none⟩ = Z[i]?) ∧ (∀ i, w2.frozen? ⟨w.heap.size + 1, i, none⟩ = false) ∧ w.heap.size + 1 < w2.heap.size ∧ Below w.heap.size w w2 := by
  have hs := hb.size
  simp only [World.size_alloc] at hs
  have q1 : ∀ i, ((w.alloc (.cells I t)).alloc (.cells Z u)).cell? ⟨w.heap.size, i, none⟩ = I[i]? := fun i => (alloc_old (by simp)).trans (World.cell?_alloc_new w I t i)
  have q2 : ∀ i, ((w.alloc (.cells I t)).alloc (.cells Z u)).cell? ⟨w.heap.size + 1, i, none⟩ = Z[i]? := fun i => by first | simp | simpa using World.cell?_alloc_new (w.alloc (.cells I t)) Z u i
  have r1 : ∀ i, ((w.alloc (.cells I t)).alloc (.cells Z u)).frozen? ⟨w.heap.size, i, none⟩ = false := fun i => (alloc_oldf (by simp)).trans (World.frozen?_alloc_at I t _ i rfl)
  have r2 : ∀ i, ((w.alloc (.cells I t)).alloc (.cells Z u)).frozen? ⟨w.heap.size + 1, i, none⟩ = false := fun i => World.frozen?_alloc_at Z u _ i (by simp)
  exact ⟨fun i => (hb.cell (p := ⟨w.heap.size, i, none⟩) (by simp <;> omega)).trans (q1 i), fun i => (hb.frozen (p := ⟨w.heap.size, i, none⟩) (by simp <;> omega)).trans (r1 i), fun i => (hb.cell (p := ⟨w.heap.size + 1, i, none⟩) (by simp)).trans (q2 i), fun i => (hb.frozen (p := ⟨w.heap.size + 1, i, none⟩) (by simp)).trans (r2 i), by omega, (((Below.refl _ _).alloc (Nat.le_refl _) _).alloc (by simp) _).trans (hb.mono (by simp <;> omega))⟩
theorem keep2h {B : Nat} {x y : World} {I Z : Array Value} (a : ∀ i, x.cell? ⟨B, i, none⟩ = I[i]?) (b : ∀ i, x.frozen? ⟨B, i, none⟩ = false) (c : ∀ i, x.cell? ⟨B + 1, i, none⟩ = Z[i]?) (d : ∀ i, x.frozen? ⟨B + 1, i, none⟩ = false) (s : B + 1 < x.heap.size) (hb : Below x.heap.size x y) :
    (∀ i, y.cell? ⟨B, i, none⟩ = I[i]?) ∧ (∀ i, y.frozen? ⟨B, i, none⟩ = false) ∧ (∀ i, y.cell? ⟨B + 1, i, none⟩ = Z[i]?) ∧ (∀ i, y.frozen? ⟨B + 1, i, none⟩ = false) ∧ B + 1 < y.heap.size :=
  ⟨fun i => (hb.cell (p := ⟨B, i, none⟩) (by show B < _; omega)).trans (a i), fun i => (hb.frozen (p := ⟨B, i, none⟩) (by show B < _; omega)).trans (b i), fun i => (hb.cell (p := ⟨B + 1, i, none⟩) s).trans (c i), fun i => (hb.frozen (p := ⟨B + 1, i, none⟩) s).trans (d i), Nat.lt_of_lt_of_le s hb.size⟩
set_option maxHeartbeats 4000000 in
theorem fa_1_h (p : Nat) (cv : Value) (S : HS) (op rd : Int) (rs1 rs2 : Nat) (imm : Int) (x : Int) (w : World) (h : PH w p cv S) (hL : Laid w) (hr : rs1 < 32) (hX : S.whereI op rs1 imm = x) (hn : szI op = 1) (hh : S.hasB op x = true) : Calls Tryz.prog 102 #[.pointer (some ⟨p, 0, none⟩), .agg #[.int .i64 op, .int .i64 rd, .int .i64 rs1, .int .i64 rs2, .int .i64 imm]] w fun e w' => e = .returned (.agg #[.int .i64 (-1), .int .u32 0]) ∧ Below w.heap.size w w' := by
  have HH : Hid (PH w p cv S) := h
  have HL : Hid (Laid w) := hL
  clear h hL
  obtain ⟨c, hc⟩ : ∃ c, clR op = c := ⟨_, rfl⟩
  try unfold loadB
  try rw [hc]
  cases l1 : (c == 4)
  · cases l2 : (op == 46)
    all_goals
      go_enter Tryz.func102, Tryz.ntmps102
      go_wp2_with (first
    | (go_at_call 40; refine (paddr_any p cv S _ _ _ _ _ _ ((HH.out.alloc _).alloc _) ((HL.out.alloc _).alloc _) hr).mono ?_; rintro e w1 ⟨rfl, hb1⟩; rw [hX]; obtain ⟨m1, n1, k1, j1, l1, o1⟩ := keep2g hb1)
    | (go_at_call 64; refine (p_class _ _ (HL.out.below o1)).mono ?_; rintro e w2 ⟨rfl, hb2⟩; rw [hc]; obtain ⟨m2, n2, k2, j2, l2⟩ := keep2h m1 n1 k1 j1 l1 hb2; have o2 := below2 o1 hb2)
    | (go_at_call 39; refine (p_size _ _ (HL.out.below o2)).mono ?_; rintro e w3 ⟨rfl, hb3⟩; rw [hn]; obtain ⟨m3, n3, k3, j3, l3⟩ := keep2h m2 n2 k2 j2 l2 hb3; have o3 := below2 o2 hb3)
    | (go_at_call 118; refine (has_any p cv S _ _ _ _ _ _ _ (HH.out.below o3) (HL.out.below o3)).mono ?_; rintro e w4 ⟨rfl, hb4⟩; rw [hh]; obtain ⟨m4, n4, k4, j4, l4⟩ := keep2h m3 n3 k3 j3 l3 hb4; have o4 := below2 o3 hb4)
    | (go_at_call 103; refine (fine_any _).mono ?_; rintro e w5 ⟨rfl, hb5⟩; obtain ⟨m5, n5, k5, j5, l5⟩ := keep2h m4 n4 k4 j4 l4 hb5; have o5 := below2 o4 hb5))
      refine bodyPost_ret (v := _) (by simp [results, Tryz.results102, go_sem, k5]; try rfl) rfl ⟨rfl, ?_⟩
      exact (o5.setCell (Nat.le_succ _) _).setCell (Nat.le_succ _) _
  · go_enter Tryz.func102, Tryz.ntmps102
    go_wp2_with (first
    | (go_at_call 40; refine (paddr_any p cv S _ _ _ _ _ _ ((HH.out.alloc _).alloc _) ((HL.out.alloc _).alloc _) hr).mono ?_; rintro e w1 ⟨rfl, hb1⟩; rw [hX]; obtain ⟨m1, n1, k1, j1, l1, o1⟩ := keep2g hb1)
    | (go_at_call 64; refine (p_class _ _ (HL.out.below o1)).mono ?_; rintro e w2 ⟨rfl, hb2⟩; rw [hc]; obtain ⟨m2, n2, k2, j2, l2⟩ := keep2h m1 n1 k1 j1 l1 hb2; have o2 := below2 o1 hb2)
    | (go_at_call 39; refine (p_size _ _ (HL.out.below o2)).mono ?_; rintro e w3 ⟨rfl, hb3⟩; rw [hn]; obtain ⟨m3, n3, k3, j3, l3⟩ := keep2h m2 n2 k2 j2 l2 hb3; have o3 := below2 o2 hb3)
    | (go_at_call 118; refine (has_any p cv S _ _ _ _ _ _ _ (HH.out.below o3) (HL.out.below o3)).mono ?_; rintro e w4 ⟨rfl, hb4⟩; rw [hh]; obtain ⟨m4, n4, k4, j4, l4⟩ := keep2h m3 n3 k3 j3 l3 hb4; have o4 := below2 o3 hb4)
    | (go_at_call 103; refine (fine_any _).mono ?_; rintro e w5 ⟨rfl, hb5⟩; obtain ⟨m5, n5, k5, j5, l5⟩ := keep2h m4 n4 k4 j4 l4 hb5; have o5 := below2 o4 hb5))
    refine bodyPost_ret (v := _) (by simp [results, Tryz.results102, go_sem, k5]; try rfl) rfl ⟨rfl, ?_⟩
    exact (o5.setCell (Nat.le_succ _) _).setCell (Nat.le_succ _) _
set_option maxHeartbeats 4000000 in
theorem fa_1_n (p : Nat) (cv : Value) (S : HS) (op rd : Int) (rs1 rs2 : Nat) (imm : Int) (x : Int) (w : World) (h : PH w p cv S) (hL : Laid w) (hr : rs1 < 32) (hX : S.whereI op rs1 imm = x) (hn : szI op = 1) (hh : S.hasB op x = false) : Calls Tryz.prog 102 #[.pointer (some ⟨p, 0, none⟩), .agg #[.int .i64 op, .int .i64 rd, .int .i64 rs1, .int .i64 rs2, .int .i64 imm]] w fun e w' => e = .returned (.agg #[.int .i64 (if loadB op then 5 else 7), .int .u32 x]) ∧ Below w.heap.size w w' := by
  have HH : Hid (PH w p cv S) := h
  have HL : Hid (Laid w) := hL
  clear h hL
  obtain ⟨c, hc⟩ : ∃ c, clR op = c := ⟨_, rfl⟩
  try unfold loadB
  try rw [hc]
  cases l1 : (c == 4)
  · cases l2 : (op == 46)
    all_goals
      go_enter Tryz.func102, Tryz.ntmps102
      go_wp2_with (first
    | (go_at_call 40; refine (paddr_any p cv S _ _ _ _ _ _ ((HH.out.alloc _).alloc _) ((HL.out.alloc _).alloc _) hr).mono ?_; rintro e w1 ⟨rfl, hb1⟩; rw [hX]; obtain ⟨m1, n1, k1, j1, l1, o1⟩ := keep2g hb1)
    | (go_at_call 64; refine (p_class _ _ (HL.out.below o1)).mono ?_; rintro e w2 ⟨rfl, hb2⟩; rw [hc]; obtain ⟨m2, n2, k2, j2, l2⟩ := keep2h m1 n1 k1 j1 l1 hb2; have o2 := below2 o1 hb2)
    | (go_at_call 39; refine (p_size _ _ (HL.out.below o2)).mono ?_; rintro e w3 ⟨rfl, hb3⟩; rw [hn]; obtain ⟨m3, n3, k3, j3, l3⟩ := keep2h m2 n2 k2 j2 l2 hb3; have o3 := below2 o2 hb3)
    | (go_at_call 118; refine (has_any p cv S _ _ _ _ _ _ _ (HH.out.below o3) (HL.out.below o3)).mono ?_; rintro e w4 ⟨rfl, hb4⟩; rw [hh]; obtain ⟨m4, n4, k4, j4, l4⟩ := keep2h m3 n3 k3 j3 l3 hb4; have o4 := below2 o3 hb4))
      refine bodyPost_ret (v := _) (by simp [results, Tryz.results102, go_sem, k4]; try rfl) rfl ⟨rfl, ?_⟩
      exact (o4.setCell (Nat.le_succ _) _).setCell (Nat.le_succ _) _
  · go_enter Tryz.func102, Tryz.ntmps102
    go_wp2_with (first
    | (go_at_call 40; refine (paddr_any p cv S _ _ _ _ _ _ ((HH.out.alloc _).alloc _) ((HL.out.alloc _).alloc _) hr).mono ?_; rintro e w1 ⟨rfl, hb1⟩; rw [hX]; obtain ⟨m1, n1, k1, j1, l1, o1⟩ := keep2g hb1)
    | (go_at_call 64; refine (p_class _ _ (HL.out.below o1)).mono ?_; rintro e w2 ⟨rfl, hb2⟩; rw [hc]; obtain ⟨m2, n2, k2, j2, l2⟩ := keep2h m1 n1 k1 j1 l1 hb2; have o2 := below2 o1 hb2)
    | (go_at_call 39; refine (p_size _ _ (HL.out.below o2)).mono ?_; rintro e w3 ⟨rfl, hb3⟩; rw [hn]; obtain ⟨m3, n3, k3, j3, l3⟩ := keep2h m2 n2 k2 j2 l2 hb3; have o3 := below2 o2 hb3)
    | (go_at_call 118; refine (has_any p cv S _ _ _ _ _ _ _ (HH.out.below o3) (HL.out.below o3)).mono ?_; rintro e w4 ⟨rfl, hb4⟩; rw [hh]; obtain ⟨m4, n4, k4, j4, l4⟩ := keep2h m3 n3 k3 j3 l3 hb4; have o4 := below2 o3 hb4))
    refine bodyPost_ret (v := _) (by simp [results, Tryz.results102, go_sem, k4]; try rfl) rfl ⟨rfl, ?_⟩
    exact (o4.setCell (Nat.le_succ _) _).setCell (Nat.le_succ _) _
set_option maxHeartbeats 4000000 in
theorem fa_2_b (p : Nat) (cv : Value) (S : HS) (op rd : Int) (rs1 rs2 : Nat) (imm : Int) (x : Int) (w : World) (h : PH w p cv S) (hL : Laid w) (hr : rs1 < 32) (hX : S.whereI op rs1 imm = x) (hn : szI op = 2) (hb : (x.tmod 2 != 0) = true) : Calls Tryz.prog 102 #[.pointer (some ⟨p, 0, none⟩), .agg #[.int .i64 op, .int .i64 rd, .int .i64 rs1, .int .i64 rs2, .int .i64 imm]] w fun e w' => e = .returned (.agg #[.int .i64 (if loadB op then 4 else 6), .int .u32 x]) ∧ Below w.heap.size w w' := by
  have HH : Hid (PH w p cv S) := h
  have HL : Hid (Laid w) := hL
  clear h hL
  obtain ⟨c, hc⟩ : ∃ c, clR op = c := ⟨_, rfl⟩
  try unfold loadB
  try rw [hc]
  cases l1 : (c == 4)
  · cases l2 : (op == 46)
    all_goals
      go_enter Tryz.func102, Tryz.ntmps102
      go_wp2_with (first
    | (go_at_call 40; refine (paddr_any p cv S _ _ _ _ _ _ ((HH.out.alloc _).alloc _) ((HL.out.alloc _).alloc _) hr).mono ?_; rintro e w1 ⟨rfl, hb1⟩; rw [hX]; obtain ⟨m1, n1, k1, j1, l1, o1⟩ := keep2g hb1)
    | (go_at_call 64; refine (p_class _ _ (HL.out.below o1)).mono ?_; rintro e w2 ⟨rfl, hb2⟩; rw [hc]; obtain ⟨m2, n2, k2, j2, l2⟩ := keep2h m1 n1 k1 j1 l1 hb2; have o2 := below2 o1 hb2)
    | (go_at_call 39; refine (p_size _ _ (HL.out.below o2)).mono ?_; rintro e w3 ⟨rfl, hb3⟩; rw [hn]; obtain ⟨m3, n3, k3, j3, l3⟩ := keep2h m2 n2 k2 j2 l2 hb3; have o3 := below2 o2 hb3))
      refine bodyPost_ret (v := _) (by simp [results, Tryz.results102, go_sem, k3]; try rfl) rfl ⟨rfl, ?_⟩
      exact (o3.setCell (Nat.le_succ _) _).setCell (Nat.le_succ _) _
  · go_enter Tryz.func102, Tryz.ntmps102
    go_wp2_with (first
    | (go_at_call 40; refine (paddr_any p cv S _ _ _ _ _ _ ((HH.out.alloc _).alloc _) ((HL.out.alloc _).alloc _) hr).mono ?_; rintro e w1 ⟨rfl, hb1⟩; rw [hX]; obtain ⟨m1, n1, k1, j1, l1, o1⟩ := keep2g hb1)
    | (go_at_call 64; refine (p_class _ _ (HL.out.below o1)).mono ?_; rintro e w2 ⟨rfl, hb2⟩; rw [hc]; obtain ⟨m2, n2, k2, j2, l2⟩ := keep2h m1 n1 k1 j1 l1 hb2; have o2 := below2 o1 hb2)
    | (go_at_call 39; refine (p_size _ _ (HL.out.below o2)).mono ?_; rintro e w3 ⟨rfl, hb3⟩; rw [hn]; obtain ⟨m3, n3, k3, j3, l3⟩ := keep2h m2 n2 k2 j2 l2 hb3; have o3 := below2 o2 hb3))
    refine bodyPost_ret (v := _) (by simp [results, Tryz.results102, go_sem, k3]; try rfl) rfl ⟨rfl, ?_⟩
    exact (o3.setCell (Nat.le_succ _) _).setCell (Nat.le_succ _) _
set_option maxHeartbeats 4000000 in
theorem fa_2_h (p : Nat) (cv : Value) (S : HS) (op rd : Int) (rs1 rs2 : Nat) (imm : Int) (x : Int) (w : World) (h : PH w p cv S) (hL : Laid w) (hr : rs1 < 32) (hX : S.whereI op rs1 imm = x) (hn : szI op = 2) (hb : (x.tmod 2 != 0) = false) (hh : S.hasB op x = true) : Calls Tryz.prog 102 #[.pointer (some ⟨p, 0, none⟩), .agg #[.int .i64 op, .int .i64 rd, .int .i64 rs1, .int .i64 rs2, .int .i64 imm]] w fun e w' => e = .returned (.agg #[.int .i64 (-1), .int .u32 0]) ∧ Below w.heap.size w w' := by
  have HH : Hid (PH w p cv S) := h
  have HL : Hid (Laid w) := hL
  clear h hL
  obtain ⟨c, hc⟩ : ∃ c, clR op = c := ⟨_, rfl⟩
  try unfold loadB
  try rw [hc]
  cases l1 : (c == 4)
  · cases l2 : (op == 46)
    all_goals
      go_enter Tryz.func102, Tryz.ntmps102
      go_wp2_with (first
    | (go_at_call 40; refine (paddr_any p cv S _ _ _ _ _ _ ((HH.out.alloc _).alloc _) ((HL.out.alloc _).alloc _) hr).mono ?_; rintro e w1 ⟨rfl, hb1⟩; rw [hX]; obtain ⟨m1, n1, k1, j1, l1, o1⟩ := keep2g hb1)
    | (go_at_call 64; refine (p_class _ _ (HL.out.below o1)).mono ?_; rintro e w2 ⟨rfl, hb2⟩; rw [hc]; obtain ⟨m2, n2, k2, j2, l2⟩ := keep2h m1 n1 k1 j1 l1 hb2; have o2 := below2 o1 hb2)
    | (go_at_call 39; refine (p_size _ _ (HL.out.below o2)).mono ?_; rintro e w3 ⟨rfl, hb3⟩; rw [hn]; obtain ⟨m3, n3, k3, j3, l3⟩ := keep2h m2 n2 k2 j2 l2 hb3; have o3 := below2 o2 hb3)
    | (go_at_call 118; refine (has_any p cv S _ _ _ _ _ _ _ (HH.out.below o3) (HL.out.below o3)).mono ?_; rintro e w4 ⟨rfl, hb4⟩; rw [hh]; obtain ⟨m4, n4, k4, j4, l4⟩ := keep2h m3 n3 k3 j3 l3 hb4; have o4 := below2 o3 hb4)
    | (go_at_call 103; refine (fine_any _).mono ?_; rintro e w5 ⟨rfl, hb5⟩; obtain ⟨m5, n5, k5, j5, l5⟩ := keep2h m4 n4 k4 j4 l4 hb5; have o5 := below2 o4 hb5))
      refine bodyPost_ret (v := _) (by simp [results, Tryz.results102, go_sem, k5]; try rfl) rfl ⟨rfl, ?_⟩
      exact (o5.setCell (Nat.le_succ _) _).setCell (Nat.le_succ _) _
  · go_enter Tryz.func102, Tryz.ntmps102
    go_wp2_with (first
    | (go_at_call 40; refine (paddr_any p cv S _ _ _ _ _ _ ((HH.out.alloc _).alloc _) ((HL.out.alloc _).alloc _) hr).mono ?_; rintro e w1 ⟨rfl, hb1⟩; rw [hX]; obtain ⟨m1, n1, k1, j1, l1, o1⟩ := keep2g hb1)
    | (go_at_call 64; refine (p_class _ _ (HL.out.below o1)).mono ?_; rintro e w2 ⟨rfl, hb2⟩; rw [hc]; obtain ⟨m2, n2, k2, j2, l2⟩ := keep2h m1 n1 k1 j1 l1 hb2; have o2 := below2 o1 hb2)
    | (go_at_call 39; refine (p_size _ _ (HL.out.below o2)).mono ?_; rintro e w3 ⟨rfl, hb3⟩; rw [hn]; obtain ⟨m3, n3, k3, j3, l3⟩ := keep2h m2 n2 k2 j2 l2 hb3; have o3 := below2 o2 hb3)
    | (go_at_call 118; refine (has_any p cv S _ _ _ _ _ _ _ (HH.out.below o3) (HL.out.below o3)).mono ?_; rintro e w4 ⟨rfl, hb4⟩; rw [hh]; obtain ⟨m4, n4, k4, j4, l4⟩ := keep2h m3 n3 k3 j3 l3 hb4; have o4 := below2 o3 hb4)
    | (go_at_call 103; refine (fine_any _).mono ?_; rintro e w5 ⟨rfl, hb5⟩; obtain ⟨m5, n5, k5, j5, l5⟩ := keep2h m4 n4 k4 j4 l4 hb5; have o5 := below2 o4 hb5))
    refine bodyPost_ret (v := _) (by simp [results, Tryz.results102, go_sem, k5]; try rfl) rfl ⟨rfl, ?_⟩
    exact (o5.setCell (Nat.le_succ _) _).setCell (Nat.le_succ _) _
set_option maxHeartbeats 4000000 in
theorem fa_2_n (p : Nat) (cv : Value) (S : HS) (op rd : Int) (rs1 rs2 : Nat) (imm : Int) (x : Int) (w : World) (h : PH w p cv S) (hL : Laid w) (hr : rs1 < 32) (hX : S.whereI op rs1 imm = x) (hn : szI op = 2) (hb : (x.tmod 2 != 0) = false) (hh : S.hasB op x = false) : Calls Tryz.prog 102 #[.pointer (some ⟨p, 0, none⟩), .agg #[.int .i64 op, .int .i64 rd, .int .i64 rs1, .int .i64 rs2, .int .i64 imm]] w fun e w' => e = .returned (.agg #[.int .i64 (if loadB op then 5 else 7), .int .u32 x]) ∧ Below w.heap.size w w' := by
  have HH : Hid (PH w p cv S) := h
  have HL : Hid (Laid w) := hL
  clear h hL
  obtain ⟨c, hc⟩ : ∃ c, clR op = c := ⟨_, rfl⟩
  try unfold loadB
  try rw [hc]
  cases l1 : (c == 4)
  · cases l2 : (op == 46)
    all_goals
      go_enter Tryz.func102, Tryz.ntmps102
      go_wp2_with (first
    | (go_at_call 40; refine (paddr_any p cv S _ _ _ _ _ _ ((HH.out.alloc _).alloc _) ((HL.out.alloc _).alloc _) hr).mono ?_; rintro e w1 ⟨rfl, hb1⟩; rw [hX]; obtain ⟨m1, n1, k1, j1, l1, o1⟩ := keep2g hb1)
    | (go_at_call 64; refine (p_class _ _ (HL.out.below o1)).mono ?_; rintro e w2 ⟨rfl, hb2⟩; rw [hc]; obtain ⟨m2, n2, k2, j2, l2⟩ := keep2h m1 n1 k1 j1 l1 hb2; have o2 := below2 o1 hb2)
    | (go_at_call 39; refine (p_size _ _ (HL.out.below o2)).mono ?_; rintro e w3 ⟨rfl, hb3⟩; rw [hn]; obtain ⟨m3, n3, k3, j3, l3⟩ := keep2h m2 n2 k2 j2 l2 hb3; have o3 := below2 o2 hb3)
    | (go_at_call 118; refine (has_any p cv S _ _ _ _ _ _ _ (HH.out.below o3) (HL.out.below o3)).mono ?_; rintro e w4 ⟨rfl, hb4⟩; rw [hh]; obtain ⟨m4, n4, k4, j4, l4⟩ := keep2h m3 n3 k3 j3 l3 hb4; have o4 := below2 o3 hb4))
      refine bodyPost_ret (v := _) (by simp [results, Tryz.results102, go_sem, k4]; try rfl) rfl ⟨rfl, ?_⟩
      exact (o4.setCell (Nat.le_succ _) _).setCell (Nat.le_succ _) _
  · go_enter Tryz.func102, Tryz.ntmps102
    go_wp2_with (first
    | (go_at_call 40; refine (paddr_any p cv S _ _ _ _ _ _ ((HH.out.alloc _).alloc _) ((HL.out.alloc _).alloc _) hr).mono ?_; rintro e w1 ⟨rfl, hb1⟩; rw [hX]; obtain ⟨m1, n1, k1, j1, l1, o1⟩ := keep2g hb1)
    | (go_at_call 64; refine (p_class _ _ (HL.out.below o1)).mono ?_; rintro e w2 ⟨rfl, hb2⟩; rw [hc]; obtain ⟨m2, n2, k2, j2, l2⟩ := keep2h m1 n1 k1 j1 l1 hb2; have o2 := below2 o1 hb2)
    | (go_at_call 39; refine (p_size _ _ (HL.out.below o2)).mono ?_; rintro e w3 ⟨rfl, hb3⟩; rw [hn]; obtain ⟨m3, n3, k3, j3, l3⟩ := keep2h m2 n2 k2 j2 l2 hb3; have o3 := below2 o2 hb3)
    | (go_at_call 118; refine (has_any p cv S _ _ _ _ _ _ _ (HH.out.below o3) (HL.out.below o3)).mono ?_; rintro e w4 ⟨rfl, hb4⟩; rw [hh]; obtain ⟨m4, n4, k4, j4, l4⟩ := keep2h m3 n3 k3 j3 l3 hb4; have o4 := below2 o3 hb4))
    refine bodyPost_ret (v := _) (by simp [results, Tryz.results102, go_sem, k4]; try rfl) rfl ⟨rfl, ?_⟩
    exact (o4.setCell (Nat.le_succ _) _).setCell (Nat.le_succ _) _
set_option maxHeartbeats 4000000 in
theorem fa_4_b (p : Nat) (cv : Value) (S : HS) (op rd : Int) (rs1 rs2 : Nat) (imm : Int) (x : Int) (w : World) (h : PH w p cv S) (hL : Laid w) (hr : rs1 < 32) (hX : S.whereI op rs1 imm = x) (hn : szI op = 4) (hb : (x.tmod 4 != 0) = true) : Calls Tryz.prog 102 #[.pointer (some ⟨p, 0, none⟩), .agg #[.int .i64 op, .int .i64 rd, .int .i64 rs1, .int .i64 rs2, .int .i64 imm]] w fun e w' => e = .returned (.agg #[.int .i64 (if loadB op then 4 else 6), .int .u32 x]) ∧ Below w.heap.size w w' := by
  have HH : Hid (PH w p cv S) := h
  have HL : Hid (Laid w) := hL
  clear h hL
  obtain ⟨c, hc⟩ : ∃ c, clR op = c := ⟨_, rfl⟩
  try unfold loadB
  try rw [hc]
  cases l1 : (c == 4)
  · cases l2 : (op == 46)
    all_goals
      go_enter Tryz.func102, Tryz.ntmps102
      go_wp2_with (first
    | (go_at_call 40; refine (paddr_any p cv S _ _ _ _ _ _ ((HH.out.alloc _).alloc _) ((HL.out.alloc _).alloc _) hr).mono ?_; rintro e w1 ⟨rfl, hb1⟩; rw [hX]; obtain ⟨m1, n1, k1, j1, l1, o1⟩ := keep2g hb1)
    | (go_at_call 64; refine (p_class _ _ (HL.out.below o1)).mono ?_; rintro e w2 ⟨rfl, hb2⟩; rw [hc]; obtain ⟨m2, n2, k2, j2, l2⟩ := keep2h m1 n1 k1 j1 l1 hb2; have o2 := below2 o1 hb2)
    | (go_at_call 39; refine (p_size _ _ (HL.out.below o2)).mono ?_; rintro e w3 ⟨rfl, hb3⟩; rw [hn]; obtain ⟨m3, n3, k3, j3, l3⟩ := keep2h m2 n2 k2 j2 l2 hb3; have o3 := below2 o2 hb3))
      refine bodyPost_ret (v := _) (by simp [results, Tryz.results102, go_sem, k3]; try rfl) rfl ⟨rfl, ?_⟩
      exact (o3.setCell (Nat.le_succ _) _).setCell (Nat.le_succ _) _
  · go_enter Tryz.func102, Tryz.ntmps102
    go_wp2_with (first
    | (go_at_call 40; refine (paddr_any p cv S _ _ _ _ _ _ ((HH.out.alloc _).alloc _) ((HL.out.alloc _).alloc _) hr).mono ?_; rintro e w1 ⟨rfl, hb1⟩; rw [hX]; obtain ⟨m1, n1, k1, j1, l1, o1⟩ := keep2g hb1)
    | (go_at_call 64; refine (p_class _ _ (HL.out.below o1)).mono ?_; rintro e w2 ⟨rfl, hb2⟩; rw [hc]; obtain ⟨m2, n2, k2, j2, l2⟩ := keep2h m1 n1 k1 j1 l1 hb2; have o2 := below2 o1 hb2)
    | (go_at_call 39; refine (p_size _ _ (HL.out.below o2)).mono ?_; rintro e w3 ⟨rfl, hb3⟩; rw [hn]; obtain ⟨m3, n3, k3, j3, l3⟩ := keep2h m2 n2 k2 j2 l2 hb3; have o3 := below2 o2 hb3))
    refine bodyPost_ret (v := _) (by simp [results, Tryz.results102, go_sem, k3]; try rfl) rfl ⟨rfl, ?_⟩
    exact (o3.setCell (Nat.le_succ _) _).setCell (Nat.le_succ _) _
set_option maxHeartbeats 4000000 in
theorem fa_4_h (p : Nat) (cv : Value) (S : HS) (op rd : Int) (rs1 rs2 : Nat) (imm : Int) (x : Int) (w : World) (h : PH w p cv S) (hL : Laid w) (hr : rs1 < 32) (hX : S.whereI op rs1 imm = x) (hn : szI op = 4) (hb : (x.tmod 4 != 0) = false) (hh : S.hasB op x = true) : Calls Tryz.prog 102 #[.pointer (some ⟨p, 0, none⟩), .agg #[.int .i64 op, .int .i64 rd, .int .i64 rs1, .int .i64 rs2, .int .i64 imm]] w fun e w' => e = .returned (.agg #[.int .i64 (-1), .int .u32 0]) ∧ Below w.heap.size w w' := by
  have HH : Hid (PH w p cv S) := h
  have HL : Hid (Laid w) := hL
  clear h hL
  obtain ⟨c, hc⟩ : ∃ c, clR op = c := ⟨_, rfl⟩
  try unfold loadB
  try rw [hc]
  cases l1 : (c == 4)
  · cases l2 : (op == 46)
    all_goals
      go_enter Tryz.func102, Tryz.ntmps102
      go_wp2_with (first
    | (go_at_call 40; refine (paddr_any p cv S _ _ _ _ _ _ ((HH.out.alloc _).alloc _) ((HL.out.alloc _).alloc _) hr).mono ?_; rintro e w1 ⟨rfl, hb1⟩; rw [hX]; obtain ⟨m1, n1, k1, j1, l1, o1⟩ := keep2g hb1)
    | (go_at_call 64; refine (p_class _ _ (HL.out.below o1)).mono ?_; rintro e w2 ⟨rfl, hb2⟩; rw [hc]; obtain ⟨m2, n2, k2, j2, l2⟩ := keep2h m1 n1 k1 j1 l1 hb2; have o2 := below2 o1 hb2)
    | (go_at_call 39; refine (p_size _ _ (HL.out.below o2)).mono ?_; rintro e w3 ⟨rfl, hb3⟩; rw [hn]; obtain ⟨m3, n3, k3, j3, l3⟩ := keep2h m2 n2 k2 j2 l2 hb3; have o3 := below2 o2 hb3)
    | (go_at_call 118; refine (has_any p cv S _ _ _ _ _ _ _ (HH.out.below o3) (HL.out.below o3)).mono ?_; rintro e w4 ⟨rfl, hb4⟩; rw [hh]; obtain ⟨m4, n4, k4, j4, l4⟩ := keep2h m3 n3 k3 j3 l3 hb4; have o4 := below2 o3 hb4)
    | (go_at_call 103; refine (fine_any _).mono ?_; rintro e w5 ⟨rfl, hb5⟩; obtain ⟨m5, n5, k5, j5, l5⟩ := keep2h m4 n4 k4 j4 l4 hb5; have o5 := below2 o4 hb5))
      refine bodyPost_ret (v := _) (by simp [results, Tryz.results102, go_sem, k5]; try rfl) rfl ⟨rfl, ?_⟩
      exact (o5.setCell (Nat.le_succ _) _).setCell (Nat.le_succ _) _
  · go_enter Tryz.func102, Tryz.ntmps102
    go_wp2_with (first
    | (go_at_call 40; refine (paddr_any p cv S _ _ _ _ _ _ ((HH.out.alloc _).alloc _) ((HL.out.alloc _).alloc _) hr).mono ?_; rintro e w1 ⟨rfl, hb1⟩; rw [hX]; obtain ⟨m1, n1, k1, j1, l1, o1⟩ := keep2g hb1)
    | (go_at_call 64; refine (p_class _ _ (HL.out.below o1)).mono ?_; rintro e w2 ⟨rfl, hb2⟩; rw [hc]; obtain ⟨m2, n2, k2, j2, l2⟩ := keep2h m1 n1 k1 j1 l1 hb2; have o2 := below2 o1 hb2)
    | (go_at_call 39; refine (p_size _ _ (HL.out.below o2)).mono ?_; rintro e w3 ⟨rfl, hb3⟩; rw [hn]; obtain ⟨m3, n3, k3, j3, l3⟩ := keep2h m2 n2 k2 j2 l2 hb3; have o3 := below2 o2 hb3)
    | (go_at_call 118; refine (has_any p cv S _ _ _ _ _ _ _ (HH.out.below o3) (HL.out.below o3)).mono ?_; rintro e w4 ⟨rfl, hb4⟩; rw [hh]; obtain ⟨m4, n4, k4, j4, l4⟩ := keep2h m3 n3 k3 j3 l3 hb4; have o4 := below2 o3 hb4)
    | (go_at_call 103; refine (fine_any _).mono ?_; rintro e w5 ⟨rfl, hb5⟩; obtain ⟨m5, n5, k5, j5, l5⟩ := keep2h m4 n4 k4 j4 l4 hb5; have o5 := below2 o4 hb5))
    refine bodyPost_ret (v := _) (by simp [results, Tryz.results102, go_sem, k5]; try rfl) rfl ⟨rfl, ?_⟩
    exact (o5.setCell (Nat.le_succ _) _).setCell (Nat.le_succ _) _
set_option maxHeartbeats 4000000 in
theorem fa_4_n (p : Nat) (cv : Value) (S : HS) (op rd : Int) (rs1 rs2 : Nat) (imm : Int) (x : Int) (w : World) (h : PH w p cv S) (hL : Laid w) (hr : rs1 < 32) (hX : S.whereI op rs1 imm = x) (hn : szI op = 4) (hb : (x.tmod 4 != 0) = false) (hh : S.hasB op x = false) : Calls Tryz.prog 102 #[.pointer (some ⟨p, 0, none⟩), .agg #[.int .i64 op, .int .i64 rd, .int .i64 rs1, .int .i64 rs2, .int .i64 imm]] w fun e w' => e = .returned (.agg #[.int .i64 (if loadB op then 5 else 7), .int .u32 x]) ∧ Below w.heap.size w w' := by
  have HH : Hid (PH w p cv S) := h
  have HL : Hid (Laid w) := hL
  clear h hL
  obtain ⟨c, hc⟩ : ∃ c, clR op = c := ⟨_, rfl⟩
  try unfold loadB
  try rw [hc]
  cases l1 : (c == 4)
  · cases l2 : (op == 46)
    all_goals
      go_enter Tryz.func102, Tryz.ntmps102
      go_wp2_with (first
    | (go_at_call 40; refine (paddr_any p cv S _ _ _ _ _ _ ((HH.out.alloc _).alloc _) ((HL.out.alloc _).alloc _) hr).mono ?_; rintro e w1 ⟨rfl, hb1⟩; rw [hX]; obtain ⟨m1, n1, k1, j1, l1, o1⟩ := keep2g hb1)
    | (go_at_call 64; refine (p_class _ _ (HL.out.below o1)).mono ?_; rintro e w2 ⟨rfl, hb2⟩; rw [hc]; obtain ⟨m2, n2, k2, j2, l2⟩ := keep2h m1 n1 k1 j1 l1 hb2; have o2 := below2 o1 hb2)
    | (go_at_call 39; refine (p_size _ _ (HL.out.below o2)).mono ?_; rintro e w3 ⟨rfl, hb3⟩; rw [hn]; obtain ⟨m3, n3, k3, j3, l3⟩ := keep2h m2 n2 k2 j2 l2 hb3; have o3 := below2 o2 hb3)
    | (go_at_call 118; refine (has_any p cv S _ _ _ _ _ _ _ (HH.out.below o3) (HL.out.below o3)).mono ?_; rintro e w4 ⟨rfl, hb4⟩; rw [hh]; obtain ⟨m4, n4, k4, j4, l4⟩ := keep2h m3 n3 k3 j3 l3 hb4; have o4 := below2 o3 hb4))
      refine bodyPost_ret (v := _) (by simp [results, Tryz.results102, go_sem, k4]; try rfl) rfl ⟨rfl, ?_⟩
      exact (o4.setCell (Nat.le_succ _) _).setCell (Nat.le_succ _) _
  · go_enter Tryz.func102, Tryz.ntmps102
    go_wp2_with (first
    | (go_at_call 40; refine (paddr_any p cv S _ _ _ _ _ _ ((HH.out.alloc _).alloc _) ((HL.out.alloc _).alloc _) hr).mono ?_; rintro e w1 ⟨rfl, hb1⟩; rw [hX]; obtain ⟨m1, n1, k1, j1, l1, o1⟩ := keep2g hb1)
    | (go_at_call 64; refine (p_class _ _ (HL.out.below o1)).mono ?_; rintro e w2 ⟨rfl, hb2⟩; rw [hc]; obtain ⟨m2, n2, k2, j2, l2⟩ := keep2h m1 n1 k1 j1 l1 hb2; have o2 := below2 o1 hb2)
    | (go_at_call 39; refine (p_size _ _ (HL.out.below o2)).mono ?_; rintro e w3 ⟨rfl, hb3⟩; rw [hn]; obtain ⟨m3, n3, k3, j3, l3⟩ := keep2h m2 n2 k2 j2 l2 hb3; have o3 := below2 o2 hb3)
    | (go_at_call 118; refine (has_any p cv S _ _ _ _ _ _ _ (HH.out.below o3) (HL.out.below o3)).mono ?_; rintro e w4 ⟨rfl, hb4⟩; rw [hh]; obtain ⟨m4, n4, k4, j4, l4⟩ := keep2h m3 n3 k3 j3 l3 hb4; have o4 := below2 o3 hb4))
    refine bodyPost_ret (v := _) (by simp [results, Tryz.results102, go_sem, k4]; try rfl) rfl ⟨rfl, ?_⟩
    exact (o4.setCell (Nat.le_succ _) _).setCell (Nat.le_succ _) _
end Go.Proofs.YtengofkjlgajlaaGreatDoor
