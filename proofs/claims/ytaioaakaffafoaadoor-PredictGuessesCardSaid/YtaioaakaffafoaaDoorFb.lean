/-
  PREDICT: how the answer's predictor goes on.
-/
import Derived.Test.YtaioaakaffafoaaDoorFa
import Derived.BigRegion
namespace Go.Proofs.YtaioaakaffafoaaDoor
open Go Go.RowKit
set_option maxRecDepth 20000 in
set_option maxHeartbeats 400000 in
theorem rgo_br0 (G : PG) (kd : Int) (bits tb : Nat) (S : PS) (rd rs1 imm pc : Int) (taken : Bool) (w : World) (h : Rp w G kd bits 0 tb S) : Calls Tryd.prog 27 #[.pointer (some ⟨G.p, 0, none⟩), .int .u32 pc, .agg #[.int .i64 1, .int .i64 rd, .int .i64 rs1, .int .i64 imm], .bool taken] w fun e w' => e = .returned (.tuple #[]) ∧ Rp w' G kd bits 0 tb { S with hist := (S.hist * 2 + (if taken then 1 else 0)) % 1 } ∧ Turned (fun k => k = G.p ∨ k = G.gs) w w' := by
  have c4 : w.cell? ⟨G.p, 4, none⟩ = some (.int .i64 G.ns) := h.cells.cell 4 (by decide)
  have c9 : w.cell? ⟨G.p, 9, none⟩ = some (.int .i64 S.top) := h.cells.cell 9 (by decide)
  have c5 : w.cell? ⟨G.p, 5, none⟩ = some (.int .i64 S.hist) := h.cells.cell 5 (by decide)
  have c2 : w.cell? ⟨G.p, 2, none⟩ = some (.int .i64 0) := h.cells.cell 2 (by decide)
  have c8 : w.cell? ⟨G.p, 8, none⟩ = some (.slice (some ⟨G.gs, 0, none⟩) G.ns G.ns) := h.cells.cell 8 (by decide)
  have h3 := h.cells.here
  have h4 := h.cells.free
  have n1 : ¬ G.p = w.heap.size := by omega
  obtain ⟨s1, s2, s3, s4, s5, s6, s7⟩ := h.size
  obtain ⟨l1, l2⟩ := h.low
  have HR := Hid.in h
  have hmk : G.mask = 0 := by have := h.pw; omega
  obtain ⟨t, ht⟩ : ∃ t, t = (S.hist * 2 + (if taken then 1 else 0)) % 1 := ⟨_, rfl⟩
  rw [← ht]
  have HT : Hid (t ≤ G.mask) := by show _ ≤ _; rw [ht, hmk]; have := Nat.mod_lt (S.hist * 2 + (if taken then 1 else 0)) (show 0 < 1 by omega); omega
  cases taken
  · have htm : (2 * (S.hist : Int)).tmod 1 = (t : Int) := by
      rw [Int.tmod_eq_emod_of_nonneg (by omega), ht]
      simp
      try omega
    have htm2 : (2 * (S.hist : Int)) % 1 = (t : Int) := by
      rw [ht]
      simp
      try omega
    have ht0 : t = 0 := by rw [ht]; omega
    subst ht0
    clear h htm htm2 ht hmk
    go_enter Tryd.func27, Tryd.ntmps27
    go_wp2
    refine bodyPost_ret (results_none Tryd.results27 _ _ _) rfl ⟨rfl, ?_, ?_⟩
    · exact (HR.out.setHist 0 HT.out).below ((Below.refl _ _).alloc (Nat.le_refl _) _)
    · exact ((Turned.refl (fun k => k = G.p ∨ k = G.gs) w).set (b := G.p) (Or.inl rfl) _ _).alloc _
  · have htm : (2 * (S.hist : Int) + 1).tmod 1 = (t : Int) := by
      rw [Int.tmod_eq_emod_of_nonneg (by omega), ht]
      simp
      try omega
    have htm2 : (2 * (S.hist : Int) + 1) % 1 = (t : Int) := by
      rw [ht]
      simp
      try omega
    have ht0 : t = 0 := by rw [ht]; omega
    subst ht0
    clear h htm htm2 ht hmk
    go_enter Tryd.func27, Tryd.ntmps27
    go_wp2
    refine bodyPost_ret (results_none Tryd.results27 _ _ _) rfl ⟨rfl, ?_, ?_⟩
    · exact (HR.out.setHist 0 HT.out).below ((Below.refl _ _).alloc (Nat.le_refl _) _)
    · exact ((Turned.refl (fun k => k = G.p ∨ k = G.gs) w).set (b := G.p) (Or.inl rfl) _ _).alloc _
set_option maxRecDepth 20000 in
set_option maxHeartbeats 400000 in
theorem rgo_br1 (G : PG) (kd : Int) (bits tb : Nat) (S : PS) (rd rs1 imm pc : Int) (taken : Bool) (w : World) (h : Rp w G kd bits 1 tb S) : Calls Tryd.prog 27 #[.pointer (some ⟨G.p, 0, none⟩), .int .u32 pc, .agg #[.int .i64 1, .int .i64 rd, .int .i64 rs1, .int .i64 imm], .bool taken] w fun e w' => e = .returned (.tuple #[]) ∧ Rp w' G kd bits 1 tb { S with hist := (S.hist * 2 + (if taken then 1 else 0)) % 2 } ∧ Turned (fun k => k = G.p ∨ k = G.gs) w w' := by
  have c4 : w.cell? ⟨G.p, 4, none⟩ = some (.int .i64 G.ns) := h.cells.cell 4 (by decide)
  have c9 : w.cell? ⟨G.p, 9, none⟩ = some (.int .i64 S.top) := h.cells.cell 9 (by decide)
  have c5 : w.cell? ⟨G.p, 5, none⟩ = some (.int .i64 S.hist) := h.cells.cell 5 (by decide)
  have c2 : w.cell? ⟨G.p, 2, none⟩ = some (.int .i64 1) := h.cells.cell 2 (by decide)
  have c8 : w.cell? ⟨G.p, 8, none⟩ = some (.slice (some ⟨G.gs, 0, none⟩) G.ns G.ns) := h.cells.cell 8 (by decide)
  have h3 := h.cells.here
  have h4 := h.cells.free
  have n1 : ¬ G.p = w.heap.size := by omega
  obtain ⟨s1, s2, s3, s4, s5, s6, s7⟩ := h.size
  obtain ⟨l1, l2⟩ := h.low
  have HR := Hid.in h
  have hmk : G.mask = 1 := by have := h.pw; omega
  obtain ⟨t, ht⟩ : ∃ t, t = (S.hist * 2 + (if taken then 1 else 0)) % 2 := ⟨_, rfl⟩
  rw [← ht]
  have HT : Hid (t ≤ G.mask) := by show _ ≤ _; rw [ht, hmk]; have := Nat.mod_lt (S.hist * 2 + (if taken then 1 else 0)) (show 0 < 2 by omega); omega
  cases taken
  · have htm : (2 * (S.hist : Int)).tmod 2 = (t : Int) := by
      rw [Int.tmod_eq_emod_of_nonneg (by omega), ht]
      simp
      try omega
    have htm2 : (2 * (S.hist : Int)) % 2 = (t : Int) := by
      rw [ht]
      simp
      try omega
    have ht0 : True := by trivial
    clear ht0
    clear h ht hmk
    go_enter Tryd.func27, Tryd.ntmps27
    go_wp2
    refine bodyPost_ret (results_none Tryd.results27 _ _ _) rfl ⟨rfl, ?_, ?_⟩
    · exact (HR.out.setHist t HT.out).below ((Below.refl _ _).alloc (Nat.le_refl _) _)
    · exact ((Turned.refl (fun k => k = G.p ∨ k = G.gs) w).set (b := G.p) (Or.inl rfl) _ _).alloc _
  · have htm : (2 * (S.hist : Int) + 1).tmod 2 = (t : Int) := by
      rw [Int.tmod_eq_emod_of_nonneg (by omega), ht]
      simp
      try omega
    have htm2 : (2 * (S.hist : Int) + 1) % 2 = (t : Int) := by
      rw [ht]
      simp
      try omega
    have ht0 : True := by trivial
    clear ht0
    clear h ht hmk
    go_enter Tryd.func27, Tryd.ntmps27
    go_wp2
    refine bodyPost_ret (results_none Tryd.results27 _ _ _) rfl ⟨rfl, ?_, ?_⟩
    · exact (HR.out.setHist t HT.out).below ((Below.refl _ _).alloc (Nat.le_refl _) _)
    · exact ((Turned.refl (fun k => k = G.p ∨ k = G.gs) w).set (b := G.p) (Or.inl rfl) _ _).alloc _
set_option maxRecDepth 20000 in
set_option maxHeartbeats 400000 in
theorem rgo_br2 (G : PG) (kd : Int) (bits tb : Nat) (S : PS) (rd rs1 imm pc : Int) (taken : Bool) (w : World) (h : Rp w G kd bits 2 tb S) : Calls Tryd.prog 27 #[.pointer (some ⟨G.p, 0, none⟩), .int .u32 pc, .agg #[.int .i64 1, .int .i64 rd, .int .i64 rs1, .int .i64 imm], .bool taken] w fun e w' => e = .returned (.tuple #[]) ∧ Rp w' G kd bits 2 tb { S with hist := (S.hist * 2 + (if taken then 1 else 0)) % 4 } ∧ Turned (fun k => k = G.p ∨ k = G.gs) w w' := by
  have c4 : w.cell? ⟨G.p, 4, none⟩ = some (.int .i64 G.ns) := h.cells.cell 4 (by decide)
  have c9 : w.cell? ⟨G.p, 9, none⟩ = some (.int .i64 S.top) := h.cells.cell 9 (by decide)
  have c5 : w.cell? ⟨G.p, 5, none⟩ = some (.int .i64 S.hist) := h.cells.cell 5 (by decide)
  have c2 : w.cell? ⟨G.p, 2, none⟩ = some (.int .i64 2) := h.cells.cell 2 (by decide)
  have c8 : w.cell? ⟨G.p, 8, none⟩ = some (.slice (some ⟨G.gs, 0, none⟩) G.ns G.ns) := h.cells.cell 8 (by decide)
  have h3 := h.cells.here
  have h4 := h.cells.free
  have n1 : ¬ G.p = w.heap.size := by omega
  obtain ⟨s1, s2, s3, s4, s5, s6, s7⟩ := h.size
  obtain ⟨l1, l2⟩ := h.low
  have HR := Hid.in h
  have hmk : G.mask = 3 := by have := h.pw; omega
  obtain ⟨t, ht⟩ : ∃ t, t = (S.hist * 2 + (if taken then 1 else 0)) % 4 := ⟨_, rfl⟩
  rw [← ht]
  have HT : Hid (t ≤ G.mask) := by show _ ≤ _; rw [ht, hmk]; have := Nat.mod_lt (S.hist * 2 + (if taken then 1 else 0)) (show 0 < 4 by omega); omega
  cases taken
  · have htm : (2 * (S.hist : Int)).tmod 4 = (t : Int) := by
      rw [Int.tmod_eq_emod_of_nonneg (by omega), ht]
      simp
      try omega
    have htm2 : (2 * (S.hist : Int)) % 4 = (t : Int) := by
      rw [ht]
      simp
      try omega
    have ht0 : True := by trivial
    clear ht0
    clear h ht hmk
    go_enter Tryd.func27, Tryd.ntmps27
    go_wp2
    refine bodyPost_ret (results_none Tryd.results27 _ _ _) rfl ⟨rfl, ?_, ?_⟩
    · exact (HR.out.setHist t HT.out).below ((Below.refl _ _).alloc (Nat.le_refl _) _)
    · exact ((Turned.refl (fun k => k = G.p ∨ k = G.gs) w).set (b := G.p) (Or.inl rfl) _ _).alloc _
  · have htm : (2 * (S.hist : Int) + 1).tmod 4 = (t : Int) := by
      rw [Int.tmod_eq_emod_of_nonneg (by omega), ht]
      simp
      try omega
    have htm2 : (2 * (S.hist : Int) + 1) % 4 = (t : Int) := by
      rw [ht]
      simp
      try omega
    have ht0 : True := by trivial
    clear ht0
    clear h ht hmk
    go_enter Tryd.func27, Tryd.ntmps27
    go_wp2
    refine bodyPost_ret (results_none Tryd.results27 _ _ _) rfl ⟨rfl, ?_, ?_⟩
    · exact (HR.out.setHist t HT.out).below ((Below.refl _ _).alloc (Nat.le_refl _) _)
    · exact ((Turned.refl (fun k => k = G.p ∨ k = G.gs) w).set (b := G.p) (Or.inl rfl) _ _).alloc _
set_option maxRecDepth 20000 in
set_option maxHeartbeats 400000 in
theorem rgo_br3 (G : PG) (kd : Int) (bits tb : Nat) (S : PS) (rd rs1 imm pc : Int) (taken : Bool) (w : World) (h : Rp w G kd bits 3 tb S) : Calls Tryd.prog 27 #[.pointer (some ⟨G.p, 0, none⟩), .int .u32 pc, .agg #[.int .i64 1, .int .i64 rd, .int .i64 rs1, .int .i64 imm], .bool taken] w fun e w' => e = .returned (.tuple #[]) ∧ Rp w' G kd bits 3 tb { S with hist := (S.hist * 2 + (if taken then 1 else 0)) % 8 } ∧ Turned (fun k => k = G.p ∨ k = G.gs) w w' := by
  have c4 : w.cell? ⟨G.p, 4, none⟩ = some (.int .i64 G.ns) := h.cells.cell 4 (by decide)
  have c9 : w.cell? ⟨G.p, 9, none⟩ = some (.int .i64 S.top) := h.cells.cell 9 (by decide)
  have c5 : w.cell? ⟨G.p, 5, none⟩ = some (.int .i64 S.hist) := h.cells.cell 5 (by decide)
  have c2 : w.cell? ⟨G.p, 2, none⟩ = some (.int .i64 3) := h.cells.cell 2 (by decide)
  have c8 : w.cell? ⟨G.p, 8, none⟩ = some (.slice (some ⟨G.gs, 0, none⟩) G.ns G.ns) := h.cells.cell 8 (by decide)
  have h3 := h.cells.here
  have h4 := h.cells.free
  have n1 : ¬ G.p = w.heap.size := by omega
  obtain ⟨s1, s2, s3, s4, s5, s6, s7⟩ := h.size
  obtain ⟨l1, l2⟩ := h.low
  have HR := Hid.in h
  have hmk : G.mask = 7 := by have := h.pw; omega
  obtain ⟨t, ht⟩ : ∃ t, t = (S.hist * 2 + (if taken then 1 else 0)) % 8 := ⟨_, rfl⟩
  rw [← ht]
  have HT : Hid (t ≤ G.mask) := by show _ ≤ _; rw [ht, hmk]; have := Nat.mod_lt (S.hist * 2 + (if taken then 1 else 0)) (show 0 < 8 by omega); omega
  cases taken
  · have htm : (2 * (S.hist : Int)).tmod 8 = (t : Int) := by
      rw [Int.tmod_eq_emod_of_nonneg (by omega), ht]
      simp
      try omega
    have htm2 : (2 * (S.hist : Int)) % 8 = (t : Int) := by
      rw [ht]
      simp
      try omega
    have ht0 : True := by trivial
    clear ht0
    clear h ht hmk
    go_enter Tryd.func27, Tryd.ntmps27
    go_wp2
    refine bodyPost_ret (results_none Tryd.results27 _ _ _) rfl ⟨rfl, ?_, ?_⟩
    · exact (HR.out.setHist t HT.out).below ((Below.refl _ _).alloc (Nat.le_refl _) _)
    · exact ((Turned.refl (fun k => k = G.p ∨ k = G.gs) w).set (b := G.p) (Or.inl rfl) _ _).alloc _
  · have htm : (2 * (S.hist : Int) + 1).tmod 8 = (t : Int) := by
      rw [Int.tmod_eq_emod_of_nonneg (by omega), ht]
      simp
      try omega
    have htm2 : (2 * (S.hist : Int) + 1) % 8 = (t : Int) := by
      rw [ht]
      simp
      try omega
    have ht0 : True := by trivial
    clear ht0
    clear h ht hmk
    go_enter Tryd.func27, Tryd.ntmps27
    go_wp2
    refine bodyPost_ret (results_none Tryd.results27 _ _ _) rfl ⟨rfl, ?_, ?_⟩
    · exact (HR.out.setHist t HT.out).below ((Below.refl _ _).alloc (Nat.le_refl _) _)
    · exact ((Turned.refl (fun k => k = G.p ∨ k = G.gs) w).set (b := G.p) (Or.inl rfl) _ _).alloc _
set_option maxRecDepth 20000 in
set_option maxHeartbeats 400000 in
theorem rgo_br4 (G : PG) (kd : Int) (bits tb : Nat) (S : PS) (rd rs1 imm pc : Int) (taken : Bool) (w : World) (h : Rp w G kd bits 4 tb S) : Calls Tryd.prog 27 #[.pointer (some ⟨G.p, 0, none⟩), .int .u32 pc, .agg #[.int .i64 1, .int .i64 rd, .int .i64 rs1, .int .i64 imm], .bool taken] w fun e w' => e = .returned (.tuple #[]) ∧ Rp w' G kd bits 4 tb { S with hist := (S.hist * 2 + (if taken then 1 else 0)) % 16 } ∧ Turned (fun k => k = G.p ∨ k = G.gs) w w' := by
  have c4 : w.cell? ⟨G.p, 4, none⟩ = some (.int .i64 G.ns) := h.cells.cell 4 (by decide)
  have c9 : w.cell? ⟨G.p, 9, none⟩ = some (.int .i64 S.top) := h.cells.cell 9 (by decide)
  have c5 : w.cell? ⟨G.p, 5, none⟩ = some (.int .i64 S.hist) := h.cells.cell 5 (by decide)
  have c2 : w.cell? ⟨G.p, 2, none⟩ = some (.int .i64 4) := h.cells.cell 2 (by decide)
  have c8 : w.cell? ⟨G.p, 8, none⟩ = some (.slice (some ⟨G.gs, 0, none⟩) G.ns G.ns) := h.cells.cell 8 (by decide)
  have h3 := h.cells.here
  have h4 := h.cells.free
  have n1 : ¬ G.p = w.heap.size := by omega
  obtain ⟨s1, s2, s3, s4, s5, s6, s7⟩ := h.size
  obtain ⟨l1, l2⟩ := h.low
  have HR := Hid.in h
  have hmk : G.mask = 15 := by have := h.pw; omega
  obtain ⟨t, ht⟩ : ∃ t, t = (S.hist * 2 + (if taken then 1 else 0)) % 16 := ⟨_, rfl⟩
  rw [← ht]
  have HT : Hid (t ≤ G.mask) := by show _ ≤ _; rw [ht, hmk]; have := Nat.mod_lt (S.hist * 2 + (if taken then 1 else 0)) (show 0 < 16 by omega); omega
  cases taken
  · have htm : (2 * (S.hist : Int)).tmod 16 = (t : Int) := by
      rw [Int.tmod_eq_emod_of_nonneg (by omega), ht]
      simp
      try omega
    have htm2 : (2 * (S.hist : Int)) % 16 = (t : Int) := by
      rw [ht]
      simp
      try omega
    have ht0 : True := by trivial
    clear ht0
    clear h ht hmk
    go_enter Tryd.func27, Tryd.ntmps27
    go_wp2
    refine bodyPost_ret (results_none Tryd.results27 _ _ _) rfl ⟨rfl, ?_, ?_⟩
    · exact (HR.out.setHist t HT.out).below ((Below.refl _ _).alloc (Nat.le_refl _) _)
    · exact ((Turned.refl (fun k => k = G.p ∨ k = G.gs) w).set (b := G.p) (Or.inl rfl) _ _).alloc _
  · have htm : (2 * (S.hist : Int) + 1).tmod 16 = (t : Int) := by
      rw [Int.tmod_eq_emod_of_nonneg (by omega), ht]
      simp
      try omega
    have htm2 : (2 * (S.hist : Int) + 1) % 16 = (t : Int) := by
      rw [ht]
      simp
      try omega
    have ht0 : True := by trivial
    clear ht0
    clear h ht hmk
    go_enter Tryd.func27, Tryd.ntmps27
    go_wp2
    refine bodyPost_ret (results_none Tryd.results27 _ _ _) rfl ⟨rfl, ?_, ?_⟩
    · exact (HR.out.setHist t HT.out).below ((Below.refl _ _).alloc (Nat.le_refl _) _)
    · exact ((Turned.refl (fun k => k = G.p ∨ k = G.gs) w).set (b := G.p) (Or.inl rfl) _ _).alloc _
set_option maxRecDepth 20000 in
set_option maxHeartbeats 400000 in
theorem rgo_br5 (G : PG) (kd : Int) (bits tb : Nat) (S : PS) (rd rs1 imm pc : Int) (taken : Bool) (w : World) (h : Rp w G kd bits 5 tb S) : Calls Tryd.prog 27 #[.pointer (some ⟨G.p, 0, none⟩), .int .u32 pc, .agg #[.int .i64 1, .int .i64 rd, .int .i64 rs1, .int .i64 imm], .bool taken] w fun e w' => e = .returned (.tuple #[]) ∧ Rp w' G kd bits 5 tb { S with hist := (S.hist * 2 + (if taken then 1 else 0)) % 32 } ∧ Turned (fun k => k = G.p ∨ k = G.gs) w w' := by
  have c4 : w.cell? ⟨G.p, 4, none⟩ = some (.int .i64 G.ns) := h.cells.cell 4 (by decide)
  have c9 : w.cell? ⟨G.p, 9, none⟩ = some (.int .i64 S.top) := h.cells.cell 9 (by decide)
  have c5 : w.cell? ⟨G.p, 5, none⟩ = some (.int .i64 S.hist) := h.cells.cell 5 (by decide)
  have c2 : w.cell? ⟨G.p, 2, none⟩ = some (.int .i64 5) := h.cells.cell 2 (by decide)
  have c8 : w.cell? ⟨G.p, 8, none⟩ = some (.slice (some ⟨G.gs, 0, none⟩) G.ns G.ns) := h.cells.cell 8 (by decide)
  have h3 := h.cells.here
  have h4 := h.cells.free
  have n1 : ¬ G.p = w.heap.size := by omega
  obtain ⟨s1, s2, s3, s4, s5, s6, s7⟩ := h.size
  obtain ⟨l1, l2⟩ := h.low
  have HR := Hid.in h
  have hmk : G.mask = 31 := by have := h.pw; omega
  obtain ⟨t, ht⟩ : ∃ t, t = (S.hist * 2 + (if taken then 1 else 0)) % 32 := ⟨_, rfl⟩
  rw [← ht]
  have HT : Hid (t ≤ G.mask) := by show _ ≤ _; rw [ht, hmk]; have := Nat.mod_lt (S.hist * 2 + (if taken then 1 else 0)) (show 0 < 32 by omega); omega
  cases taken
  · have htm : (2 * (S.hist : Int)).tmod 32 = (t : Int) := by
      rw [Int.tmod_eq_emod_of_nonneg (by omega), ht]
      simp
      try omega
    have htm2 : (2 * (S.hist : Int)) % 32 = (t : Int) := by
      rw [ht]
      simp
      try omega
    have ht0 : True := by trivial
    clear ht0
    clear h ht hmk
    go_enter Tryd.func27, Tryd.ntmps27
    go_wp2
    refine bodyPost_ret (results_none Tryd.results27 _ _ _) rfl ⟨rfl, ?_, ?_⟩
    · exact (HR.out.setHist t HT.out).below ((Below.refl _ _).alloc (Nat.le_refl _) _)
    · exact ((Turned.refl (fun k => k = G.p ∨ k = G.gs) w).set (b := G.p) (Or.inl rfl) _ _).alloc _
  · have htm : (2 * (S.hist : Int) + 1).tmod 32 = (t : Int) := by
      rw [Int.tmod_eq_emod_of_nonneg (by omega), ht]
      simp
      try omega
    have htm2 : (2 * (S.hist : Int) + 1) % 32 = (t : Int) := by
      rw [ht]
      simp
      try omega
    have ht0 : True := by trivial
    clear ht0
    clear h ht hmk
    go_enter Tryd.func27, Tryd.ntmps27
    go_wp2
    refine bodyPost_ret (results_none Tryd.results27 _ _ _) rfl ⟨rfl, ?_, ?_⟩
    · exact (HR.out.setHist t HT.out).below ((Below.refl _ _).alloc (Nat.le_refl _) _)
    · exact ((Turned.refl (fun k => k = G.p ∨ k = G.gs) w).set (b := G.p) (Or.inl rfl) _ _).alloc _
set_option maxRecDepth 20000 in
set_option maxHeartbeats 400000 in
theorem rgo_br6 (G : PG) (kd : Int) (bits tb : Nat) (S : PS) (rd rs1 imm pc : Int) (taken : Bool) (w : World) (h : Rp w G kd bits 6 tb S) : Calls Tryd.prog 27 #[.pointer (some ⟨G.p, 0, none⟩), .int .u32 pc, .agg #[.int .i64 1, .int .i64 rd, .int .i64 rs1, .int .i64 imm], .bool taken] w fun e w' => e = .returned (.tuple #[]) ∧ Rp w' G kd bits 6 tb { S with hist := (S.hist * 2 + (if taken then 1 else 0)) % 64 } ∧ Turned (fun k => k = G.p ∨ k = G.gs) w w' := by
  have c4 : w.cell? ⟨G.p, 4, none⟩ = some (.int .i64 G.ns) := h.cells.cell 4 (by decide)
  have c9 : w.cell? ⟨G.p, 9, none⟩ = some (.int .i64 S.top) := h.cells.cell 9 (by decide)
  have c5 : w.cell? ⟨G.p, 5, none⟩ = some (.int .i64 S.hist) := h.cells.cell 5 (by decide)
  have c2 : w.cell? ⟨G.p, 2, none⟩ = some (.int .i64 6) := h.cells.cell 2 (by decide)
  have c8 : w.cell? ⟨G.p, 8, none⟩ = some (.slice (some ⟨G.gs, 0, none⟩) G.ns G.ns) := h.cells.cell 8 (by decide)
  have h3 := h.cells.here
  have h4 := h.cells.free
  have n1 : ¬ G.p = w.heap.size := by omega
  obtain ⟨s1, s2, s3, s4, s5, s6, s7⟩ := h.size
  obtain ⟨l1, l2⟩ := h.low
  have HR := Hid.in h
  have hmk : G.mask = 63 := by have := h.pw; omega
  obtain ⟨t, ht⟩ : ∃ t, t = (S.hist * 2 + (if taken then 1 else 0)) % 64 := ⟨_, rfl⟩
  rw [← ht]
  have HT : Hid (t ≤ G.mask) := by show _ ≤ _; rw [ht, hmk]; have := Nat.mod_lt (S.hist * 2 + (if taken then 1 else 0)) (show 0 < 64 by omega); omega
  cases taken
  · have htm : (2 * (S.hist : Int)).tmod 64 = (t : Int) := by
      rw [Int.tmod_eq_emod_of_nonneg (by omega), ht]
      simp
      try omega
    have htm2 : (2 * (S.hist : Int)) % 64 = (t : Int) := by
      rw [ht]
      simp
      try omega
    have ht0 : True := by trivial
    clear ht0
    clear h ht hmk
    go_enter Tryd.func27, Tryd.ntmps27
    go_wp2
    refine bodyPost_ret (results_none Tryd.results27 _ _ _) rfl ⟨rfl, ?_, ?_⟩
    · exact (HR.out.setHist t HT.out).below ((Below.refl _ _).alloc (Nat.le_refl _) _)
    · exact ((Turned.refl (fun k => k = G.p ∨ k = G.gs) w).set (b := G.p) (Or.inl rfl) _ _).alloc _
  · have htm : (2 * (S.hist : Int) + 1).tmod 64 = (t : Int) := by
      rw [Int.tmod_eq_emod_of_nonneg (by omega), ht]
      simp
      try omega
    have htm2 : (2 * (S.hist : Int) + 1) % 64 = (t : Int) := by
      rw [ht]
      simp
      try omega
    have ht0 : True := by trivial
    clear ht0
    clear h ht hmk
    go_enter Tryd.func27, Tryd.ntmps27
    go_wp2
    refine bodyPost_ret (results_none Tryd.results27 _ _ _) rfl ⟨rfl, ?_, ?_⟩
    · exact (HR.out.setHist t HT.out).below ((Below.refl _ _).alloc (Nat.le_refl _) _)
    · exact ((Turned.refl (fun k => k = G.p ∨ k = G.gs) w).set (b := G.p) (Or.inl rfl) _ _).alloc _
set_option maxRecDepth 20000 in
set_option maxHeartbeats 400000 in
theorem rgo_br7 (G : PG) (kd : Int) (bits tb : Nat) (S : PS) (rd rs1 imm pc : Int) (taken : Bool) (w : World) (h : Rp w G kd bits 7 tb S) : Calls Tryd.prog 27 #[.pointer (some ⟨G.p, 0, none⟩), .int .u32 pc, .agg #[.int .i64 1, .int .i64 rd, .int .i64 rs1, .int .i64 imm], .bool taken] w fun e w' => e = .returned (.tuple #[]) ∧ Rp w' G kd bits 7 tb { S with hist := (S.hist * 2 + (if taken then 1 else 0)) % 128 } ∧ Turned (fun k => k = G.p ∨ k = G.gs) w w' := by
  have c4 : w.cell? ⟨G.p, 4, none⟩ = some (.int .i64 G.ns) := h.cells.cell 4 (by decide)
  have c9 : w.cell? ⟨G.p, 9, none⟩ = some (.int .i64 S.top) := h.cells.cell 9 (by decide)
  have c5 : w.cell? ⟨G.p, 5, none⟩ = some (.int .i64 S.hist) := h.cells.cell 5 (by decide)
  have c2 : w.cell? ⟨G.p, 2, none⟩ = some (.int .i64 7) := h.cells.cell 2 (by decide)
  have c8 : w.cell? ⟨G.p, 8, none⟩ = some (.slice (some ⟨G.gs, 0, none⟩) G.ns G.ns) := h.cells.cell 8 (by decide)
  have h3 := h.cells.here
  have h4 := h.cells.free
  have n1 : ¬ G.p = w.heap.size := by omega
  obtain ⟨s1, s2, s3, s4, s5, s6, s7⟩ := h.size
  obtain ⟨l1, l2⟩ := h.low
  have HR := Hid.in h
  have hmk : G.mask = 127 := by have := h.pw; omega
  obtain ⟨t, ht⟩ : ∃ t, t = (S.hist * 2 + (if taken then 1 else 0)) % 128 := ⟨_, rfl⟩
  rw [← ht]
  have HT : Hid (t ≤ G.mask) := by show _ ≤ _; rw [ht, hmk]; have := Nat.mod_lt (S.hist * 2 + (if taken then 1 else 0)) (show 0 < 128 by omega); omega
  cases taken
  · have htm : (2 * (S.hist : Int)).tmod 128 = (t : Int) := by
      rw [Int.tmod_eq_emod_of_nonneg (by omega), ht]
      simp
      try omega
    have htm2 : (2 * (S.hist : Int)) % 128 = (t : Int) := by
      rw [ht]
      simp
      try omega
    have ht0 : True := by trivial
    clear ht0
    clear h ht hmk
    go_enter Tryd.func27, Tryd.ntmps27
    go_wp2
    refine bodyPost_ret (results_none Tryd.results27 _ _ _) rfl ⟨rfl, ?_, ?_⟩
    · exact (HR.out.setHist t HT.out).below ((Below.refl _ _).alloc (Nat.le_refl _) _)
    · exact ((Turned.refl (fun k => k = G.p ∨ k = G.gs) w).set (b := G.p) (Or.inl rfl) _ _).alloc _
  · have htm : (2 * (S.hist : Int) + 1).tmod 128 = (t : Int) := by
      rw [Int.tmod_eq_emod_of_nonneg (by omega), ht]
      simp
      try omega
    have htm2 : (2 * (S.hist : Int) + 1) % 128 = (t : Int) := by
      rw [ht]
      simp
      try omega
    have ht0 : True := by trivial
    clear ht0
    clear h ht hmk
    go_enter Tryd.func27, Tryd.ntmps27
    go_wp2
    refine bodyPost_ret (results_none Tryd.results27 _ _ _) rfl ⟨rfl, ?_, ?_⟩
    · exact (HR.out.setHist t HT.out).below ((Below.refl _ _).alloc (Nat.le_refl _) _)
    · exact ((Turned.refl (fun k => k = G.p ∨ k = G.gs) w).set (b := G.p) (Or.inl rfl) _ _).alloc _
set_option maxRecDepth 20000 in
set_option maxHeartbeats 400000 in
theorem rgo_br8 (G : PG) (kd : Int) (bits tb : Nat) (S : PS) (rd rs1 imm pc : Int) (taken : Bool) (w : World) (h : Rp w G kd bits 8 tb S) : Calls Tryd.prog 27 #[.pointer (some ⟨G.p, 0, none⟩), .int .u32 pc, .agg #[.int .i64 1, .int .i64 rd, .int .i64 rs1, .int .i64 imm], .bool taken] w fun e w' => e = .returned (.tuple #[]) ∧ Rp w' G kd bits 8 tb { S with hist := (S.hist * 2 + (if taken then 1 else 0)) % 256 } ∧ Turned (fun k => k = G.p ∨ k = G.gs) w w' := by
  have c4 : w.cell? ⟨G.p, 4, none⟩ = some (.int .i64 G.ns) := h.cells.cell 4 (by decide)
  have c9 : w.cell? ⟨G.p, 9, none⟩ = some (.int .i64 S.top) := h.cells.cell 9 (by decide)
  have c5 : w.cell? ⟨G.p, 5, none⟩ = some (.int .i64 S.hist) := h.cells.cell 5 (by decide)
  have c2 : w.cell? ⟨G.p, 2, none⟩ = some (.int .i64 8) := h.cells.cell 2 (by decide)
  have c8 : w.cell? ⟨G.p, 8, none⟩ = some (.slice (some ⟨G.gs, 0, none⟩) G.ns G.ns) := h.cells.cell 8 (by decide)
  have h3 := h.cells.here
  have h4 := h.cells.free
  have n1 : ¬ G.p = w.heap.size := by omega
  obtain ⟨s1, s2, s3, s4, s5, s6, s7⟩ := h.size
  obtain ⟨l1, l2⟩ := h.low
  have HR := Hid.in h
  have hmk : G.mask = 255 := by have := h.pw; omega
  obtain ⟨t, ht⟩ : ∃ t, t = (S.hist * 2 + (if taken then 1 else 0)) % 256 := ⟨_, rfl⟩
  rw [← ht]
  have HT : Hid (t ≤ G.mask) := by show _ ≤ _; rw [ht, hmk]; have := Nat.mod_lt (S.hist * 2 + (if taken then 1 else 0)) (show 0 < 256 by omega); omega
  cases taken
  · have htm : (2 * (S.hist : Int)).tmod 256 = (t : Int) := by
      rw [Int.tmod_eq_emod_of_nonneg (by omega), ht]
      simp
      try omega
    have htm2 : (2 * (S.hist : Int)) % 256 = (t : Int) := by
      rw [ht]
      simp
      try omega
    have ht0 : True := by trivial
    clear ht0
    clear h ht hmk
    go_enter Tryd.func27, Tryd.ntmps27
    go_wp2
    refine bodyPost_ret (results_none Tryd.results27 _ _ _) rfl ⟨rfl, ?_, ?_⟩
    · exact (HR.out.setHist t HT.out).below ((Below.refl _ _).alloc (Nat.le_refl _) _)
    · exact ((Turned.refl (fun k => k = G.p ∨ k = G.gs) w).set (b := G.p) (Or.inl rfl) _ _).alloc _
  · have htm : (2 * (S.hist : Int) + 1).tmod 256 = (t : Int) := by
      rw [Int.tmod_eq_emod_of_nonneg (by omega), ht]
      simp
      try omega
    have htm2 : (2 * (S.hist : Int) + 1) % 256 = (t : Int) := by
      rw [ht]
      simp
      try omega
    have ht0 : True := by trivial
    clear ht0
    clear h ht hmk
    go_enter Tryd.func27, Tryd.ntmps27
    go_wp2
    refine bodyPost_ret (results_none Tryd.results27 _ _ _) rfl ⟨rfl, ?_, ?_⟩
    · exact (HR.out.setHist t HT.out).below ((Below.refl _ _).alloc (Nat.le_refl _) _)
    · exact ((Turned.refl (fun k => k = G.p ∨ k = G.gs) w).set (b := G.p) (Or.inl rfl) _ _).alloc _
set_option maxRecDepth 20000 in
set_option maxHeartbeats 400000 in
theorem rgo_br9 (G : PG) (kd : Int) (bits tb : Nat) (S : PS) (rd rs1 imm pc : Int) (taken : Bool) (w : World) (h : Rp w G kd bits 9 tb S) : Calls Tryd.prog 27 #[.pointer (some ⟨G.p, 0, none⟩), .int .u32 pc, .agg #[.int .i64 1, .int .i64 rd, .int .i64 rs1, .int .i64 imm], .bool taken] w fun e w' => e = .returned (.tuple #[]) ∧ Rp w' G kd bits 9 tb { S with hist := (S.hist * 2 + (if taken then 1 else 0)) % 512 } ∧ Turned (fun k => k = G.p ∨ k = G.gs) w w' := by
  have c4 : w.cell? ⟨G.p, 4, none⟩ = some (.int .i64 G.ns) := h.cells.cell 4 (by decide)
  have c9 : w.cell? ⟨G.p, 9, none⟩ = some (.int .i64 S.top) := h.cells.cell 9 (by decide)
  have c5 : w.cell? ⟨G.p, 5, none⟩ = some (.int .i64 S.hist) := h.cells.cell 5 (by decide)
  have c2 : w.cell? ⟨G.p, 2, none⟩ = some (.int .i64 9) := h.cells.cell 2 (by decide)
  have c8 : w.cell? ⟨G.p, 8, none⟩ = some (.slice (some ⟨G.gs, 0, none⟩) G.ns G.ns) := h.cells.cell 8 (by decide)
  have h3 := h.cells.here
  have h4 := h.cells.free
  have n1 : ¬ G.p = w.heap.size := by omega
  obtain ⟨s1, s2, s3, s4, s5, s6, s7⟩ := h.size
  obtain ⟨l1, l2⟩ := h.low
  have HR := Hid.in h
  have hmk : G.mask = 511 := by have := h.pw; omega
  obtain ⟨t, ht⟩ : ∃ t, t = (S.hist * 2 + (if taken then 1 else 0)) % 512 := ⟨_, rfl⟩
  rw [← ht]
  have HT : Hid (t ≤ G.mask) := by show _ ≤ _; rw [ht, hmk]; have := Nat.mod_lt (S.hist * 2 + (if taken then 1 else 0)) (show 0 < 512 by omega); omega
  cases taken
  · have htm : (2 * (S.hist : Int)).tmod 512 = (t : Int) := by
      rw [Int.tmod_eq_emod_of_nonneg (by omega), ht]
      simp
      try omega
    have htm2 : (2 * (S.hist : Int)) % 512 = (t : Int) := by
      rw [ht]
      simp
      try omega
    have ht0 : True := by trivial
    clear ht0
    clear h ht hmk
    go_enter Tryd.func27, Tryd.ntmps27
    go_wp2
    refine bodyPost_ret (results_none Tryd.results27 _ _ _) rfl ⟨rfl, ?_, ?_⟩
    · exact (HR.out.setHist t HT.out).below ((Below.refl _ _).alloc (Nat.le_refl _) _)
    · exact ((Turned.refl (fun k => k = G.p ∨ k = G.gs) w).set (b := G.p) (Or.inl rfl) _ _).alloc _
  · have htm : (2 * (S.hist : Int) + 1).tmod 512 = (t : Int) := by
      rw [Int.tmod_eq_emod_of_nonneg (by omega), ht]
      simp
      try omega
    have htm2 : (2 * (S.hist : Int) + 1) % 512 = (t : Int) := by
      rw [ht]
      simp
      try omega
    have ht0 : True := by trivial
    clear ht0
    clear h ht hmk
    go_enter Tryd.func27, Tryd.ntmps27
    go_wp2
    refine bodyPost_ret (results_none Tryd.results27 _ _ _) rfl ⟨rfl, ?_, ?_⟩
    · exact (HR.out.setHist t HT.out).below ((Below.refl _ _).alloc (Nat.le_refl _) _)
    · exact ((Turned.refl (fun k => k = G.p ∨ k = G.gs) w).set (b := G.p) (Or.inl rfl) _ _).alloc _
set_option maxRecDepth 20000 in
set_option maxHeartbeats 400000 in
theorem rgo_br10 (G : PG) (kd : Int) (bits tb : Nat) (S : PS) (rd rs1 imm pc : Int) (taken : Bool) (w : World) (h : Rp w G kd bits 10 tb S) : Calls Tryd.prog 27 #[.pointer (some ⟨G.p, 0, none⟩), .int .u32 pc, .agg #[.int .i64 1, .int .i64 rd, .int .i64 rs1, .int .i64 imm], .bool taken] w fun e w' => e = .returned (.tuple #[]) ∧ Rp w' G kd bits 10 tb { S with hist := (S.hist * 2 + (if taken then 1 else 0)) % 1024 } ∧ Turned (fun k => k = G.p ∨ k = G.gs) w w' := by
  have c4 : w.cell? ⟨G.p, 4, none⟩ = some (.int .i64 G.ns) := h.cells.cell 4 (by decide)
  have c9 : w.cell? ⟨G.p, 9, none⟩ = some (.int .i64 S.top) := h.cells.cell 9 (by decide)
  have c5 : w.cell? ⟨G.p, 5, none⟩ = some (.int .i64 S.hist) := h.cells.cell 5 (by decide)
  have c2 : w.cell? ⟨G.p, 2, none⟩ = some (.int .i64 10) := h.cells.cell 2 (by decide)
  have c8 : w.cell? ⟨G.p, 8, none⟩ = some (.slice (some ⟨G.gs, 0, none⟩) G.ns G.ns) := h.cells.cell 8 (by decide)
  have h3 := h.cells.here
  have h4 := h.cells.free
  have n1 : ¬ G.p = w.heap.size := by omega
  obtain ⟨s1, s2, s3, s4, s5, s6, s7⟩ := h.size
  obtain ⟨l1, l2⟩ := h.low
  have HR := Hid.in h
  have hmk : G.mask = 1023 := by have := h.pw; omega
  obtain ⟨t, ht⟩ : ∃ t, t = (S.hist * 2 + (if taken then 1 else 0)) % 1024 := ⟨_, rfl⟩
  rw [← ht]
  have HT : Hid (t ≤ G.mask) := by show _ ≤ _; rw [ht, hmk]; have := Nat.mod_lt (S.hist * 2 + (if taken then 1 else 0)) (show 0 < 1024 by omega); omega
  cases taken
  · have htm : (2 * (S.hist : Int)).tmod 1024 = (t : Int) := by
      rw [Int.tmod_eq_emod_of_nonneg (by omega), ht]
      simp
      try omega
    have htm2 : (2 * (S.hist : Int)) % 1024 = (t : Int) := by
      rw [ht]
      simp
      try omega
    have ht0 : True := by trivial
    clear ht0
    clear h ht hmk
    go_enter Tryd.func27, Tryd.ntmps27
    go_wp2
    refine bodyPost_ret (results_none Tryd.results27 _ _ _) rfl ⟨rfl, ?_, ?_⟩
    · exact (HR.out.setHist t HT.out).below ((Below.refl _ _).alloc (Nat.le_refl _) _)
    · exact ((Turned.refl (fun k => k = G.p ∨ k = G.gs) w).set (b := G.p) (Or.inl rfl) _ _).alloc _
  · have htm : (2 * (S.hist : Int) + 1).tmod 1024 = (t : Int) := by
      rw [Int.tmod_eq_emod_of_nonneg (by omega), ht]
      simp
      try omega
    have htm2 : (2 * (S.hist : Int) + 1) % 1024 = (t : Int) := by
      rw [ht]
      simp
      try omega
    have ht0 : True := by trivial
    clear ht0
    clear h ht hmk
    go_enter Tryd.func27, Tryd.ntmps27
    go_wp2
    refine bodyPost_ret (results_none Tryd.results27 _ _ _) rfl ⟨rfl, ?_, ?_⟩
    · exact (HR.out.setHist t HT.out).below ((Below.refl _ _).alloc (Nat.le_refl _) _)
    · exact ((Turned.refl (fun k => k = G.p ∨ k = G.gs) w).set (b := G.p) (Or.inl rfl) _ _).alloc _
theorem t_small (t n : Nat) (h : n ≤ 16) (ht : t < n) : IntKind.i64.wrap (t : Int) = (t : Int) := by rw [IntKind.wrap_i64]; omega
set_option maxRecDepth 20000 in
set_option maxHeartbeats 400000 in
theorem rgo_ret (G : PG) (kd : Int) (bits hb tb : Nat) (S : PS) (imm pc : Int) (taken : Bool) (w : World) (h : Rp w G kd bits hb tb S) : Calls Tryd.prog 27 #[.pointer (some ⟨G.p, 0, none⟩), .int .u32 pc, .agg #[.int .i64 3, .int .i64 0, .int .i64 1, .int .i64 imm], .bool taken] w fun e w' => e = .returned (.tuple #[]) ∧ Rp w' G kd bits hb tb { S with top := (S.top + G.ns - 1) % G.ns } ∧ Turned (fun k => k = G.p ∨ k = G.gs) w w' := by
  have c4 : w.cell? ⟨G.p, 4, none⟩ = some (.int .i64 G.ns) := h.cells.cell 4 (by decide)
  have c9 : w.cell? ⟨G.p, 9, none⟩ = some (.int .i64 S.top) := h.cells.cell 9 (by decide)
  have c5 : w.cell? ⟨G.p, 5, none⟩ = some (.int .i64 S.hist) := h.cells.cell 5 (by decide)
  have c2 : w.cell? ⟨G.p, 2, none⟩ = some (.int .i64 hb) := h.cells.cell 2 (by decide)
  have c8 : w.cell? ⟨G.p, 8, none⟩ = some (.slice (some ⟨G.gs, 0, none⟩) G.ns G.ns) := h.cells.cell 8 (by decide)
  have h3 := h.cells.here
  have h4 := h.cells.free
  have n1 : ¬ G.p = w.heap.size := by omega
  obtain ⟨s1, s2, s3, s4, s5, s6, s7⟩ := h.size
  obtain ⟨l1, l2⟩ := h.low
  have HR := Hid.in h
  obtain ⟨t, ht⟩ : ∃ t, t = (S.top + G.ns - 1) % G.ns := ⟨_, rfl⟩
  have htm : ((S.top : Int) + (G.ns : Int) - 1).tmod (G.ns : Int) = (t : Int) := by
    rw [Int.tmod_eq_emod_of_nonneg (by omega), ht]
    have e : (S.top : Int) + (G.ns : Int) - 1 = ((S.top + G.ns - 1 : Nat) : Int) := by omega
    rw [e]
    exact (Int.natCast_emod _ _).symm
  rw [← ht]
  have HT : Hid (t < G.ns) := by show _ < _; rw [ht]; exact Nat.mod_lt _ (by omega)
  have hz : ¬ (G.ns : Int) = 0 := by omega
  have hz2 : ¬ (G.ns : Int) = -1 := by omega
  have hw1 : IntKind.i64.wrap ((S.top : Int) + (G.ns : Int)) = (S.top : Int) + (G.ns : Int) := by rw [IntKind.wrap_i64]; omega
  have hw2 : IntKind.i64.wrap ((S.top : Int) + (G.ns : Int) - 1) = (S.top : Int) + (G.ns : Int) - 1 := by rw [IntKind.wrap_i64]; omega
  have htr := t_small t G.ns (by omega) HT.out
  clear h ht
  go_enter Tryd.func27, Tryd.ntmps27
  go_wp2
  go_region
  all_goals (try go_wp2)
  refine bodyPost_ret (results_none Tryd.results27 _ _ _) rfl ⟨rfl, ?_, ?_⟩
  · exact ((HR.out.setTop t HT.out).below ((Below.refl _ _).alloc (Nat.le_refl _) _)).drew
  · exact (((Turned.refl (fun k => k = G.p ∨ k = G.gs) w).set (b := G.p) (Or.inl rfl) _ _).alloc _).drew
set_option maxRecDepth 20000 in
set_option maxHeartbeats 400000 in
theorem rgo_call (G : PG) (kd : Int) (bits hb tb : Nat) (S : PS) (what rd rs1 imm pc : Int) (taken : Bool) (w : World) (h : Rp w G kd bits hb tb S) (hpc : 0 ≤ pc ∧ pc < 4294967296) (hw : what = 2 ∨ what = 3) (hrt : ¬ (what = 3 ∧ rs1 = 1 ∧ rd = 0)) (hr1 : rd = 1) : Calls Tryd.prog 27 #[.pointer (some ⟨G.p, 0, none⟩), .int .u32 pc, .agg #[.int .i64 what, .int .i64 rd, .int .i64 rs1, .int .i64 imm], .bool taken] w fun e w' => e = .returned (.tuple #[]) ∧ Rp w' G kd bits hb tb { S with top := (S.top + 1) % G.ns, stack := upd S.stack ((S.top + 1) % G.ns) ((pc + 4) % 4294967296) } ∧ Turned (fun k => k = G.p ∨ k = G.gs) w w' := by
  subst hr1
  have c4 : w.cell? ⟨G.p, 4, none⟩ = some (.int .i64 G.ns) := h.cells.cell 4 (by decide)
  have c9 : w.cell? ⟨G.p, 9, none⟩ = some (.int .i64 S.top) := h.cells.cell 9 (by decide)
  have c5 : w.cell? ⟨G.p, 5, none⟩ = some (.int .i64 S.hist) := h.cells.cell 5 (by decide)
  have c2 : w.cell? ⟨G.p, 2, none⟩ = some (.int .i64 hb) := h.cells.cell 2 (by decide)
  have c8 : w.cell? ⟨G.p, 8, none⟩ = some (.slice (some ⟨G.gs, 0, none⟩) G.ns G.ns) := h.cells.cell 8 (by decide)
  have h3 := h.cells.here
  have h4 := h.cells.free
  have n1 : ¬ G.p = w.heap.size := by omega
  obtain ⟨s1, s2, s3, s4, s5, s6, s7⟩ := h.size
  obtain ⟨l1, l2⟩ := h.low
  have HR := Hid.in h
  obtain ⟨t, ht⟩ : ∃ t, t = (S.top + 1) % G.ns := ⟨_, rfl⟩
  have htm : ((S.top : Int) + 1).tmod (G.ns : Int) = (t : Int) := by
    rw [Int.tmod_eq_emod_of_nonneg (by omega), ht]
    have e : (S.top : Int) + 1 = ((S.top + 1 : Nat) : Int) := by omega
    rw [e]
    exact (Int.natCast_emod _ _).symm
  rw [← ht]
  have ht2 : t < G.ns := by rw [ht]; exact Nat.mod_lt _ (by omega)
  have hz : ¬ (G.ns : Int) = 0 := by omega
  have hz2 : ¬ (G.ns : Int) = -1 := by omega
  have hw1 : IntKind.i64.wrap ((S.top : Int) + 1) = (S.top : Int) + 1 := by rw [IntKind.wrap_i64]; omega
  have hne : G.p ≠ G.gs := h.ne.2.1
  have hne2 : ¬ G.gs = G.p := fun e => hne e.symm
  have cs := h.stk.cell t ht2
  have hsh := h.stk.here
  have hsf := h.stk.free
  have n2 : ¬ G.gs = w.heap.size := by omega
  obtain ⟨p1, p2⟩ := hpc
  clear h ht
  rcases hw with rfl | rfl
  all_goals
    first
      | (have hq : (rs1 == 1) = true ∨ (rs1 == 1) = false := by cases (rs1 == 1) <;> simp
         rcases hq with hq | hq)
      | skip
    all_goals
      go_enter Tryd.func27, Tryd.ntmps27
      go_wp2
      go_region
      all_goals (try go_wp2)
      go_region
      all_goals (try go_wp2)
      refine bodyPost_end (results_none Tryd.results27 _ _ _) rfl ⟨rfl, ?_, ?_⟩
      · exact (((HR.out.setTop t ht2).setStk t ht2 _).below ((Below.refl _ _).alloc (Nat.le_refl _) _)).drew.drew
      · exact ((((Turned.refl (fun k => k = G.p ∨ k = G.gs) w).set (b := G.p) (Or.inl rfl) _ _).set (b := G.gs) (Or.inr rfl) _ _).alloc _).drew.drew
end Go.Proofs.YtaioaakaffafoaaDoor
