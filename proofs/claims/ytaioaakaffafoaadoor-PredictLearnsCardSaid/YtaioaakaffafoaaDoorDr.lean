/-
  PREDICT's LAW PredictReturns: its small parts.
-/
import Derived.Test.YtaioaakaffafoaaDoorDp
import Derived.Deep.CutBlock
import Derived.Deep.DeepCutAuto
namespace Go.Proofs.YtaioaakaffafoaaDoor
open Go Go.RowKit
def I64 (x : Int) : Prop := -9223372036854775808 ≤ x ∧ x ≤ 9223372036854775807
def U32 (x : Int) : Prop := 0 ≤ x ∧ x < 4294967296
/-- a row of words that was handed in -/
def Words (w : World) (p : Option Addr) (m : Nat) (g : Nat → Int) : Prop := ∀ i, i < m → ∃ b o, p = some ⟨b, o, none⟩ ∧ b < w.heap.size ∧ w.cell? ⟨b, o + i, none⟩ = some (.int .u32 (g i)) ∧ U32 (g i)
theorem pick_k (c n : Int) (hc : 0 ≤ c) (hn : 1 ≤ n) : ∃ k : Nat, (k : Int) < n ∧ c.tmod n = k := by
  refine ⟨(c % n).toNat, ?_, ?_⟩
  · have := Int.emod_lt_of_pos c (show 0 < n by omega)
    have := Int.emod_nonneg c (show n ≠ 0 by omega)
    omega
  · rw [Int.tmod_eq_emod_of_nonneg hc]
    have := Int.emod_nonneg c (show n ≠ 0 by omega)
    omega
set_option maxHeartbeats 1000000 in
theorem pick_any (c n : Int) (w : World) (hc : I64 c) (hn : 1 ≤ n) : Calls Tryd.prog 18 #[.int .i64 c, .int .i64 n] w fun e w' => ∃ k : Nat, (k : Int) < n ∧ e = .returned (.int .i64 k) ∧ w' = w := by
  obtain ⟨hc1, hc2⟩ := hc
  by_cases h0 : c < 0
  · obtain ⟨k, hk, he⟩ := pick_k (-(c + 1)) n (by omega) hn
    have hz : (n == 0) = false := by simp; omega
    have hz2 : ¬ n = 0 := by omega
    have hz3 : ¬ n = -1 := by omega
    have HK := Hid.in hk
    clear hk
    go_enter Tryd.func18, Tryd.ntmps18
    go_wp2
    go_ret
    exact ⟨k, HK.out, rfl, rfl⟩
  · obtain ⟨k, hk, he⟩ := pick_k c n (by omega) hn
    have hz : (n == 0) = false := by simp; omega
    have hz2 : ¬ n = 0 := by omega
    have hz3 : ¬ n = -1 := by omega
    have HK := Hid.in hk
    clear hk
    go_enter Tryd.func18, Tryd.ntmps18
    go_wp2
    go_ret
    exact ⟨k, HK.out, rfl, rfl⟩
set_option maxRecDepth 20000 in
set_option maxHeartbeats 1000000 in
theorem places_any (pp : Option Addr) (m c : Nat) (g : Nat → Int) (w : World) (hw : Words w pp m g) : Calls Tryd.prog 19 #[.slice pp m c] w fun e w' => ∃ a : Nat → Int, e = .returned (.slice (some ⟨w.heap.size, 0, none⟩) 16 16) ∧ (∀ k, U32 (a k)) ∧ CellsAt 16 w' w.heap.size (fun k => .int .u32 (a k)) ∧ Below w.heap.size w w' := by
  have hmk : ∀ u : World, (Instr.makeSlice 64 (.int .i64 16) (.int .i64 16)).run Tryd.prog u = .ok (.slice (some ⟨u.heap.size, 0, none⟩) 16 16) (u.alloc (.cells (madeCells #[.int .u32 0] 16) 38)) := make_run (P := Tryd.prog) 64 38 (.int .u32 0) 4 Tryd.underlying64 (by kernel_rfl) rfl 16 (by omega) (by omega)
  have HW := Hid.in hw
  clear hw
  go_enter Tryd.func19, Tryd.ntmps19
  go_wp2
  obtain ⟨w0, hw0⟩ : ∃ x, x = w.alloc (.cells (madeCells #[.int .u32 0] 16) 38) := ⟨_, rfl⟩
  rw [← hw0]
  obtain ⟨A1, A2⟩ : Hid (CellsAt 16 w0 w.heap.size (fun _ => .int .u32 0)) ∧ Hid (Below w.heap.size w w0) := by
    subst hw0
    exact ⟨cells_new w (made_cell (.int .u32 0) 16), (Below.refl _ _).alloc (Nat.le_refl _) _⟩
  obtain ⟨b, hb⟩ : ∃ b, b = w.heap.size := ⟨_, rfl⟩
  rw [← hb] at A1 ⊢
  have HB := Hid.in hb
  clear hb hw0 hmk
  go_loopw [4] (fun v wr => ∃ (k : Nat) (a : Nat → Int), v = .int .i64 k ∧ k ≤ 16 ∧ (∀ k, U32 (a k)) ∧ CellsAt 16 wr b (fun k => .int .u32 (a k)) ∧ Turned (· = b) w0 wr) (fun v _ => 17 - (intOf v).toNat)
  case atStart => exact ⟨0, fun _ => 0, rfl, by omega, fun _ => by show (0 : Int) ≤ 0 ∧ (0 : Int) < 4294967296; omega, A1.out, Turned.refl _ _⟩
  case round =>
    obtain ⟨k, a, rfl, hk, ha, hc, ht⟩ := hrel
    have HA := Hid.in ha
    have HC := Hid.in hc
    have HT := Hid.in ht
    have b9 := hc.here
    have bf := hc.free
    by_cases hk2 : k < 16
    · have ck := hc.cell k hk2
      by_cases hkm : k < m
      · obtain ⟨q, o, rfl, q1, q2, q3⟩ := HW.out k hkm
        have q9 : ¬ q = b := by have := HB.out; omega
        have q2' : wr.cell? ⟨q, o + k, none⟩ = some (.int .u32 (g k)) := ht.to_cell (Nat.lt_of_lt_of_le q1 A2.out.size) q9 ((A2.out.cell (p := ⟨q, o + k, none⟩) q1).trans q2)
        have q8 : q < wr.heap.size := cell_here q2'
        obtain ⟨u1, u2⟩ := q3
        have hkm2 : (k : Int) < (m : Int) := by omega
        have HX : Hid (0 ≤ g k / 4 * 4 ∧ g k / 4 * 4 < 4294967296) := by show _ ∧ _; omega
        clear hc ht ha q2
        go_wp2
        go_roundw
        case rel =>
          refine ⟨k + 1, upd (upd a k (8 * (k : Int))) k (g k / 4 * 4), by go_num, by omega, fun j => ?_, ?_, (HT.out.set rfl _ _).set rfl _ _⟩
          · unfold upd
            split
            · exact HX.out
            · exact HA.out j
          · refine ((HC.out.set k hk2 _).set k hk2 _).ext fun j hj => ?_
            unfold upd
            split
            · rfl
            · rfl
        case measure => simp [intOf]; omega
      · have hkm2 : ¬ (k : Int) < (m : Int) := by omega
        clear hc ht ha
        go_wp2
        go_roundw
        case rel =>
          refine ⟨k + 1, upd a k (8 * (k : Int)), by go_num, by omega, fun j => ?_, ?_, HT.out.set rfl _ _⟩
          · unfold upd
            split
            · unfold U32; omega
            · exact HA.out j
          · refine (HC.out.set k hk2 _).ext fun j hj => ?_
            unfold upd
            split
            · rfl
            · rfl
        case measure => simp [intOf]; omega
    · clear hc ht ha
      go_wp2
      go_ret
      refine ⟨a, by rw [HB.out]; rfl, HA.out, ?_, A2.out.trans (HT.out.below (B := w.heap.size) A2.out.size (by rintro k rfl; exact Nat.le_of_eq HB.out.symm))⟩
      rw [← HB.out]
      exact HC.out
theorem new_ret (r : Nat) (w : World) (h1 : 1 ≤ r) (h2 : r ≤ 16) : Calls Tryd.prog 6 #[.agg #[.int .i64 0, .int .i64 1, .int .i64 0, .int .i64 0, .int .i64 r]] w fun e w' => ∃ G : PG, e = .returned (.tuple #[.pointer (some ⟨G.p, 0, none⟩), .nilIface]) ∧ Pr w' G newS ∧ G.ns = r ∧ G.mask = 0 ∧ DK 0 G ∧ (w.heap.size ≤ G.p ∧ w.heap.size ≤ G.gt ∧ w.heap.size ≤ G.gs ∧ w.heap.size ≤ G.gc) ∧ Below w.heap.size w w' :=
  (new_good 0 1 0 0 r 1 0 rfl rfl w (by unfold gOk; simp; omega)).mono fun e w' ⟨G, e1, e2, e3, _, e5, e6, _, e8, e9⟩ => ⟨G, e1, e2, e3, e5, ⟨e6, by omega, fun h => by omega⟩, e8, e9⟩
theorem brB3 : brB 3 = false := by decide +kernel
theorem brB4 : brB 4 = false := by decide +kernel
theorem brB5 : brB 5 = true := by decide +kernel
theorem callB31 : callB 3 1 = true := by decide +kernel
def callS (G : PG) (S : PS) (pc : Int) : PS := { S with top := (S.top + 1) % G.ns, stack := upd S.stack ((S.top + 1) % G.ns) ((pc + 4) % 4294967296) }
theorem g_call (G : PG) (S : PS) (pc : Int) (w : World) (hk : DK 0 G) (h : Pr w G S) (hL : Laid w) (hpc : 0 ≤ pc ∧ pc < 4294967296) : Calls Tryd.prog 11 #[.pointer (some ⟨G.p, 0, none⟩), .int .u32 pc, .agg #[.int .i64 3, .int .i64 1, .int .i64 0, .int .i64 0, .int .i64 400]] w fun e w' => e = .returned (.tuple #[.int .u32 ((pc + 400) % 4294967296), .agg #[.int .i64 S.hist, .int .i64 S.top, .int .u32 (S.stack S.top)]]) ∧ Pr w' G (callS G S pc) ∧ Turned (fun k => k = G.p ∨ k = G.gs) w w' := by
  have q := guess_any 0 G S 3 1 0 0 400 pc w hk h hL hpc
  have e1 : ∀ tk, nextV G S 3 1 0 400 pc tk = (pc + 400) % 4294967296 := fun tk => by unfold nextV; simp
  have e2 : ∀ tk, goS G S 3 1 0 pc tk = callS G S pc := fun tk => by unfold goS; rw [brB3, callB31]; rfl
  rw [e1, e2] at q
  exact q
theorem g_branch (G : PG) (S : PS) (pc : Int) (w : World) (hk : DK 0 G) (hm : G.mask = 0) (h : Pr w G S) (hL : Laid w) (hpc : 0 ≤ pc ∧ pc < 4294967296) : Calls Tryd.prog 11 #[.pointer (some ⟨G.p, 0, none⟩), .int .u32 pc, .agg #[.int .i64 5, .int .i64 0, .int .i64 0, .int .i64 0, .int .i64 8]] w fun e w' => ∃ nx, e = .returned (.tuple #[.int .u32 nx, .agg #[.int .i64 0, .int .i64 S.top, .int .u32 (S.stack S.top)]]) ∧ Pr w' G S ∧ Turned (fun k => k = G.p ∨ k = G.gs) w w' := by
  have hh : S.hist = 0 := by have := h.low.2; omega
  have q := guess_any 0 G S 5 0 0 0 8 pc w hk h hL hpc
  have e2 : ∀ tk, goS G S 5 0 0 pc tk = S := fun tk => by
    unfold goS; rw [brB5, hm]
    show ({ S with hist := (S.hist * 2 + (if tk then 1 else 0)) % 1 } : PS) = S
    rw [Nat.mod_one, ← hh]
  rw [e2, hh] at q
  exact q.mono fun e w' ⟨a1, a2, a3⟩ => ⟨_, a1, a2, a3⟩
theorem g_back (G : PG) (S : PS) (pc : Int) (w : World) (hk : DK 0 G) (h : Pr w G S) (hL : Laid w) (hpc : 0 ≤ pc ∧ pc < 4294967296) : Calls Tryd.prog 11 #[.pointer (some ⟨G.p, 0, none⟩), .int .u32 pc, .agg #[.int .i64 4, .int .i64 0, .int .i64 1, .int .i64 0, .int .i64 0]] w fun e w' => e = .returned (.tuple #[.int .u32 (S.stack S.top), .agg #[.int .i64 S.hist, .int .i64 S.top, .int .u32 (S.stack S.top)]]) ∧ Pr w' G { S with top := (S.top + G.ns - 1) % G.ns } ∧ Turned (fun k => k = G.p ∨ k = G.gs) w w' := by
  have q := guess_any 0 G S 4 0 1 0 0 pc w hk h hL hpc
  have e0 : tkV 0 G S 4 0 pc = false := by unfold tkV; rw [brB4]; rfl
  have e1 : nextV G S 4 0 1 0 pc false = S.stack S.top := by unfold nextV; rfl
  have e2 : goS G S 4 0 1 pc false = { S with top := (S.top + G.ns - 1) % G.ns } := by unfold goS; rw [brB4]; rfl
  rw [e0, e1, e2] at q
  exact q
theorem r_branch (G : PG) (S : PS) (t : Nat) (mv pc : Int) (w : World) (hm : G.mask = 0) (h : Pr w G S) (hL : Laid w) (hoff : Off G) (hpc : 0 ≤ pc ∧ pc < 4294967296) (h2 : t < G.ns) : Calls Tryd.prog 14 #[.pointer (some ⟨G.p, 0, none⟩), .agg #[.int .i64 0, .int .i64 t, .int .u32 mv], .int .u32 pc, .agg #[.int .i64 5, .int .i64 0, .int .i64 0, .int .i64 0, .int .i64 8], .bool true] w fun e w' => e = .returned (.tuple #[]) ∧ Pr w' G { S with hist := 0, top := t, stack := upd S.stack t mv } ∧ Turned (fun k => k = G.p ∨ k = G.gs) w w' := by
  have q := restore_yes G S 0 t mv 5 0 0 0 8 pc true w h hL hoff hpc (by omega) h2
  have e2 : goS G { S with hist := 0, top := t, stack := upd S.stack t mv } 5 0 0 pc true = { S with hist := 0, top := t, stack := upd S.stack t mv } := by
    unfold goS; rw [brB5, hm]
    show ({ S with hist := (0 * 2 + 1) % 1, top := t, stack := upd S.stack t mv } : PS) = _
    rfl
  rw [e2] at q
  exact q
end Go.Proofs.YtaioaakaffafoaaDoor
