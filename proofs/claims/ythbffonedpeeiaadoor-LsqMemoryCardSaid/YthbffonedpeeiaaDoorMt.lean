/-
  LSQ: Oldest, fromMemory.
-/
import Derived.Test.YthbffonedpeeiaaDoorMs
namespace Go.Proofs.YthbffonedpeeiaaDoor
open Go Go.RowKit
theorem results_wr {fn : Func} {p u : Tmp} (h : fn.results = #[.cell p 99, .tmp u]) (tmps : Array Value) (w : World) (g : Nat) (x y z t : Value) (hp : tmps.getD p undef = .pointer (some ⟨g, 0, none⟩)) (ht : tmps.getD u undef = t) (h0 : w.cell? ⟨g, 0, none⟩ = some x) (h1 : w.cell? ⟨g, 1, none⟩ = some y) (h2 : w.cell? ⟨g, 2, none⟩ = some z) : (results fn tmps).run Tryd.prog w = .ok (.tuple #[.agg #[x, y, z], t]) w := by
  have hp' : tmps[p]?.getD undef = .pointer (some ⟨g, 0, none⟩) := by simpa using hp
  have ht' : tmps[u]?.getD undef = t := by simpa using ht
  have hl := run_loadVar_mid (P := Tryd.prog) w g 0 99 [x, y, z] _ (fun j v hv => by
    match j, hv with
    | 0, hv => rw [← Option.some.inj hv]; exact h0
    | 1, hv => rw [← Option.some.inj hv]; exact h1
    | 2, hv => rw [← Option.some.inj hv]; exact h2) Tryd.underlying99 rfl (by kernel_rfl)
  simp [results, h, hp', ht', asAddr, hl]
def wrt (a z d : Nat) : Nat → Value
  | 0 => .int .u32 a
  | 1 => .int .i64 z
  | _ => .int .u32 d
/-- is the oldest one a store that has retired? -/
def QS.top (S : QS) : Bool := decide (0 < S.on.length) && (S.at 0).rt
theorem boxW (w : World) : ∃ X, w.alloc (.cells #[.int .u32 0, .int .i64 0, .int .u32 0] 99) = X ∧ Below w.heap.size w X ∧ CellsAt 3 X w.heap.size (wrt 0 0 0) ∧ X.heap.size = w.heap.size + 1 := by
  refine ⟨_, rfl, (Below.refl _ _).alloc (Nat.le_refl _) _, cells_new w (fun i hi => ?_), by simp⟩
  match i, hi with
  | 0, _ => rfl
  | 1, _ => rfl
  | 2, _ => rfl
set_option maxRecDepth 100000 in
set_option maxHeartbeats 1000000 in
theorem oldest_no (B p : Nat) (v : Value) (S : QS) (w : World) (k : Qm w B p v S) (h : S.top = false) : Calls Tryd.prog 56 #[.pointer (some ⟨p, 0, none⟩)] w fun e w' => e = .returned (.tuple #[.agg #[.int .u32 0, .int .i64 0, .int .u32 0], .bool false]) ∧ Below w.heap.size w w' := by
  obtain ⟨X, hX, hb, cX, hsX⟩ := boxW w
  have kX := k.below hb
  have HX := Hid.in hX
  have HB := Hid.in hb
  have HCX := Hid.in cX
  have y0 := cX.cell 0 (by decide)
  have y1 := cX.cell 1 (by decide)
  have y2 := cX.cell 2 (by decide)
  have f0 := cX.free 0
  have f1 := cX.free 1
  have f2 := cX.free 2
  simp only [wrt] at y0 y1 y2
  obtain ⟨hp, -, c1, -⟩ := kX.cells
  have fin : ∀ (w2 : World), w2 = ((X.setCell ⟨w.heap.size, 0, none⟩ (.int .u32 0)).setCell ⟨w.heap.size, 1, none⟩ (.int .i64 0)).setCell ⟨w.heap.size, 2, none⟩ (.int .u32 0) → CellsAt 3 w2 w.heap.size (upd (upd (upd (wrt 0 0 0) 0 (.int .u32 0)) 1 (.int .i64 0)) 2 (.int .u32 0)) ∧ Below w.heap.size w w2 := by
    rintro w2 rfl
    have t : Turned (fun j => w.heap.size ≤ j) w X := Turned.of_below hb
    exact ⟨((cX.set 0 (by decide) (.int .u32 0)).set 1 (by decide) (.int .i64 0)).set 2 (by decide) (.int .u32 0), (((t.set (b := w.heap.size) (Nat.le_refl _) 0 _).set (b := w.heap.size) (Nat.le_refl _) 1 _).set (b := w.heap.size) (Nat.le_refl _) 2 _).below (Nat.le_refl _) (fun j e => e)⟩
  have HFIN := Hid.in fin
  by_cases hl : S.on.length = 0
  · obtain ⟨q, cap, rfl, -, -⟩ := own_row kX.l
    rw [hl] at c1
    clear k kX hX hb cX h fin
    go_enter Tryd.func56, Tryd.ntmps56
    go_upto_region 1 with fail
    rw [HX.out]
    go_wp2
    obtain ⟨z, zb⟩ := HFIN.out _ rfl
    refine bodyPost_ret (results_wr Tryd.results56 _ _ w.heap.size _ _ _ _ rfl rfl (z.cell 0 (by decide)) (z.cell 1 (by decide)) (z.cell 2 (by decide))) rfl ⟨rfl, zb⟩
  · have hl0 : 0 < S.on.length := by omega
    have hrt : (S.at 0).rt = false := by
      unfold QS.top at h
      rw [decide_eq_true hl0] at h
      simpa using h
    obtain ⟨g, cap, hv, hpg, hrow⟩ := kX.rows 0 hl0
    obtain ⟨x1, x2, x3, x4⟩ := hrow X (Below.refl _ _)
    obtain ⟨-, -, -, -, -, -, y6, -⟩ := row_cells x2
    rw [hrt] at y6
    simp only [Nat.zero_mul, Nat.zero_add] at y6
    have hlz : ((S.on.length : Int) == 0) = false := by
      rw [beq_eq_false_iff_ne]
      omega
    clear k kX hX hb cX h fin hrow x2 x3 c1 hv
    go_enter Tryd.func56, Tryd.ntmps56
    go_upto_region 1 with fail
    rw [HX.out]
    go_wp2
    obtain ⟨z, zb⟩ := HFIN.out _ rfl
    refine bodyPost_ret (results_wr Tryd.results56 _ _ w.heap.size _ _ _ _ rfl rfl (z.cell 0 (by decide)) (z.cell 1 (by decide)) (z.cell 2 (by decide))) rfl ⟨rfl, zb⟩
end Go.Proofs.YthbffonedpeeiaaDoor
