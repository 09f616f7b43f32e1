/-
  THE ANSWER: Search.
-/
import Derived.Test.YthbffonedpeeiaaDoorJe
namespace Go.Proofs.YthbffonedpeeiaaDoor
open Go Go.RowKit
theorem results_rf {fn : Func} {p u : Tmp} (h : fn.results = #[.cell p 47, .tmp u]) (tmps : Array Value) (w : World) (g : Nat) (x y z t : Value) (hp : tmps.getD p undef = .pointer (some ⟨g, 0, none⟩)) (ht : tmps.getD u undef = t) (h0 : w.cell? ⟨g, 0, none⟩ = some x) (h1 : w.cell? ⟨g, 1, none⟩ = some y) (h2 : w.cell? ⟨g, 2, none⟩ = some z) : (results fn tmps).run Tryd.prog w = .ok (.tuple #[.agg #[x, y, z], t]) w := by
  have hp' : tmps[p]?.getD undef = .pointer (some ⟨g, 0, none⟩) := by simpa using hp
  have ht' : tmps[u]?.getD undef = t := by simpa using ht
  have hl := run_loadVar_mid (P := Tryd.prog) w g 0 47 [x, y, z] _ (fun j v hv => by
    match j, hv with
    | 0, hv => rw [← Option.some.inj hv]; exact h0
    | 1, hv => rw [← Option.some.inj hv]; exact h1
    | 2, hv => rw [← Option.some.inj hv]; exact h2) Tryd.underlying47 rfl (by kernel_rfl)
  simp [results, h, hp', ht', asAddr, hl]
theorem boxF (w : World) : ∃ X, w.alloc (.cells #[.bool false, .int .i64 0, .int .u32 0] 47) = X ∧ Below w.heap.size w X ∧ CellsAt 3 X w.heap.size (fnd false 0 0) ∧ X.heap.size = w.heap.size + 1 := by
  refine ⟨_, rfl, (Below.refl _ _).alloc (Nat.le_refl _) _, cells_new w (fun i hi => ?_), by simp⟩
  match i, hi with
  | 0, _ => rfl
  | 1, _ => rfl
  | 2, _ => rfl
def RS.mayS (S : RS) (r : Int) : Prop := r ≠ -1 ∧ (S.at r.toNat).st = false ∧ (S.at r.toNat).pl = true
/-- three cells of a new block are written -/
theorem wrote3 {w x : World} {c : Nat → Value} (h : CellsAt 3 x w.heap.size c) (hb : Below w.heap.size w x) (u1 u2 u3 : Value) : CellsAt 3 (((x.setCell ⟨w.heap.size, 0, none⟩ u1).setCell ⟨w.heap.size, 1, none⟩ u2).setCell ⟨w.heap.size, 2, none⟩ u3) w.heap.size (upd (upd (upd c 0 u1) 1 u2) 2 u3) ∧ Below w.heap.size w (((x.setCell ⟨w.heap.size, 0, none⟩ u1).setCell ⟨w.heap.size, 1, none⟩ u2).setCell ⟨w.heap.size, 2, none⟩ u3) := by
  have t : Turned (fun j => w.heap.size ≤ j) w x := Turned.of_below hb
  exact ⟨((h.set 0 (by decide) u1).set 1 (by decide) u2).set 2 (by decide) u3, (((t.set (b := w.heap.size) (Nat.le_refl _) 0 _).set (b := w.heap.size) (Nat.le_refl _) 1 _).set (b := w.heap.size) (Nat.le_refl _) 2 _).below (Nat.le_refl _) (fun j e => e)⟩
set_option maxRecDepth 100000 in
set_option maxHeartbeats 1000000 in
theorem rsearch_bad (B p : Nat) (v : Value) (S : RS) (seq r : Int) (bold : Bool) (w : World) (k : Rm w B p v S) (hr : First (S.isN seq) S.on.length r) (h : ¬ S.mayS r) : Calls Tryd.prog 15 #[.pointer (some ⟨p, 0, none⟩), .int .i64 seq, .bool bold] w fun e w' => e = .returned (.tuple #[.agg #[.bool false, .int .i64 0, .int .u32 0], .int .i64 7]) ∧ Below w.heap.size w w' := by
  obtain ⟨X, hX, hb, cX, hsX⟩ := boxF w
  have kX := k.below hb
  have HX := Hid.in hX
  have HB := Hid.in hb
  have HCX := Hid.in cX
  have HC := Hid.in (rfind_any B p v S seq X kX)
  have HR := Hid.in hr
  have c0 := cX.cell 0 (by decide)
  have c1 := cX.cell 1 (by decide)
  have c2 := cX.cell 2 (by decide)
  have f0 := cX.free 0
  have f1 := cX.free 1
  have f2 := cX.free 2
  simp only [fnd] at c0 c1 c2
  by_cases h1 : r = -1
  · subst h1
    clear k hr h kX hX hb cX
    go_enter Tryd.func15, Tryd.ntmps15
    go_upto_region 1 with fail
    rw [HX.out]
    go_wp2_with (first | (refine HC.out.mono ?_; rintro e w2 ⟨r2, rfl, h1, rfl⟩; obtain rfl := h1.uniq HR.out; clear h1))
    obtain ⟨z, zb⟩ := wrote3 HCX.out HB.out (.bool false) (.int .i64 0) (.int .u32 0)
    exact bodyPost_ret (results_rf Tryd.results15 _ _ w.heap.size _ _ _ _ rfl rfl (z.cell 0 (by decide)) (z.cell 1 (by decide)) (z.cell 2 (by decide))) rfl ⟨rfl, zb⟩
  · obtain ⟨i, hi, -, rfl⟩ := hr.some h1
    have hs := k.small.1
    have hmul : (i : Int) * 13 = ((i * 13 : Nat) : Int) := by omega
    have hneg : ¬ (i : Int) < 0 := by omega
    obtain ⟨g, cap, hv, hpg, -, -, hrow⟩ := kX.rows i hi
    obtain ⟨x1, x2, -⟩ := hrow X (Below.refl _ _)
    obtain ⟨-, y1, y2, -⟩ := rrow_cells x2
    have h2 : (S.at i).st = false → (S.at i).pl = false := fun e1 => by
      cases e3 : (S.at i).pl
      · rfl
      · exact absurd ⟨h1, by rw [Int.toNat_natCast]; exact ⟨e1, e3⟩⟩ h
    generalize (S.at i).st = sb at y1 h2
    generalize (S.at i).pl = pb at y2 h2
    clear k hr h kX hX hb cX hrow x2 hv
    cases sb
    · obtain rfl := h2 rfl
      go_enter Tryd.func15, Tryd.ntmps15
      go_upto_region 1 with fail
      rw [HX.out]
      go_wp2_with (first | (refine HC.out.mono ?_; rintro e w2 ⟨r2, rfl, h1, rfl⟩; obtain rfl := h1.uniq HR.out; clear h1))
      obtain ⟨z, zb⟩ := wrote3 HCX.out HB.out (.bool false) (.int .i64 0) (.int .u32 0)
      exact bodyPost_ret (results_rf Tryd.results15 _ _ w.heap.size _ _ _ _ rfl rfl (z.cell 0 (by decide)) (z.cell 1 (by decide)) (z.cell 2 (by decide))) rfl ⟨rfl, zb⟩
    · go_enter Tryd.func15, Tryd.ntmps15
      go_upto_region 1 with fail
      rw [HX.out]
      go_wp2_with (first | (refine HC.out.mono ?_; rintro e w2 ⟨r2, rfl, h1, rfl⟩; obtain rfl := h1.uniq HR.out; clear h1))
      obtain ⟨z, zb⟩ := wrote3 HCX.out HB.out (.bool false) (.int .i64 0) (.int .u32 0)
      exact bodyPost_ret (results_rf Tryd.results15 _ _ w.heap.size _ _ _ _ rfl rfl (z.cell 0 (by decide)) (z.cell 1 (by decide)) (z.cell 2 (by decide))) rfl ⟨rfl, zb⟩
end Go.Proofs.YthbffonedpeeiaaDoor
