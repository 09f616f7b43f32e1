/-
  WINDOW's LAW WindowSteps: lists that came out: held, same; what is told.
-/
import Derived.Test.YtckglpmjaplcnaaDoorUi
import Derived.Test.YtckglpmjaplcnaaDoorKc
namespace Go.Proofs.YtckglpmjaplcnaaDoor
open Go Go.RowKit
/-- a list of numbers, wherever it lies -/
def Row (x : World) (a : Value) (n : Nat) (F : Nat → Int) : Prop := ∃ q c, a = .slice q n c ∧ (n ≤ c ∧ c ≤ 9223372036854775807) ∧ ∀ i, i < n → ∃ g o, q = some ⟨g, o, none⟩ ∧ g < x.heap.size ∧ x.cell? ⟨g, o + i, none⟩ = some (.int .i64 (F i))
theorem Row.turned {Q : Nat → Prop} {x y : World} {a : Value} {n : Nat} {F : Nat → Int} (h : Row x a n F) (t : Turned Q x y) (hq : ∀ k, a.ownBlock = some k → ¬ Q k) : Row y a n F := by
  obtain ⟨q, c, rfl, h2, h3⟩ := h
  refine ⟨q, c, rfl, h2, fun i hi => ?_⟩
  obtain ⟨g, o, rfl, h5, h6⟩ := h3 i hi
  exact ⟨g, o, rfl, Nat.lt_of_lt_of_le h5 t.size, t.to_cell h5 (hq g rfl) h6⟩
theorem Row.below {x y : World} {a : Value} {n : Nat} {F : Nat → Int} (h : Row x a n F) (t : Below x.heap.size x y) : Row y a n F :=
  h.turned (Q := fun _ => False) (Turned.of_below t) (fun _ _ q => q)
theorem row_of {x : World} {B : Nat} {v : Value} {l : List Int} (h : x.ownsRow B 3 1 v l.length (ints l)) : Row x v l.length (fun i => l.getD i 0) := by
  obtain ⟨q, cap, h1, h2, h3⟩ := own_ints h
  refine ⟨q, cap, h1, h2, fun i hi => ?_⟩
  obtain ⟨g, a1, a2, a3⟩ := h3 i hi
  exact ⟨g, 0, a1, a2, by rw [Nat.zero_add]; exact a3⟩
set_option maxRecDepth 100000 in
set_option maxHeartbeats 2000000 in
theorem same_any (a b : Value) (n : Nat) (F : Nat → Int) (w : World) (h1 : Row w a n F) (h2 : Row w b n F) : Calls Tryd.prog 14 #[.agg #[a, b]] w fun e w' => e = .returned (.bool true) ∧ Below w.heap.size w w' := by
  obtain ⟨qa, ca, rfl, la', ha⟩ := h1
  obtain ⟨qb, cb, rfl, lb, hb⟩ := h2
  obtain ⟨V, hV⟩ : ∃ V, w.alloc (.cells #[.slice qa n ca, .slice qb n cb] 52) = V := ⟨_, rfl⟩
  have hVb : Below w.heap.size w V := by rw [← hV]; exact (Below.refl _ w).alloc (Nat.le_refl _) _
  have c : CellsAt 2 V w.heap.size (fun o => match o with | 0 => .slice qa n ca | _ => .slice qb n cb) := by
    rw [← hV]
    refine cells_new w fun i hi => ?_
    match i, hi with
    | 0, _ => rfl
    | 1, _ => rfl
  have v0 : V.cell? ⟨w.heap.size, 0, none⟩ = some (.slice qa n ca) := c.cell 0 (by omega)
  have v1 : V.cell? ⟨w.heap.size, 1, none⟩ = some (.slice qb n cb) := c.cell 1 (by omega)
  have hVz := c.here
  have HA := Hid.in ha
  have HB := Hid.in hb
  have HVB := Hid.in hVb
  have HV := Hid.in hV
  clear ha hb hVb hV c
  go_enter Tryd.func14, Tryd.ntmps14
  go_wp2
  rw [HV.out]
  go_loopw [3] (fun kv wr => ∃ i : Nat, kv = .int .i64 i ∧ i ≤ n ∧ Below V.heap.size V wr) (fun kv _ => n + 1 - (intOf kv).toNat)
  case atStart => exact ⟨0, rfl, Nat.zero_le _, Below.refl _ _⟩
  case round =>
    obtain ⟨i, rfl, hi, hb⟩ := hrel
    have x0 := (hb.cell (p := ⟨w.heap.size, 0, none⟩) hVz).trans v0
    have x1 := (hb.cell (p := ⟨w.heap.size, 1, none⟩) hVz).trans v1
    have HBW := Hid.in hb
    have hzw := hb.size
    clear hb
    by_cases hlt : i < n
    · obtain ⟨ga, oa, e1, e2, e3⟩ := HA.out i hlt
      obtain ⟨gb, ob, e4, e5, e6⟩ := HB.out i hlt
      subst e1
      subst e4
      have y1 : wr.cell? ⟨ga, oa + i, none⟩ = some (.int .i64 (F i)) := (HBW.out.cell (p := ⟨ga, oa + i, none⟩) (show ga < V.heap.size by omega)).trans ((HVB.out.cell (p := ⟨ga, oa + i, none⟩) e2).trans e3)
      have y2 : wr.cell? ⟨gb, ob + i, none⟩ = some (.int .i64 (F i)) := (HBW.out.cell (p := ⟨gb, ob + i, none⟩) (show gb < V.heap.size by omega)).trans ((HVB.out.cell (p := ⟨gb, ob + i, none⟩) e5).trans e6)
      clear e3 e6 v0 v1
      go_wp2
      go_quiet (fail)
      go_wp2
      go_roundw
      case rel => exact ⟨i + 1, by simp, by omega, HBW.out.trans ⟨rfl, rfl, rfl, Nat.le_refl _, fun _ _ => rfl⟩⟩
      case measure => simp [intOf]; omega
    · clear v0 v1
      go_wp2
      go_ret
      exact ⟨rfl, HVB.out.trans (HBW.out.mono HVB.out.size)⟩
theorem ltold_nil (w : World) : Calls Tryd.prog 7 #[.nilIface, .int .i64 0] w fun e w' => e = .returned (.bool true) ∧ Below w.heap.size w w' := by
  go_enter Tryd.func7, Tryd.ntmps7
  go_wp2_with (go_at_call 27; refine (told_nil _).mono ?_; rintro e w1 ⟨rfl, hb⟩; have HB := Hid.in hb; clear hb)
  go_ret
  exact ⟨rfl, HB.out⟩
theorem ltold_err (k : Int) (w : World) (hg : w.cell? ⟨0, 0, none⟩ = some (.iface 100 (.agg #[.pointer (some ⟨1, 25, none⟩)]))) : Calls Tryd.prog 7 #[errV k, .int .i64 k] w fun e w' => e = .returned (.bool true) ∧ Below w.heap.size w w' := by
  have HG := Hid.in hg
  unfold errV
  clear hg
  go_enter Tryd.func7, Tryd.ntmps7
  go_wp2_with (go_at_call 27; refine (told_err k _ HG.out).mono ?_; rintro e w1 ⟨rfl, hb⟩; have HB := Hid.in hb; clear hb)
  go_ret
  exact ⟨by simp, HB.out⟩
/-- make, and copy into it -/
theorem cp_run (x : World) (a : Value) (n : Nat) (F : Nat → Int) (h : Row x a n F) : ∃ r y, (Builtin.copy_ #[48, 48] 3 #[.slice (some ⟨x.heap.size, 0, none⟩) n n, a]).run Tryd.prog (x.alloc (.cells (madeCells #[.int .i64 0] n) 3)) = .ok r y ∧ Row y (.slice (some ⟨x.heap.size, 0, none⟩) n n) n F ∧ Below x.heap.size x y ∧ x.heap.size < y.heap.size := by
  obtain ⟨q, c, rfl, hc, hF⟩ := h
  have hs : (Tryd.prog.info? 3).map (·.size) = some 1 := by kernel_rfl
  have hb : Below x.heap.size x (x.alloc (.cells (madeCells #[.int .i64 0] n) 3)) := (Below.refl _ x).alloc (Nat.le_refl _) _
  cases n with
  | zero => exact ⟨_, _, run_copy_none (P := Tryd.prog) _ 48 48 3 3 _ _ 0 0 0 c Tryd.underlying48 hs rfl, ⟨_, _, rfl, by omega, fun i hi => by omega⟩, hb, by simp⟩
  | succ n =>
    obtain ⟨g, o, rfl, hg, -⟩ := hF 0 (by omega)
    have hcell : ∀ i, i < n + 1 → g < x.heap.size ∧ x.cell? ⟨g, o + i, none⟩ = some (.int .i64 (F i)) := by
      intro i hi
      obtain ⟨g', o', e, h1, h2⟩ := hF i hi
      cases e
      exact ⟨h1, h2⟩
    have cn : ∀ j, j < n + 1 → (x.alloc (.cells (madeCells #[.int .i64 0] (n + 1)) 3)).cell? ⟨x.heap.size, 0 + j, none⟩ = some (.int .i64 0) := by
      intro j hj
      rw [Nat.zero_add]
      exact (World.cell?_alloc_new x _ _ j).trans (made_cell _ _ _ hj)
    have hl : ((List.range (n + 1)).map fun i => Value.int .i64 (F i)).length = n + 1 := by simp
    have hrun := run_copy_cells (P := Tryd.prog) (x.alloc (.cells (madeCells #[.int .i64 0] (n + 1)) 3)) 48 48 3 3 x.heap.size 0 (n + 1) (n + 1) ⟨g, o, none⟩ (n + 1) c ((List.range (n + 1)).map fun i => Value.int .i64 (F i)) Tryd.underlying48 hs (by rw [hl]; exact (Nat.min_self _).symm) (fun j v hv => by
        have hj : j < n + 1 := by
          rcases Nat.lt_or_ge j (n + 1) with q | q
          · exact q
          · rw [List.getElem?_eq_none (by rw [hl]; exact q)] at hv; cases hv
        rw [List.getElem?_map, List.getElem?_range hj] at hv
        cases hv
        rw [Addr.add_lit]
        exact (hb.cell (p := ⟨g, o + j, none⟩) hg).trans (hcell j hj).2) (fun j hj => by rw [cn j (by omega)]; rfl) (fun j _ => World.frozen?_alloc_at _ _ _ _ rfl) (fun v hv => by
        obtain ⟨i, -, rfl⟩ := List.mem_map.1 hv
        rfl)
    refine ⟨_, _, hrun, ⟨_, _, rfl, by omega, fun i hi => ⟨x.heap.size, 0, rfl, ?_, ?_⟩⟩, ?_⟩
    · have := (turned_setCells (g := x.heap.size) ((List.range (n + 1)).map fun i => Value.int .i64 (F i)) 0 (x.alloc (.cells (madeCells #[.int .i64 0] (n + 1)) 3))).size
      rw [World.size_alloc] at this
      omega
    · have q := World.cell?_setCells_in x.heap.size ((List.range (n + 1)).map fun i => Value.int .i64 (F i)) 0 (x.alloc (.cells (madeCells #[.int .i64 0] (n + 1)) 3)) (fun j hj => by rw [cn j (by omega)]; rfl) i (by omega)
      rw [q]
      simp
    · refine ⟨hb.trans ((turned_setCells _ _ _).below hb.size (fun k hk => by omega)), ?_⟩
      have := (turned_setCells (g := x.heap.size) ((List.range (n + 1)).map fun i => Value.int .i64 (F i)) 0 (x.alloc (.cells (madeCells #[.int .i64 0] (n + 1)) 3))).size
      rw [World.size_alloc] at this
      omega
end Go.Proofs.YtckglpmjaplcnaaDoor
