/-
  LSQ: gather.
-/
import Derived.Test.YthbffonedpeeiaaDoorMj
namespace Go.Proofs.YthbffonedpeeiaaDoor
open Go Go.RowKit
def fnd (wait : Bool) (m v : Nat) : Nat → Value
  | 0 => .bool wait
  | 1 => .int .i64 m
  | _ => .int .u32 v
theorem results_found {fn : Func} {p : Tmp} (h : fn.results = #[.cell p 44]) (tmps : Array Value) (w : World) (g : Nat) (x y z : Value) (hp : tmps.getD p undef = .pointer (some ⟨g, 0, none⟩)) (h0 : w.cell? ⟨g, 0, none⟩ = some x) (h1 : w.cell? ⟨g, 1, none⟩ = some y) (h2 : w.cell? ⟨g, 2, none⟩ = some z) : (results fn tmps).run Tryd.prog w = .ok (.agg #[x, y, z]) w := by
  have hp' : tmps[p]?.getD undef = .pointer (some ⟨g, 0, none⟩) := by simpa using hp
  have hl := run_loadVar_mid (P := Tryd.prog) w g 0 44 [x, y, z] _ (fun j v hv => by
    match j, hv with
    | 0, hv => rw [← Option.some.inj hv]; exact h0
    | 1, hv => rw [← Option.some.inj hv]; exact h1
    | 2, hv => rw [← Option.some.inj hv]; exact h2) Tryd.underlying44 rfl (by kernel_rfl)
  simp [results, h, hp', asAddr, hl]
theorem wrap_pow (i : Nat) (h : i < 4) : wrap64 ((2 : Int) ^ i) = 2 ^ i := by
  have : i = 0 ∨ i = 1 ∨ i = 2 ∨ i = 3 := by omega
  rcases this with rfl | rfl | rfl | rfl <;> decide +kernel
/-- what the places of a load's sources say -/
structure Srcs (S : QS) (e : Ac) (l : List Int) : Prop where
  len : l.length ≤ 4
  lo : e.a + l.length ≤ 4294967296
  ok : ∀ i, i < l.length → l.getD i 0 = -1 ∨ ∃ k : Nat, l.getD i 0 = k ∧ k < S.on.length ∧ (S.at k).a ≤ e.a + i ∧ e.a + i < (S.at k).a + (S.at k).z
set_option maxRecDepth 100000 in
set_option maxHeartbeats 4000000 in
theorem gather_any (B p g cap : Nat) (v : Value) (S : QS) (e : Ac) (l : List Int) (w : World) (k : Qm w B p v S) (hn : Nums w (some ⟨g, 0, none⟩) l) (hS : Srcs S e l) : Calls Tryd.prog 47 #[.pointer (some ⟨p, 0, none⟩), .agg e.vs.toArray, .slice (some ⟨g, 0, none⟩) l.length cap] w fun r w' => r = .returned (.agg #[.bool false, .int .i64 (gmN l l.length), .int .u32 (S.gvN e l l.length)]) ∧ Below w.heap.size w w' := by
  obtain ⟨X, hX, q, hb, hs⟩ := boxed e w 86
  obtain ⟨-, -, c2, -⟩ := row_cells0 q
  have h4 := hS.len
  obtain ⟨Y, hY⟩ : ∃ Y, (X.alloc (.cells #[.bool false, .int .i64 0, .int .u32 0] 44)).alloc (.cells #[.bool false, .int .i64 0, .int .u32 0] 44) = Y := ⟨_, rfl⟩
  have hbY : Below X.heap.size X Y := by rw [← hY]; exact ((Below.refl _ _).alloc (Nat.le_refl _) _).alloc (by simp) _
  have hsY : Y.heap.size = w.heap.size + 3 := by rw [← hY]; simp; omega
  have cR : CellsAt 3 Y (w.heap.size + 1) (fnd false 0 0) := by
    rw [← hY, ← hs]
    exact (cells_new (t := 44) X (fun i hi => by
      match i, hi with
      | 0, _ => rfl
      | 1, _ => rfl
      | 2, _ => rfl)).alloc _
  have cF : CellsAt 3 Y (w.heap.size + 1 + 1) (fnd false (gmN l 0) (S.gvN e l 0)) := by
    rw [← hY]
    have := cells_new (n := 3) (t := 44) (g := fnd false (gmN l 0) (S.gvN e l 0)) (c := #[.bool false, .int .i64 0, .int .u32 0]) (X.alloc (.cells #[.bool false, .int .i64 0, .int .u32 0] 44)) (fun i hi => by
      match i, hi with
      | 0, _ => rfl
      | 1, _ => rfl
      | 2, _ => rfl)
    rw [World.size_alloc, hs] at this
    exact this
  have HX := Hid.in hX
  have HY := Hid.in hY
  have HB := Hid.in (below2 hb hbY)
  have HK := Hid.in ((k.below hb).below hbY)
  have HLO : Hid (∀ j, qmine p v S j → j < w.heap.size) := fun j hj => (k.low j hj).2
  have HC2 : Hid (Y.cell? ⟨w.heap.size, 2, none⟩ = some (.int .u32 e.a)) := (hbY.cell (p := ⟨w.heap.size, 2, none⟩) (cell_here c2)).trans c2
  have HN := Hid.in ((hn.below hb).below hbY)
  have HNL : Hid (∀ i, i < l.length → g < w.heap.size) := fun i hi => by
    obtain ⟨g', h1, h2, -⟩ := hn i hi
    cases h1
    exact h2
  have HR := Hid.in cR
  have HF := Hid.in cF
  have HS := Hid.in hS
  have hlo := hS.lo
  obtain ⟨m, hm⟩ : ∃ m, l.length = m := ⟨_, rfl⟩
  have HM := Hid.in hm
  rw [hm] at h4 hlo ⊢
  have hlt : w.heap.size < Y.heap.size := by omega
  clear k hX hY hb hbY q c2 cR cF hn hS hm
  go_enter Tryd.func47, Tryd.ntmps47
  go_upto_region 2 with fail
  rw [HX.out]
  rw [HY.out]
  go_wp2
  go_loopw [12] (fun u wr => ∃ i : Nat, u = .int .i64 i ∧ i ≤ m ∧ CellsAt 3 wr (w.heap.size + 1 + 1) (fnd false (gmN l i) (S.gvN e l i)) ∧ Turned (fun j => j = w.heap.size + 1 + 1) Y wr) (fun v _ => 5 - (intOf v).toNat)
  case atStart => exact ⟨0, rfl, by omega, HF.out, Turned.refl _ _⟩
  case round =>
    obtain ⟨i, rfl, hi, hcl, ht⟩ := hrel
    have HT := Hid.in ht
    have HCL := Hid.in hcl
    by_cases him : i < m
    · obtain ⟨g', hg', hgl, d0⟩ := HN.out i (by rw [HM.out]; exact him)
      cases hg'
      have hgw := HNL.out i (by rw [HM.out]; exact him)
      have d0 := ht.to_cell hgl (by omega) d0
      obtain ⟨x, hx⟩ : ∃ x, l.getD i 0 = x := ⟨_, rfl⟩
      have HXX := Hid.in hx
      rw [hx] at d0
      by_cases hx1 : x = -1
      · subst hx1
        clear hcl ht hx
        go_wp2
        go_roundw
        case rel =>
          refine ⟨i + 1, by simp, by omega, ?_, HT.out⟩
          unfold gmN QS.gvN
          rw [HXX.out]
          exact HCL.out
        case measure =>
          simp [intOf]
          omega
      · obtain ⟨k, hk, hkl, h1, h2⟩ := (HS.out.ok i (by rw [HM.out]; exact him)).resolve_left (by rw [hx]; exact hx1)
        rw [hx] at hk
        subst hk
        obtain ⟨hp, -, cp, -⟩ := HK.out.cells
        have cp := ht.to_cell hp (by have := HLO.out p (Or.inl rfl); omega) cp
        obtain ⟨q1, cap1, hv, hcap, hel⟩ := own_row HK.out.l
        obtain ⟨gr, rfl, -, hgr, hr, -⟩ := hel k hkl
        rw [hv] at cp
        have hr := range_turned hr ht hgr (by have := HLO.out gr (Or.inr (Or.inl (by rw [hv]; rfl))); omega)
        have hKf := HK.out.fit k hkl
        have hsm := HK.out.small.1
        unfold QS.at at hKf h1 h2
        obtain ⟨s, hs'⟩ : ∃ s, S.on.getD k a0 = s := ⟨_, rfl⟩
        have HSS := Hid.in hs'
        rw [hs'] at hr hKf h1 h2
        obtain ⟨y0, y1, y2, y3, y4, y5, y6, y7⟩ := row_cells hr
        have HSO : Hid (∀ x, Turned (fun j => j = w.heap.size + 1 + 1) Y x → x.cell? ⟨p, 1, none⟩ = some (.slice (some ⟨gr, 0, none⟩) S.on.length cap1) ∧ x.cell? ⟨w.heap.size, 2, none⟩ = some (.int .u32 e.a) ∧ x.rangeAt gr (k * 8) s.vs) := fun x tx => ⟨tx.to_cell hp (by have := HLO.out p (Or.inl rfl); omega) (by rw [← hv]; exact HK.out.cells.2.2.1), tx.to_cell hlt (by omega) HC2.out, range_turned (by rw [← hs']; obtain ⟨gr', e1, -, -, h3, -⟩ := hel k hkl; cases e1; exact h3) tx hgr (by have := HLO.out gr (Or.inr (Or.inl (by rw [hv]; rfl))); omega)⟩
        have HKP : Hid (∀ (x : World) (u : Value), (x.cell? ⟨p, 1, none⟩ = some (.slice (some ⟨gr, 0, none⟩) S.on.length cap1) ∧ x.cell? ⟨w.heap.size, 2, none⟩ = some (.int .u32 e.a) ∧ x.rangeAt gr (k * 8) s.vs) → ((x.setCell ⟨w.heap.size + 1 + 1, 2, none⟩ u).cell? ⟨p, 1, none⟩ = some (.slice (some ⟨gr, 0, none⟩) S.on.length cap1) ∧ (x.setCell ⟨w.heap.size + 1 + 1, 2, none⟩ u).cell? ⟨w.heap.size, 2, none⟩ = some (.int .u32 e.a) ∧ (x.setCell ⟨w.heap.size + 1 + 1, 2, none⟩ u).rangeAt gr (k * 8) s.vs)) := fun x u hx => by
          have n1 := HLO.out p (Or.inl rfl)
          have n2 := HLO.out gr (Or.inr (Or.inl (by rw [hv]; rfl)))
          exact ⟨(World.cell?_setCell_far _ _ _ _ (show w.heap.size + 1 + 1 ≠ p by omega)).trans hx.1, (World.cell?_setCell_far _ _ _ _ (show w.heap.size + 1 + 1 ≠ w.heap.size by omega)).trans hx.2.1, fun j u' hj => (World.cell?_setCell_far _ _ _ _ (show w.heap.size + 1 + 1 ≠ gr by omega)).trans (hx.2.2 j u' hj)⟩
        have c1 := hcl.cell 1 (by decide)
        have c2 := hcl.cell 2 (by decide)
        have f1 := hcl.free 1
        have f2 := hcl.free 2
        have ce := ht.to_cell hlt (by omega) HC2.out
        simp only [fnd] at c1 c2
        have hm1 := gmN_lt l i
        have hv1 := S.gvN_lt e l i
        obtain ⟨gm, hgm⟩ : ∃ gm, gmN l i = gm := ⟨_, rfl⟩
        obtain ⟨gv, hgv⟩ : ∃ gv, S.gvN e l i = gv := ⟨_, rfl⟩
        have HGM := Hid.in hgm
        have HGV := Hid.in hgv
        rw [hgm] at c1 hm1
        rw [hgv] at c2 hv1
        have hor := or_mask gm i hm1 (by omega)
        have hmul : (k : Int) * 8 = ((k * 8 : Nat) : Int) := by omega
        have hne : ¬ (k : Int) = -1 := by omega
        have hsh : (1 : Int) * 2 ^ i = 2 ^ i := by omega
        have hgl2 := hcl.here
        clear hcl ht hel hr hs' hgm hgv hx
        go_upto_region 6 with fail
        go_region
        go_upto_region 7 with fail
        obtain ⟨W6, hW6⟩ : ∃ W6, (wr.setCell ⟨w.heap.size + 1 + 1, 1, none⟩ (.int .i64 (bits BinOp.or IntKind.i64 (gm : Int) (wrap64 (2 ^ i))))).drew = W6 := ⟨_, rfl⟩
        rw [hW6]
        rw [wrap_pow i (by omega), hor] at hW6
        have k6 : CellsAt 3 W6 (w.heap.size + 1 + 1) (fnd false (gm + 2 ^ i) gv) := by
          rw [← hW6]
          refine ((HCL.out.set 1 (by decide) (.int .i64 ((gm + 2 ^ i : Nat) : Int))).drew).ext (fun o ho => ?_)
          match o, ho with
          | 0, _ => rfl
          | 1, _ => rfl
          | 2, _ => exact congrArg (fun x : Nat => Value.int .u32 x) HGV.out
        have t6 : Turned (fun j => j = w.heap.size + 1 + 1) Y W6 := by
          rw [← hW6]
          exact (HT.out.set rfl 1 _).drew
        clear hW6 c1 c2 f1 f2 hor cp ce y0 y1 y2 y3 y4 y5 y6 y7 hm1
        have HK6 := Hid.in k6
        have HT6 := Hid.in t6
        clear k6 t6
        refine wp_region_held_drew (S := fun w' => w'.cell? ⟨p, 1, none⟩ = some (.slice (some ⟨gr, 0, none⟩) S.on.length cap1) ∧ w'.cell? ⟨w.heap.size, 2, none⟩ = some (.int .u32 e.a) ∧ w'.rangeAt gr (k * 8) s.vs) (by kernel_rfl) ?_ (fun hHeld => ?_)
        · exact HSO.out _ HT6.out.drew
        have k7 := HK6.out.drew
        have t7 := HT6.out.drew
        generalize W6.drew = W7 at k7 t7 hHeld ⊢
        have c2 := k7.cell 2 (by decide)
        have f2 := k7.free 2
        simp only [fnd] at c2
        have HK7 := Hid.in k7
        have HT7 := Hid.in t7
        have HDD : Hid (∀ w2, Below W7.heap.size W7 w2 → w2.cell? ⟨w.heap.size + 1 + 1, 2, none⟩ = some (.int .u32 gv) ∧ w2.frozen? ⟨w.heap.size + 1 + 1, 2, none⟩ = false ∧ (w2.cell? ⟨p, 1, none⟩ = some (.slice (some ⟨gr, 0, none⟩) S.on.length cap1) ∧ w2.cell? ⟨w.heap.size, 2, none⟩ = some (.int .u32 e.a) ∧ w2.rangeAt gr (k * 8) s.vs)) := fun w2 hb => ⟨(HK7.out.below hb).cell 2 (by decide), (HK7.out.below hb).free 2, HSO.out _ (HT7.out.trans (Turned.of_below hb))⟩
        clear k7 t7
        have hsw : IntKind.u32.wrap ((e.a : Int) + IntKind.u32.wrap (i : Int)) = ((e.a + i : Nat) : Int) := by
          simp only [IntKind.wrap_u32]
          omega
        have hsw8 : IntKind.i64.wrap (8 * (i : Int)) = 8 * (i : Int) := by
          simp only [IntKind.wrap_i64]
          omega
        have hsz : s.z ≤ 4 := by have := hKf.z; omega
        obtain ⟨by8, hby⟩ : ∃ by8, s.d / 256 ^ (e.a + i - s.a) % 256 = by8 := ⟨_, rfl⟩
        have hb8 : by8 < 256 := by rw [← hby]; exact Nat.mod_lt _ (by decide)
        have HG1 : Hid (gm + 2 ^ i = gmN l (i + 1)) := by
          show gm + 2 ^ i = gmN l i + if l.getD i 0 = -1 then 0 else 2 ^ i
          rw [HXX.out, if_neg hne, HGM.out]
        have HG2 : Hid (bits BinOp.or IntKind.u32 (gv : Int) ((by8 : Int) * 2 ^ (8 * i) % 4294967296) = (S.gvN e l (i + 1) : Nat)) := by
          have e2 : S.gvN e l (i + 1) = gv + by8 * 256 ^ i := by
            show S.gvN e l i + (if l.getD i 0 = -1 then 0 else S.byteOf e i (l.getD i 0) * 256 ^ i) = _
            unfold QS.byteOf QS.at
            rw [HXX.out, if_neg hne, Int.toNat_natCast, HSS.out, hby, HGV.out]
          rw [e2]
          exact or_step gv by8 i hv1 hb8 (by omega)
        refine wpAnyH_take (i := 0) (oi := { dst := some 25, op := Op.fieldAddr 44 (Operand.tmp 7) 2, type := 0, pos := "find.go:72", after := #[], guard := none }) (v := ?_) rfl (by kernel_rfl) (by kernel_rfl) (by kernel_rfl) (fun _ _ _ h => h) (Or.inl ⟨by rfl, ?_⟩) (by assumption) ?_
        rotate_left
        · (intro w hSw; (try dsimp only at hSw); (go_simp <;> with_reducible rfl))
        try simp only [Act.put, List.setIfInBounds_toArray, List.set_cons_zero, List.set_cons_succ]
        refine wpAnyH_take (i := 2) (oi := { dst := some 27, op := Op.move (Operand.tmp 0), type := 23, pos := "find.go:72", after := #[], guard := none }) (v := ?_) rfl (by kernel_rfl) (by kernel_rfl) (by kernel_rfl) (fun _ _ _ h => h) (Or.inl ⟨by rfl, ?_⟩) (by assumption) ?_
        rotate_left
        · (intro w hSw; (try dsimp only at hSw); (go_simp <;> with_reducible rfl))
        try simp only [Act.put, List.setIfInBounds_toArray, List.set_cons_zero, List.set_cons_succ]
        refine wpAnyH_take (i := 3) (oi := { dst := some 28, op := Op.nilCheck (Operand.tmp 27), type := 0, pos := "find.go:72", after := #[{ on := 2, ground := Go.Ground.data }], guard := none }) (v := ?_) rfl (by kernel_rfl) (by kernel_rfl) (by kernel_rfl) (fun _ _ _ h => h) (Or.inl ⟨by rfl, ?_⟩) (by assumption) ?_
        rotate_left
        · (intro w hSw; (try dsimp only at hSw); (go_simp <;> with_reducible rfl))
        try simp only [Act.put, List.setIfInBounds_toArray, List.set_cons_zero, List.set_cons_succ]
        refine wpAnyH_take (i := 4) (oi := { dst := some 29, op := Op.fieldAddr 81 (Operand.tmp 28) 1, type := 0, pos := "find.go:72", after := #[{ on := 3, ground := Go.Ground.data }], guard := none }) (v := ?_) rfl (by kernel_rfl) (by kernel_rfl) (by kernel_rfl) (fun _ _ _ h => h) (Or.inl ⟨by rfl, ?_⟩) (by assumption) ?_
        rotate_left
        · (intro w hSw; (try dsimp only at hSw); (go_simp <;> with_reducible rfl))
        try simp only [Act.put, List.setIfInBounds_toArray, List.set_cons_zero, List.set_cons_succ]
        refine wpAnyH_take (i := 5) (oi := { dst := some 30, op := Op.load 79 (Operand.tmp 29), type := 79, pos := "find.go:72", after := #[{ on := 4, ground := Go.Ground.data }], guard := none }) (v := ?_) rfl (by kernel_rfl) (by kernel_rfl) (by kernel_rfl) (fun _ _ _ h => h) (Or.inl ⟨by rfl, ?_⟩) (by assumption) ?_
        rotate_left
        · (intro w hSw; (try dsimp only at hSw); (go_simp <;> with_reducible rfl))
        try simp only [Act.put, List.setIfInBounds_toArray, List.set_cons_zero, List.set_cons_succ]
        refine wpAnyH_take (i := 6) (oi := { dst := some 31, op := Op.move (Operand.tmp 9), type := 3, pos := "find.go:72", after := #[], guard := none }) (v := ?_) rfl (by kernel_rfl) (by kernel_rfl) (by kernel_rfl) (fun _ _ _ h => h) (Or.inl ⟨by rfl, ?_⟩) (by assumption) ?_
        rotate_left
        · (intro w hSw; (try dsimp only at hSw); (go_simp <;> with_reducible rfl))
        try simp only [Act.put, List.setIfInBounds_toArray, List.set_cons_zero, List.set_cons_succ]
        refine wpAnyH_take (i := 7) (oi := { dst := some 32, op := Op.indexAddr 79 (Operand.tmp 30) (Operand.tmp 31), type := 0, pos := "find.go:72", after := #[{ on := 5, ground := Go.Ground.data }, { on := 6, ground := Go.Ground.data }], guard := none }) (v := ?_) rfl (by kernel_rfl) (by kernel_rfl) (by kernel_rfl) (fun _ _ _ h => h) (Or.inl ⟨by rfl, ?_⟩) (by assumption) ?_
        rotate_left
        · (intro w hSw; (try dsimp only at hSw); (go_simp <;> with_reducible rfl))
        try simp only [Act.put, List.setIfInBounds_toArray, List.set_cons_zero, List.set_cons_succ]
        refine wpAnyH_take (i := 8) (oi := { dst := some 33, op := Op.load 86 (Operand.tmp 32), type := 86, pos := "find.go:72", after := #[{ on := 7, ground := Go.Ground.data }], guard := none }) (v := .agg s.vs.toArray) rfl (by kernel_rfl) (by kernel_rfl) (by kernel_rfl) (fun _ _ _ h => h) (yieldsIf_load_mid (by rfl) _ _ rfl gr (k * 8) rfl s.vs _ (fun w hw => hw.2.2) Tryd.underlying86 rfl (by rw [acc_info]; rfl)) (by assumption) ?_
        try simp only [Act.put, List.setIfInBounds_toArray, List.set_cons_zero, List.set_cons_succ]
        refine wpAnyH_take (i := 9) (oi := { dst := some 34, op := Op.fieldAddr 86 (Operand.tmp 4) 2, type := 0, pos := "find.go:72", after := #[], guard := none }) (v := ?_) rfl (by kernel_rfl) (by kernel_rfl) (by kernel_rfl) (fun _ _ _ h => h) (Or.inl ⟨by rfl, ?_⟩) (by assumption) ?_
        rotate_left
        · (intro w hSw; (try dsimp only at hSw); (go_simp <;> with_reducible rfl))
        try simp only [Act.put, List.setIfInBounds_toArray, List.set_cons_zero, List.set_cons_succ]
        refine wpAnyH_take (i := 10) (oi := { dst := some 35, op := Op.load 38 (Operand.tmp 34), type := 38, pos := "find.go:72", after := #[{ on := 9, ground := Go.Ground.data }], guard := none }) (v := ?_) rfl (by kernel_rfl) (by kernel_rfl) (by kernel_rfl) (fun _ _ _ h => h) (Or.inl ⟨by rfl, ?_⟩) (by assumption) ?_
        rotate_left
        · (intro w hSw; (try dsimp only at hSw); (go_simp <;> with_reducible rfl))
        try simp only [Act.put, List.setIfInBounds_toArray, List.set_cons_zero, List.set_cons_succ]
        refine wpAnyH_take (i := 11) (oi := { dst := some 36, op := Op.move (Operand.tmp 8), type := 3, pos := "find.go:72", after := #[], guard := none }) (v := ?_) rfl (by kernel_rfl) (by kernel_rfl) (by kernel_rfl) (fun _ _ _ h => h) (Or.inl ⟨by rfl, ?_⟩) (by assumption) ?_
        rotate_left
        · (intro w hSw; (try dsimp only at hSw); (go_simp <;> with_reducible rfl))
        try simp only [Act.put, List.setIfInBounds_toArray, List.set_cons_zero, List.set_cons_succ]
        refine wpAnyH_take (i := 12) (oi := { dst := some 37, op := Op.convert 3 38 (Operand.tmp 36), type := 38, pos := "find.go:72", after := #[{ on := 11, ground := Go.Ground.data }], guard := none }) (v := ?_) rfl (by kernel_rfl) (by kernel_rfl) (by kernel_rfl) (fun _ _ _ h => h) (Or.inl ⟨by rfl, ?_⟩) (by assumption) ?_
        rotate_left
        · (intro w hSw; (try dsimp only at hSw); (go_simp <;> with_reducible rfl))
        try simp only [Act.put, List.setIfInBounds_toArray, List.set_cons_zero, List.set_cons_succ]
        refine wpAnyH_take (i := 13) (oi := { dst := some 38, op := Op.binOp BinOp.add 38 (Operand.tmp 35) (Operand.tmp 37) 38, type := 38, pos := "find.go:72", after := #[{ on := 10, ground := Go.Ground.data }, { on := 12, ground := Go.Ground.data }], guard := none }) (v := ?_) rfl (by kernel_rfl) (by kernel_rfl) (by kernel_rfl) (fun _ _ _ h => h) (Or.inl ⟨by rfl, ?_⟩) (by assumption) ?_
        rotate_left
        · (intro w hSw; (try dsimp only at hSw); (go_simp <;> with_reducible rfl))
        try simp only [Act.put, List.setIfInBounds_toArray, List.set_cons_zero, List.set_cons_succ]
        refine wpAnyH_take (i := 16) (oi := { dst := some 41, op := Op.move (Operand.tmp 8), type := 3, pos := "find.go:72", after := #[], guard := none }) (v := ?_) rfl (by kernel_rfl) (by kernel_rfl) (by kernel_rfl) (fun _ _ _ h => h) (Or.inl ⟨by rfl, ?_⟩) (by assumption) ?_
        rotate_left
        · (intro w hSw; (try dsimp only at hSw); (go_simp <;> with_reducible rfl))
        try simp only [Act.put, List.setIfInBounds_toArray, List.set_cons_zero, List.set_cons_succ]
        refine wpAnyH_take (i := 17) (oi := { dst := some 42, op := Op.binOp BinOp.mul 3 (Operand.const (Value.int IntKind.i64 8)) (Operand.tmp 41) 3, type := 3, pos := "find.go:72", after := #[{ on := 16, ground := Go.Ground.data }], guard := none }) (v := ?_) rfl (by kernel_rfl) (by kernel_rfl) (by kernel_rfl) (fun _ _ _ h => h) (Or.inl ⟨by rfl, ?_⟩) (by assumption) ?_
        rotate_left
        · (intro w hSw; (try dsimp only at hSw); (go_simp <;> with_reducible rfl))
        try simp only [Act.put, List.setIfInBounds_toArray, List.set_cons_zero, List.set_cons_succ]
        refine wpAnyH_ready (rs := [1, 14]) (by kernel_rfl) (by simp) ?_
        refine AllReadyH.cons (o := { dst := some 26, op := Op.load 38 (Operand.tmp 25), type := 38, pos := "find.go:72", after := #[{ on := 0, ground := Go.Ground.data }], guard := none }) rfl (fun K hK => ?_) ?_
        · go_simp
          refine hK.out _ _ ?_ (fun hHeld2 => ?_)
          · exact hHeld
          clear hK K hHeld
          have hHeld := hHeld2
          clear hHeld2
          try simp only [Act.put, List.setIfInBounds_toArray, List.set_cons_zero, List.set_cons_succ]
          refine wpAnyH_ready (rs := [14]) (by kernel_rfl) (by simp) ?_
          refine AllReadyH.cons (o := { dst := some 39, op := Op.call { callee := Callee.value (Operand.func 75), args := #[Operand.tmp 33, Operand.tmp 38], argTypes := #[86, 38] }, type := 5, pos := "find.go:72", after := #[{ on := 8, ground := Go.Ground.data }, { on := 13, ground := Go.Ground.data }], guard := none }) rfl (fun K hK => ?_) ?_
          · go_simp
            go_at_call 75
            rw [← Int.natCast_add]
            refine (byteAt_any s (e.a + i) (e.a + i - s.a) _ (by omega) (by omega) (by omega) hKf.d).mono ?_
            rintro r w2 ⟨rfl, hb2⟩
            rw [hby]
            have HB2 := Hid.in hb2
            have HHE := Hid.in (HDD.out w2 hb2)
            have c2' := HHE.out.1
            have f2' := HHE.out.2.1
            clear hb2
            go_wp2_with fail
            refine hK.out _ _ ?_ (fun hHeld2 => ?_)
            · exact HHE.out.2.2
            clear hK K hHeld
            have hHeld := hHeld2
            clear hHeld2
            try simp only [Act.put, List.setIfInBounds_toArray, List.set_cons_zero, List.set_cons_succ]
            refine wpAnyH_take (i := 15) (oi := { dst := some 40, op := Op.convert 5 38 (Operand.tmp 39), type := 38, pos := "find.go:72", after := #[{ on := 14, ground := Go.Ground.data }], guard := none }) (v := ?_) rfl (by kernel_rfl) (by kernel_rfl) (by kernel_rfl) (fun _ _ _ h => h) (Or.inl ⟨by rfl, ?_⟩) (by assumption) ?_
            rotate_left
            · (intro w hSw; (try dsimp only at hSw); (go_simp <;> with_reducible rfl))
            try simp only [Act.put, List.setIfInBounds_toArray, List.set_cons_zero, List.set_cons_succ]
            refine wpAnyH_take (i := 18) (oi := { dst := some 43, op := Op.binOp BinOp.shl 38 (Operand.tmp 40) (Operand.tmp 42) 3, type := 38, pos := "find.go:72", after := #[{ on := 15, ground := Go.Ground.data }, { on := 17, ground := Go.Ground.data }], guard := none }) (v := ?_) rfl (by kernel_rfl) (by kernel_rfl) (by kernel_rfl) (fun _ _ _ h => h) (Or.inl ⟨by rfl, ?_⟩) (by assumption) ?_
            rotate_left
            · (intro w hSw; (try dsimp only at hSw); (go_simp <;> with_reducible rfl))
            try simp only [Act.put, List.setIfInBounds_toArray, List.set_cons_zero, List.set_cons_succ]
            refine wpAnyH_take (i := 19) (oi := { dst := some 44, op := Op.binOp BinOp.or 38 (Operand.tmp 26) (Operand.tmp 43) 38, type := 38, pos := "find.go:72", after := #[{ on := 1, ground := Go.Ground.data }, { on := 18, ground := Go.Ground.data }], guard := none }) (v := ?_) rfl (by kernel_rfl) (by kernel_rfl) (by kernel_rfl) (fun _ _ _ h => h) (Or.inl ⟨by rfl, ?_⟩) (by assumption) ?_
            rotate_left
            · (intro w hSw; (try dsimp only at hSw); (go_simp <;> with_reducible rfl))
            try simp only [Act.put, List.setIfInBounds_toArray, List.set_cons_zero, List.set_cons_succ]
            refine wpAnyH_take (i := 20) (oi := { dst := some 45, op := Op.fieldAddr 44 (Operand.tmp 7) 2, type := 0, pos := "find.go:72", after := #[{ on := 0, ground := Go.Ground.phase }, { on := 1, ground := Go.Ground.phase }, { on := 2, ground := Go.Ground.phase }, { on := 3, ground := Go.Ground.phase }, { on := 4, ground := Go.Ground.phase }, { on := 5, ground := Go.Ground.phase }, { on := 6, ground := Go.Ground.phase }, { on := 7, ground := Go.Ground.phase }, { on := 8, ground := Go.Ground.phase }, { on := 9, ground := Go.Ground.phase }, { on := 10, ground := Go.Ground.phase }, { on := 11, ground := Go.Ground.phase }, { on := 12, ground := Go.Ground.phase }, { on := 13, ground := Go.Ground.phase }, { on := 14, ground := Go.Ground.phase }, { on := 15, ground := Go.Ground.phase }, { on := 16, ground := Go.Ground.phase }, { on := 17, ground := Go.Ground.phase }, { on := 18, ground := Go.Ground.phase }, { on := 19, ground := Go.Ground.phase }], guard := none }) (v := ?_) rfl (by kernel_rfl) (by kernel_rfl) (by kernel_rfl) (fun _ _ _ h => h) (Or.inl ⟨by rfl, ?_⟩) (by assumption) ?_
            rotate_left
            · (intro w hSw; (try dsimp only at hSw); (go_simp <;> with_reducible rfl))
            try simp only [Act.put, List.setIfInBounds_toArray, List.set_cons_zero, List.set_cons_succ]
            refine wpAnyH_ready (rs := [21]) (by kernel_rfl) (by simp) ?_
            refine AllReadyH.cons (o := { dst := none, op := Op.store 38 (Operand.tmp 45) (Operand.tmp 44), type := 0, pos := "find.go:72", after := #[{ on := 20, ground := Go.Ground.data }, { on := 19, ground := Go.Ground.data }, { on := 14, ground := Go.Ground.chain }, { on := 0, ground := Go.Ground.phase }, { on := 1, ground := Go.Ground.phase }, { on := 2, ground := Go.Ground.phase }, { on := 3, ground := Go.Ground.phase }, { on := 4, ground := Go.Ground.phase }, { on := 5, ground := Go.Ground.phase }, { on := 6, ground := Go.Ground.phase }, { on := 7, ground := Go.Ground.phase }, { on := 8, ground := Go.Ground.phase }, { on := 9, ground := Go.Ground.phase }, { on := 10, ground := Go.Ground.phase }, { on := 11, ground := Go.Ground.phase }, { on := 12, ground := Go.Ground.phase }, { on := 13, ground := Go.Ground.phase }, { on := 14, ground := Go.Ground.phase }, { on := 15, ground := Go.Ground.phase }, { on := 16, ground := Go.Ground.phase }, { on := 17, ground := Go.Ground.phase }, { on := 18, ground := Go.Ground.phase }, { on := 19, ground := Go.Ground.phase }], guard := none }) rfl (fun K hK => ?_) ?_
            · go_simp
              refine hK.out _ _ ?_ (fun hHeld2 => ?_)
              · exact HKP.out _ _ hHeld
              clear hK K hHeld
              have hHeld := hHeld2
              clear hHeld2
              try simp only [Act.put, List.setIfInBounds_toArray, List.set_cons_zero, List.set_cons_succ]
              refine wpAnyH_done (by kernel_rfl) ?_ _
              go_wp2_with fail
              go_roundw
              case rel =>
                refine ⟨i + 1, by simp, by omega, ((HK7.out.below HB2.out).set 2 (by decide) _).ext (fun o ho => ?_), (HT7.out.trans (Turned.of_below HB2.out)).set rfl 2 _⟩
                match o, ho with
                | 0, _ => rfl
                | 1, _ => exact congrArg (fun x : Nat => Value.int .i64 x) HG1.out
                | 2, _ => exact congrArg (fun x : Int => Value.int .u32 x) HG2.out
              case measure =>
                simp [intOf]
                omega
            exact AllReadyH.nil
          exact AllReadyH.nil
        refine AllReadyH.cons (o := { dst := some 39, op := Op.call { callee := Callee.value (Operand.func 75), args := #[Operand.tmp 33, Operand.tmp 38], argTypes := #[86, 38] }, type := 5, pos := "find.go:72", after := #[{ on := 8, ground := Go.Ground.data }, { on := 13, ground := Go.Ground.data }], guard := none }) rfl (fun K hK => ?_) ?_
        · go_simp
          go_at_call 75
          rw [← Int.natCast_add]
          refine (byteAt_any s (e.a + i) (e.a + i - s.a) _ (by omega) (by omega) (by omega) hKf.d).mono ?_
          rintro r w2 ⟨rfl, hb2⟩
          rw [hby]
          have HB2 := Hid.in hb2
          have HHE := Hid.in (HDD.out w2 hb2)
          have c2' := HHE.out.1
          have f2' := HHE.out.2.1
          clear hb2
          go_wp2_with fail
          refine hK.out _ _ ?_ (fun hHeld2 => ?_)
          · exact HHE.out.2.2
          clear hK K hHeld
          have hHeld := hHeld2
          clear hHeld2
          try simp only [Act.put, List.setIfInBounds_toArray, List.set_cons_zero, List.set_cons_succ]
          refine wpAnyH_take (i := 15) (oi := { dst := some 40, op := Op.convert 5 38 (Operand.tmp 39), type := 38, pos := "find.go:72", after := #[{ on := 14, ground := Go.Ground.data }], guard := none }) (v := ?_) rfl (by kernel_rfl) (by kernel_rfl) (by kernel_rfl) (fun _ _ _ h => h) (Or.inl ⟨by rfl, ?_⟩) (by assumption) ?_
          rotate_left
          · (intro w hSw; (try dsimp only at hSw); (go_simp <;> with_reducible rfl))
          try simp only [Act.put, List.setIfInBounds_toArray, List.set_cons_zero, List.set_cons_succ]
          refine wpAnyH_take (i := 18) (oi := { dst := some 43, op := Op.binOp BinOp.shl 38 (Operand.tmp 40) (Operand.tmp 42) 3, type := 38, pos := "find.go:72", after := #[{ on := 15, ground := Go.Ground.data }, { on := 17, ground := Go.Ground.data }], guard := none }) (v := ?_) rfl (by kernel_rfl) (by kernel_rfl) (by kernel_rfl) (fun _ _ _ h => h) (Or.inl ⟨by rfl, ?_⟩) (by assumption) ?_
          rotate_left
          · (intro w hSw; (try dsimp only at hSw); (go_simp <;> with_reducible rfl))
          try simp only [Act.put, List.setIfInBounds_toArray, List.set_cons_zero, List.set_cons_succ]
          refine wpAnyH_ready (rs := [1]) (by kernel_rfl) (by simp) ?_
          refine AllReadyH.cons (o := { dst := some 26, op := Op.load 38 (Operand.tmp 25), type := 38, pos := "find.go:72", after := #[{ on := 0, ground := Go.Ground.data }], guard := none }) rfl (fun K hK => ?_) ?_
          · go_simp
            refine hK.out _ _ ?_ (fun hHeld2 => ?_)
            · exact hHeld
            clear hK K hHeld
            have hHeld := hHeld2
            clear hHeld2
            try simp only [Act.put, List.setIfInBounds_toArray, List.set_cons_zero, List.set_cons_succ]
            refine wpAnyH_take (i := 19) (oi := { dst := some 44, op := Op.binOp BinOp.or 38 (Operand.tmp 26) (Operand.tmp 43) 38, type := 38, pos := "find.go:72", after := #[{ on := 1, ground := Go.Ground.data }, { on := 18, ground := Go.Ground.data }], guard := none }) (v := ?_) rfl (by kernel_rfl) (by kernel_rfl) (by kernel_rfl) (fun _ _ _ h => h) (Or.inl ⟨by rfl, ?_⟩) (by assumption) ?_
            rotate_left
            · (intro w hSw; (try dsimp only at hSw); (go_simp <;> with_reducible rfl))
            try simp only [Act.put, List.setIfInBounds_toArray, List.set_cons_zero, List.set_cons_succ]
            refine wpAnyH_take (i := 20) (oi := { dst := some 45, op := Op.fieldAddr 44 (Operand.tmp 7) 2, type := 0, pos := "find.go:72", after := #[{ on := 0, ground := Go.Ground.phase }, { on := 1, ground := Go.Ground.phase }, { on := 2, ground := Go.Ground.phase }, { on := 3, ground := Go.Ground.phase }, { on := 4, ground := Go.Ground.phase }, { on := 5, ground := Go.Ground.phase }, { on := 6, ground := Go.Ground.phase }, { on := 7, ground := Go.Ground.phase }, { on := 8, ground := Go.Ground.phase }, { on := 9, ground := Go.Ground.phase }, { on := 10, ground := Go.Ground.phase }, { on := 11, ground := Go.Ground.phase }, { on := 12, ground := Go.Ground.phase }, { on := 13, ground := Go.Ground.phase }, { on := 14, ground := Go.Ground.phase }, { on := 15, ground := Go.Ground.phase }, { on := 16, ground := Go.Ground.phase }, { on := 17, ground := Go.Ground.phase }, { on := 18, ground := Go.Ground.phase }, { on := 19, ground := Go.Ground.phase }], guard := none }) (v := ?_) rfl (by kernel_rfl) (by kernel_rfl) (by kernel_rfl) (fun _ _ _ h => h) (Or.inl ⟨by rfl, ?_⟩) (by assumption) ?_
            rotate_left
            · (intro w hSw; (try dsimp only at hSw); (go_simp <;> with_reducible rfl))
            try simp only [Act.put, List.setIfInBounds_toArray, List.set_cons_zero, List.set_cons_succ]
            refine wpAnyH_ready (rs := [21]) (by kernel_rfl) (by simp) ?_
            refine AllReadyH.cons (o := { dst := none, op := Op.store 38 (Operand.tmp 45) (Operand.tmp 44), type := 0, pos := "find.go:72", after := #[{ on := 20, ground := Go.Ground.data }, { on := 19, ground := Go.Ground.data }, { on := 14, ground := Go.Ground.chain }, { on := 0, ground := Go.Ground.phase }, { on := 1, ground := Go.Ground.phase }, { on := 2, ground := Go.Ground.phase }, { on := 3, ground := Go.Ground.phase }, { on := 4, ground := Go.Ground.phase }, { on := 5, ground := Go.Ground.phase }, { on := 6, ground := Go.Ground.phase }, { on := 7, ground := Go.Ground.phase }, { on := 8, ground := Go.Ground.phase }, { on := 9, ground := Go.Ground.phase }, { on := 10, ground := Go.Ground.phase }, { on := 11, ground := Go.Ground.phase }, { on := 12, ground := Go.Ground.phase }, { on := 13, ground := Go.Ground.phase }, { on := 14, ground := Go.Ground.phase }, { on := 15, ground := Go.Ground.phase }, { on := 16, ground := Go.Ground.phase }, { on := 17, ground := Go.Ground.phase }, { on := 18, ground := Go.Ground.phase }, { on := 19, ground := Go.Ground.phase }], guard := none }) rfl (fun K hK => ?_) ?_
            · go_simp
              refine hK.out _ _ ?_ (fun hHeld2 => ?_)
              · exact HKP.out _ _ hHeld
              clear hK K hHeld
              have hHeld := hHeld2
              clear hHeld2
              try simp only [Act.put, List.setIfInBounds_toArray, List.set_cons_zero, List.set_cons_succ]
              refine wpAnyH_done (by kernel_rfl) ?_ _
              go_wp2_with fail
              go_roundw
              case rel =>
                refine ⟨i + 1, by simp, by omega, ((HK7.out.below HB2.out).set 2 (by decide) _).ext (fun o ho => ?_), (HT7.out.trans (Turned.of_below HB2.out)).set rfl 2 _⟩
                match o, ho with
                | 0, _ => rfl
                | 1, _ => exact congrArg (fun x : Nat => Value.int .i64 x) HG1.out
                | 2, _ => exact congrArg (fun x : Int => Value.int .u32 x) HG2.out
              case measure =>
                simp [intOf]
                omega
            exact AllReadyH.nil
          exact AllReadyH.nil
        exact AllReadyH.nil
    · obtain rfl : i = m := by omega
      have c0 := hcl.cell 0 (by decide)
      have c1 := hcl.cell 1 (by decide)
      have c2 := hcl.cell 2 (by decide)
      have hR := ht.cells HR.out (by omega)
      have r0 := hR.cell 0 (by decide)
      have r1 := hR.cell 1 (by decide)
      have r2 := hR.cell 2 (by decide)
      have f0 := hR.free 0
      have f1 := hR.free 1
      have f2 := hR.free 2
      have hrl := hR.here
      have HRW := Hid.in hR
      simp only [fnd] at c0 c1 c2 r0 r1 r2
      clear hcl ht hR
      go_wp2
      have z := ((HRW.out.set 0 (by decide) (.bool false)).set 1 (by decide) (.int .i64 (gmN l i))).set 2 (by decide) (.int .u32 (S.gvN e l i))
      refine bodyPost_ret (results_found Tryd.results47 _ _ (w.heap.size + 1) _ _ _ rfl (z.cell 0 (by decide)) (z.cell 1 (by decide)) (z.cell 2 (by decide))) rfl ⟨rfl, ?_⟩
      have t : Turned (fun j => w.heap.size ≤ j) Y wr := HT.out.mono (fun j e => by omega)
      exact HB.out.trans ((((t.set (b := w.heap.size + 1) (by omega) 0 _).set (b := w.heap.size + 1) (by omega) 1 _).set (b := w.heap.size + 1) (by omega) 2 _).below (by omega) (fun j e => e))
end Go.Proofs.YthbffonedpeeiaaDoor
