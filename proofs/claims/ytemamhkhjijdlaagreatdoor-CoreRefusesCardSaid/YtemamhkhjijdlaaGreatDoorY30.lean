import Derived.Test.YtemamhkhjijdlaaGreatDoorY28
import Derived.Test.YtemamhkhjijdlaaGreatDoorY18
import Derived.Test.YtemamhkhjijdlaaGreatDoorY15
import Derived.Test.YtemamhkhjijdlaaGreatDoorY29
import Derived.Test.YtemamhkhjijdlaaGreatDoorY09
import Derived.Test.YtemamhkhjijdlaaGreatDoorY08
/-
  CORE: a core is made.
-/
namespace Go.Proofs.YtemamhkhjijdlaaGreatDoor
open Go Go.RowKit
def headN (hp gp tp wp qp b : Nat) : Nat → Value
  | 0 => .pointer (some ⟨hp, 0, none⟩)
  | 1 => .pointer (some ⟨gp, 0, none⟩)
  | 2 => .pointer (some ⟨tp, 0, none⟩)
  | 3 => .pointer (some ⟨wp, 0, none⟩)
  | 4 => .pointer (some ⟨qp, 0, none⟩)
  | 5 => .pointer (some ⟨b, 0, none⟩)
  | _ => .int .i64 0
def coreN (hp gp tp wp qp b cb : Nat) (c : Cf) (o : Nat) : Value := if o < 7 then headN hp gp tp wp qp b o else if o < 22 then c.at (o - 7) else if o = 22 then .slice (some ⟨cb, 0, none⟩) 1 1 else if o < 151 then .int .u32 0 else if o = 151 then .slice none 0 0 else if o = 152 then .int .u32 0 else if o = 153 then .slice none 0 0 else .bool false
theorem g_ok {kind bits hist tg ret : Int} (h : gOk kind bits hist tg ret = true) : 0 ≤ bits ∧ 0 ≤ hist ∧ 0 ≤ tg ∧ 1 ≤ ret := by
  unfold gOk at h
  simp only [Bool.and_eq_true, decide_eq_true_eq] at h
  omega
theorem prd_good {c : Cf} (w : World) (h : gOk c.kind c.bits c.hist c.tg c.ret = true) : Calls Tryz.prog 34 #[.agg #[.int .i64 c.kind, .int .i64 c.bits, .int .i64 c.hist, .int .i64 c.tg, .int .i64 c.ret]] w fun e w' => ∃ G : PG, e = .returned (.tuple #[.pointer (some ⟨G.p, 0, none⟩), .nilIface]) ∧ PrdC G newS w' (fun z => z < w.heap.size) ∧ (w.heap.size ≤ G.p ∧ w.heap.size ≤ G.gt ∧ w.heap.size ≤ G.gs ∧ w.heap.size ≤ G.gc) ∧ 0 < G.ns ∧ Below w.heap.size w w' := by
  obtain ⟨h1, h2, h3, h4⟩ := g_ok h
  have e1 : ((c.bits.toNat : Nat) : Int) = c.bits := Int.toNat_of_nonneg h1
  have e2 : ((c.hist.toNat : Nat) : Int) = c.hist := Int.toNat_of_nonneg h2
  have e3 : ((c.tg.toNat : Nat) : Int) = c.tg := Int.toNat_of_nonneg h3
  have e4 : ((c.ret.toNat : Nat) : Int) = c.ret := Int.toNat_of_nonneg (by omega)
  have q := new_good_prd c.kind c.bits.toNat c.hist.toNat c.tg.toNat c.ret.toNat (2 ^ c.tg.toNat) (2 ^ c.hist.toNat - 1) rfl (by have := Nat.two_pow_pos c.hist.toNat; omega) w (by rw [e1, e2, e3, e4]; exact h)
  rw [e1, e2, e3, e4] at q
  refine q.mono ?_
  rintro e w' ⟨G, he, hp, hns, -, -, -, -, hlo, hb⟩
  refine ⟨G, he, ⟨hp, fun z hz => ⟨Nat.lt_of_lt_of_le hz hb.size, ?_⟩⟩, hlo, by omega, hb⟩
  have := hlo.1
  have := hlo.2.1
  have := hlo.2.2.1
  have := hlo.2.2.2
  exact ⟨by omega, by omega, by omega, by omega⟩
theorem win_good {c : Cf} (w : World) (h : 2 ≤ c.window ∧ c.window ≤ 64) (hr : 34 ≤ c.regs ∧ c.regs ≤ 128) : Calls Tryz.prog 36 #[.int .i64 c.window, .int .i64 c.regs] w fun e w' => e = .returned (.tuple #[.pointer (some ⟨w.heap.size + 1, 0, none⟩), .nilIface]) ∧ WinC (w.heap.size + 1) (newW c.window.toNat c.regs.toNat) w' (fun z => z < w.heap.size) ∧ Below w.heap.size w w' := by
  have e1 : ((c.window.toNat : Nat) : Int) = c.window := Int.toNat_of_nonneg (by omega)
  have e2 : ((c.regs.toNat : Nat) : Int) = c.regs := Int.toNat_of_nonneg (by omega)
  have q := new_good_win c.window.toNat c.regs.toNat w (by omega) (by omega)
  rw [e1, e2] at q
  refine q.mono ?_
  rintro e w' ⟨he, hw, hb⟩
  exact ⟨he, ⟨_, _, _, _, hw, fun z hz => ⟨Nat.lt_of_lt_of_le hz hb.size, by omega, by omega, by simp [Value.ownBlock]⟩⟩, hb⟩
theorem que_mine {z b n : Nat} (h : z < b) : ¬ qmine b (.slice none 0 0) ⟨n, []⟩ z := by
  rintro (q | q | ⟨i, hi, _⟩)
  · omega
  · simp [Value.ownBlock] at q
  · exact absurd hi (Nat.not_lt_zero _)
theorem que_good {c : Cf} (w : World) (h : 1 ≤ c.queue ∧ c.queue ≤ 32) : Calls Tryz.prog 37 #[.int .i64 c.queue] w fun e w' => e = .returned (.tuple #[.pointer (some ⟨w.heap.size, 0, none⟩), .nilIface]) ∧ QueC w.heap.size ⟨c.queue.toNat, []⟩ w' (fun z => z < w.heap.size) ∧ Below w.heap.size w w' := by
  have e1 : ((c.queue.toNat : Nat) : Int) = c.queue := Int.toNat_of_nonneg (by omega)
  have q := new_good_lsq w.heap.size c.queue.toNat w (Nat.le_refl _) (by omega)
  rw [e1] at q
  refine q.mono ?_
  rintro e w' ⟨he, hw, hb⟩
  exact ⟨he, ⟨_, _, hw, fun z hz => ⟨Nat.lt_of_lt_of_le hz hb.size, que_mine hz⟩⟩, hb⟩
theorem ren_good {c : Cf} (w : World) (hr : 34 ≤ c.regs ∧ c.regs ≤ 128) : Calls Tryz.prog 35 #[.int .i64 c.regs] w fun e w' => e = .returned (.tuple #[.pointer (some ⟨w.heap.size + 1, 0, none⟩), .nilIface]) ∧ Below w.heap.size w w' := by
  have e1 : ((c.regs.toNat : Nat) : Int) = c.regs := Int.toNat_of_nonneg (by omega)
  have q := new_good_ren c.regs.toNat w (by omega) (by omega)
  rw [e1] at q
  exact q.mono (fun e w' h => ⟨h.1, h.2.2⟩)
set_option maxRecDepth 100000 in
set_option maxHeartbeats 4000000 in
theorem fcore_bad (x : World) (kb kc : Nat) (c : Cf) (hp b : Nat) (hn : ¬ okC c) : Calls Tryz.prog 22 #[.agg #[.slice (some ⟨kb, 0, none⟩) 1 kc, .int .i64 c.width, .int .i64 c.window, .int .i64 c.queue, .int .i64 c.regs, .int .i64 c.units, .int .i64 c.mul, .bool c.bold, .int .i64 c.kind, .int .i64 c.bits, .int .i64 c.hist, .int .i64 c.tg, .int .i64 c.ret, .int .i64 c.sets, .int .i64 c.ways, .int .i64 c.bus, .slice none 0 0], .int .i64 0, .pointer (some ⟨hp, 0, none⟩), .pointer (some ⟨b, 0, none⟩)] x fun e y => Below x.heap.size x y ∧ e = .returned (.tuple #[.pointer none, errV 2]) := by
  go_enter Tryz.func22, Tryz.ntmps22
  go_upto_region 1 with fail
  obtain ⟨X, hX⟩ : ∃ X, x.alloc (.cells #[.slice (some ⟨kb, 0, none⟩) 1 kc, .int .i64 c.width, .int .i64 c.window, .int .i64 c.queue, .int .i64 c.regs, .int .i64 c.units, .int .i64 c.mul, .bool c.bold, .int .i64 c.kind, .int .i64 c.bits, .int .i64 c.hist, .int .i64 c.tg, .int .i64 c.ret, .int .i64 c.sets, .int .i64 c.ways, .int .i64 c.bus, .slice none 0 0] 51) = X := ⟨_, rfl⟩
  obtain ⟨tb, htb⟩ : ∃ tb, x.heap.size = tb := ⟨_, rfl⟩
  have bX : Below x.heap.size x X := by rw [← hX]; exact (Below.refl _ _).alloc (Nat.le_refl _) _
  have kX : CellsAt 17 X tb (progF kb kc c) := by rw [← hX, ← htb]; exact cells_new x (prog_new kb kc c)
  rw [hX, htb]
  have HB := Hid.in bX
  have HK := Hid.in kX
  obtain ⟨a0, a1, a2, a3, a4, a5, a6, a7, a8, a9, a10, a11, a12, a13, a14, a15, a16⟩ := cells17 kX
  have ah := kX.here
  have HF := Hid.in (fbounds c X)
  clear hX htb bX kX
  cases hi : c.inB
  · rw [hi] at HF
    go_wp2_with (go_at_call 33; go_must (refine HF.out.mono ?_; rintro e y ⟨rfl, hy⟩; have HY := Hid.in hy; clear hy))
    refine bodyPost_ret (v := .tuple #[.pointer none, errV 2]) (by simp [results, Tryz.results22, go_sem, errV]) rfl ?_
    exact ⟨HB.out.trans (HY.out.mono HB.out.size), rfl⟩
  rw [hi] at HF
  go_upto_region 3 with (go_at_call 33; go_must (refine HF.out.mono ?_; rintro e y ⟨rfl, hy⟩; have hk := HK.out.below hy; have hb := HB.out.trans (hy.mono HB.out.size); clear hy))
  obtain ⟨b0, b1, b2, b3, b4, b5, b6, b7, b8, b9, b10, b11, b12, b13, b14, b15, b16⟩ := cells17 hk
  have bh := hk.here
  have HK1 := Hid.in hk
  have HB1 := Hid.in hb
  clear hk hb a0 a1 a2 a3 a4 a5 a6 a7 a8 a9 a10 a11 a12 a13 a14 a15 a16 ah HF HK HB b0 b1 b2 b3 b4 b5 b6 b7 b13 b14 b15 b16
  cases hg : gOk c.kind c.bits c.hist c.tg c.ret
  · have HP := Hid.in (new_bad_prd c.kind c.bits c.hist c.tg c.ret y hg)
    clear hg
    go_wp2_with (go_at_call 34; go_must (refine HP.out.mono ?_; rintro e y2 ⟨rfl, hy⟩; have HY := Hid.in hy; clear hy))
    refine bodyPost_ret (v := .tuple #[.pointer none, errV 2]) (by simp [results, Tryz.results22, go_sem, errV]) rfl ?_
    exact ⟨HB1.out.trans (HY.out.mono HB1.out.size), rfl⟩
  have HP := Hid.in (prd_good (c := c) y hg)
  go_upto_region 6 with (go_at_call 34; go_must (refine HP.out.mono ?_; rintro e y2 ⟨G, rfl, -, -, -, hy⟩; have hk := HK1.out.below hy; have hb := HB1.out.trans (hy.mono HB1.out.size); clear hy))
  have b4 : y2.cell? ⟨tb, 4, none⟩ = some (.int .i64 c.regs) := hk.cell 4 (by decide)
  have bh2 := hk.here
  have HK2 := Hid.in hk
  have HB2 := Hid.in hb
  clear hk hb HP HK1 HB1 b8 b9 b10 b11 b12 bh
  by_cases hr : 34 ≤ c.regs ∧ c.regs ≤ 128
  case neg =>
    have HP := Hid.in (new_bad_ren c.regs y2 hr)
    clear hr
    go_wp2_with (go_at_call 35; go_must (refine HP.out.mono ?_; rintro e y3 ⟨rfl, hy⟩; have hw2 := hy.symm; clear hy; subst hw2))
    refine bodyPost_ret (v := .tuple #[.pointer none, errV 2]) (by simp [results, Tryz.results22, go_sem, errV]) rfl ?_
    exact ⟨HB2.out, rfl⟩
  have HP := Hid.in (ren_good (c := c) y2 hr)
  go_upto_region 9 with (go_at_call 35; go_must (refine HP.out.mono ?_; rintro e y3 ⟨rfl, hy⟩; have hk := HK2.out.below hy; have hb := HB2.out.trans (hy.mono HB2.out.size); clear hy))
  have c4 : y3.cell? ⟨tb, 4, none⟩ = some (.int .i64 c.regs) := hk.cell 4 (by decide)
  have c2 : y3.cell? ⟨tb, 2, none⟩ = some (.int .i64 c.window) := hk.cell 2 (by decide)
  have bh3 := hk.here
  have HK3 := Hid.in hk
  have HB3 := Hid.in hb
  clear hk hb HP HK2 HB2 b4 bh2
  by_cases hw : 2 ≤ c.window ∧ c.window ≤ 64
  case neg =>
    have HP := Hid.in (new_bad_win c.window c.regs y3 (fun q => hw q.1))
    clear hw hr
    go_wp2_with (go_at_call 36; go_must (refine HP.out.mono ?_; rintro e y4 ⟨rfl, hy⟩; have hw2 := hy.symm; clear hy; subst hw2; unfold errV))
    refine bodyPost_ret (v := .tuple #[.pointer none, errV 2]) (by simp [results, Tryz.results22, go_sem, errV]) rfl ?_
    exact ⟨HB3.out, rfl⟩
  have HP := Hid.in (win_good (c := c) y3 hw hr)
  have HN : Hid (¬ (1 ≤ c.queue ∧ c.queue ≤ 32)) := Hid.in (fun q => hn ⟨hi, hg, hr, hw, q⟩)
  clear hw hr hn hg hi
  go_upto_region 12 with (go_at_call 36; go_must (refine HP.out.mono ?_; rintro e y4 ⟨rfl, -, hy⟩; have hk := HK3.out.below hy; have hb := HB3.out.trans (hy.mono HB3.out.size); clear hy))
  have d3 : y4.cell? ⟨tb, 3, none⟩ = some (.int .i64 c.queue) := hk.cell 3 (by decide)
  have bh4 := hk.here
  have HB4 := Hid.in hb
  have HP2 := Hid.in (new_bad_lsq c.queue y4 HN.out)
  clear hk hb HP HK3 HB3 c4 c2 bh3 HN
  go_wp2_with (go_at_call 37; go_must (refine HP2.out.mono ?_; rintro e y5 ⟨rfl, hy⟩; have hw2 := hy.symm; clear hy; subst hw2; unfold errV))
  refine bodyPost_ret (v := .tuple #[.pointer none, errV 2]) (by simp [results, Tryz.results22, go_sem, errV]) rfl ?_
  exact ⟨HB4.out, rfl⟩
end Go.Proofs.YtemamhkhjijdlaaGreatDoor
/-
  CORE: a core is made, and well.
-/
namespace Go.Proofs.YtemamhkhjijdlaaGreatDoor
open Go Go.RowKit
set_option maxRecDepth 100000 in
theorem core_arr (hp gp tp wp qp b cb : Nat) (c : Cf) : ∀ i, i < 156 → (((((((((((((((((((((((((Tryz.zeroCells146.setIfInBounds 0 (.pointer (some ⟨hp, 0, none⟩))).setIfInBounds 1 (.pointer (some ⟨gp, 0, none⟩))).setIfInBounds 2 (.pointer (some ⟨tp, 0, none⟩))).setIfInBounds 3 (.pointer (some ⟨wp, 0, none⟩))).setIfInBounds 4 (.pointer (some ⟨qp, 0, none⟩))).setIfInBounds 5 (.pointer (some ⟨b, 0, none⟩))).setIfInBounds 6 (.int .i64 0)).setIfInBounds 7 (.int .i64 c.width)).setIfInBounds 8 (.int .i64 c.window)).setIfInBounds 9 (.int .i64 c.queue)).setIfInBounds 10 (.int .i64 c.regs)).setIfInBounds 11 (.int .i64 c.units)).setIfInBounds 12 (.int .i64 c.mul)).setIfInBounds 13 (.bool c.bold)).setIfInBounds 14 (.int .i64 c.kind)).setIfInBounds 15 (.int .i64 c.bits)).setIfInBounds 16 (.int .i64 c.hist)).setIfInBounds 17 (.int .i64 c.tg)).setIfInBounds 18 (.int .i64 c.ret)).setIfInBounds 19 (.int .i64 c.sets)).setIfInBounds 20 (.int .i64 c.ways)).setIfInBounds 21 (.int .i64 c.bus)).setIfInBounds 22 (.slice (some ⟨cb, 0, none⟩) 1 1)).setIfInBounds 153 (.slice none 0 0)) : Array Value)[i]? = some (coreN hp gp tp wp qp b cb c i) := fun i hi => range_of 156 (fun i => (((((((((((((((((((((((((Tryz.zeroCells146.setIfInBounds 0 (.pointer (some ⟨hp, 0, none⟩))).setIfInBounds 1 (.pointer (some ⟨gp, 0, none⟩))).setIfInBounds 2 (.pointer (some ⟨tp, 0, none⟩))).setIfInBounds 3 (.pointer (some ⟨wp, 0, none⟩))).setIfInBounds 4 (.pointer (some ⟨qp, 0, none⟩))).setIfInBounds 5 (.pointer (some ⟨b, 0, none⟩))).setIfInBounds 6 (.int .i64 0)).setIfInBounds 7 (.int .i64 c.width)).setIfInBounds 8 (.int .i64 c.window)).setIfInBounds 9 (.int .i64 c.queue)).setIfInBounds 10 (.int .i64 c.regs)).setIfInBounds 11 (.int .i64 c.units)).setIfInBounds 12 (.int .i64 c.mul)).setIfInBounds 13 (.bool c.bold)).setIfInBounds 14 (.int .i64 c.kind)).setIfInBounds 15 (.int .i64 c.bits)).setIfInBounds 16 (.int .i64 c.hist)).setIfInBounds 17 (.int .i64 c.tg)).setIfInBounds 18 (.int .i64 c.ret)).setIfInBounds 19 (.int .i64 c.sets)).setIfInBounds 20 (.int .i64 c.ways)).setIfInBounds 21 (.int .i64 c.bus)).setIfInBounds 22 (.slice (some ⟨cb, 0, none⟩) 1 1)).setIfInBounds 153 (.slice none 0 0)) : Array Value)[i]?) (fun i => some (coreN hp gp tp wp qp b cb c i)) (by kernel_rfl) i hi
/-- what a new core is -/
def Made (x y : World) (c : Cf) (hp b : Nat) (e : Ending) : Prop := ∃ (p wp tp qp cb : Nat) (G : PG), e = .returned (.tuple #[.pointer (some ⟨p, 0, none⟩), .nilIface]) ∧ x.heap.size ≤ p ∧ (x.heap.size ≤ G.p ∧ x.heap.size ≤ G.gt ∧ x.heap.size ≤ G.gs ∧ x.heap.size ≤ G.gc) ∧ 0 < G.ns ∧ ∀ C : Nat → World → (Nat → Prop) → Prop, (∀ k, Comp (C k)) → Side C x → Side (upd (upd (upd (upd (upd C 2 (PrdC G newS)) 1 (WinC wp (newW c.window.toNat c.regs.toNat))) 3 (QueC qp ⟨c.queue.toNat, []⟩)) 9 (CelC cb 5 ebk)) 7 (CelC p 156 (coreN hp G.p tp wp qp b cb c))) y
theorem made_of {x y y2 y3 y4 y5 y6 y7 : World} {c : Cf} {hp b cb tp : Nat} {G : PG} (h1 : Below x.heap.size x y) (hp2 : PrdC G newS y2 (fun z => z < y.heap.size)) (hlo : y.heap.size ≤ G.p ∧ y.heap.size ≤ G.gt ∧ y.heap.size ≤ G.gs ∧ y.heap.size ≤ G.gc) (hns : 0 < G.ns) (h2 : Below y.heap.size y y2) (h3 : Below y2.heap.size y2 y3) (hw : WinC (y3.heap.size + 1) (newW c.window.toNat c.regs.toNat) y4 (fun z => z < y3.heap.size)) (h4 : Below y3.heap.size y3 y4) (hq : QueC y4.heap.size ⟨c.queue.toNat, []⟩ y5 (fun z => z < y4.heap.size)) (h5 : Below y4.heap.size y4 y5) (hc : CellsAt 5 y6 cb ebk) (hcl : y5.heap.size ≤ cb) (h6 : Below y5.heap.size y5 y6) (h7 : Below y6.heap.size y6 y7) (hk : CellsAt 156 y7 y6.heap.size (coreN hp G.p tp (y3.heap.size + 1) y4.heap.size b cb c)) : Below x.heap.size x y7 ∧ Made x y7 c hp b (.returned (.tuple #[.pointer (some ⟨y6.heap.size, 0, none⟩), .nilIface])) := by
  have l1 := h1.size
  have l2 := h2.size
  have l3 := h3.size
  have l4 := h4.size
  have l5 := h5.size
  have l6 := h6.size
  refine ⟨((((((h1.trans (h2.mono l1)).trans (h3.mono (by omega))).trans (h4.mono (by omega))).trans (h5.mono (by omega))).trans (h6.mono (by omega))).trans (h7.mono (by omega))), y6.heap.size, y3.heap.size + 1, tp, y4.heap.size, cb, G, rfl, by omega, ⟨by have := hlo.1; omega, by have := hlo.2.1; omega, by have := hlo.2.2.1; omega, by have := hlo.2.2.2; omega⟩, hns, fun C hC hS => ?_⟩
  have s1 := Side.below 0 hC hS h1
  have s2 : Side (upd C 2 (PrdC G newS)) y2 := Side.born 2 hC s1 h2 (by rw [upd_same]; exact prdC_comp _ _) (by rw [upd_same]; exact hp2) (fun j hj => upd_other _ _ _ _ hj)
  have c2 := upd_comp hC 2 (prdC_comp G newS)
  have s3 := Side.below 0 c2 s2 h3
  have s4 : Side (upd (upd C 2 (PrdC G newS)) 1 (WinC (y3.heap.size + 1) (newW c.window.toNat c.regs.toNat))) y4 := Side.born 1 c2 s3 h4 (by rw [upd_same]; exact winC_comp _ _) (by rw [upd_same]; exact hw) (fun j hj => upd_other _ _ _ _ hj)
  have c4 := upd_comp c2 1 (winC_comp (y3.heap.size + 1) (newW c.window.toNat c.regs.toNat))
  have s5 : Side (upd (upd (upd C 2 (PrdC G newS)) 1 (WinC (y3.heap.size + 1) (newW c.window.toNat c.regs.toNat))) 3 (QueC y4.heap.size ⟨c.queue.toNat, []⟩)) y5 := Side.born 3 c4 s4 h5 (by rw [upd_same]; exact queC_comp _ _) (by rw [upd_same]; exact hq) (fun j hj => upd_other _ _ _ _ hj)
  have c5 := upd_comp c4 3 (queC_comp y4.heap.size ⟨c.queue.toNat, []⟩)
  have s6 : Side (upd (upd (upd (upd C 2 (PrdC G newS)) 1 (WinC (y3.heap.size + 1) (newW c.window.toNat c.regs.toNat))) 3 (QueC y4.heap.size ⟨c.queue.toNat, []⟩)) 9 (CelC cb 5 ebk)) y6 := Side.born 9 c5 s5 h6 (by rw [upd_same]; exact celC_comp _ _ _) (by rw [upd_same]; exact ⟨hc, fun z hz => ⟨by omega, by omega⟩⟩) (fun j hj => upd_other _ _ _ _ hj)
  have c6 := upd_comp c5 9 (celC_comp cb 5 ebk)
  exact Side.born 7 c6 s6 h7 (by rw [upd_same]; exact celC_comp _ _ _) (by rw [upd_same]; exact ⟨hk, fun z hz => ⟨Nat.lt_of_lt_of_le hz h7.size, by omega⟩⟩) (fun j hj => upd_other _ _ _ _ hj)
set_option maxRecDepth 100000 in
set_option maxHeartbeats 4000000 in
theorem fcore_good (x : World) (hL : Laid x) (kb kc : Nat) (c : Cf) (hp b : Nat) (hkb : kb < x.heap.size) (hkc : x.cell? ⟨kb, 0, none⟩ = some (.int .u32 1048691)) (hok : okC c) : Calls Tryz.prog 22 #[.agg #[.slice (some ⟨kb, 0, none⟩) 1 kc, .int .i64 c.width, .int .i64 c.window, .int .i64 c.queue, .int .i64 c.regs, .int .i64 c.units, .int .i64 c.mul, .bool c.bold, .int .i64 c.kind, .int .i64 c.bits, .int .i64 c.hist, .int .i64 c.tg, .int .i64 c.ret, .int .i64 c.sets, .int .i64 c.ways, .int .i64 c.bus, .slice none 0 0], .int .i64 0, .pointer (some ⟨hp, 0, none⟩), .pointer (some ⟨b, 0, none⟩)] x fun e y => Below x.heap.size x y ∧ Made x y c hp b e := by
  obtain ⟨hi, hg, hr, hw, hq⟩ := hok
  have HL := Hid.in hL
  have HKC := Hid.in hkc
  have HKB := Hid.in hkb
  have HR := Hid.in hr
  have HW := Hid.in hw
  have HQ := Hid.in hq
  have HGO := Hid.in hg
  clear hL hkc hkb hr hw hq hg
  go_enter Tryz.func22, Tryz.ntmps22
  go_upto_region 1 with fail
  obtain ⟨X, hX⟩ : ∃ X, x.alloc (.cells #[.slice (some ⟨kb, 0, none⟩) 1 kc, .int .i64 c.width, .int .i64 c.window, .int .i64 c.queue, .int .i64 c.regs, .int .i64 c.units, .int .i64 c.mul, .bool c.bold, .int .i64 c.kind, .int .i64 c.bits, .int .i64 c.hist, .int .i64 c.tg, .int .i64 c.ret, .int .i64 c.sets, .int .i64 c.ways, .int .i64 c.bus, .slice none 0 0] 51) = X := ⟨_, rfl⟩
  obtain ⟨tb, htb⟩ : ∃ tb, x.heap.size = tb := ⟨_, rfl⟩
  have bX : Below x.heap.size x X := by rw [← hX]; exact (Below.refl _ _).alloc (Nat.le_refl _) _
  have kX : CellsAt 17 X tb (progF kb kc c) := by rw [← hX, ← htb]; exact cells_new x (prog_new kb kc c)
  rw [hX, htb]
  have HB := Hid.in bX
  have HK := Hid.in kX
  obtain ⟨a0, a1, a2, a3, a4, a5, a6, a7, a8, a9, a10, a11, a12, a13, a14, a15, a16⟩ := cells17 kX
  have ah := kX.here
  have HF := Hid.in (fbounds c X)
  clear hX htb bX kX
  rw [hi] at HF
  clear hi
  go_upto_region 3 with (go_at_call 33; go_must (refine HF.out.mono ?_; rintro e y ⟨rfl, hy⟩; have hk := HK.out.below hy; have hb := HB.out.trans (hy.mono HB.out.size); clear hy))
  have b8 : y.cell? ⟨tb, 8, none⟩ = some (.int .i64 c.kind) := hk.cell 8 (by decide)
  have b9 : y.cell? ⟨tb, 9, none⟩ = some (.int .i64 c.bits) := hk.cell 9 (by decide)
  have b10 : y.cell? ⟨tb, 10, none⟩ = some (.int .i64 c.hist) := hk.cell 10 (by decide)
  have b11 : y.cell? ⟨tb, 11, none⟩ = some (.int .i64 c.tg) := hk.cell 11 (by decide)
  have b12 : y.cell? ⟨tb, 12, none⟩ = some (.int .i64 c.ret) := hk.cell 12 (by decide)
  have bh := hk.here
  have HK1 := Hid.in hk
  have HB1 := Hid.in hb
  clear hk hb a0 a1 a2 a3 a4 a5 a6 a7 a8 a9 a10 a11 a12 a13 a14 a15 a16 ah HF HK HB
  have HP := Hid.in (prd_good (c := c) y HGO.out)
  go_upto_region 6 with (go_at_call 34; go_must (refine HP.out.mono ?_; rintro e y2 ⟨G, rfl, hG, hlo, hns, hy⟩; have hk := HK1.out.below hy; have HGG := Hid.in hG; have HLO := Hid.in hlo; have HNS := Hid.in hns; have HB2 := Hid.in hy; clear hy hG hlo hns))
  have b4 : y2.cell? ⟨tb, 4, none⟩ = some (.int .i64 c.regs) := hk.cell 4 (by decide)
  have bh2 := hk.here
  have HK2 := Hid.in hk
  clear hk HP HK1 b8 b9 b10 b11 b12 bh
  have HP := Hid.in (ren_good (c := c) y2 HR.out)
  go_upto_region 9 with (go_at_call 35; go_must (refine HP.out.mono ?_; rintro e y3 ⟨rfl, hy⟩; have hk := HK2.out.below hy; have HB3 := Hid.in hy; clear hy))
  have c4 : y3.cell? ⟨tb, 4, none⟩ = some (.int .i64 c.regs) := hk.cell 4 (by decide)
  have c2 : y3.cell? ⟨tb, 2, none⟩ = some (.int .i64 c.window) := hk.cell 2 (by decide)
  have bh3 := hk.here
  have HK3 := Hid.in hk
  clear hk HP HK2 b4 bh2
  have HP := Hid.in (win_good (c := c) y3 HW.out HR.out)
  go_upto_region 12 with (go_at_call 36; go_must (refine HP.out.mono ?_; rintro e y4 ⟨rfl, hwc, hy⟩; have hk := HK3.out.below hy; have HWC := Hid.in hwc; have HB4 := Hid.in hy; clear hy hwc))
  have d3 : y4.cell? ⟨tb, 3, none⟩ = some (.int .i64 c.queue) := hk.cell 3 (by decide)
  have bh4 := hk.here
  have HK4 := Hid.in hk
  have HP2 := Hid.in (que_good (c := c) y4 HQ.out)
  clear hk HP HK3 c4 c2 bh3
  go_upto_region 15 with (go_at_call 37; go_must (refine HP2.out.mono ?_; rintro e y5 ⟨rfl, hqc, hy⟩; have hk := HK4.out.below hy; have HQC := Hid.in hqc; have HB5 := Hid.in hy; clear hy hqc))
  obtain ⟨e0, e1, e2, e3, e4, e5, e6, e7, e8, e9, e10, e11, e12, e13, e14, e15, e16⟩ := cells17 hk
  have bh5 := hk.here
  have bx5 : Below x.heap.size x y5 := (((HB1.out.trans (HB2.out.mono HB1.out.size)).trans (HB3.out.mono (Nat.le_trans HB1.out.size HB2.out.size))).trans (HB4.out.mono (Nat.le_trans HB1.out.size (Nat.le_trans HB2.out.size HB3.out.size)))).trans (HB5.out.mono (Nat.le_trans HB1.out.size (Nat.le_trans HB2.out.size (Nat.le_trans HB3.out.size HB4.out.size))))
  have HDE := Hid.in (fdecoded y5.drew ((HL.out.below bx5).below (Below.refl _ _).drew) kb kc (Nat.lt_of_lt_of_le HKB.out bx5.size) (((bx5.cell (p := ⟨kb, 0, none⟩) HKB.out).trans HKC.out)))
  have HK5 := Hid.in hk
  clear hk bx5 HP2 HK4 d3 bh4
  go_upto_region 17 with (first
    | (go_at_call 38; go_must (refine (fclone _).mono ?_; rintro e z ⟨rfl, hy⟩; have hw2 := hy.symm; clear hy; subst hw2))
    | (go_at_call 39; go_must (refine (fsort _ _ _).mono ?_; rintro e z ⟨rfl, hy⟩; have hw2 := hy.symm; clear hy; subst hw2)))
  go_region_held3 (fun w' => w'.cell? ⟨tb, 0, none⟩ = some (.slice (some ⟨kb, 0, none⟩) 1 kc) ∧ w'.cell? ⟨tb, 1, none⟩ = some (.int .i64 c.width) ∧ w'.cell? ⟨tb, 2, none⟩ = some (.int .i64 c.window) ∧ w'.cell? ⟨tb, 3, none⟩ = some (.int .i64 c.queue) ∧ w'.cell? ⟨tb, 4, none⟩ = some (.int .i64 c.regs) ∧ w'.cell? ⟨tb, 5, none⟩ = some (.int .i64 c.units) ∧ w'.cell? ⟨tb, 6, none⟩ = some (.int .i64 c.mul) ∧ w'.cell? ⟨tb, 7, none⟩ = some (.bool c.bold) ∧ w'.cell? ⟨tb, 8, none⟩ = some (.int .i64 c.kind) ∧ w'.cell? ⟨tb, 9, none⟩ = some (.int .i64 c.bits) ∧ w'.cell? ⟨tb, 10, none⟩ = some (.int .i64 c.hist) ∧ w'.cell? ⟨tb, 11, none⟩ = some (.int .i64 c.tg) ∧ w'.cell? ⟨tb, 12, none⟩ = some (.int .i64 c.ret) ∧ w'.cell? ⟨tb, 13, none⟩ = some (.int .i64 c.sets) ∧ w'.cell? ⟨tb, 14, none⟩ = some (.int .i64 c.ways) ∧ w'.cell? ⟨tb, 15, none⟩ = some (.int .i64 c.bus)) (go_keep) (first
    | (go_at_call 40; refine HDE.out.mono ?_; rintro e z ⟨cb, rfl, hcb, hcl, hy⟩; have hk := HK5.out.below ((Below.refl _ _).drew.trans hy); obtain ⟨f0, f1, f2, f3, f4, f5, f6, f7, f8, f9, f10, f11, f12, f13, f14, f15, f16⟩ := cells17 hk; have fh := hk.here; have HCB := Hid.in hcb; have HCL := Hid.in hcl; have HZ := Hid.in hy; clear hk hcb hcl hy))
  go_wp2_with fail
  have q := made_of (c := c) (hp := hp) (b := b) (tp := y2.heap.size + 1) HB1.out HGG.out HLO.out HNS.out HB2.out HB3.out HWC.out HB4.out HQC.out HB5.out HCB.out HCL.out ((Below.refl _ _).drew.trans HZ.out) ((Below.refl _ _).alloc (Nat.le_refl _) _) (cells_new (t := 146) z (core_arr hp G.p (y2.heap.size + 1) (y3.heap.size + 1) y4.heap.size b cb c))
  exact bodyPost_ret (v := .tuple #[.pointer (some ⟨z.heap.size, 0, none⟩), .nilIface]) (by simp [results, Tryz.results22, go_sem]) rfl q
end Go.Proofs.YtemamhkhjijdlaaGreatDoor
