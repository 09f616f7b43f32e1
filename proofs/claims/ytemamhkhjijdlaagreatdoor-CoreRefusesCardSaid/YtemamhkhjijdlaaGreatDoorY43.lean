import Derived.Test.YtemamhkhjijdlaaGreatDoorY38
import Derived.Test.YtemamhkhjijdlaaGreatDoorY40
import Derived.Deep.CutBlock
import Derived.Test.YtemamhkhjijdlaaGreatDoorY42
/-
  CORE: Run.
-/
namespace Go.Proofs.YtemamhkhjijdlaaGreatDoor
open Go Go.RowKit
/-- what a report and an error are -/
def RunOk (c : Cf) (n : Int) (hl : Bool) (cy : Int) (e2 : Nat) (s : ByteArray) (k1 d2 : Nat) (er : Value) : Prop := (¬ (0 ≤ n ∧ n ≤ 1000000) ∧ er = errV 3 ∧ hl = false ∧ cy = 0 ∧ e2 = 0 ∧ s = ByteArray.empty ∧ k1 = 0 ∧ d2 = 0) ∨ ((0 ≤ n ∧ n ≤ 1000000) ∧ ¬ (okB c ∧ okC c) ∧ er = errV 2 ∧ hl = false ∧ cy = 0 ∧ e2 = 0 ∧ s = ByteArray.empty ∧ k1 = 0 ∧ d2 = 0) ∨ ((0 ≤ n ∧ n ≤ 1000000) ∧ (okB c ∧ okC c) ∧ er = .nilIface ∧ k1 = 1 ∧ (hl = true ∨ n < 2))
def RunR (c : Cf) (n : Int) (w : World) (e : Ending) (y : World) : Prop := Below w.heap.size w y ∧ ∃ hl cy e1 e2 e3 s q k1 k2 d1 d2 d3 er, e = .returned (.tuple #[.agg #[.bool hl, .int .i64 cy, .slice e1 e2 e3, .string s, .slice q k1 k2, .slice d1 d2 d3], er]) ∧ RunOk c n hl cy e2 s k1 d2 er
section
variable {x : World} {S T : FS} {mp mr cap : Nat}
theorem run_cells (M : Mach T mp mr cap) (h : St x T) {j : Nat} (hc : T.R.cyc = j) {b : Nat} (hb : T.b = b) : x.cell? ⟨mp, 0, none⟩ = some (.pointer (some ⟨b, 0, none⟩)) ∧ mp < x.heap.size ∧ x.cell? ⟨b, 6, none⟩ = some (.int .i64 (j : Int)) ∧ b < x.heap.size := by
  subst hc hb
  obtain ⟨evl, whl, kb⟩ := h.brd
  exact ⟨(h.extc M.m).cell 0 (by decide), (h.extc M.m).here, kb.cell 6 (by decide), kb.here⟩
theorem stg_ended {j : Nat} (i : Ini S) (M : Mach S mp mr cap) (hj : j ≤ 2) (s : Stg S j T) (h : St x T) {r : Bool} (hr : decide (j = 2) = r) : Calls Tryz.prog 13 #[.pointer (some ⟨mp, 0, none⟩)] x fun e y => e = .returned (.bool r) ∧ St y T := by
  obtain ⟨a1, a2, a3, a4, a5, a6, a7, a8⟩ := stg_facts i M hj s
  have := fmended h a1 a3
  rw [a7, hr] at this
  exact this
theorem stg_report {j : Nat} {c : Cf} (i : Ini S) (M : Mach S mp mr cap) (hb : S.bs = newBd c) (hB : okB c) (hj : j ≤ 2) (s : Stg S j T) (h : St x T) : Calls Tryz.prog 15 #[.pointer (some ⟨mp, 0, none⟩)] x fun e y => (∃ cy e1 e2 e3 q c d1 d2 d3, e = .returned (.agg #[.bool (decide (j = 2)), .int .i64 cy, .slice e1 e2 e3, .string ByteArray.empty, .slice q 1 c, .slice d1 d2 d3])) ∧ Below S.w0.heap.size S.w0 y := by
  obtain ⟨a1, a2, a3, a4, a5, a6, a7, a8⟩ := stg_facts i M hj s
  have := freport h a1 a3 a4 (by rw [a5, hb]; exact newBd_cg c hB)
  rw [a7, a6] at this
  exact this
end
theorem z6_cells {x : World} {b : Nat} (h : CellsAt 6 x b z6) : x.cell? ⟨b, 0, none⟩ = some (.bool false) ∧ x.cell? ⟨b, 1, none⟩ = some (.int .i64 0) ∧ x.cell? ⟨b, 2, none⟩ = some (.slice none 0 0) ∧ x.cell? ⟨b, 3, none⟩ = some (.string ⟨#[]⟩) ∧ x.cell? ⟨b, 4, none⟩ = some (.slice none 0 0) ∧ x.cell? ⟨b, 5, none⟩ = some (.slice none 0 0) := ⟨h.cell 0 (by decide), h.cell 1 (by decide), h.cell 2 (by decide), h.cell 3 (by decide), h.cell 4 (by decide), h.cell 5 (by decide)⟩
theorem six_below {w x : World} {n b : Nat} (h : Below n w x) (hb : n ≤ b) (v0 v1 v2 v3 v4 v5 : Value) : Below n w ((((((x.setCell ⟨b, 0, none⟩ v0).setCell ⟨b, 1, none⟩ v1).setCell ⟨b, 2, none⟩ v2).setCell ⟨b, 3, none⟩ v3).setCell ⟨b, 4, none⟩ v4).setCell ⟨b, 5, none⟩ v5) := (((((h.setCell (show n ≤ b from hb) _).setCell (show n ≤ b from hb) _).setCell (show n ≤ b from hb) _).setCell (show n ≤ b from hb) _).setCell (show n ≤ b from hb) _).setCell (show n ≤ b from hb) _
set_option maxRecDepth 100000 in
set_option maxHeartbeats 4000000 in
theorem frun (x : World) (hL : Laid x) (pb cp kb kc : Nat) (c : Cf) (hkb : kb < x.heap.size) (hkc : x.cell? ⟨kb, 0, none⟩ = some (.int .u32 1048691)) (h : CellsAt 17 x pb (progF kb kc c)) (h64 : -9223372036854775808 ≤ c.sets ∧ c.sets ≤ 9223372036854775807) (n : Int) : Calls Tryz.prog 9 #[.slice (some ⟨pb, 0, none⟩) 1 cp, .slice none 0 0, .int .i64 n] x fun e y => RunR c n x e y := by
  have H17 := Hid.in h
  have HL := Hid.in hL
  have HKB := Hid.in hkb
  have HKC := Hid.in hkc
  have H64 := Hid.in h64
  clear h hL hkb hkc h64
  go_enter Tryz.func9, Tryz.ntmps9
  go_upto_region 1 with fail
  obtain ⟨X, hX⟩ : ∃ X, x.alloc (.cells #[.bool false, .int .i64 0, .slice none 0 0, .string ⟨#[]⟩, .slice none 0 0, .slice none 0 0] 38) = X := ⟨_, rfl⟩
  obtain ⟨rb, hrb⟩ : ∃ rb, x.heap.size = rb := ⟨_, rfl⟩
  have bX : Below x.heap.size x X := by rw [← hX]; exact (Below.refl _ _).alloc (Nat.le_refl _) _
  have kX : CellsAt 6 X rb z6 := by rw [← hX, ← hrb]; exact cells_new x z6_at
  have hge : x.heap.size ≤ rb := by omega
  rw [hX, hrb]
  have HB := Hid.in bX
  have HK := Hid.in kX
  have HGE := Hid.in hge
  obtain ⟨r0, r1, r2, r3, r4, r5⟩ := z6_cells kX
  have rh := kX.here
  have rf := kX.free
  have HM0 := Hid.in (fmachine X (HL.out.below bX) pb cp kb kc c (Nat.lt_of_lt_of_le HKB.out bX.size) ((bX.cell (p := ⟨kb, 0, none⟩) HKB.out).trans HKC.out) (H17.out.below bX) H64.out)
  clear hX hrb bX kX hge
  by_cases hn : 0 ≤ n ∧ n ≤ 1000000
  rotate_left
  · have HN := Hid.in hn
    have HW := Hid.in (fwithin2 n 0 1000000 X (r := false) (decide_eq_false hn))
    clear hn HM0
    go_wp2_with (go_at_call 11; go_must (refine HW.out.mono ?_; rintro e z ⟨rfl, hz⟩; have hw2 := hz.symm; clear hz; subst hw2))
    exact bodyPost_ret (v := .tuple #[.agg #[.bool false, .int .i64 0, .slice none 0 0, .string ⟨#[]⟩, .slice none 0 0, .slice none 0 0], errV 3]) (by simp [results, Tryz.results9, go_sem, errV, *]) rfl ⟨six_below HB.out HGE.out _ _ _ _ _ _, _, _, _, _, _, _, _, _, _, _, _, _, _, rfl, Or.inl ⟨HN.out, rfl, rfl, rfl, rfl, rfl, rfl, rfl⟩⟩
  have HN := Hid.in hn
  have HW := Hid.in (fwithin2 n 0 1000000 X (r := true) (decide_eq_true hn))
  clear hn
  by_cases ho : okB c ∧ okC c
  rotate_left
  · have HO := Hid.in ho
    have HF : Hid (Calls Tryz.prog 12 #[.slice (some ⟨pb, 0, none⟩) 1 cp, .slice none 0 0] X fun e y => e = .returned (.tuple #[.pointer none, errV 2]) ∧ Below X.heap.size X y) := Hid.in (HM0.out.mono (by
      rintro e y (⟨-, h1, h2⟩ | ⟨h3, -⟩)
      · exact ⟨h1, h2⟩
      · exact absurd h3 ho))
    clear HM0 ho
    go_wp2_with (first
      | (go_at_call 11; go_must (refine HW.out.mono ?_; rintro e z ⟨rfl, hz⟩; have hw2 := hz.symm; clear hz; subst hw2))
      | (go_at_call 12; go_must (refine HF.out.mono ?_; rintro e y ⟨rfl, hy⟩; have HY := Hid.in hy; have kY := HK.out.below hy; obtain ⟨y0, y1, y2, y3, y4, y5⟩ := z6_cells kY; have yh := kY.here; have yf := kY.free; clear kY hy; unfold errV)))
    exact bodyPost_ret (v := .tuple #[.agg #[.bool false, .int .i64 0, .slice none 0 0, .string ⟨#[]⟩, .slice none 0 0, .slice none 0 0], errV 2]) (by simp [results, Tryz.results9, go_sem, errV, *]) rfl ⟨six_below (HB.out.trans (HY.out.mono HB.out.size)) HGE.out _ _ _ _ _ _, _, _, _, _, _, _, _, _, _, _, _, _, _, rfl, Or.inr (Or.inl ⟨HN.out, HO.out, rfl, rfl, rfl, rfl, rfl, rfl, rfl⟩)⟩
  have HF : Hid (Calls Tryz.prog 12 #[.slice (some ⟨pb, 0, none⟩) 1 cp, .slice none 0 0] X fun e y => NewM X y c e) := Hid.in (HM0.out.mono (by
    rintro e y (⟨h1, -, -⟩ | ⟨-, h2⟩)
    · exact absurd ho h1
    · exact h2))
  have HO := Hid.in ho
  clear HM0 ho
  go_upto_block 0 with (first
      | (go_at_call 11; go_must (refine HW.out.mono ?_; rintro e z ⟨rfl, hz⟩; have hw2 := hz.symm; clear hz; subst hw2))
      | (go_at_call 12; go_must (refine HF.out.mono ?_; rintro e y ⟨S, mp, mr, cap, rfl, hs, hi, hm, hbs, hw⟩; have HS := Hid.in hs; have HI := Hid.in hi; have HM := Hid.in hm; have HBS := Hid.in hbs; have HW0 := Hid.in hw; clear hs hi hm hbs hw)))
  clear r0 r1 r2 r3 r4 r5 rh rf HW HF
  go_cut [] from 10 (fun w' => ∃ j T, j ≤ 2 ∧ Stg S j T ∧ St w' T ∧ (j = 2 ∨ n < 2))
  case first =>
    obtain ⟨b, hb⟩ : ∃ b, S.b = b := ⟨_, rfl⟩
    have HBB := Hid.in hb
    have s0 : Stg S 0 S := rfl
    have HS0 := Hid.in s0
    obtain ⟨f1, f2, f3, f4⟩ := run_cells HM.out HS.out (j := 0) (by rw [HI.out.rec0]) hb
    clear hb s0
    go_wp2_with fail
    refine wp_loop_rounds 3 ?_
    rw [rounds_succ]
    by_cases n0 : n = 0
    · subst n0
      go_wp2_with fail
      go_meet
      exact ⟨0, S, by decide, HS0.out, HS.out, Or.inr (by decide)⟩
    have p0 : 0 < n := by have := HN.out; omega
    go_wp2_with (first
      | (go_at_call 13; go_must (refine (stg_ended HI.out HM.out (by decide) HS0.out HS.out (r := false) (by decide)).mono ?_; rintro e z ⟨rfl, hz⟩; have HZ := Hid.in hz; clear hz))
      | (go_at_call 14; go_must (refine (stg_step HI.out HM.out (by decide) HS0.out HZ.out).mono ?_; rintro e y1 ⟨rfl, T1, hs1, hy1⟩; have HS1 := Hid.in hs1; have HY1 := Hid.in hy1; clear hs1 hy1)))
    have t1 := stg_facts HI.out HM.out (by decide) HS1.out
    obtain ⟨g1, g2, g3, g4⟩ := run_cells t1.1 HY1.out (j := 1) t1.2.1 (t1.2.2.2.2.2.2.2.trans HBB.out)
    clear t1 f1 f2 f3 f4
    rw [rounds_succ]
    by_cases n1 : n = 1
    · subst n1
      go_wp2_with fail
      go_meet
      exact ⟨1, T1, by decide, HS1.out, HY1.out, Or.inr (by decide)⟩
    have p1 : 1 < n := by omega
    go_wp2_with (first
      | (go_at_call 13; go_must (refine (stg_ended HI.out HM.out (by decide) HS1.out HY1.out (r := false) (by decide)).mono ?_; rintro e z1 ⟨rfl, hz⟩; have HZ1 := Hid.in hz; clear hz))
      | (go_at_call 14; go_must (refine (stg_step HI.out HM.out (by decide) HS1.out HZ1.out).mono ?_; rintro e y2 ⟨rfl, T2, hs2, hy2⟩; have HS2 := Hid.in hs2; have HY2 := Hid.in hy2; clear hs2 hy2)))
    have t2 := stg_facts HI.out HM.out (by decide) HS2.out
    obtain ⟨g1', g2', g3', g4'⟩ := run_cells t2.1 HY2.out (j := 2) t2.2.1 (t2.2.2.2.2.2.2.2.trans HBB.out)
    clear t2 g1 g2 g3 g4
    rw [rounds_succ]
    by_cases n2 : n = 2
    · subst n2
      go_wp2_with fail
      go_meet
      exact ⟨2, T2, by decide, HS2.out, HY2.out, Or.inl rfl⟩
    have p2 : 2 < n := by omega
    go_wp2_with (go_at_call 13; go_must (refine (stg_ended HI.out HM.out (by decide) HS2.out HY2.out (r := true) (by decide)).mono ?_; rintro e z2 ⟨rfl, hz⟩; have HZ2 := Hid.in hz; clear hz))
    go_meet
    exact ⟨2, T2, by decide, HS2.out, HZ2.out, Or.inl rfl⟩
  case rest =>
    obtain ⟨j, T, hj, hs, ht, hnj⟩ := hcut
    have HR := Hid.in (stg_report HI.out HM.out HBS.out HO.out.1 hj hs ht)
    have HNJ := Hid.in hnj
    obtain ⟨hl, hhl⟩ : ∃ hl, decide (j = 2) = hl := ⟨_, rfl⟩
    rw [hhl] at HR
    have HHL := Hid.in hhl
    clear hhl hj hs ht hnj
    go_wp2_with (go_at_call 15; go_must (refine HR.out.mono ?_; rintro e y3 ⟨⟨cy, e1, e2, e3, q, k2, d1, d2, d3, rfl⟩, hb⟩; rw [HW0.out] at hb; have kY := HK.out.below hb; obtain ⟨y0, y1, y2, y3', y4, y5⟩ := z6_cells kY; have yh := kY.here; have yf := kY.free; have HB3 := Hid.in hb; clear kY hb))
    exact bodyPost_ret (v := .tuple #[.agg #[.bool hl, .int .i64 cy, .slice e1 e2 e3, .string ByteArray.empty, .slice q 1 k2, .slice d1 d2 d3], .nilIface]) (by simp [results, Tryz.results9, go_sem, *]) rfl ⟨six_below (HB.out.trans (HB3.out.mono HB.out.size)) HGE.out _ _ _ _ _ _, _, _, _, _, _, _, _, _, _, _, _, _, _, rfl, Or.inr (Or.inr ⟨HN.out, HO.out, rfl, rfl, by rw [← HHL.out]; exact HNJ.out.imp (fun q => decide_eq_true q) id⟩)⟩
end Go.Proofs.YtemamhkhjijdlaaGreatDoor
/-
  CORE: core.Run; which configurations the law takes.
-/
namespace Go.Proofs.YtemamhkhjijdlaaGreatDoor
open Go Go.RowKit
theorem tu_ok {c : Cf} (hB : okB c) (hC : okC c) {k : Nat} (hk : k < 14) {v : Int} {two : Bool} (h1 : k ≠ 11 → two = true) (h2 : 1 ≤ v → v ≤ 16 → k = 11 → (two = true ↔ isN v)) : (decide (lowN k ≤ v) && decide (v ≤ highN c k) && two && decide ((c.turn v k).hist ≤ (c.turn v k).bits)) = true ↔ okB (c.turn v k) ∧ okC (c.turn v k) := by
  unfold okB okC Cf.inB gOk at *
  have : k = 0 ∨ k = 1 ∨ k = 2 ∨ k = 3 ∨ k = 4 ∨ k = 5 ∨ k = 6 ∨ k = 7 ∨ k = 8 ∨ k = 9 ∨ k = 10 ∨ k = 11 ∨ k = 12 ∨ k = 13 := by omega
  rcases this with rfl | rfl | rfl | rfl | rfl | rfl | rfl | rfl | rfl | rfl | rfl | rfl | rfl | rfl
  case inr.inr.inr.inr.inr.inr.inr.inr.inr.inr.inr.inl =>
    simp only [Cf.turn, lowN, highN, Bool.and_eq_true, decide_eq_true_eq] at *
    by_cases hv : 1 ≤ v ∧ v ≤ 16
    · have := h2 hv.1 hv.2 trivial
      rw [this]
      unfold isN at *
      omega
    · have hn : ¬ isN v := by unfold isN; omega
      constructor
      · intro q; exact absurd ⟨q.1.1.1, q.1.1.2⟩ hv
      · intro q; exact absurd q.1.1 hn
  all_goals
    have := h1 (by decide)
    subst this
    simp only [Cf.turn, lowN, highN, Bool.and_eq_true, decide_eq_true_eq, and_true] at *
    unfold isN at *
    omega
set_option maxRecDepth 100000 in
set_option maxHeartbeats 4000000 in
theorem fcrun (x : World) (hL : Laid x) (kb kc : Nat) (c : Cf) (hkb : kb < x.heap.size) (hkc : x.cell? ⟨kb, 0, none⟩ = some (.int .u32 1048691)) (h64 : -9223372036854775808 ≤ c.sets ∧ c.sets ≤ 9223372036854775807) (n : Int) : Calls Tryz.prog 6 #[.slice (some ⟨kb, 0, none⟩) 1 kc, .slice none 0 0, .agg c.arr, .slice none 0 0, .int .i64 n] x fun e y => RunR c n x e y := by
  unfold Cf.arr
  have HL := Hid.in hL
  have HKB := Hid.in hkb
  have HKC := Hid.in hkc
  have H64 := Hid.in h64
  clear hL hkb hkc h64
  go_enter Tryz.func6, Tryz.ntmps6
  go_upto_region 1 with fail
  obtain ⟨X, hX⟩ : ∃ X, (x.alloc (.cells #[.int .i64 c.width, .int .i64 c.window, .int .i64 c.queue, .int .i64 c.regs, .int .i64 c.units, .int .i64 c.mul, .bool c.bold, .int .i64 c.kind, .int .i64 c.bits, .int .i64 c.hist, .int .i64 c.tg, .int .i64 c.ret, .int .i64 c.sets, .int .i64 c.ways, .int .i64 c.bus] 29)).alloc (.cells #[.bool false, .int .i64 0, .slice none 0 0, .string ⟨#[]⟩, .slice none 0 0, .slice none 0 0] 38) = X := ⟨_, rfl⟩
  have kc15 : CellsAt 15 X x.heap.size c.at := by rw [← hX]; exact (cells_new x (cf_new c)).alloc _
  have kR : CellsAt 6 X (x.heap.size + 1) z6 := by rw [← hX, ← World.size_alloc]; exact cells_new _ z6_at
  have bX : Below x.heap.size x X := by rw [← hX]; exact ((Below.refl _ _).alloc (Nat.le_refl _) _).alloc (by simp) _
  obtain ⟨cb, hcb⟩ : ∃ cb, x.heap.size = cb := ⟨_, rfl⟩
  obtain ⟨rb, hrb⟩ : ∃ rb, x.heap.size + 1 = rb := ⟨_, rfl⟩
  have hge : x.heap.size ≤ rb := by omega
  rw [hX]
  rw [hrb] at kR ⊢
  rw [hcb] at kc15 ⊢
  obtain ⟨a0, a1, a2, a3, a4, a5, a6, a7, a8, a9, a10, a11, a12, a13, a14⟩ := cells15 kc15
  have ah := kc15.here
  have HB := Hid.in bX
  have HGE := Hid.in hge
  have rh := kR.here
  have bV : Below X.heap.size X (X.alloc (.cells #[.slice (some ⟨kb, 0, none⟩) 1 kc, .int .i64 c.width, .int .i64 c.window, .int .i64 c.queue, .int .i64 c.regs, .int .i64 c.units, .int .i64 c.mul, .bool c.bold, .int .i64 c.kind, .int .i64 c.bits, .int .i64 c.hist, .int .i64 c.tg, .int .i64 c.ret, .int .i64 c.sets, .int .i64 c.ways, .int .i64 c.bus, .slice none 0 0] 51)) := (Below.refl _ _).alloc (Nat.le_refl _) _
  have xV := bX.trans (bV.mono bX.size)
  have HF := Hid.in (frun _ (HL.out.below xV) X.heap.size 1 kb kc c (Nat.lt_of_lt_of_le HKB.out xV.size) ((xV.cell (p := ⟨kb, 0, none⟩) HKB.out).trans HKC.out) (cells_new X (prog_new kb kc c)) H64.out n)
  have HKV := Hid.in (kR.below bV)
  have HXV := Hid.in xV
  clear hX hcb hrb hge kR kc15 bX bV xV
  go_wp2_with (go_at_call 9; go_must (refine HF.out.mono ?_; rintro e y ⟨hb, hl, cy, e1, e2, e3, s, q, k1, k2, d1, d2, d3, er, rfl, hr⟩; have kY := HKV.out.below hb; obtain ⟨y0, y1, y2, y3, y4, y5⟩ := z6_cells kY; have yh := kY.here; have yf := kY.free; have HY := Hid.in hb; have HR := Hid.in hr; clear kY hb hr))
  exact bodyPost_ret (v := .tuple #[.agg #[.bool hl, .int .i64 cy, .slice e1 e2 e3, .string s, .slice q k1 k2, .slice d1 d2 d3], er]) (by simp [results, Tryz.results6, go_sem, *]) rfl ⟨six_below (HXV.out.trans (HY.out.mono HXV.out.size)) HGE.out _ _ _ _ _ _, _, _, _, _, _, _, _, _, _, _, _, _, _, rfl, HR.out⟩
end Go.Proofs.YtemamhkhjijdlaaGreatDoor
