import Derived.Test.YtemamhkhjijdlaaGreatDoorY23
/-
  CORE's LAW: Config.
-/
namespace Go.Proofs.YtemamhkhjijdlaaGreatDoor
open Go Go.RowKit
def suF (s : Nat → Int) (bd : Bool) (i : Nat) : Value := if i < 14 then .int .i64 (s i) else .bool bd
theorem su_new (s : Nat → Int) (bd : Bool) : ∀ i, i < 15 → (#[.int .i64 (s 0), .int .i64 (s 1), .int .i64 (s 2), .int .i64 (s 3), .int .i64 (s 4), .int .i64 (s 5), .int .i64 (s 6), .int .i64 (s 7), .int .i64 (s 8), .int .i64 (s 9), .int .i64 (s 10), .int .i64 (s 11), .int .i64 (s 12), .int .i64 (s 13), .bool bd] : Array Value)[i]? = some (suF s bd i) := fun i hi => by
  match i, hi with
  | 0, _ => rfl
  | 1, _ => rfl
  | 2, _ => rfl
  | 3, _ => rfl
  | 4, _ => rfl
  | 5, _ => rfl
  | 6, _ => rfl
  | 7, _ => rfl
  | 8, _ => rfl
  | 9, _ => rfl
  | 10, _ => rfl
  | 11, _ => rfl
  | 12, _ => rfl
  | 13, _ => rfl
  | 14, _ => rfl
set_option maxRecDepth 100000 in
set_option maxHeartbeats 4000000 in
theorem fconfig (s : Nat → Int) (bd : Bool) (hs : ∀ i, I64 (s i)) (w : World) : Calls Tryz.prog 5 #[.agg #[.int .i64 (s 0), .int .i64 (s 1), .int .i64 (s 2), .int .i64 (s 3), .int .i64 (s 4), .int .i64 (s 5), .int .i64 (s 6), .int .i64 (s 7), .int .i64 (s 8), .int .i64 (s 9), .int .i64 (s 10), .int .i64 (s 11), .int .i64 (s 12), .int .i64 (s 13), .bool bd]] w fun e y => ∃ c : Cf, e = .returned (.agg c.arr) ∧ okB c ∧ okC c ∧ Below w.heap.size w y := by
  have HS := Hid.in hs
  clear hs
  obtain ⟨p7, h7⟩ : ∃ k, pkI (s 7) 10 = k := ⟨_, rfl⟩
  obtain ⟨b7, d7⟩ : 0 ≤ p7 ∧ p7 < 10 := by rw [← h7]; exact pkI_in _ _ (by decide)
  have w8 : IntKind.i64.wrap (1 + p7 + 1) = 1 + p7 + 1 := by simp only [IntKind.wrap_i64]; omega
  obtain ⟨p8, h8⟩ : ∃ k, pkI (s 8) (IntKind.i64.wrap (1 + p7 + 1)) = k := ⟨_, rfl⟩
  obtain ⟨b8, d8⟩ : 0 ≤ p8 ∧ p8 < 1 + p7 + 1 := by rw [← h8, w8]; exact pkI_in _ _ (by omega)
  obtain ⟨p0, h0⟩ : ∃ k, pkI (s 0) 4 = k := ⟨_, rfl⟩
  obtain ⟨b0, d0⟩ : 0 ≤ p0 ∧ p0 < 4 := by rw [← h0]; exact pkI_in _ _ (by decide)
  have H0 := Hid.in h0
  clear h0
  obtain ⟨p1, h1⟩ : ∃ k, pkI (s 1) 63 = k := ⟨_, rfl⟩
  obtain ⟨b1, d1⟩ : 0 ≤ p1 ∧ p1 < 63 := by rw [← h1]; exact pkI_in _ _ (by decide)
  have H1 := Hid.in h1
  clear h1
  obtain ⟨p2, h2⟩ : ∃ k, pkI (s 2) 32 = k := ⟨_, rfl⟩
  obtain ⟨b2, d2⟩ : 0 ≤ p2 ∧ p2 < 32 := by rw [← h2]; exact pkI_in _ _ (by decide)
  have H2 := Hid.in h2
  clear h2
  obtain ⟨p3, h3⟩ : ∃ k, pkI (s 3) 95 = k := ⟨_, rfl⟩
  obtain ⟨b3, d3⟩ : 0 ≤ p3 ∧ p3 < 95 := by rw [← h3]; exact pkI_in _ _ (by decide)
  have H3 := Hid.in h3
  clear h3
  obtain ⟨p4, h4⟩ : ∃ k, pkI (s 4) 4 = k := ⟨_, rfl⟩
  obtain ⟨b4, d4⟩ : 0 ≤ p4 ∧ p4 < 4 := by rw [← h4]; exact pkI_in _ _ (by decide)
  have H4 := Hid.in h4
  clear h4
  obtain ⟨p5, h5⟩ : ∃ k, pkI (s 5) 10 = k := ⟨_, rfl⟩
  obtain ⟨b5, d5⟩ : 0 ≤ p5 ∧ p5 < 10 := by rw [← h5]; exact pkI_in _ _ (by decide)
  have H5 := Hid.in h5
  clear h5
  obtain ⟨p6, h6⟩ : ∃ k, pkI (s 6) 4 = k := ⟨_, rfl⟩
  obtain ⟨b6, d6⟩ : 0 ≤ p6 ∧ p6 < 4 := by rw [← h6]; exact pkI_in _ _ (by decide)
  have H6 := Hid.in h6
  clear h6
  obtain ⟨p9, h9⟩ : ∃ k, pkI (s 9) 9 = k := ⟨_, rfl⟩
  obtain ⟨b9, d9⟩ : 0 ≤ p9 ∧ p9 < 9 := by rw [← h9]; exact pkI_in _ _ (by decide)
  have H9 := Hid.in h9
  clear h9
  obtain ⟨p10, h10⟩ : ∃ k, pkI (s 10) 16 = k := ⟨_, rfl⟩
  obtain ⟨b10, d10⟩ : 0 ≤ p10 ∧ p10 < 16 := by rw [← h10]; exact pkI_in _ _ (by decide)
  have H10 := Hid.in h10
  clear h10
  obtain ⟨p11, h11⟩ : ∃ k, pkI (s 11) 5 = k := ⟨_, rfl⟩
  obtain ⟨b11, d11⟩ : 0 ≤ p11 ∧ p11 < 5 := by rw [← h11]; exact pkI_in _ _ (by decide)
  have H11 := Hid.in h11
  clear h11
  obtain ⟨p12, h12⟩ : ∃ k, pkI (s 12) 4 = k := ⟨_, rfl⟩
  obtain ⟨b12, d12⟩ : 0 ≤ p12 ∧ p12 < 4 := by rw [← h12]; exact pkI_in _ _ (by decide)
  have H12 := Hid.in h12
  clear h12
  obtain ⟨p13, h13⟩ : ∃ k, pkI (s 13) 11 = k := ⟨_, rfl⟩
  obtain ⟨b13, d13⟩ : 0 ≤ p13 ∧ p13 < 11 := by rw [← h13]; exact pkI_in _ _ (by decide)
  have H13 := Hid.in h13
  clear h13
  have H7 := Hid.in h7
  have H8 := Hid.in h8
  have HN : Hid (1 ≤ IntKind.i64.wrap (1 + p7 + 1)) := Hid.in (by rw [w8]; omega)
  clear h7 h8 w8
  obtain ⟨st, hst⟩ : ∃ k : Int, 2 ^ p11.toNat = k := ⟨_, rfl⟩
  have hN : isN st := by
    have : p11 = 0 ∨ p11 = 1 ∨ p11 = 2 ∨ p11 = 3 ∨ p11 = 4 := by omega
    unfold isN
    rcases this with rfl | rfl | rfl | rfl | rfl <;> (simp at hst; omega)
  go_enter Tryz.func5, Tryz.ntmps5
  go_upto_region 1 with fail
  obtain ⟨X, hX⟩ : ∃ X, (w.alloc (.cells #[.int .i64 (s 0), .int .i64 (s 1), .int .i64 (s 2), .int .i64 (s 3), .int .i64 (s 4), .int .i64 (s 5), .int .i64 (s 6), .int .i64 (s 7), .int .i64 (s 8), .int .i64 (s 9), .int .i64 (s 10), .int .i64 (s 11), .int .i64 (s 12), .int .i64 (s 13), .bool bd] 23)).alloc (.cells #[.int .i64 0, .int .i64 0, .int .i64 0, .int .i64 0, .int .i64 0, .int .i64 0, .bool false, .int .i64 0, .int .i64 0, .int .i64 0, .int .i64 0, .int .i64 0, .int .i64 0, .int .i64 0, .int .i64 0] 29) = X := ⟨_, rfl⟩
  have ks : CellsAt 15 X w.heap.size (suF s bd) := by rw [← hX]; exact (cells_new w (su_new s bd)).alloc _
  have kr : CellsAt 15 X (w.heap.size + 1) zcf.at := by rw [← hX, ← World.size_alloc]; exact cells_new _ (cf_new zcf)
  have bX : Below w.heap.size w X := by rw [← hX]; exact ((Below.refl _ _).alloc (Nat.le_refl _) _).alloc (by simp) _
  rw [hX]
  obtain ⟨cb, hcb⟩ : ∃ cb, w.heap.size = cb := ⟨_, rfl⟩
  obtain ⟨rb, hrb⟩ : ∃ rb, w.heap.size + 1 = rb := ⟨_, rfl⟩
  have hne : rb ≠ cb := by omega
  have hge : w.heap.size ≤ rb := by omega
  rw [hrb] at kr ⊢
  rw [hcb] at ks ⊢
  have HB := Hid.in bX
  have HG := Hid.in hge
  clear bX hge hX hrb hcb
  have a0 : X.cell? ⟨cb, 0, none⟩ = some (.int .i64 (s 0)) := ks.cell 0 (by decide)
  have a1 : X.cell? ⟨cb, 1, none⟩ = some (.int .i64 (s 1)) := ks.cell 1 (by decide)
  have a2 : X.cell? ⟨cb, 2, none⟩ = some (.int .i64 (s 2)) := ks.cell 2 (by decide)
  have a3 : X.cell? ⟨cb, 3, none⟩ = some (.int .i64 (s 3)) := ks.cell 3 (by decide)
  have a4 : X.cell? ⟨cb, 4, none⟩ = some (.int .i64 (s 4)) := ks.cell 4 (by decide)
  have a5 : X.cell? ⟨cb, 5, none⟩ = some (.int .i64 (s 5)) := ks.cell 5 (by decide)
  have a6 : X.cell? ⟨cb, 6, none⟩ = some (.int .i64 (s 6)) := ks.cell 6 (by decide)
  have a7 : X.cell? ⟨cb, 7, none⟩ = some (.int .i64 (s 7)) := ks.cell 7 (by decide)
  have a8 : X.cell? ⟨cb, 8, none⟩ = some (.int .i64 (s 8)) := ks.cell 8 (by decide)
  have a9 : X.cell? ⟨cb, 9, none⟩ = some (.int .i64 (s 9)) := ks.cell 9 (by decide)
  have a10 : X.cell? ⟨cb, 10, none⟩ = some (.int .i64 (s 10)) := ks.cell 10 (by decide)
  have a11 : X.cell? ⟨cb, 11, none⟩ = some (.int .i64 (s 11)) := ks.cell 11 (by decide)
  have a12 : X.cell? ⟨cb, 12, none⟩ = some (.int .i64 (s 12)) := ks.cell 12 (by decide)
  have a13 : X.cell? ⟨cb, 13, none⟩ = some (.int .i64 (s 13)) := ks.cell 13 (by decide)
  have a14 : X.cell? ⟨cb, 14, none⟩ = some (.bool bd) := ks.cell 14 (by decide)
  have ah := ks.here
  obtain ⟨r0, r1, r2, r3, r4, r5, r6, r7, r8, r9, r10, r11, r12, r13, r14⟩ := cells15 kr
  have rh := kr.here
  have rf := kr.free
  have HKS := Hid.in ks
  have HKR := Hid.in kr
  clear ks kr
  go_upto_region 2 with (go_at_call 8; go_must (refine (pick_g _ _ _ (HS.out _) (by decide)).mono ?_; rintro e z ⟨rfl, hz⟩; have hw2 := hz.symm; clear hz; subst hw2; rw [H7.out]))
  go_region_held3 (fun w' => w'.cell? ⟨cb, 0, none⟩ = some (.int .i64 (s 0)) ∧ w'.cell? ⟨cb, 1, none⟩ = some (.int .i64 (s 1)) ∧ w'.cell? ⟨cb, 2, none⟩ = some (.int .i64 (s 2)) ∧ w'.cell? ⟨cb, 3, none⟩ = some (.int .i64 (s 3)) ∧ w'.cell? ⟨cb, 4, none⟩ = some (.int .i64 (s 4)) ∧ w'.cell? ⟨cb, 5, none⟩ = some (.int .i64 (s 5)) ∧ w'.cell? ⟨cb, 6, none⟩ = some (.int .i64 (s 6)) ∧ w'.cell? ⟨cb, 7, none⟩ = some (.int .i64 (s 7)) ∧ w'.cell? ⟨cb, 8, none⟩ = some (.int .i64 (s 8)) ∧ w'.cell? ⟨cb, 9, none⟩ = some (.int .i64 (s 9)) ∧ w'.cell? ⟨cb, 10, none⟩ = some (.int .i64 (s 10)) ∧ w'.cell? ⟨cb, 11, none⟩ = some (.int .i64 (s 11)) ∧ w'.cell? ⟨cb, 12, none⟩ = some (.int .i64 (s 12)) ∧ w'.cell? ⟨cb, 13, none⟩ = some (.int .i64 (s 13)) ∧ w'.cell? ⟨cb, 14, none⟩ = some (.bool bd)) (go_keep) (first
    | (go_at_call 8; refine (pick_g _ _ _ (HS.out _) (by first | decide | exact HN.out)).mono ?_; rintro e z ⟨rfl, hz⟩; have hw2 := hz.symm; clear hz; subst hw2; first | rw [H0.out] | rw [H1.out] | rw [H2.out] | rw [H3.out] | rw [H4.out] | rw [H5.out] | rw [H6.out] | rw [H8.out] | rw [H9.out] | rw [H10.out] | rw [H11.out] | rw [H12.out] | rw [H13.out]))
  refine abs_w (fun v => CellsAt 15 v rb (⟨IntKind.i64.wrap (1 + p0), IntKind.i64.wrap (2 + p1), IntKind.i64.wrap (1 + p2), IntKind.i64.wrap (34 + p3), IntKind.i64.wrap (1 + p4), IntKind.i64.wrap (1 + p5), bd, p6, 1 + p7, p8, p9, IntKind.i64.wrap (1 + p10), IntKind.i64.wrap st, IntKind.i64.wrap (1 + p12), p13⟩ : Cf).at ∧ Below w.heap.size w v) ⟨(cf_set HKR.out ⟨IntKind.i64.wrap (1 + p0), IntKind.i64.wrap (2 + p1), IntKind.i64.wrap (1 + p2), IntKind.i64.wrap (34 + p3), IntKind.i64.wrap (1 + p4), IntKind.i64.wrap (1 + p5), bd, p6, 1 + p7, p8, p9, IntKind.i64.wrap (1 + p10), IntKind.i64.wrap st, IntKind.i64.wrap (1 + p12), p13⟩).drew, (cf_below HB.out HG.out ⟨IntKind.i64.wrap (1 + p0), IntKind.i64.wrap (2 + p1), IntKind.i64.wrap (1 + p2), IntKind.i64.wrap (34 + p3), IntKind.i64.wrap (1 + p4), IntKind.i64.wrap (1 + p5), bd, p6, 1 + p7, p8, p9, IntKind.i64.wrap (1 + p10), IntKind.i64.wrap st, IntKind.i64.wrap (1 + p12), p13⟩).drew⟩ ?_
  rintro V ⟨kv, bv⟩
  obtain ⟨c0, c1, c2, c3, c4, c5, c6, c7, c8, c9, c10, c11, c12, c13, c14⟩ := cells15 kv
  have HV := Hid.in bv
  clear kv bv a0 a1 a2 a3 a4 a5 a6 a7 a8 a9 a10 a11 a12 a13 a14 r0 r1 r2 r3 r4 r5 r6 r7 r8 r9 r10 r11 r12 r13 r14
  go_wp2_with fail
  refine bodyPost_ret (v := .agg (Cf.arr ⟨IntKind.i64.wrap (1 + p0), IntKind.i64.wrap (2 + p1), IntKind.i64.wrap (1 + p2), IntKind.i64.wrap (34 + p3), IntKind.i64.wrap (1 + p4), IntKind.i64.wrap (1 + p5), bd, p6, 1 + p7, p8, p9, IntKind.i64.wrap (1 + p10), IntKind.i64.wrap st, IntKind.i64.wrap (1 + p12), p13⟩)) (by simp [results, Tryz.results5, go_sem, Cf.arr, *]) rfl ⟨⟨IntKind.i64.wrap (1 + p0), IntKind.i64.wrap (2 + p1), IntKind.i64.wrap (1 + p2), IntKind.i64.wrap (34 + p3), IntKind.i64.wrap (1 + p4), IntKind.i64.wrap (1 + p5), bd, p6, 1 + p7, p8, p9, IntKind.i64.wrap (1 + p10), IntKind.i64.wrap st, IntKind.i64.wrap (1 + p12), p13⟩, rfl, ?_, ?_, HV.out⟩
  · unfold okB
    simp only [IntKind.wrap_i64]
    unfold isN at hN ⊢
    omega
  · unfold okC Cf.inB gOk
    simp only [IntKind.wrap_i64, Bool.and_eq_true, decide_eq_true_eq]
    omega
end Go.Proofs.YtemamhkhjijdlaaGreatDoor
