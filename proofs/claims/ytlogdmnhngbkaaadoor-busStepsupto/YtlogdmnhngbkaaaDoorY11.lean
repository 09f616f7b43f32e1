import Derived.Test.YtlogdmnhngbkaaaDoorY10
/-
  THE ANSWER's CACHE: Fill.
-/
namespace Go.Proofs.YtlogdmnhngbkaaaDoor
open Go Go.RowKit
def isIn (n r : Nat) (e : Ln) : Prop := e.a / 16 % n = r
instance (n r : Nat) (e : Ln) : Decidable (isIn n r e) := inferInstanceAs (Decidable (_ = _))
def cnt (R : List Ln) (n r : Nat) : Nat → Nat
  | 0 => 0
  | k + 1 => cnt R n r k + if isIn n r (R.getD k l0) then 1 else 0
theorem cnt_le (R : List Ln) (n r : Nat) : ∀ k, cnt R n r k ≤ k
  | 0 => Nat.le_refl _
  | k + 1 => by
    have := cnt_le R n r k
    unfold cnt
    split <;> omega
/-- the first one of a set -/
def First (R : List Ln) (n r i k : Nat) : Prop := i < k ∧ isIn n r (R.getD i l0) ∧ ∀ j, j < i → ¬ isIn n r (R.getD j l0)
set_option maxRecDepth 100000 in
set_option maxHeartbeats 2000000 in
theorem rfill_bad (B p : Nat) (v : Value) (n ways : Nat) (R : List Ln) (a : Nat) (st : Int) (b : Nat → Nat) (w : World) (k : RC w B p v n ways R) (ha : a < 4294967296) (c : Int) (h : (c = 3 ∧ (a % 16 ≠ 0 ∨ st < 1 ∨ 3 < st)) ∨ (c = 7 ∧ a % 16 = 0 ∧ 1 ≤ st ∧ st ≤ 3 ∧ ∃ i, At R a i)) : Calls Tryd.prog 53 #[.pointer (some ⟨p, 0, none⟩), .int .i64 a, .agg (bvs b).toArray, .int .i64 st] w fun e w' => e = .returned (.tuple #[.agg l0.rv.toArray, .int .i64 c]) ∧ Below w.heap.size w w' := by
  have hu : undef = Value.tuple #[] := rfl
  have hp := k.c.here
  have hmod : (a : Int).tmod 16 = ((a % 16 : Nat) : Int) := by rw [Int.tmod_eq_emod_of_nonneg (by omega)]; omega
  have hmod2 : (a : Int) % 16 = ((a % 16 : Nat) : Int) := by omega
  obtain ⟨q, hq⟩ : ∃ q, a % 16 = q := ⟨_, rfl⟩
  rw [hq] at hmod hmod2 h
  obtain ⟨W, hW⟩ : ∃ W, (w.alloc (.cells (bvs b).toArray 98)).alloc (.cells #[.int .i64 0, .int .i64 0, .int .u8 0, .int .u8 0, .int .u8 0, .int .u8 0, .int .u8 0, .int .u8 0, .int .u8 0, .int .u8 0, .int .u8 0, .int .u8 0, .int .u8 0, .int .u8 0, .int .u8 0, .int .u8 0, .int .u8 0, .int .u8 0] 104) = W := ⟨_, rfl⟩
  have tW : W.there (w.heap.size + 1) 0 18 := by
    rw [← hW]
    have := there_rzero (w.alloc (.cells (bvs b).toArray 98)) 104
    rw [World.size_alloc] at this
    exact this
  have HW := Hid.in hW
  have b1 : Below w.heap.size w W := by rw [← hW]; exact ((Below.refl _ _).alloc (Nat.le_refl _) _).alloc (by simp) _
  have HT := Hid.in tW
  have HB : Hid (Below w.heap.size w (W.setCells (w.heap.size + 1) 0 l0.rv) ∧ (W.setCells (w.heap.size + 1) 0 l0.rv).rangeAt (w.heap.size + 1) 0 l0.rv) := by
    refine ⟨?_, World.rangeAt_setCells_same _ _ _ _ (by rw [Ln.rlen]; exact tW)⟩
    exact b1.trans ((turned_setCells (g := w.heap.size + 1) l0.rv 0 W).below b1.size (fun q e => by omega))
  have HKW := Hid.in (k.below b1)
  clear hq k hW tW b1
  have main : (c = 3 ∧ q ≠ 0) ∨ (c = 3 ∧ q = 0 ∧ st < 1) ∨ (c = 3 ∧ q = 0 ∧ 1 ≤ st ∧ 3 < st) ∨ (c = 7 ∧ q = 0 ∧ 1 ≤ st ∧ st ≤ 3 ∧ ∃ i, At R a i) := by
    rcases h with h | h
    · omega
    · exact Or.inr (Or.inr (Or.inr h))
  clear h
  rcases main with ⟨rfl, hq⟩ | ⟨rfl, rfl, h0⟩ | ⟨rfl, rfl, h0, h2⟩ | ⟨rfl, rfl, h1, h3, i, hA⟩
  · have hqd : ((q : Int) == 0) = false := by simp; omega
    have hqn : ((q : Int) != 0) = true := by simp; omega
    go_enter Tryd.func53, Tryd.ntmps53
    go_upto_region 1 with fail
    rw [HW.out]
    have T1 := HT.out
    go_wp2_with (first
      | (refine rst (w.heap.size + 1) 0 l0 T1 rfl rfl _ _ rfl rfl rfl ?_))
    refine bodyPost_ret (results_rline2 Tryd.results53 _ _ (w.heap.size + 1) l0 _ rfl rfl HB.out.2) rfl ?_
    exact ⟨rfl, HB.out.1⟩
  · have h0d : decide (st < 1) = true := by simp [h0]
    go_enter Tryd.func53, Tryd.ntmps53
    go_upto_region 1 with fail
    rw [HW.out]
    have T1 := HT.out
    go_wp2_with (first
      | (refine rst (w.heap.size + 1) 0 l0 T1 rfl rfl _ _ rfl rfl rfl ?_))
    refine bodyPost_ret (results_rline2 Tryd.results53 _ _ (w.heap.size + 1) l0 _ rfl rfl HB.out.2) rfl ?_
    exact ⟨rfl, HB.out.1⟩
  · have h0d : decide (st < 1) = false := by simp; omega
    have h2d : decide (3 < st) = true := by simp [h2]
    go_enter Tryd.func53, Tryd.ntmps53
    go_upto_region 1 with fail
    rw [HW.out]
    have T1 := HT.out
    go_wp2_with (first
      | (refine rst (w.heap.size + 1) 0 l0 T1 rfl rfl _ _ rfl rfl rfl ?_))
    refine bodyPost_ret (results_rline2 Tryd.results53 _ _ (w.heap.size + 1) l0 _ rfl rfl HB.out.2) rfl ?_
    exact ⟨rfl, HB.out.1⟩
  · have h0d : decide (st < 1) = false := by simp; omega
    have h2d : decide (3 < st) = false := by simp; omega
    have hi0 : decide ((0 : Int) ≤ (i : Int)) = true := by simp
    have HA := Hid.in hA
    clear hA
    go_enter Tryd.func53, Tryd.ntmps53
    go_upto_region 1 with fail
    rw [HW.out]
    have T1 := HT.out
    go_wp2_with (first
      | (go_at_call 60; refine (rfind_at B p v n ways R a i _ HKW.out ha HA.out).mono ?_; rintro e w1 ⟨rfl, hww⟩; rw [hww]; clear hww)
      | (refine rst (w.heap.size + 1) 0 l0 T1 rfl rfl _ _ rfl rfl rfl ?_))
    refine bodyPost_ret (results_rline2 Tryd.results53 _ _ (w.heap.size + 1) l0 _ rfl rfl HB.out.2) rfl ?_
    exact ⟨rfl, HB.out.1⟩
set_option maxRecDepth 100000 in
set_option maxHeartbeats 4000000 in
theorem rfill_good (B p : Nat) (v : Value) (n ways : Nat) (R : List Ln) (a s : Nat) (b : Nat → Nat) (w : World) (k : RC w B p v n ways R) (ha : a < 4294967296) (h16 : a % 16 = 0) (hs : 1 ≤ s ∧ s ≤ 3) (hN : No R a) (hlt : ∀ j, (R.getD j l0).a < 4294967296) (r : Nat) (hr : a / 16 % n = r) (gone : Ln) (kept : List Ln) (hcase : (cnt R n r R.length ≠ ways ∧ gone = l0 ∧ kept = R) ∨ (cnt R n r R.length = ways ∧ ∃ i, First R n r i R.length ∧ gone = R.getD i l0 ∧ kept = rest R i)) (hroom : kept.length < 64) : Calls Tryd.prog 53 #[.pointer (some ⟨p, 0, none⟩), .int .i64 a, .agg (bvs b).toArray, .int .i64 s] w fun e w' => e = .returned (.tuple #[.agg gone.rv.toArray, .int .i64 0]) ∧ ∃ v', RC w' B p v' n ways (kept ++ [⟨a, s, b⟩]) ∧ (∀ q, v'.ownBlock = some q → v.ownBlock = some q ∨ w.heap.size ≤ q) ∧ Turned (fun q => q = p ∨ v.ownBlock = some q) w w' := by
  have hu : undef = Value.tuple #[] := rfl
  have hp := k.c.here
  have hsm := k.small
  have hmod : (a : Int).tmod 16 = 0 := by rw [Int.tmod_eq_emod_of_nonneg (by omega)]; omega
  have hmod2 : (a : Int) % 16 = 0 := by omega
  obtain ⟨W, hW⟩ : ∃ W, (w.alloc (.cells (bvs b).toArray 98)).alloc (.cells #[.int .i64 0, .int .i64 0, .int .u8 0, .int .u8 0, .int .u8 0, .int .u8 0, .int .u8 0, .int .u8 0, .int .u8 0, .int .u8 0, .int .u8 0, .int .u8 0, .int .u8 0, .int .u8 0, .int .u8 0, .int .u8 0, .int .u8 0, .int .u8 0] 104) = W := ⟨_, rfl⟩
  have tW : W.there (w.heap.size + 1) 0 18 := by
    rw [← hW]
    have := there_rzero (w.alloc (.cells (bvs b).toArray 98)) 104
    rw [World.size_alloc] at this
    exact this
  have rW : W.rangeAt w.heap.size 0 (bvs b) := by rw [← hW]; exact World.rangeAt_alloc (range_arr w b _) _
  have sW : W.heap.size = w.heap.size + 2 := by rw [← hW]; simp
  have b1 : Below w.heap.size w W := by rw [← hW]; exact ((Below.refl _ _).alloc (Nat.le_refl _) _).alloc (by simp) _
  have kW := k.below b1
  have HW := Hid.in hW
  have HT := Hid.in tW
  have HRW := Hid.in rW
  have HSW := Hid.in sW
  have HB1 := Hid.in b1
  have HKW := Hid.in kW
  have HN := Hid.in hN
  have HC := Hid.in hcase
  have HLT := Hid.in hlt
  have HR := Hid.in hr
  have HROOM := Hid.in hroom
  obtain ⟨hpW, c0, c1, c2, -⟩ := kW.cells
  obtain ⟨q, cap, hv, hcap, hel⟩ := own_rlines kW.l
  obtain ⟨m, hm⟩ : ∃ m, R.length = m := ⟨_, rfl⟩
  have HEL := Hid.in hel
  have HM := Hid.in hm
  rw [hm] at hv
  have HV := Hid.in hv
  have h64 : m ≤ 64 := by rw [← hm]; exact hsm.1
  rw [hv] at c2
  have HVB : Hid (∀ j, v.ownBlock = some j → j < w.heap.size) := fun j hj => (own_base k.l j hj).2
  have h0d : decide ((s : Int) < 1) = false := by simp; omega
  have h2d : decide ((3 : Int) < s) = false := by simp; omega
  clear k hW tW rW sW b1 kW hN hcase hlt hel hcap hm hv hr hroom
  go_enter Tryd.func53, Tryd.ntmps53
  go_upto_region 1 with fail
  rw [HW.out]
  go_wp2_with (first
    | (go_at_call 60; refine (rfind_no B p v n ways R a _ HKW.out ha HN.out).mono ?_; rintro e w1 ⟨rfl, hww⟩; rw [hww]; clear hww))
  go_loopw [11, 12, 13] (fun nv ov kv wr => ∃ (kk : Nat) (o : Int), kv = .int .i64 kk ∧ kk ≤ m ∧ nv = .int .i64 (cnt R n r kk : Nat) ∧ ov = .int .i64 o ∧ ((o = -1 ∧ ∀ j, j < kk → ¬ isIn n r (R.getD j l0)) ∨ ∃ i : Nat, o = i ∧ First R n r i kk) ∧ Turned (fun _ => False) W wr ∧ wr.heap.size = W.heap.size) (fun _ _ kv _ => 65 - (intOf kv).toNat)
  case atStart => exact ⟨0, -1, rfl, Nat.zero_le _, rfl, rfl, Or.inl ⟨rfl, fun j hj => by omega⟩, Turned.refl _ _, rfl⟩
  case round =>
    obtain ⟨kk, o, rfl, hkk, rfl, rfl, ho, hT, hsz⟩ := hrel
    have HO := Hid.in ho
    have HTT := Hid.in hT
    have HZZ := Hid.in hsz
    have c0' := hT.to_cell hpW (fun q => q) c0
    have c1' := hT.to_cell hpW (fun q => q) c1
    have c2' := hT.to_cell hpW (fun q => q) c2
    have hpr : p < wr.heap.size := by omega
    by_cases hlt : kk < m
    · obtain ⟨g, hq, -, hg, -, -, d0, -, -⟩ := HEL.out kk (by rw [HM.out]; exact hlt)
      have d0' := hT.to_cell hg (fun q => q) d0
      subst hq
      have hgr : g < wr.heap.size := by omega
      obtain ⟨x, hx⟩ : ∃ x, (R.getD kk l0).a = x := ⟨_, rfl⟩
      rw [hx] at d0'
      have HX := Hid.in hx
      have x32 : x < 4294967296 := by rw [← hx]; exact HLT.out kk
      have e1 : (x : Int).tdiv 16 = ((x / 16 : Nat) : Int) := by rw [Int.tdiv_eq_ediv_of_nonneg (by omega)]; omega
      have e2 : ((x / 16 : Nat) : Int).tmod n = ((x / 16 % n : Nat) : Int) := by rw [Int.tmod_eq_emod_of_nonneg (by omega)]; exact (Int.natCast_emod _ _).symm
      have e3 : (a : Int).tdiv 16 = ((a / 16 : Nat) : Int) := by rw [Int.tdiv_eq_ediv_of_nonneg (by omega)]; omega
      have e4 : ((a / 16 : Nat) : Int).tmod n = (r : Int) := by rw [Int.tmod_eq_emod_of_nonneg (by omega), ← HR.out]; exact (Int.natCast_emod _ _).symm
      have e1b : (x : Int) / 16 = ((x / 16 : Nat) : Int) := by omega
      have e3b : (a : Int) / 16 = ((a / 16 : Nat) : Int) := by omega
      have e2b : ((x / 16 : Nat) : Int) % n = ((x / 16 % n : Nat) : Int) := (Int.natCast_emod _ _).symm
      have e4b : ((a / 16 : Nat) : Int) % n = (r : Int) := by rw [← HR.out]; exact (Int.natCast_emod _ _).symm
      obtain ⟨x1, hx1⟩ : ∃ x1, x / 16 = x1 := ⟨_, rfl⟩
      obtain ⟨a1, ha1⟩ : ∃ a1, a / 16 = a1 := ⟨_, rfl⟩
      obtain ⟨xr, hxr⟩ : ∃ xr, x / 16 % n = xr := ⟨_, rfl⟩
      rw [hxr] at e2 e2b
      rw [hx1] at e1 e1b e2 e2b
      rw [ha1] at e3 e3b e4 e4b
      have HXR : Hid (isIn n r (R.getD kk l0) ↔ xr = r) := by
        show isIn n r (R.getD kk l0) ↔ xr = r
        unfold isIn
        rw [hx, hxr]
      have hn0 : ((n : Int) == 0) = false := by simp; omega
      have hn1 : ¬ (n : Int) = 0 := by omega
      have hn2 : ¬ (n : Int) = -1 := by omega
      obtain ⟨cN, hcN⟩ : ∃ cN, cnt R n r kk = cN := ⟨_, rfl⟩
      have HCN := Hid.in hcN
      have cN64 : cN ≤ kk := by rw [← hcN]; exact cnt_le _ _ _ _
      have x1b : x1 ≤ 268435456 := by omega
      have a1b : a1 ≤ 268435456 := by omega
      rw [hcN]
      have HE := Hid.in (And.intro (And.intro e1 e1b) (And.intro (And.intro e2 e2b) (And.intro (And.intro e3 e3b) (And.intro e4 e4b))))
      clear ho hT hsz d0 hx hx1 ha1 hxr hcN c0 c1 c2
      clear hmod hmod2
      by_cases hxe : xr = r
      · have HIS : Hid (isIn n r (R.getD kk l0)) := HXR.out.2 hxe
        have HC1 : Hid (cnt R n r (kk + 1) = cN + 1) := by
          show cnt R n r kk + (if isIn n r (R.getD kk l0) then 1 else 0) = cN + 1
          rw [HCN.out, if_pos HIS.out]
        subst hxe
        rcases HO.out with ⟨ho, hno⟩ | ⟨i, ho, hfi⟩
        · subst ho
          have HNO := Hid.in hno
          clear hno
          go_upto_region 11 with fail
          go_quiet (fail)
          go_wp2
          go_roundw
          case rel =>
            refine ⟨kk + 1, kk, by simp, by omega, by rw [HC1.out]; simp, rfl, Or.inr ⟨kk, rfl, by omega, HIS.out, HNO.out⟩, ?_, HZZ.out⟩
            exact HTT.out.trans (Turned.of_below (below_drewN wr nq))
          case measure => simp [intOf]; omega
        · subst ho
          have HFI := Hid.in hfi
          have hid : decide ((i : Int) < 0) = false := by simp
          clear hfi
          go_upto_region 11 with fail
          go_quiet (fail)
          go_wp2
          go_roundw
          case rel =>
            refine ⟨kk + 1, i, by simp, by omega, by rw [HC1.out]; simp, rfl, Or.inr ⟨i, rfl, by have := HFI.out.1; omega, HFI.out.2.1, HFI.out.2.2⟩, ?_, HZZ.out⟩
            exact HTT.out.trans (Turned.of_below (below_drewN wr nq))
          case measure => simp [intOf]; omega
      · have HIS : Hid (¬ isIn n r (R.getD kk l0)) := fun q => hxe (HXR.out.1 q)
        have HC1 : Hid (cnt R n r (kk + 1) = cN) := by
          show cnt R n r kk + (if isIn n r (R.getD kk l0) then 1 else 0) = cN
          rw [HCN.out, if_neg HIS.out]
          rfl
        have hxb : ((xr : Int) == (r : Int)) = false := by simp; omega
        go_upto_region 11 with fail
        go_quiet (fail)
        go_wp2
        go_roundw
        case rel =>
          refine ⟨kk + 1, o, by simp, by omega, by rw [HC1.out], rfl, ?_, ?_, HZZ.out⟩
          · rcases HO.out with ⟨ho, hno⟩ | ⟨i, ho, hfi⟩
            · refine Or.inl ⟨ho, fun j hj => ?_⟩
              rcases Nat.lt_or_ge j kk with q | q
              · exact hno j q
              · obtain rfl : j = kk := by omega
                exact HIS.out
            · exact Or.inr ⟨i, ho, by have := hfi.1; omega, hfi.2.1, hfi.2.2⟩
          · exact HTT.out.trans (Turned.of_below (below_drewN wr nq))
        case measure => simp [intOf]; omega
    · obtain rfl : kk = m := by omega
      clear hT hsz ho c0 c1 c2
      obtain ⟨cN, hcN⟩ : ∃ cN, cnt R n r kk = cN := ⟨_, rfl⟩
      rw [hcN]
      obtain ⟨lv, hlv⟩ : ∃ lv, wr.heap.size = lv := ⟨_, rfl⟩
      obtain ⟨X, hX⟩ : ∃ X, wr.alloc (.cells #[.int .i64 0, .int .i64 0, .int .u8 0, .int .u8 0, .int .u8 0, .int .u8 0, .int .u8 0, .int .u8 0, .int .u8 0, .int .u8 0, .int .u8 0, .int .u8 0, .int .u8 0, .int .u8 0, .int .u8 0, .int .u8 0, .int .u8 0, .int .u8 0] 104) = X := ⟨_, rfl⟩
      have tX : Turned (fun _ => False) W X := by rw [← hX]; exact HTT.out.alloc _
      have zX : X.rangeAt lv 0 l0.rv := by rw [← hX, ← hlv]; exact rrange_zero wr _
      have yX : X.there lv 0 18 := by rw [← hX, ← hlv]; exact there_rzero wr _
      have sX : X.heap.size = lv + 1 := by rw [← hX, ← hlv]; simp
      have slv : lv = w.heap.size + 2 := by rw [← hlv, HZZ.out, HSW.out]
      have kX := HKW.out.turned tX (fun q => q) (fun _ _ q => q)
      have HX := Hid.in hX
      have HLV := Hid.in hlv
      have HTX := Hid.in tX
      have HZX := Hid.in zX
      have HYX := Hid.in yX
      have HSX := Hid.in sX
      have HSL := Hid.in slv
      have HKX := Hid.in kX
      have HCN := Hid.in hcN
      obtain ⟨hpX, -, cX1, cX2, -⟩ := kX.cells
      clear tX zX yX sX slv kX hX hlv hcN
      rcases HC.out with ⟨hc1, hc2, hc3⟩ | ⟨hc1, i, hfi, hc2, hc3⟩
      · have hcw : ((cN : Int) == (ways : Int)) = false := by
          rw [HM.out, HCN.out] at hc1
          simp
          omega
        have HG := Hid.in (And.intro hc2 hc3)
        clear hc1 hc2 hc3
        go_upto_region 16 with fail
        rw [HX.out, HLV.out]
        go_upto_region 18 with fail
        obtain ⟨Y, hY⟩ : ∃ Y, X = Y := ⟨_, rfl⟩
        have kY := HKX.out
        have rB := range_turned HRW.out HTX.out (by have := HSW.out; omega) (fun q => q)
        have rL := HZX.out
        have tR := there_turned HT.out HTX.out (by have := HSW.out; omega) (fun q => q)
        have bY : Turned (fun q => q = p ∨ v.ownBlock = some q) w X := ((Turned.of_below HB1.out).trans HTX.out).mono (fun _ q => q.elim)
        obtain ⟨v2, hv2e⟩ : ∃ v2, v = v2 := ⟨_, rfl⟩
        have hv2 : ∀ q, v2.ownBlock = some q → v.ownBlock = some q ∨ w.heap.size ≤ q := fun q h => Or.inl (by rw [hv2e]; exact h)
        have hvl : ∀ q, v2.ownBlock = some q → q < w.heap.size ∨ lv < q := fun q h => Or.inl (HVB.out q (by rw [hv2e]; exact h))
        rw [hv2e] at kY
        rw [← HG.out.1] at rL
        have hkp : kept = R := HG.out.2
        rw [← hkp] at kY
        rw [hY] at kY rB rL tR bY ⊢
        have sY : lv < Y.heap.size := by rw [← hY, HSX.out]; omega
        obtain ⟨qa, m1, cap1, hvq, hm1, -, -, -⟩ := kY.open
        clear hY hkp hv2e cX1 cX2 c0' c1' c2'
        subst hvq
        have hroom1 : m1 < 64 := by rw [← hm1]; exact HROOM.out
        have slv := HSL.out
        obtain ⟨g', cap', w9, hrun, A0, A1, A2, A3, G0, G1, G2, GC, GT, GG⟩ := rpush B p n ways w.heap.size m1 cap1 kept ⟨a, s, b⟩ qa Y (bvs b) kY hm1 rB (by omega) (by omega) (fun q => by have := hvl _ q; omega) hroom1
        have y3 : Y.cell? ⟨p, 2, none⟩ = some (.slice qa m1 cap1) := kY.cells.2.2.2.1
        have hpY := kY.c.here
        obtain ⟨Z, hZ⟩ : ∃ Z, w9.setCell ⟨p, 2, none⟩ (.slice (some ⟨g', 0, none⟩) (m1 + 1) cap') = Z := ⟨_, rfl⟩
        rw [hZ] at G2 GC GT
        have nn : ∀ x, w.heap.size ≤ x → x ≤ lv → ¬ (x = p ∨ (Value.slice qa m1 cap1).ownBlock = some x) := fun x h1 h2 q => q.elim (by omega) (fun q => by have := hvl _ q; omega)
        have zL := range_turned rL GT sY (nn lv (by omega) (Nat.le_refl _))
        have zR := there_turned tR GT (by omega) (nn (w.heap.size + 1) (by omega) (by omega))
        have tf := turned_setCells (g := w.heap.size + 1) gone.rv 0 Z
        have hgg : ∀ q, (Value.slice (some ⟨g', 0, none⟩) (m1 + 1) cap').ownBlock = some q → v.ownBlock = some q ∨ w.heap.size ≤ q := by
          intro q hq
          simp [Value.ownBlock] at hq
          subst hq
          rcases GG with h1 | h1
          · exact hv2 _ h1
          · exact Or.inr (by omega)
        have hgl : ∀ q, (Value.slice (some ⟨g', 0, none⟩) (m1 + 1) cap').ownBlock = some q → ¬ q = w.heap.size + 1 := by
          intro q hq
          simp [Value.ownBlock] at hq
          subst hq
          rcases GG with h1 | h1
          · have := hvl _ h1
            omega
          · omega
        have HFIN : Hid ((Z.setCells (w.heap.size + 1) 0 gone.rv).rangeAt (w.heap.size + 1) 0 gone.rv ∧ RC (Z.setCells (w.heap.size + 1) 0 gone.rv) B p (.slice (some ⟨g', 0, none⟩) (m1 + 1) cap') n ways (kept ++ [⟨a, s, b⟩]) ∧ (∀ q, (Value.slice (some ⟨g', 0, none⟩) (m1 + 1) cap').ownBlock = some q → v.ownBlock = some q ∨ w.heap.size ≤ q) ∧ Turned (fun q => q = p ∨ v.ownBlock = some q) w (Z.setCells (w.heap.size + 1) 0 gone.rv)) := by
          refine ⟨World.rangeAt_setCells_same _ _ _ _ (by rw [Ln.rlen]; exact zR), GC.turned tf (by omega) hgl, hgg, ?_⟩
          refine (bY.trans2'' GT (fun q hq => ?_)).trans2'' tf (fun q hq => Or.inr (by omega))
          rcases hq with h1 | h1
          · exact Or.inl (Or.inl h1)
          · exact (hv2 q h1).imp Or.inr id
        have HZ := Hid.in hZ
        have HZL := Hid.in zL
        have HZR := Hid.in zR
        obtain ⟨i0, hi0, hz0, hz1, hz2⟩ := rinfo
        have hpZ : p < w9.heap.size := A3
        clear kY rL tR bY hv2 hvl sY GC GT GG nn zL zR tf hgg hgl hZ hm1 slv
        rename_i Qx Kx hx
        refine wp_region_held_drew (S := fun w' => w'.rangeAt w.heap.size 0 (bvs b)) (by kernel_rfl) rB (fun hHeld => ?_)
        refine wpAnyH_take (i := 0) (v := .pointer (some ⟨p, 0, none⟩)) rfl (by kernel_rfl) (by kernel_rfl) (by kernel_rfl) (fun _ _ _ h => h) (Or.inl ⟨by rfl, fun w hSw => by go_simp⟩) hHeld ?_
        refine wpAnyH_take (i := 1) (v := .pointer (some ⟨p, 0, none⟩)) rfl (by kernel_rfl) (by kernel_rfl) (by kernel_rfl) (fun _ _ _ h => h) (Or.inl ⟨by rfl, fun w hSw => by go_simp⟩) hHeld ?_
        refine wpAnyH_take (i := 2) (v := .pointer (some ⟨p, 2, none⟩)) rfl (by kernel_rfl) (by kernel_rfl) (by kernel_rfl) (fun _ _ _ h => h) (Or.inl ⟨by rfl, fun w hSw => by go_simp⟩) hHeld ?_
        refine wpAnyH_take (i := 4) (v := .int .i64 a) rfl (by kernel_rfl) (by kernel_rfl) (by kernel_rfl) (fun _ _ _ h => h) (Or.inl ⟨by rfl, fun w hSw => by go_simp⟩) hHeld ?_
        refine wpAnyH_take (i := 5) (v := .int .i64 s) rfl (by kernel_rfl) (by kernel_rfl) (by kernel_rfl) (fun _ _ _ h => h) (Or.inl ⟨by rfl, fun w hSw => by go_simp⟩) hHeld ?_
        refine wpAnyH_take (i := 6) (v := .agg (bvs b).toArray) rfl (by kernel_rfl) (by kernel_rfl) (by kernel_rfl) (fun _ _ _ h => h) (yieldsIf_load_mid (by rfl) 98 (.tmp 6) rfl w.heap.size 0 rfl (bvs b) _ (fun _ h => h) Tryd.underlying98 rfl (by rw [arr_info, bvs_len])) hHeld ?_
        refine wpAnyH_take (i := 7) (v := .agg (Ln.rv ⟨a, s, b⟩).toArray) rfl (by kernel_rfl) (by kernel_rfl) (by kernel_rfl) (fun _ _ _ h => h) (Or.inl ⟨by rfl, fun w hSw => exec_build _ _ 104 _ rfl _ (by kernel_rfl) w⟩) hHeld ?_
        refine wpAnyH_ready (rs := [3, 8]) (by kernel_rfl) (by simp) ?_
        refine AllReadyH.cons rfl (fun K hK => ?_) ?_
        · go_simp
          refine hK.out _ _ hHeld (fun hHeld => ?_)
          clear hK K
          refine wpAnyH_ready (rs := [8]) (by kernel_rfl) (by simp) ?_
          refine AllReadyH.cons rfl (fun K hK => ?_) AllReadyH.nil
          rw [if_pos (by rfl)]
          refine wp_buildSlice 100 104 1 #[(0, .tmp 86)] rfl (Ln.rv ⟨a, s, b⟩).toArray i0 (.agg zr) Tryd.underlying100 hi0 hz0 (by rw [hz1]; decide) (by rw [hz1]; decide) (by rw [hz1]; kernel_rfl) ?_
          refine hK.out _ _ G0 (fun hHeld => ?_)
          clear hK K
          refine wpAnyH_ready (rs := [9]) (by kernel_rfl) (by simp) ?_
          refine AllReadyH.cons rfl (fun K hK => ?_) AllReadyH.nil
          rw [if_pos (by rfl)]
          refine append_op0 (v := .slice qa m1 cap1) (u := .slice (some ⟨Y.heap.size, 0, none⟩) 1 1) rfl (by kernel_rfl) (by kernel_rfl) hrun ?_
          refine hK.out _ _ G1 (fun hHeld => ?_)
          clear hK K
          refine wpAnyH_ready (rs := [10]) (by kernel_rfl) (by simp) ?_
          refine AllReadyH.cons rfl (fun K hK => ?_) AllReadyH.nil
          go_simp
          refine hK.out _ _ G1 (fun hHeld => ?_)
          clear hK K
          refine wpAnyH_done (by kernel_rfl) ?_ _
          refine hx _ _ ?_
          clear hx Kx hHeld
          go_upto_region 20 with fail
          rw [HZ.out]
          have L9 := HZL.out
          have R9 := HZR.out
          go_wp2_with (first
            | (refine rld lv 0 gone L9 rfl _ rfl rfl ?_)
            | (refine rst (w.heap.size + 1) 0 gone R9 rfl rfl _ _ rfl rfl rfl ?_))
          refine bodyPost_ret (results_rline2 Tryd.results53 _ _ (w.heap.size + 1) gone _ rfl rfl HFIN.out.1) rfl ?_
          exact ⟨rfl, _, HFIN.out.2.1, HFIN.out.2.2.1, HFIN.out.2.2.2⟩
        refine AllReadyH.cons rfl (fun K hK => ?_) AllReadyH.nil
        · rw [if_pos (by rfl)]
          refine wp_buildSlice 100 104 1 #[(0, .tmp 86)] rfl (Ln.rv ⟨a, s, b⟩).toArray i0 (.agg zr) Tryd.underlying100 hi0 hz0 (by rw [hz1]; decide) (by rw [hz1]; decide) (by rw [hz1]; kernel_rfl) ?_
          refine hK.out _ _ G0 (fun hHeld => ?_)
          clear hK K
          refine wpAnyH_ready (rs := [3]) (by kernel_rfl) (by simp) ?_
          refine AllReadyH.cons rfl (fun K hK => ?_) AllReadyH.nil
          go_simp
          refine hK.out _ _ hHeld (fun hHeld => ?_)
          clear hK K
          refine wpAnyH_ready (rs := [9]) (by kernel_rfl) (by simp) ?_
          refine AllReadyH.cons rfl (fun K hK => ?_) AllReadyH.nil
          rw [if_pos (by rfl)]
          refine append_op0 (v := .slice qa m1 cap1) (u := .slice (some ⟨Y.heap.size, 0, none⟩) 1 1) rfl (by kernel_rfl) (by kernel_rfl) hrun ?_
          refine hK.out _ _ G1 (fun hHeld => ?_)
          clear hK K
          refine wpAnyH_ready (rs := [10]) (by kernel_rfl) (by simp) ?_
          refine AllReadyH.cons rfl (fun K hK => ?_) AllReadyH.nil
          go_simp
          refine hK.out _ _ G1 (fun hHeld => ?_)
          clear hK K
          refine wpAnyH_done (by kernel_rfl) ?_ _
          refine hx _ _ ?_
          clear hx Kx hHeld
          go_upto_region 20 with fail
          rw [HZ.out]
          have L9 := HZL.out
          have R9 := HZR.out
          go_wp2_with (first
            | (refine rld lv 0 gone L9 rfl _ rfl rfl ?_)
            | (refine rst (w.heap.size + 1) 0 gone R9 rfl rfl _ _ rfl rfl rfl ?_))
          refine bodyPost_ret (results_rline2 Tryd.results53 _ _ (w.heap.size + 1) gone _ rfl rfl HFIN.out.1) rfl ?_
          exact ⟨rfl, _, HFIN.out.2.1, HFIN.out.2.2.1, HFIN.out.2.2.2⟩
      · have hcw : ((cN : Int) == (ways : Int)) = true := by
          rw [HM.out, HCN.out] at hc1
          simp
          omega
        have hone : o = (i : Int) := by
          rcases HO.out with ⟨ho, hno⟩ | ⟨i2, ho, hfi2⟩
          · exact absurd hfi.2.1 (hno i (by rw [← HM.out]; exact hfi.1))
          · have e1 : i2 = i := by
              rcases Nat.lt_trichotomy i2 i with q | q | q
              · exact absurd hfi2.2.1 (hfi.2.2 i2 q)
              · exact q
              · exact absurd hfi.2.1 (hfi2.2.2 i q)
            rw [ho, e1]
        subst hone
        have HG := Hid.in (And.intro hc2 hc3)
        have HFI := Hid.in hfi.1
        clear hc1 hc2 hc3 hfi
        go_upto_region 16 with fail
        rw [HX.out, HLV.out]
        go_upto_region 18 with (first
          | (go_at_call 62
             refine (rout_any B p v n ways R i _ HKX.out HFI.out).mono ?_
             rintro e1 X2 ⟨rfl, v2, hk2, hv2, ht2⟩
             rw [← HG.out.1]
             have T2 := there_turned HYX.out ht2 (by have := HSX.out; omega) (by have := HSL.out; omega)
             have HK2 := Hid.in hk2
             have HV2 := Hid.in hv2
             have HT2 := Hid.in ht2
             clear hk2 hv2 ht2)
          | (refine rst lv 0 gone T2 rfl rfl _ _ rfl rfl rfl ?_))
        obtain ⟨Y, hY⟩ : ∃ Y, X2.setCells lv 0 gone.rv = Y := ⟨_, rfl⟩
        have tS := turned_setCells (g := lv) gone.rv 0 X2
        have rL : Y.rangeAt lv 0 gone.rv := by rw [← hY]; exact World.rangeAt_setCells_same _ _ _ _ (by rw [Ln.rlen]; exact T2)
        rw [hY] at tS ⊢
        have s2 := HT2.out.size
        have sS : Y.heap.size = X2.heap.size := by rw [← hY, setCells_hs]
        have kY0 := HK2.out.turned tS (by have := HSL.out; omega) (fun j hj q => by have := HV2.out j hj; have := HSX.out; omega)
        have hkp : kept = rest R i := HG.out.2
        have kY : RC Y B p v2 n ways kept := by rw [hkp]; exact kY0
        have t2Y : Turned (fun q => q = p ∨ q = lv) X Y := (HT2.out.mono (fun _ q => Or.inl q)).trans (tS.mono (fun _ q => Or.inr q))
        have rB := range_turned (range_turned HRW.out HTX.out (by have := HSW.out; omega) (fun q => q)) t2Y (by have := HSX.out; have := HSL.out; omega) (by have := HSL.out; omega)
        have tR := there_turned (there_turned HT.out HTX.out (by have := HSW.out; omega) (fun q => q)) t2Y (by have := HSX.out; have := HSL.out; omega) (by have := HSL.out; omega)
        have bY : Turned (fun q => q = p ∨ v.ownBlock = some q) w Y := (((Turned.of_below HB1.out).trans HTX.out).mono (R := fun q => q = p ∨ v.ownBlock = some q) (fun _ q => q.elim)).trans2'' t2Y (fun q hq => hq.elim (fun q => Or.inl (Or.inl q)) (fun q => Or.inr (by have := HSL.out; omega)))
        have hv2 : ∀ q, v2.ownBlock = some q → v.ownBlock = some q ∨ w.heap.size ≤ q := fun q h => Or.inr (by have := HV2.out q h; have := HSX.out; have := HSL.out; omega)
        have hvl : ∀ q, v2.ownBlock = some q → q < w.heap.size ∨ lv < q := fun q h => Or.inr (by have := HV2.out q h; have := HSX.out; omega)
        have sY : lv < Y.heap.size := by have := HSX.out; omega
        obtain ⟨qa, m1, cap1, hvq, hm1, -, -, -⟩ := kY.open
        clear hY hkp kY0 t2Y tS s2 sS T2 cX1 cX2 c0' c1' c2'
        subst hvq
        have hroom1 : m1 < 64 := by rw [← hm1]; exact HROOM.out
        have slv := HSL.out
        obtain ⟨g', cap', w9, hrun, A0, A1, A2, A3, G0, G1, G2, GC, GT, GG⟩ := rpush B p n ways w.heap.size m1 cap1 kept ⟨a, s, b⟩ qa Y (bvs b) kY hm1 rB (by omega) (by omega) (fun q => by have := hvl _ q; omega) hroom1
        have y3 : Y.cell? ⟨p, 2, none⟩ = some (.slice qa m1 cap1) := kY.cells.2.2.2.1
        have hpY := kY.c.here
        obtain ⟨Z, hZ⟩ : ∃ Z, w9.setCell ⟨p, 2, none⟩ (.slice (some ⟨g', 0, none⟩) (m1 + 1) cap') = Z := ⟨_, rfl⟩
        rw [hZ] at G2 GC GT
        have nn : ∀ x, w.heap.size ≤ x → x ≤ lv → ¬ (x = p ∨ (Value.slice qa m1 cap1).ownBlock = some x) := fun x h1 h2 q => q.elim (by omega) (fun q => by have := hvl _ q; omega)
        have zL := range_turned rL GT sY (nn lv (by omega) (Nat.le_refl _))
        have zR := there_turned tR GT (by omega) (nn (w.heap.size + 1) (by omega) (by omega))
        have tf := turned_setCells (g := w.heap.size + 1) gone.rv 0 Z
        have hgg : ∀ q, (Value.slice (some ⟨g', 0, none⟩) (m1 + 1) cap').ownBlock = some q → v.ownBlock = some q ∨ w.heap.size ≤ q := by
          intro q hq
          simp [Value.ownBlock] at hq
          subst hq
          rcases GG with h1 | h1
          · exact hv2 _ h1
          · exact Or.inr (by omega)
        have hgl : ∀ q, (Value.slice (some ⟨g', 0, none⟩) (m1 + 1) cap').ownBlock = some q → ¬ q = w.heap.size + 1 := by
          intro q hq
          simp [Value.ownBlock] at hq
          subst hq
          rcases GG with h1 | h1
          · have := hvl _ h1
            omega
          · omega
        have HFIN : Hid ((Z.setCells (w.heap.size + 1) 0 gone.rv).rangeAt (w.heap.size + 1) 0 gone.rv ∧ RC (Z.setCells (w.heap.size + 1) 0 gone.rv) B p (.slice (some ⟨g', 0, none⟩) (m1 + 1) cap') n ways (kept ++ [⟨a, s, b⟩]) ∧ (∀ q, (Value.slice (some ⟨g', 0, none⟩) (m1 + 1) cap').ownBlock = some q → v.ownBlock = some q ∨ w.heap.size ≤ q) ∧ Turned (fun q => q = p ∨ v.ownBlock = some q) w (Z.setCells (w.heap.size + 1) 0 gone.rv)) := by
          refine ⟨World.rangeAt_setCells_same _ _ _ _ (by rw [Ln.rlen]; exact zR), GC.turned tf (by omega) hgl, hgg, ?_⟩
          refine (bY.trans2'' GT (fun q hq => ?_)).trans2'' tf (fun q hq => Or.inr (by omega))
          rcases hq with h1 | h1
          · exact Or.inl (Or.inl h1)
          · exact (hv2 q h1).imp Or.inr id
        have HZ := Hid.in hZ
        have HZL := Hid.in zL
        have HZR := Hid.in zR
        obtain ⟨i0, hi0, hz0, hz1, hz2⟩ := rinfo
        have hpZ : p < w9.heap.size := A3
        clear kY rL tR bY hv2 hvl sY GC GT GG nn zL zR tf hgg hgl hZ hm1 slv
        rename_i Qx Kx hx
        refine wp_region_held_drew (S := fun w' => w'.rangeAt w.heap.size 0 (bvs b)) (by kernel_rfl) rB (fun hHeld => ?_)
        refine wpAnyH_take (i := 0) (v := .pointer (some ⟨p, 0, none⟩)) rfl (by kernel_rfl) (by kernel_rfl) (by kernel_rfl) (fun _ _ _ h => h) (Or.inl ⟨by rfl, fun w hSw => by go_simp⟩) hHeld ?_
        refine wpAnyH_take (i := 1) (v := .pointer (some ⟨p, 0, none⟩)) rfl (by kernel_rfl) (by kernel_rfl) (by kernel_rfl) (fun _ _ _ h => h) (Or.inl ⟨by rfl, fun w hSw => by go_simp⟩) hHeld ?_
        refine wpAnyH_take (i := 2) (v := .pointer (some ⟨p, 2, none⟩)) rfl (by kernel_rfl) (by kernel_rfl) (by kernel_rfl) (fun _ _ _ h => h) (Or.inl ⟨by rfl, fun w hSw => by go_simp⟩) hHeld ?_
        refine wpAnyH_take (i := 4) (v := .int .i64 a) rfl (by kernel_rfl) (by kernel_rfl) (by kernel_rfl) (fun _ _ _ h => h) (Or.inl ⟨by rfl, fun w hSw => by go_simp⟩) hHeld ?_
        refine wpAnyH_take (i := 5) (v := .int .i64 s) rfl (by kernel_rfl) (by kernel_rfl) (by kernel_rfl) (fun _ _ _ h => h) (Or.inl ⟨by rfl, fun w hSw => by go_simp⟩) hHeld ?_
        refine wpAnyH_take (i := 6) (v := .agg (bvs b).toArray) rfl (by kernel_rfl) (by kernel_rfl) (by kernel_rfl) (fun _ _ _ h => h) (yieldsIf_load_mid (by rfl) 98 (.tmp 6) rfl w.heap.size 0 rfl (bvs b) _ (fun _ h => h) Tryd.underlying98 rfl (by rw [arr_info, bvs_len])) hHeld ?_
        refine wpAnyH_take (i := 7) (v := .agg (Ln.rv ⟨a, s, b⟩).toArray) rfl (by kernel_rfl) (by kernel_rfl) (by kernel_rfl) (fun _ _ _ h => h) (Or.inl ⟨by rfl, fun w hSw => exec_build _ _ 104 _ rfl _ (by kernel_rfl) w⟩) hHeld ?_
        refine wpAnyH_ready (rs := [3, 8]) (by kernel_rfl) (by simp) ?_
        refine AllReadyH.cons rfl (fun K hK => ?_) ?_
        · go_simp
          refine hK.out _ _ hHeld (fun hHeld => ?_)
          clear hK K
          refine wpAnyH_ready (rs := [8]) (by kernel_rfl) (by simp) ?_
          refine AllReadyH.cons rfl (fun K hK => ?_) AllReadyH.nil
          rw [if_pos (by rfl)]
          refine wp_buildSlice 100 104 1 #[(0, .tmp 86)] rfl (Ln.rv ⟨a, s, b⟩).toArray i0 (.agg zr) Tryd.underlying100 hi0 hz0 (by rw [hz1]; decide) (by rw [hz1]; decide) (by rw [hz1]; kernel_rfl) ?_
          refine hK.out _ _ G0 (fun hHeld => ?_)
          clear hK K
          refine wpAnyH_ready (rs := [9]) (by kernel_rfl) (by simp) ?_
          refine AllReadyH.cons rfl (fun K hK => ?_) AllReadyH.nil
          rw [if_pos (by rfl)]
          refine append_op0 (v := .slice qa m1 cap1) (u := .slice (some ⟨Y.heap.size, 0, none⟩) 1 1) rfl (by kernel_rfl) (by kernel_rfl) hrun ?_
          refine hK.out _ _ G1 (fun hHeld => ?_)
          clear hK K
          refine wpAnyH_ready (rs := [10]) (by kernel_rfl) (by simp) ?_
          refine AllReadyH.cons rfl (fun K hK => ?_) AllReadyH.nil
          go_simp
          refine hK.out _ _ G1 (fun hHeld => ?_)
          clear hK K
          refine wpAnyH_done (by kernel_rfl) ?_ _
          refine hx _ _ ?_
          clear hx Kx hHeld
          go_upto_region 20 with fail
          rw [HZ.out]
          have L9 := HZL.out
          have R9 := HZR.out
          go_wp2_with (first
            | (refine rld lv 0 gone L9 rfl _ rfl rfl ?_)
            | (refine rst (w.heap.size + 1) 0 gone R9 rfl rfl _ _ rfl rfl rfl ?_))
          refine bodyPost_ret (results_rline2 Tryd.results53 _ _ (w.heap.size + 1) gone _ rfl rfl HFIN.out.1) rfl ?_
          exact ⟨rfl, _, HFIN.out.2.1, HFIN.out.2.2.1, HFIN.out.2.2.2⟩
        refine AllReadyH.cons rfl (fun K hK => ?_) AllReadyH.nil
        · rw [if_pos (by rfl)]
          refine wp_buildSlice 100 104 1 #[(0, .tmp 86)] rfl (Ln.rv ⟨a, s, b⟩).toArray i0 (.agg zr) Tryd.underlying100 hi0 hz0 (by rw [hz1]; decide) (by rw [hz1]; decide) (by rw [hz1]; kernel_rfl) ?_
          refine hK.out _ _ G0 (fun hHeld => ?_)
          clear hK K
          refine wpAnyH_ready (rs := [3]) (by kernel_rfl) (by simp) ?_
          refine AllReadyH.cons rfl (fun K hK => ?_) AllReadyH.nil
          go_simp
          refine hK.out _ _ hHeld (fun hHeld => ?_)
          clear hK K
          refine wpAnyH_ready (rs := [9]) (by kernel_rfl) (by simp) ?_
          refine AllReadyH.cons rfl (fun K hK => ?_) AllReadyH.nil
          rw [if_pos (by rfl)]
          refine append_op0 (v := .slice qa m1 cap1) (u := .slice (some ⟨Y.heap.size, 0, none⟩) 1 1) rfl (by kernel_rfl) (by kernel_rfl) hrun ?_
          refine hK.out _ _ G1 (fun hHeld => ?_)
          clear hK K
          refine wpAnyH_ready (rs := [10]) (by kernel_rfl) (by simp) ?_
          refine AllReadyH.cons rfl (fun K hK => ?_) AllReadyH.nil
          go_simp
          refine hK.out _ _ G1 (fun hHeld => ?_)
          clear hK K
          refine wpAnyH_done (by kernel_rfl) ?_ _
          refine hx _ _ ?_
          clear hx Kx hHeld
          go_upto_region 20 with fail
          rw [HZ.out]
          have L9 := HZL.out
          have R9 := HZR.out
          go_wp2_with (first
            | (refine rld lv 0 gone L9 rfl _ rfl rfl ?_)
            | (refine rst (w.heap.size + 1) 0 gone R9 rfl rfl _ _ rfl rfl rfl ?_))
          refine bodyPost_ret (results_rline2 Tryd.results53 _ _ (w.heap.size + 1) gone _ rfl rfl HFIN.out.1) rfl ?_
          exact ⟨rfl, _, HFIN.out.2.1, HFIN.out.2.2.1, HFIN.out.2.2.2⟩
end Go.Proofs.YtlogdmnhngbkaaaDoor
