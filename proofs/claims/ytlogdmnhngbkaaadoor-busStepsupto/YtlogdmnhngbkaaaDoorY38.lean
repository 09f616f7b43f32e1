import Derived.Test.YtlogdmnhngbkaaaDoorY37
import Derived.Deep.RegionHeld3
/-
  BUS: the answer's New, the walk.
-/
namespace Go.Proofs.YtlogdmnhngbkaaaDoor
open Go Go.RowKit
def NewQ (x : World) (nn : Nat) (fs fw : Nat → Int) (cyc len : Nat) (m : Nat → Nat) (e : Ending) (w' : World) : Prop := Below x.heap.size x w' ∧ (((∃ i, i < nn ∧ ¬ shOk fs fw i) ∧ e = .returned (.tuple #[.pointer none, .int .i64 2])) ∨ ((∀ i, i < nn → shOk fs fw i) ∧ ¬ dOk len ∧ e = .returned (.tuple #[.pointer none, .int .i64 1])) ∨ ((∀ i, i < nn → shOk fs fw i) ∧ dOk len ∧ ∃ g : Rn, e = .returned (.tuple #[.pointer (some ⟨g.p, 0, none⟩), .int .i64 0]) ∧ (len = 0 → g.mq = none ∧ g.mc = 0) ∧ Ru w' g (fun j => j < x.heap.size) (newG nn cyc (toN fs) (toN fw) len m)))
def IntsB (x : World) (p : Option Addr) (n : Nat) (f : Nat → Int) : Prop := ∀ i, i < n → ∃ c o, p = some ⟨c, o, none⟩ ∧ c < x.heap.size ∧ x.cell? ⟨c, o + i, none⟩ = some (.int .i64 (f i))
theorem mk1 (w : World) : (Instr.makeSlice 76 (.int .i64 1) (.int .i64 1)).run Tryd.prog w = .ok (.slice (some ⟨w.heap.size, 0, none⟩) 1 1) (w.alloc (.cells #[.bool false, .int .i64 0, .bool false] 74)) := by kernel_rfl
theorem mk2 (w : World) : (Instr.makeSlice 76 (.int .i64 2) (.int .i64 2)).run Tryd.prog w = .ok (.slice (some ⟨w.heap.size, 0, none⟩) 2 2) (w.alloc (.cells #[.bool false, .int .i64 0, .bool false, .bool false, .int .i64 0, .bool false] 74)) := by kernel_rfl
set_option maxRecDepth 100000 in
set_option maxHeartbeats 1000000 in
theorem rnew_conf (x : World) (q0 q1 : Option Addr) (nn sc wn wc : Nat) (cyc : Int) (q : Option Addr) (len dc : Nat) (h : ¬ (1 ≤ nn ∧ nn ≤ 2 ∧ 0 ≤ cyc ∧ cyc ≤ 10)) : Calls Tryd.prog 23 #[.slice q0 nn sc, .slice q1 wn wc, .int .i64 cyc, .slice q len dc] x fun e w' => e = .returned (.tuple #[.pointer none, .int .i64 2]) ∧ w' = x := by
  have hu : undef = Value.tuple #[] := rfl
  by_cases h1 : (nn : Int) < 1
  · have q1 : decide ((nn : Int) < 1) = true := decide_eq_true h1
    clear h
    go_enter Tryd.func23, Tryd.ntmps23
    go_wp2
    exact bodyPost_ret (v := .tuple #[.pointer none, .int .i64 2]) (by simp [results, Tryd.results23, go_sem]) rfl ⟨rfl, rfl⟩
  · have q1 : decide ((nn : Int) < 1) = false := decide_eq_false h1
    by_cases h2 : (nn : Int) > 2
    · have q2 : decide ((2 : Int) < (nn : Int)) = true := decide_eq_true h2
      clear h
      go_enter Tryd.func23, Tryd.ntmps23
      go_wp2
      exact bodyPost_ret (v := .tuple #[.pointer none, .int .i64 2]) (by simp [results, Tryd.results23, go_sem]) rfl ⟨rfl, rfl⟩
    · have q2 : decide ((2 : Int) < (nn : Int)) = false := decide_eq_false h2
      by_cases h3 : cyc < 0
      · have q3 : decide (cyc < 0) = true := decide_eq_true h3
        clear h
        go_enter Tryd.func23, Tryd.ntmps23
        go_wp2
        exact bodyPost_ret (v := .tuple #[.pointer none, .int .i64 2]) (by simp [results, Tryd.results23, go_sem]) rfl ⟨rfl, rfl⟩
      · have q3 : decide (cyc < 0) = false := decide_eq_false h3
        have h4 : cyc > 10 := by omega
        have q4 : decide ((10 : Int) < cyc) = true := decide_eq_true h4
        clear h
        go_enter Tryd.func23, Tryd.ntmps23
        go_wp2
        exact bodyPost_ret (v := .tuple #[.pointer none, .int .i64 2]) (by simp [results, Tryd.results23, go_sem]) rfl ⟨rfl, rfl⟩
set_option maxRecDepth 100000 in
set_option maxHeartbeats 4000000 in
theorem rnewG (x : World) (sp wp : Option Addr) (nn sc wc : Nat) (fs fw : Nat → Int) (cyc : Nat) (q : Option Addr) (len dc : Nat) (m : Nat → Nat) (hnn : nn = 1 ∨ nn = 2) (hs : IntsB x sp nn fs) (hw : IntsB x wp nn fw) (hc : cyc ≤ 10) (hD : HandB x q len m) (hq0 : q = none → dc = 0) (hm : ∀ o, m o < 256) : Calls Tryd.prog 23 #[.slice sp nn sc, .slice wp nn wc, .int .i64 cyc, .slice q len dc] x (NewQ x nn fs fw cyc len m) := by
  obtain ⟨n, hn⟩ : ∃ n, toN fs = n := ⟨_, rfl⟩
  obtain ⟨ws, hws⟩ : ∃ ws, toN fw = ws := ⟨_, rfl⟩
  obtain ⟨sb, so, rfl, hsb, -⟩ := hs 0 (by omega)
  obtain ⟨wb, wo, rfl, hwb, -⟩ := hw 0 (by omega)
  have hs' : ∀ i, i < nn → x.cell? ⟨sb, so + i, none⟩ = some (.int .i64 (fs i)) := fun i hi => by
    obtain ⟨c, o, h1, h2, h3⟩ := hs i hi
    cases h1
    exact h3
  have hw' : ∀ i, i < nn → x.cell? ⟨wb, wo + i, none⟩ = some (.int .i64 (fw i)) := fun i hi => by
    obtain ⟨c, o, h1, h2, h3⟩ := hw i hi
    cases h1
    exact h3
  have HS := Hid.in hs'
  have HW := Hid.in hw'
  have HSB := Hid.in hsb
  have HWB := Hid.in hwb
  have HN := Hid.in hn
  have HWS := Hid.in hws
  have HC := Hid.in hc
  have HDD := Hid.in hD
  have HQ0 := Hid.in hq0
  have HM := Hid.in hm
  have c0 : ¬ ((cyc : Int) < 0) := by omega
  have c1 : ¬ ((cyc : Int) > 10) := by omega
  have d0 : decide ((cyc : Int) < 0) = false := decide_eq_false c0
  have d1 : decide ((10 : Int) < (cyc : Int)) = false := decide_eq_false c1
  clear hs hw hs' hw' hsb hwb hn hws hc hD hq0 hm
  rcases hnn with rfl | rfl
  · have HMK : ∀ w : World, (Instr.makeSlice 76 (.int .i64 1) (.int .i64 1)).run Tryd.prog w = .ok (.slice (some ⟨w.heap.size, 0, none⟩) 1 1) (w.alloc (.cells #[.bool false, .int .i64 0, .bool false] 74)) := mk1
    obtain ⟨W, hW⟩ : ∃ W, (x.alloc (.cells #[.bool false, .int .i64 0, .bool false] 74)).alloc (.cells #[.slice none 0 0, .int .i64 cyc, .slice none 0 0, .slice (some ⟨x.heap.size, 0, none⟩) 1 1, .int .i64 0, .int .i64 (-1), .int .i64 0] 78) = W := ⟨_, rfl⟩
    have d0 : NewR x W 1 cyc n ws 0 (.slice none 0 0) (fun _ => 0) := by
      have b1 : Below x.heap.size x (x.alloc (.cells #[.bool false, .int .i64 0, .bool false] 74)) := (Below.refl _ _).alloc (Nat.le_refl _) _
      have s1 : (x.alloc (.cells #[.bool false, .int .i64 0, .bool false] 74)).heap.size = x.heap.size + 1 := by simp
      have b2 : Below (x.alloc (.cells #[.bool false, .int .i64 0, .bool false] 74)).heap.size (x.alloc (.cells #[.bool false, .int .i64 0, .bool false] 74)) W := by rw [← hW]; exact (Below.refl _ _).alloc (Nat.le_refl _) _
      have a1 : CellsAt (3 * 1) (x.alloc (.cells #[.bool false, .int .i64 0, .bool false] 74)) x.heap.size (akc (fun _ => none)) := by
        refine ⟨by simp, fun o ho => ?_, fun o => World.frozen?_alloc_at _ _ _ _ rfl⟩
        rw [World.cell?_alloc_new]
        have ho : o = 0 ∨ o = 1 ∨ o = 2 := by omega
        rcases ho with rfl | rfl | rfl <;> rfl
      refine ⟨?_, a1.below b2, World.ownsRow_nil _ _ _ _, fun i hi => absurd hi (by omega), fun i hi => absurd hi (by omega), fun i j hi => absurd hi (by omega), b1.trans (b2.mono (by omega))⟩
      rw [← hW, ← s1]
      refine ⟨by simp, fun o ho => ?_, fun o => World.frozen?_alloc_at _ _ _ _ rfl⟩
      rw [World.cell?_alloc_new, Array.getElem?_eq_getElem (by show o < 7; exact ho)]
      match o, ho with
      | 0, _ => rfl
      | 1, _ => rfl
      | 2, _ => rfl
      | 3, _ => rfl
      | 4, _ => rfl
      | 5, _ => rfl
      | 6, _ => rfl
      | q + 7, h => exact absurd h (by omega)
    have HD0 := Hid.in d0
    clear d0
    go_enter Tryd.func23, Tryd.ntmps23
    go_upto_region 4 with fail
    try rw [hW]
    clear hW HMK
    go_wp2
    go_loopw [11] (fun iv wr => ∃ (k : Nat) (v : Value) (qq : Nat → Nat), iv = .int .i64 k ∧ k ≤ 1 ∧ (∀ i, i < k → shOk fs fw i) ∧ NewR x wr 1 cyc n ws k v qq) (fun iv _ => 3 - (intOf iv).toNat)
    case atStart => exact ⟨0, _, _, rfl, by omega, fun i hi => absurd hi (by omega), HD0.out⟩
    case round =>
      obtain ⟨k, v, qq, rfl, hk, hok, hI⟩ := hrel
      have HOK := Hid.in hok
      have HI := Hid.in hI
      clear hI HD0 hok
      by_cases hlt : k < 1
      · have hlt' : (k : Int) < 1 := by omega
        have b0 := HI.out.b
        have s0 : wr.cell? ⟨sb, so + k, none⟩ = some (.int .i64 (fs k)) := (b0.cell (p := ⟨sb, so + k, none⟩) HSB.out).trans (HS.out k hlt)
        have s1 : wr.cell? ⟨wb, wo + k, none⟩ = some (.int .i64 (fw k)) := (b0.cell (p := ⟨wb, wo + k, none⟩) HWB.out).trans (HW.out k hlt)
        have sh := Nat.lt_of_lt_of_le HSB.out b0.size
        have wh := Nat.lt_of_lt_of_le HWB.out b0.size
        by_cases hsk : shOk fs fw k
        · obtain ⟨g1, g2, g3, g4, g5⟩ := sh_nat hsk
          rw [HN.out] at g1 g3
          rw [HWS.out] at g2 g4 g5
          have HNG : Hid (∀ z, Below wr.heap.size wr z → Calls Tryd.prog 42 #[.int .i64 (fs k), .int .i64 (fw k)] z fun e w' => e = .returned (.tuple #[.pointer (some ⟨z.heap.size, 0, none⟩), .int .i64 0]) ∧ RC w' x.heap.size z.heap.size (.slice none 0 0) (n k) (ws k) [] ∧ Below z.heap.size z w') := fun z hz => by
            rw [g1, g2]
            exact rnew_good x.heap.size (n k) (ws k) z (Nat.le_trans b0.size hz.size) g3 ⟨g4, g5⟩
          have HSK := Hid.in hsk
          clear b0 g1 g2 g3 g4 g5 hsk
          go_upto_region 7 with fail
          go_region_held3 (fun w' => w'.cell? ⟨sb, so + k, none⟩ = some (.int .i64 (fs k)) ∧ w'.cell? ⟨wb, wo + k, none⟩ = some (.int .i64 (fw k))) (go_keep) (first
            | (go_at_call 42; refine (HNG.out wr.drew ⟨rfl, rfl, rfl, Nat.le_refl _, fun _ _ => rfl⟩).mono ?_; rintro e y ⟨rfl, hrc, hb⟩; have y0 : y.cell? ⟨sb, so + k, none⟩ = some (.int .i64 (fs k)) := (hb.cell (p := ⟨sb, so + k, none⟩) sh).trans s0; have y1 : y.cell? ⟨wb, wo + k, none⟩ = some (.int .i64 (fw k)) := (hb.cell (p := ⟨wb, wo + k, none⟩) wh).trans s1; have HRC := Hid.in hrc; have HB := Hid.in hb; clear hrc hb))
          clear s0 s1 sh wh y0 y1
          have bD : Below wr.heap.size wr wr.drew := ⟨rfl, rfl, rfl, Nat.le_refl _, fun _ _ => rfl⟩
          have dY := (HI.out.below bD).below HB.out
          have yp : y.cell? ⟨x.heap.size + 1, 0, none⟩ = some v := dY.c.cell 0 (by decide)
          have yh := dY.c.here
          have yr := dY.row
          have yf := dY.c.free
          have el := ptrs_len qq k
          have hsw : wr.drew.heap.size = wr.heap.size := rfl
          rw [hsw] at HRC HB
          obtain ⟨g2, cap, z, hrun, r1, r2, r3⟩ := app_ptr9 (B := x.heap.size + 2) y v (ptrs qq k) wr.heap.size (by rw [el]; exact yr) (by rw [el]; omega) (by omega)
          rw [el] at hrun r1
          have nv : ¬ v.ownBlock = some (x.heap.size + 1) := fun q => by have := (own_base yr _ q).1; omega
          have zp : z.cell? ⟨x.heap.size + 1, 0, none⟩ = some v := r2.to_cell yh nv yp
          have zf : z.frozen? ⟨x.heap.size + 1, 0, none⟩ = false := (World.frozen?_of_block (r2.block (x.heap.size + 1) yh nv)).trans (dY.c.free 0)
          have zh := Nat.lt_of_lt_of_le yh r2.size
          have xw : x.heap.size + 1 < wr.heap.size := HI.out.c.here
          have vX : ∀ j, v.ownBlock = some j → j < wr.heap.size := fun j hj => (own_base HI.out.row j hj).2
          have hadd := NewR.add dY (p := wr.heap.size) xw HRC.out.c.here (fun q => by have := vX _ q; omega) HRC.out (fun i hi => by
            have h1 := (HI.out.rc i hi).c.here
            omega) r2 r1 r3
          have HADD := Hid.in hadd
          clear hadd r1 r2 r3 yr dY el xw vX nv
          go_wp2_with (at_builtin; refine wpList_append_run rfl rfl rfl rfl hrun ?_)
          go_roundw
          case rel => exact ⟨k + 1, _, _, by simp, by omega, fun i hi => by
            by_cases e : i = k
            · rw [e]; exact HSK.out
            · exact HOK.out i (by omega), HADD.out⟩
          case measure =>
            simp [intOf]
            omega
        · have HNB : Hid (∀ z, Calls Tryd.prog 42 #[.int .i64 (fs k), .int .i64 (fw k)] z fun e w' => e = .returned (.tuple #[.pointer none, .int .i64 2]) ∧ w' = z) := fun z => rnew_bad (fs k) (fw k) z hsk
          have HSK := Hid.in hsk
          clear b0 hsk
          go_upto_region 7 with fail
          go_region_held3 (fun w' => w'.cell? ⟨sb, so + k, none⟩ = some (.int .i64 (fs k)) ∧ w'.cell? ⟨wb, wo + k, none⟩ = some (.int .i64 (fw k))) (go_keep) (first
            | (go_at_call 42; refine (HNB.out wr.drew).mono ?_; rintro e y ⟨rfl, hy⟩; have hy2 := hy.symm; clear hy; subst hy2))
          go_wp2
          refine bodyPost_ret (v := .tuple #[.pointer none, .int .i64 2]) (by simp [results, Tryd.results23, go_sem]) rfl ⟨HI.out.b.drew, Or.inl ⟨⟨k, hlt, HSK.out⟩, rfl⟩⟩
      · obtain rfl : k = 1 := by omega
        have hlt' : ¬ ((1 : Nat) : Int) < 1 := by omega
        by_cases hdo : dOk len
        · have HDO := Hid.in hdo
          have hmod : (len : Int).tmod 16 = 0 := by rw [Int.tmod_eq_emod_of_nonneg (by omega)]; have := hdo.1; omega
          have hmod2 : (len : Int) % 16 = 0 := by have := hdo.1; omega
          have h40 : ¬ (len : Int) > 4096 := by have := hdo.2; omega
          have h41 : decide ((4096 : Int) < (len : Int)) = false := decide_eq_false h40
          obtain ⟨mq, mb, mc, Y, hrun, hM⟩ := mem_made wr q len dc m (HDD.out.below HI.out.b) HQ0.out hdo.2
          have dY := HI.out.below hM.b
          have w2 : wr.cell? ⟨x.heap.size + 1, 2, none⟩ = some (.slice none 0 0) := HI.out.c.cell 2 (by decide)
          have wh := HI.out.c.here
          have y2 : Y.cell? ⟨x.heap.size + 1, 2, none⟩ = some (.slice none 0 0) := dY.c.cell 2 (by decide)
          have yh := dY.c.here
          have yf := dY.c.free 2
          have HMM := Hid.in hM
          clear hdo dY hM
          go_wp2_with (at_builtin; refine wpList_append_run rfl rfl rfl rfl hrun ?_)
          obtain ⟨g, g1, g0, g2, g3⟩ := HI.out.fin ⟨HDO.out.2, HDO.out.1⟩ (by omega) (fun i hi => by have h9 := (sh_nat (HOK.out i hi)).2.2.1; rw [HN.out] at h9; omega) (fun i hi => by have h9 := (sh_nat (HOK.out i hi)).2.2.2; rw [HWS.out] at h9; exact h9) HMM.out HC.out HM.out
          refine bodyPost_ret (v := .tuple #[.pointer (some ⟨x.heap.size + 1, 0, none⟩), .int .i64 0]) (by simp [results, Tryd.results23, go_sem]) rfl ⟨g3, Or.inr (Or.inr ⟨HOK.out, HDO.out, g, by rw [g1], g0, by rw [HN.out, HWS.out]; exact g2⟩)⟩
        · have HDO := Hid.in hdo
          have hu : undef = Value.tuple #[] := rfl
          unfold dOk at hdo
          have hmod : (len : Int).tmod 16 = ((len % 16 : Nat) : Int) := by rw [Int.tmod_eq_emod_of_nonneg (by omega)]; omega
          have hmod2 : (len : Int) % 16 = ((len % 16 : Nat) : Int) := by omega
          obtain ⟨r, hr⟩ : ∃ r, len % 16 = r := ⟨_, rfl⟩
          rw [hr] at hmod hmod2 hdo
          have hbr : (r = 0 ∧ ¬ len ≤ 4096) ∨ r ≠ 0 := by omega
          clear hdo hr
          rcases hbr with ⟨rfl, h4⟩ | h0
          · have h40 : (len : Int) > 4096 := by omega
            have h41 : decide ((4096 : Int) < (len : Int)) = true := decide_eq_true h40
            go_wp2
            refine bodyPost_ret (v := .tuple #[.pointer none, .int .i64 1]) (by simp [results, Tryd.results23, go_sem]) rfl ⟨HI.out.b, Or.inr (Or.inl ⟨HOK.out, HDO.out, rfl⟩)⟩
          · have h2 : ¬ (r : Int) = 0 := by omega
            have h3 : decide ((r : Int) = 0) = false := decide_eq_false h2
            have h4 : ((r : Int) == 0) = false := by simp; omega
            go_wp2
            refine bodyPost_ret (v := .tuple #[.pointer none, .int .i64 1]) (by simp [results, Tryd.results23, go_sem]) rfl ⟨HI.out.b, Or.inr (Or.inl ⟨HOK.out, HDO.out, rfl⟩)⟩
  · have HMK : ∀ w : World, (Instr.makeSlice 76 (.int .i64 2) (.int .i64 2)).run Tryd.prog w = .ok (.slice (some ⟨w.heap.size, 0, none⟩) 2 2) (w.alloc (.cells #[.bool false, .int .i64 0, .bool false, .bool false, .int .i64 0, .bool false] 74)) := mk2
    obtain ⟨W, hW⟩ : ∃ W, (x.alloc (.cells #[.bool false, .int .i64 0, .bool false, .bool false, .int .i64 0, .bool false] 74)).alloc (.cells #[.slice none 0 0, .int .i64 cyc, .slice none 0 0, .slice (some ⟨x.heap.size, 0, none⟩) 2 2, .int .i64 1, .int .i64 (-1), .int .i64 0] 78) = W := ⟨_, rfl⟩
    have d0 : NewR x W 2 cyc n ws 0 (.slice none 0 0) (fun _ => 0) := by
      have b1 : Below x.heap.size x (x.alloc (.cells #[.bool false, .int .i64 0, .bool false, .bool false, .int .i64 0, .bool false] 74)) := (Below.refl _ _).alloc (Nat.le_refl _) _
      have s1 : (x.alloc (.cells #[.bool false, .int .i64 0, .bool false, .bool false, .int .i64 0, .bool false] 74)).heap.size = x.heap.size + 1 := by simp
      have b2 : Below (x.alloc (.cells #[.bool false, .int .i64 0, .bool false, .bool false, .int .i64 0, .bool false] 74)).heap.size (x.alloc (.cells #[.bool false, .int .i64 0, .bool false, .bool false, .int .i64 0, .bool false] 74)) W := by rw [← hW]; exact (Below.refl _ _).alloc (Nat.le_refl _) _
      have a1 : CellsAt (3 * 2) (x.alloc (.cells #[.bool false, .int .i64 0, .bool false, .bool false, .int .i64 0, .bool false] 74)) x.heap.size (akc (fun _ => none)) := by
        refine ⟨by simp, fun o ho => ?_, fun o => World.frozen?_alloc_at _ _ _ _ rfl⟩
        rw [World.cell?_alloc_new]
        have ho : o = 0 ∨ o = 1 ∨ o = 2 ∨ o = 3 ∨ o = 4 ∨ o = 5 := by omega
        rcases ho with rfl | rfl | rfl | rfl | rfl | rfl <;> rfl
      refine ⟨?_, a1.below b2, World.ownsRow_nil _ _ _ _, fun i hi => absurd hi (by omega), fun i hi => absurd hi (by omega), fun i j hi => absurd hi (by omega), b1.trans (b2.mono (by omega))⟩
      rw [← hW, ← s1]
      refine ⟨by simp, fun o ho => ?_, fun o => World.frozen?_alloc_at _ _ _ _ rfl⟩
      rw [World.cell?_alloc_new, Array.getElem?_eq_getElem (by show o < 7; exact ho)]
      match o, ho with
      | 0, _ => rfl
      | 1, _ => rfl
      | 2, _ => rfl
      | 3, _ => rfl
      | 4, _ => rfl
      | 5, _ => rfl
      | 6, _ => rfl
      | q + 7, h => exact absurd h (by omega)
    have HD0 := Hid.in d0
    clear d0
    go_enter Tryd.func23, Tryd.ntmps23
    go_upto_region 4 with fail
    try rw [hW]
    clear hW HMK
    go_wp2
    go_loopw [11] (fun iv wr => ∃ (k : Nat) (v : Value) (qq : Nat → Nat), iv = .int .i64 k ∧ k ≤ 2 ∧ (∀ i, i < k → shOk fs fw i) ∧ NewR x wr 2 cyc n ws k v qq) (fun iv _ => 3 - (intOf iv).toNat)
    case atStart => exact ⟨0, _, _, rfl, by omega, fun i hi => absurd hi (by omega), HD0.out⟩
    case round =>
      obtain ⟨k, v, qq, rfl, hk, hok, hI⟩ := hrel
      have HOK := Hid.in hok
      have HI := Hid.in hI
      clear hI HD0 hok
      by_cases hlt : k < 2
      · have hlt' : (k : Int) < 2 := by omega
        have b0 := HI.out.b
        have s0 : wr.cell? ⟨sb, so + k, none⟩ = some (.int .i64 (fs k)) := (b0.cell (p := ⟨sb, so + k, none⟩) HSB.out).trans (HS.out k hlt)
        have s1 : wr.cell? ⟨wb, wo + k, none⟩ = some (.int .i64 (fw k)) := (b0.cell (p := ⟨wb, wo + k, none⟩) HWB.out).trans (HW.out k hlt)
        have sh := Nat.lt_of_lt_of_le HSB.out b0.size
        have wh := Nat.lt_of_lt_of_le HWB.out b0.size
        by_cases hsk : shOk fs fw k
        · obtain ⟨g1, g2, g3, g4, g5⟩ := sh_nat hsk
          rw [HN.out] at g1 g3
          rw [HWS.out] at g2 g4 g5
          have HNG : Hid (∀ z, Below wr.heap.size wr z → Calls Tryd.prog 42 #[.int .i64 (fs k), .int .i64 (fw k)] z fun e w' => e = .returned (.tuple #[.pointer (some ⟨z.heap.size, 0, none⟩), .int .i64 0]) ∧ RC w' x.heap.size z.heap.size (.slice none 0 0) (n k) (ws k) [] ∧ Below z.heap.size z w') := fun z hz => by
            rw [g1, g2]
            exact rnew_good x.heap.size (n k) (ws k) z (Nat.le_trans b0.size hz.size) g3 ⟨g4, g5⟩
          have HSK := Hid.in hsk
          clear b0 g1 g2 g3 g4 g5 hsk
          go_upto_region 7 with fail
          go_region_held3 (fun w' => w'.cell? ⟨sb, so + k, none⟩ = some (.int .i64 (fs k)) ∧ w'.cell? ⟨wb, wo + k, none⟩ = some (.int .i64 (fw k))) (go_keep) (first
            | (go_at_call 42; refine (HNG.out wr.drew ⟨rfl, rfl, rfl, Nat.le_refl _, fun _ _ => rfl⟩).mono ?_; rintro e y ⟨rfl, hrc, hb⟩; have y0 : y.cell? ⟨sb, so + k, none⟩ = some (.int .i64 (fs k)) := (hb.cell (p := ⟨sb, so + k, none⟩) sh).trans s0; have y1 : y.cell? ⟨wb, wo + k, none⟩ = some (.int .i64 (fw k)) := (hb.cell (p := ⟨wb, wo + k, none⟩) wh).trans s1; have HRC := Hid.in hrc; have HB := Hid.in hb; clear hrc hb))
          clear s0 s1 sh wh y0 y1
          have bD : Below wr.heap.size wr wr.drew := ⟨rfl, rfl, rfl, Nat.le_refl _, fun _ _ => rfl⟩
          have dY := (HI.out.below bD).below HB.out
          have yp : y.cell? ⟨x.heap.size + 1, 0, none⟩ = some v := dY.c.cell 0 (by decide)
          have yh := dY.c.here
          have yr := dY.row
          have yf := dY.c.free
          have el := ptrs_len qq k
          have hsw : wr.drew.heap.size = wr.heap.size := rfl
          rw [hsw] at HRC HB
          obtain ⟨g2, cap, z, hrun, r1, r2, r3⟩ := app_ptr9 (B := x.heap.size + 2) y v (ptrs qq k) wr.heap.size (by rw [el]; exact yr) (by rw [el]; omega) (by omega)
          rw [el] at hrun r1
          have nv : ¬ v.ownBlock = some (x.heap.size + 1) := fun q => by have := (own_base yr _ q).1; omega
          have zp : z.cell? ⟨x.heap.size + 1, 0, none⟩ = some v := r2.to_cell yh nv yp
          have zf : z.frozen? ⟨x.heap.size + 1, 0, none⟩ = false := (World.frozen?_of_block (r2.block (x.heap.size + 1) yh nv)).trans (dY.c.free 0)
          have zh := Nat.lt_of_lt_of_le yh r2.size
          have xw : x.heap.size + 1 < wr.heap.size := HI.out.c.here
          have vX : ∀ j, v.ownBlock = some j → j < wr.heap.size := fun j hj => (own_base HI.out.row j hj).2
          have hadd := NewR.add dY (p := wr.heap.size) xw HRC.out.c.here (fun q => by have := vX _ q; omega) HRC.out (fun i hi => by
            have h1 := (HI.out.rc i hi).c.here
            omega) r2 r1 r3
          have HADD := Hid.in hadd
          clear hadd r1 r2 r3 yr dY el xw vX nv
          go_wp2_with (at_builtin; refine wpList_append_run rfl rfl rfl rfl hrun ?_)
          go_roundw
          case rel => exact ⟨k + 1, _, _, by simp, by omega, fun i hi => by
            by_cases e : i = k
            · rw [e]; exact HSK.out
            · exact HOK.out i (by omega), HADD.out⟩
          case measure =>
            simp [intOf]
            omega
        · have HNB : Hid (∀ z, Calls Tryd.prog 42 #[.int .i64 (fs k), .int .i64 (fw k)] z fun e w' => e = .returned (.tuple #[.pointer none, .int .i64 2]) ∧ w' = z) := fun z => rnew_bad (fs k) (fw k) z hsk
          have HSK := Hid.in hsk
          clear b0 hsk
          go_upto_region 7 with fail
          go_region_held3 (fun w' => w'.cell? ⟨sb, so + k, none⟩ = some (.int .i64 (fs k)) ∧ w'.cell? ⟨wb, wo + k, none⟩ = some (.int .i64 (fw k))) (go_keep) (first
            | (go_at_call 42; refine (HNB.out wr.drew).mono ?_; rintro e y ⟨rfl, hy⟩; have hy2 := hy.symm; clear hy; subst hy2))
          go_wp2
          refine bodyPost_ret (v := .tuple #[.pointer none, .int .i64 2]) (by simp [results, Tryd.results23, go_sem]) rfl ⟨HI.out.b.drew, Or.inl ⟨⟨k, hlt, HSK.out⟩, rfl⟩⟩
      · obtain rfl : k = 2 := by omega
        have hlt' : ¬ ((2 : Nat) : Int) < 2 := by omega
        by_cases hdo : dOk len
        · have HDO := Hid.in hdo
          have hmod : (len : Int).tmod 16 = 0 := by rw [Int.tmod_eq_emod_of_nonneg (by omega)]; have := hdo.1; omega
          have hmod2 : (len : Int) % 16 = 0 := by have := hdo.1; omega
          have h40 : ¬ (len : Int) > 4096 := by have := hdo.2; omega
          have h41 : decide ((4096 : Int) < (len : Int)) = false := decide_eq_false h40
          obtain ⟨mq, mb, mc, Y, hrun, hM⟩ := mem_made wr q len dc m (HDD.out.below HI.out.b) HQ0.out hdo.2
          have dY := HI.out.below hM.b
          have w2 : wr.cell? ⟨x.heap.size + 1, 2, none⟩ = some (.slice none 0 0) := HI.out.c.cell 2 (by decide)
          have wh := HI.out.c.here
          have y2 : Y.cell? ⟨x.heap.size + 1, 2, none⟩ = some (.slice none 0 0) := dY.c.cell 2 (by decide)
          have yh := dY.c.here
          have yf := dY.c.free 2
          have HMM := Hid.in hM
          clear hdo dY hM
          go_wp2_with (at_builtin; refine wpList_append_run rfl rfl rfl rfl hrun ?_)
          obtain ⟨g, g1, g0, g2, g3⟩ := HI.out.fin ⟨HDO.out.2, HDO.out.1⟩ (by omega) (fun i hi => by have h9 := (sh_nat (HOK.out i hi)).2.2.1; rw [HN.out] at h9; omega) (fun i hi => by have h9 := (sh_nat (HOK.out i hi)).2.2.2; rw [HWS.out] at h9; exact h9) HMM.out HC.out HM.out
          refine bodyPost_ret (v := .tuple #[.pointer (some ⟨x.heap.size + 1, 0, none⟩), .int .i64 0]) (by simp [results, Tryd.results23, go_sem]) rfl ⟨g3, Or.inr (Or.inr ⟨HOK.out, HDO.out, g, by rw [g1], g0, by rw [HN.out, HWS.out]; exact g2⟩)⟩
        · have HDO := Hid.in hdo
          have hu : undef = Value.tuple #[] := rfl
          unfold dOk at hdo
          have hmod : (len : Int).tmod 16 = ((len % 16 : Nat) : Int) := by rw [Int.tmod_eq_emod_of_nonneg (by omega)]; omega
          have hmod2 : (len : Int) % 16 = ((len % 16 : Nat) : Int) := by omega
          obtain ⟨r, hr⟩ : ∃ r, len % 16 = r := ⟨_, rfl⟩
          rw [hr] at hmod hmod2 hdo
          have hbr : (r = 0 ∧ ¬ len ≤ 4096) ∨ r ≠ 0 := by omega
          clear hdo hr
          rcases hbr with ⟨rfl, h4⟩ | h0
          · have h40 : (len : Int) > 4096 := by omega
            have h41 : decide ((4096 : Int) < (len : Int)) = true := decide_eq_true h40
            go_wp2
            refine bodyPost_ret (v := .tuple #[.pointer none, .int .i64 1]) (by simp [results, Tryd.results23, go_sem]) rfl ⟨HI.out.b, Or.inr (Or.inl ⟨HOK.out, HDO.out, rfl⟩)⟩
          · have h2 : ¬ (r : Int) = 0 := by omega
            have h3 : decide ((r : Int) = 0) = false := decide_eq_false h2
            have h4 : ((r : Int) == 0) = false := by simp; omega
            go_wp2
            refine bodyPost_ret (v := .tuple #[.pointer none, .int .i64 1]) (by simp [results, Tryd.results23, go_sem]) rfl ⟨HI.out.b, Or.inr (Or.inl ⟨HOK.out, HDO.out, rfl⟩)⟩
end Go.Proofs.YtlogdmnhngbkaaaDoor
