import Derived.Test.YthbffonedpeeiaaDoorZmc
/-
  LSQ's LAW LsqMemory: turn.
-/
namespace Go.Proofs.YthbffonedpeeiaaDoor
open Go Go.RowKit
set_option maxRecDepth 100000 in
set_option maxHeartbeats 1000000 in
theorem xturn_v (g : Nat → Acc) (n r i k : Nat) (w0 w : World) (q cl : Nat) (v : Value) (lp : Option Addr) (b : Nat → Nat) (M : Ms) (bold : Bool) (hl : Accs w0 lp n g) (hn : n ≤ 60) (X : Xm w0 w q v (.slice lp n cl) b n M) (K : Kept g n M r) (hi : i < M.inn - M.out) (hk : k = M.out + i) (hst : (g k).st = true) (hgv : M.given k = true) (hkv : M.known k = false) : Calls Tryd.prog 33 #[.pointer (some ⟨b 0, 0, none⟩), .int .i64 k, .bool bold] w fun e y => e = .returned (.bool true) ∧ ∃ M' v', Xm w0 y q v' (.slice lp n cl) b n M' ∧ Kept g n M' r ∧ Went g M M' i := by
  have HKV := Hid.in hkv
  clear hkv
  have hio := K.io
  have hlen := K.len
  have hkn : k < n := by omega
  obtain ⟨sb, so, rfl, hsb, s0, s1, s2, s3, fit⟩ := hl k hkn
  have e0 := (X.low.cell (p := ⟨sb, so + k * 4, none⟩) hsb).trans s0
  have e1 := (X.low.cell (p := ⟨sb, so + k * 4 + 1, none⟩) hsb).trans s1
  have e2 := (X.low.cell (p := ⟨sb, so + k * 4 + 2, none⟩) hsb).trans s2
  have e3 := (X.low.cell (p := ⟨sb, so + k * 4 + 3, none⟩) hsb).trans s3
  have hsb' : sb < w.heap.size := Nat.lt_of_lt_of_le hsb X.low.size
  have hmul : (k : Int) * 4 = ((k * 4 : Nat) : Int) := by omega
  have hwh := fun x => where_any (g k) x fit
  have hzi := (g k).z_is
  have hai := (g k).a_is
  unfold Acc.vs at hwh
  rw [hst] at e0 hwh
  have HX := Hid.in X
  have HK := Hid.in K
  have HHI := Hid.in hi
  have HHK := Hid.in hk
  have HDA := Hid.in fit.d
  have HRI := Hid.in (show r + i < M.S.on.length by omega)
  obtain ⟨hb0, -, c1, -⟩ := X.cells
  obtain ⟨a, ha⟩ : ∃ a, (g k).a = a := ⟨_, rfl⟩
  obtain ⟨z, hz⟩ : ∃ z, (g k).z = z := ⟨_, rfl⟩
  rw [ha, hz] at hai
  rw [hz] at hzi
  have HA := Hid.in ha
  have HZ := Hid.in hz
  obtain ⟨da, hda⟩ : ∃ da, (g k).da = da := ⟨_, rfl⟩
  have HDD := Hid.in hda
  rw [ha, hz, hda] at hwh
  rw [hda] at e3
  generalize (g k).ad = ad at e1 hwh
  generalize (g k).sz = sz at e2 hwh
  have HWH := Hid.in hwh
  have HST := Hid.in hst
  have HGV := Hid.in hgv
  have hk1 : k < 60 := by omega
  clear X K hi hk ha hz hda hwh hst hgv fit s0 s1 s2 s3
  go_enter Tryd.func33, Tryd.ntmps33
  go_upto_region 2 with fail
  obtain ⟨X1, hX1, bX1, hW1, d0, d1, d2, d3, dl⟩ := box4 w (.bool true) (.int .i64 ad) (.int .i64 sz) (.int .u32 da) 74
  rw [hX1]
  have HW1 := Hid.in hW1
  have HBX := Hid.in bX1
  clear hX1 hW1 bX1 e0 e1 e2 e3 c1 hb0 hsb'
  generalize hab : w.heap.size = ab at HW1 d0 d1 d2 d3 dl ⊢
  have HAB := Hid.in hab
  clear hab
  go_upto_region 3 with (go_at_call 35; refine (HWH.out _).mono ?_; rintro e W ⟨rfl, hb⟩; have HB := Hid.in hb; clear hb)
  clear d0 d1 d2 d3 dl
  obtain ⟨a0, a3, al⟩ := HW1.out W HB.out
  have HXW := Hid.in (HX.out.below (below2 HBX.out HB.out))
  obtain ⟨hb0, c0, c1, c2, c3, c4, c5, c6, c7, c8⟩ := HXW.out.cells
  obtain ⟨g2, f2, h2⟩ := HXW.out.row2 k hkn
  rw [HGV.out] at g2
  have hri := HRI.out
  have hpn := HK.out.num i HHI.out
  have hpr := (HK.out.new i HHI.out)
  have hgi := HK.out.giv i HHI.out
  rw [← HHK.out] at hpn hpr hgi
  rw [HGV.out, if_pos rfl, HA.out, HZ.out] at hgi
  have hsl : (M.S.at (r + i)).st = true := by rw [hpr.2]; exact HST.out
  have hkk : (M.S.at (r + i)).hv = M.known k ∧ (M.known k = true → (M.S.at (r + i)).d = (g k).da) := by
    have := HK.out.kno i HHI.out
    rw [← HHK.out] at this
    exact this HST.out
  rw [HKV.out] at hkk
  have hdk : M.done k = false := by
    have := HK.out.don i HHI.out
    rw [← HHK.out] at this
    cases hd : M.done k
    · rfl
    · rw [if_pos hd, HST.out] at this
      cases this.1
  have hfr : (M.S.at (r + i)).fr = [] := by
    have := HK.out.don i HHI.out
    rw [← HHK.out, hdk, if_neg (by simp)] at this
    exact this
  have hP : First (M.S.pend k) M.S.on.length (r + i : Nat) := by
    refine Or.inl ⟨r + i, by omega, ?_, fun j hj => ?_, rfl⟩
    · unfold QS.pend
      rw [hpn, hpr.1]
      simp
    · unfold QS.pend
      have := HK.out.asc j (r + i) hj (by omega)
      rw [decide_eq_false (by omega)]
      rfl
  have hdl : da < 4294967296 := by rw [← HDD.out]; exact HDA.out
  obtain ⟨y, hy⟩ : ∃ y, ({ M.S.at (r + i) with d := da, hv := true } : Ac) = y := ⟨_, rfl⟩
  have yn : y.n = (M.S.at (r + i)).n ∧ y.st = (M.S.at (r + i)).st ∧ y.rt = (M.S.at (r + i)).rt ∧ y.fr = (M.S.at (r + i)).fr ∧ y.a = (M.S.at (r + i)).a ∧ y.z = (M.S.at (r + i)).z ∧ y.hv = true ∧ y.d = da := by rw [← hy]; exact ⟨rfl, rfl, rfl, rfl, rfl, rfl, rfl, rfl⟩
  have HVL : Hid (∀ x, Below W.heap.size W x → Calls Tryd.prog 12 #[.pointer (some ⟨q, 0, none⟩), .int .i64 k, .int .u32 da] x fun e x' => e = .returned .nilIface ∧ Xm w0 x' q v (.slice (some ⟨sb, so, none⟩) n cl) b n { M with S := M.S.set (r + i) y } ∧ x'.cell? ⟨b 0, 0, none⟩ = some (.pointer (some ⟨q, 0, none⟩)) ∧ x'.cell? ⟨ab, 3, none⟩ = some (.int .u32 da)) := fun x hx => by
    have kx := HXW.out.below hx
    refine (value_good _ q v M.S k (r + i) da x kx.qm hP (by omega) hsl hkk.1 hdl).mono fun e x' h => ?_
    obtain ⟨h1, h2⟩ := h
    rw [hy] at h2
    have kx' : Xm w0 x' q v (.slice (some ⟨sb, so, none⟩) n cl) b n { M with S := M.S.set (r + i) y } := kx.onQ rfl rfl rfl rfl rfl rfl rfl h2
    have hna : ¬ qmine q v M.S ab := fun q => by
      have := (HX.out.qm.low ab q).2
      have := HAB.out
      omega
    refine ⟨h1, kx', kx'.cells.2.1, h2.t.to_cell (Nat.lt_of_lt_of_le al hx.size) hna ((hx.cell (p := ⟨ab, 3, none⟩) al).trans a3)⟩
  have HKN : Hid (Kept g n { M with S := M.S.set (r + i) y, known := upd M.known k true } r) := by
    refine HK.out.turn i HHI.out y M.got M.given (upd M.known k true) M.done yn.1 (by rw [yn.2.2.1]; exact hpr.1) yn.2.1 (fun t ht => ⟨rfl, rfl, upd_other _ _ _ _ (by rw [HHK.out]; exact ht), rfl⟩) ?_ ?_ ?_ (fun j hj hne u hu => hu.store (by omega) hne yn.2.1 yn.1 yn.2.2.2.2.1 yn.2.2.2.2.2.1 (fun q => by rw [hkk.1] at q; cases q))
    · rw [← HHK.out, HGV.out, if_pos rfl, HA.out, HZ.out, yn.2.2.2.2.1, yn.2.2.2.2.2.1]
      exact hgi
    · rw [← HHK.out, upd_same]
      exact fun _ => ⟨yn.2.2.2.2.2.2.1, fun _ => by rw [HDD.out]; exact yn.2.2.2.2.2.2.2⟩
    · rw [← HHK.out, hdk, if_neg (by simp), yn.2.2.2.1]
      exact hfr
  obtain ⟨g3, f3, h3⟩ := HXW.out.row3 k hkn
  rw [HKV.out] at g3
  clear hpn hpr hsl hP hfr hio hlen hzi hai hri hkk hdk yn hy hgi hdl
  go_upto_region 13 with fail
  go_region_held3 (fun w' => w'.cell? ⟨b 0, 0, none⟩ = some (.pointer (some ⟨q, 0, none⟩)) ∧ w'.cell? ⟨ab, 3, none⟩ = some (.int .u32 da)) (go_keep) ((go_at_call 12; refine (HVL.out _ (by repeat (with_reducible first | exact Below.refl _ _ | refine Below.drew ?_))).mono ?_; rintro e y1 ⟨rfl, hx1, k1, k2⟩; have HY := Hid.in hx1; clear hx1))
  clear hb0 c0 c1 c2 c3 c4 c5 c6 c7 c8 g2 f2 h2 a0 a3 al g3 f3 h3 k1 k2
  obtain ⟨hb0, c0, c1, c2, c3, c4, c5, c6, c7, c8⟩ := HY.out.cells
  obtain ⟨g3, f3, h3⟩ := HY.out.row3 k hkn
  go_wp2
  go_ret
  refine ⟨rfl, _, ⟨v, HY.out.setKnown k true hkn⟩, HKN.out, ⟨rfl, ⟨by have := HHI.out; show M.out + i < M.inn; omega, Nat.le_refl _⟩, fun t ht => ⟨rfl, upd_other _ _ _ _ (by have := HHK.out; omega), rfl⟩, by rw [← HHK.out]; exact HGV.out, fun _ _ => ?_, fun _ q => ?_⟩⟩
  · show upd M.known k true (M.out + i) = true
    rw [← HHK.out, upd_same]
  · rw [← HHK.out, HST.out] at q
    cases q
set_option maxRecDepth 100000 in
set_option maxHeartbeats 1000000 in
theorem xturn_ds (g : Nat → Acc) (n r i k : Nat) (w0 w : World) (q cl : Nat) (v : Value) (lp : Option Addr) (b : Nat → Nat) (M : Ms) (bold : Bool) (hl : Accs w0 lp n g) (hn : n ≤ 60) (X : Xm w0 w q v (.slice lp n cl) b n M) (K : Kept g n M r) (hi : i < M.inn - M.out) (hk : k = M.out + i) (hst : (g k).st = true) (hgv : M.given k = true) (hkv : M.known k = true) : Calls Tryd.prog 33 #[.pointer (some ⟨b 0, 0, none⟩), .int .i64 k, .bool bold] w fun e y => e = .returned (.bool true) ∧ ∃ M' v', Xm w0 y q v' (.slice lp n cl) b n M' ∧ Kept g n M' r ∧ Went g M M' i := by
  have HKV := Hid.in hkv
  clear hkv
  have hio := K.io
  have hlen := K.len
  have hkn : k < n := by omega
  obtain ⟨sb, so, rfl, hsb, s0, s1, s2, s3, fit⟩ := hl k hkn
  have e0 := (X.low.cell (p := ⟨sb, so + k * 4, none⟩) hsb).trans s0
  have e1 := (X.low.cell (p := ⟨sb, so + k * 4 + 1, none⟩) hsb).trans s1
  have e2 := (X.low.cell (p := ⟨sb, so + k * 4 + 2, none⟩) hsb).trans s2
  have e3 := (X.low.cell (p := ⟨sb, so + k * 4 + 3, none⟩) hsb).trans s3
  have hsb' : sb < w.heap.size := Nat.lt_of_lt_of_le hsb X.low.size
  have hmul : (k : Int) * 4 = ((k * 4 : Nat) : Int) := by omega
  have hwh := fun x => where_any (g k) x fit
  have hzi := (g k).z_is
  have hai := (g k).a_is
  unfold Acc.vs at hwh
  rw [hst] at e0 hwh
  have HX := Hid.in X
  have HK := Hid.in K
  have HHI := Hid.in hi
  have HHK := Hid.in hk
  have HDA := Hid.in fit.d
  have HRI := Hid.in (show r + i < M.S.on.length by omega)
  obtain ⟨hb0, -, c1, -⟩ := X.cells
  obtain ⟨a, ha⟩ : ∃ a, (g k).a = a := ⟨_, rfl⟩
  obtain ⟨z, hz⟩ : ∃ z, (g k).z = z := ⟨_, rfl⟩
  rw [ha, hz] at hai
  rw [hz] at hzi
  have HA := Hid.in ha
  have HZ := Hid.in hz
  obtain ⟨da, hda⟩ : ∃ da, (g k).da = da := ⟨_, rfl⟩
  have HDD := Hid.in hda
  rw [ha, hz, hda] at hwh
  rw [hda] at e3
  generalize (g k).ad = ad at e1 hwh
  generalize (g k).sz = sz at e2 hwh
  have HWH := Hid.in hwh
  have HST := Hid.in hst
  have HGV := Hid.in hgv
  have hk1 : k < 60 := by omega
  clear X K hi hk ha hz hda hwh hst hgv fit s0 s1 s2 s3
  go_enter Tryd.func33, Tryd.ntmps33
  go_upto_region 2 with fail
  obtain ⟨X1, hX1, bX1, hW1, d0, d1, d2, d3, dl⟩ := box4 w (.bool true) (.int .i64 ad) (.int .i64 sz) (.int .u32 da) 74
  rw [hX1]
  have HW1 := Hid.in hW1
  have HBX := Hid.in bX1
  clear hX1 hW1 bX1 e0 e1 e2 e3 c1 hb0 hsb'
  generalize hab : w.heap.size = ab at HW1 d0 d1 d2 d3 dl ⊢
  have HAB := Hid.in hab
  clear hab
  go_upto_region 3 with (go_at_call 35; refine (HWH.out _).mono ?_; rintro e W ⟨rfl, hb⟩; have HB := Hid.in hb; clear hb)
  clear d0 d1 d2 d3 dl
  obtain ⟨a0, a3, al⟩ := HW1.out W HB.out
  have HXW := Hid.in (HX.out.below (below2 HBX.out HB.out))
  obtain ⟨hb0, c0, c1, c2, c3, c4, c5, c6, c7, c8⟩ := HXW.out.cells
  obtain ⟨g2, f2, h2⟩ := HXW.out.row2 k hkn
  rw [HGV.out] at g2
  obtain ⟨g3, f3, h3⟩ := HXW.out.row3 k hkn
  rw [HKV.out] at g3
  clear hio hlen hzi hai
  go_wp2
  go_ret
  refine ⟨rfl, M, v, HXW.out, HK.out, ⟨rfl, ⟨by have := HHI.out; show M.out + i < M.inn; omega, Nat.le_refl _⟩, fun t ht => ⟨rfl, rfl, rfl⟩, by rw [← HHK.out]; exact HGV.out, fun _ q => ?_, fun _ q _ => ?_⟩⟩
  · rw [← HHK.out]
    exact HKV.out
  · rw [← HHK.out, HST.out] at q
    cases q
set_option maxRecDepth 100000 in
set_option maxHeartbeats 1000000 in
theorem xturn_dl (g : Nat → Acc) (n r i k : Nat) (w0 w : World) (q cl : Nat) (v : Value) (lp : Option Addr) (b : Nat → Nat) (M : Ms) (bold : Bool) (hl : Accs w0 lp n g) (hn : n ≤ 60) (X : Xm w0 w q v (.slice lp n cl) b n M) (K : Kept g n M r) (hi : i < M.inn - M.out) (hk : k = M.out + i) (hst : (g k).st = false) (hgv : M.given k = true) (hkv : M.done k = true) : Calls Tryd.prog 33 #[.pointer (some ⟨b 0, 0, none⟩), .int .i64 k, .bool bold] w fun e y => e = .returned (.bool true) ∧ ∃ M' v', Xm w0 y q v' (.slice lp n cl) b n M' ∧ Kept g n M' r ∧ Went g M M' i := by
  have HKV := Hid.in hkv
  clear hkv
  have hio := K.io
  have hlen := K.len
  have hkn : k < n := by omega
  obtain ⟨sb, so, rfl, hsb, s0, s1, s2, s3, fit⟩ := hl k hkn
  have e0 := (X.low.cell (p := ⟨sb, so + k * 4, none⟩) hsb).trans s0
  have e1 := (X.low.cell (p := ⟨sb, so + k * 4 + 1, none⟩) hsb).trans s1
  have e2 := (X.low.cell (p := ⟨sb, so + k * 4 + 2, none⟩) hsb).trans s2
  have e3 := (X.low.cell (p := ⟨sb, so + k * 4 + 3, none⟩) hsb).trans s3
  have hsb' : sb < w.heap.size := Nat.lt_of_lt_of_le hsb X.low.size
  have hmul : (k : Int) * 4 = ((k * 4 : Nat) : Int) := by omega
  have hwh := fun x => where_any (g k) x fit
  have hzi := (g k).z_is
  have hai := (g k).a_is
  unfold Acc.vs at hwh
  rw [hst] at e0 hwh
  have HX := Hid.in X
  have HK := Hid.in K
  have HHI := Hid.in hi
  have HHK := Hid.in hk
  have HDA := Hid.in fit.d
  have HRI := Hid.in (show r + i < M.S.on.length by omega)
  obtain ⟨hb0, -, c1, -⟩ := X.cells
  obtain ⟨a, ha⟩ : ∃ a, (g k).a = a := ⟨_, rfl⟩
  obtain ⟨z, hz⟩ : ∃ z, (g k).z = z := ⟨_, rfl⟩
  rw [ha, hz] at hai
  rw [hz] at hzi
  have HA := Hid.in ha
  have HZ := Hid.in hz
  obtain ⟨da, hda⟩ : ∃ da, (g k).da = da := ⟨_, rfl⟩
  have HDD := Hid.in hda
  rw [ha, hz, hda] at hwh
  rw [hda] at e3
  generalize (g k).ad = ad at e1 hwh
  generalize (g k).sz = sz at e2 hwh
  have HWH := Hid.in hwh
  have HST := Hid.in hst
  have HGV := Hid.in hgv
  have hk1 : k < 60 := by omega
  clear X K hi hk ha hz hda hwh hst hgv fit s0 s1 s2 s3
  go_enter Tryd.func33, Tryd.ntmps33
  go_upto_region 2 with fail
  obtain ⟨X1, hX1, bX1, hW1, d0, d1, d2, d3, dl⟩ := box4 w (.bool false) (.int .i64 ad) (.int .i64 sz) (.int .u32 da) 74
  rw [hX1]
  have HW1 := Hid.in hW1
  have HBX := Hid.in bX1
  clear hX1 hW1 bX1 e0 e1 e2 e3 c1 hb0 hsb'
  generalize hab : w.heap.size = ab at HW1 d0 d1 d2 d3 dl ⊢
  have HAB := Hid.in hab
  clear hab
  go_upto_region 3 with (go_at_call 35; refine (HWH.out _).mono ?_; rintro e W ⟨rfl, hb⟩; have HB := Hid.in hb; clear hb)
  clear d0 d1 d2 d3 dl
  obtain ⟨a0, a3, al⟩ := HW1.out W HB.out
  have HXW := Hid.in (HX.out.below (below2 HBX.out HB.out))
  obtain ⟨hb0, c0, c1, c2, c3, c4, c5, c6, c7, c8⟩ := HXW.out.cells
  obtain ⟨g2, f2, h2⟩ := HXW.out.row2 k hkn
  rw [HGV.out] at g2
  obtain ⟨g3, f3, h3⟩ := HXW.out.row4 k hkn
  rw [HKV.out] at g3
  clear hio hlen hzi hai
  go_wp2
  go_ret
  refine ⟨rfl, M, v, HXW.out, HK.out, ⟨rfl, ⟨by have := HHI.out; show M.out + i < M.inn; omega, Nat.le_refl _⟩, fun t ht => ⟨rfl, rfl, rfl⟩, by rw [← HHK.out]; exact HGV.out, fun _ q => ?_, fun _ q _ => ?_⟩⟩
  · rw [← HHK.out, HST.out] at q
    cases q
  · rw [← HHK.out]
    exact HKV.out
end Go.Proofs.YthbffonedpeeiaaDoor
/-
  LSQ's LAW LsqMemory: turn.
-/
namespace Go.Proofs.YthbffonedpeeiaaDoor
open Go Go.RowKit
theorem lastI_cutZ {f : Nat → Bool} (i : Nat) : ∀ n, i ≤ n → (∀ j, i ≤ j → j < n → f j = false) → lastI f n = lastI f i
  | 0, h, _ => by
    obtain rfl : i = 0 := by omega
    rfl
  | n + 1, h, e => by
    by_cases q : i = n + 1
    · rw [q]
    · have := lastI_cutZ i n (by omega) (fun j h1 h2 => e j h1 (by omega))
      rw [← this]
      show (if f n then (n : Int) else lastI f n) = lastI f n
      rw [e n (by omega) (by omega)]
      rfl
theorem of_from {S : QS} (asc : ∀ a b, a < b → b < S.on.length → (S.at a).n < (S.at b).n) (J y : Nat) (hJ : J < S.on.length) : S.of (S.at J).n y = S.from' J y := by
  unfold QS.of QS.from'
  rw [lastI_cutZ J S.on.length (by omega) (fun j h1 h2 => ?_)]
  · refine lastI_same J (fun j hj => ?_)
    unfold QS.src QS.cv
    rw [decide_eq_true (asc j J hj hJ), Bool.and_true]
  · unfold QS.src
    have : ¬ (S.at j).n < (S.at J).n := by
      by_cases e : J = j
      · subst e; omega
      · have := asc J j (by omega) h2
        omega
    rw [decide_eq_false this]
    simp
theorem nums_from {S : QS} (asc : ∀ a b, a < b → b < S.on.length → (S.at a).n < (S.at b).n) (J : Nat) (hJ : J < S.on.length) : S.nums (S.at J) = (List.range (S.at J).z).map fun b => S.num (S.from' J ((S.at J).a + b)) := by
  unfold QS.nums QS.ofs
  rw [List.map_map]
  exact List.map_congr_left fun b _ => by
    show S.num (S.of (S.at J).n ((S.at J).a + b)) = _
    rw [of_from asc J _ hJ]
theorem ofs_from {S : QS} (asc : ∀ a b, a < b → b < S.on.length → (S.at a).n < (S.at b).n) (J b : Nat) (hJ : J < S.on.length) (hb : b < (S.at J).z) : (S.ofs (S.at J)).getD b 0 = S.from' J ((S.at J).a + b) := by
  rw [S.ofs_at _ b hb, of_from asc J _ hJ]
theorem any_ff {f : Nat → Bool} {n : Nat} (h : (List.range n).any f = false) (k : Nat) (hk : k < n) : f k = false := by
  rw [List.any_eq_false] at h
  have := h k (List.mem_range.2 hk)
  simpa using this
theorem any_fz {f : Nat → Bool} {n : Nat} (h : ∀ k, k < n → f k = false) : (List.range n).any f = false := by
  rw [List.any_eq_false]
  exact fun i hi => by rw [h i (List.mem_range.1 hi)]; simp
/-- the oldest load waits for nobody -/
theorem Kept.nowait {g : Nat → Acc} {n : Nat} {M : Ms} {r : Nat} (K : Kept g n M r) (h : M.out < M.inn) (bold : Bool) : M.S.waits (M.S.at r) bold = false := by
  have hlen := K.len
  have hr : r < M.S.on.length := by omega
  unfold QS.waits
  have h1 : M.S.lacks (M.S.at r) = false := by
    unfold QS.lacks
    refine any_fz fun b hb => ?_
    rw [ofs_from K.asc r b hr hb]
    unfold QS.lack
    have := from_lt M.S r ((M.S.at r).a + b)
    by_cases q : M.S.from' r ((M.S.at r).a + b) = -1
    · rw [q]; rfl
    · rw [(K.old _ (by omega)).2.2.2.1]
      simp
  have h2 : M.S.unks (M.S.at r) = false := by
    unfold QS.unks
    refine any_fz fun j hj => ?_
    unfold QS.unk
    rcases Nat.lt_or_ge j r with c | c
    · have := (K.old j c).2.2.1
      unfold Ac.placed
      rw [decide_eq_true (show 0 < (M.S.at j).z from this)]
      simp
    · have : ¬ (M.S.at j).n < (M.S.at r).n := by
        by_cases e : r = j
        · subst e; omega
        · have := K.asc r j (by omega) hj
          omega
      rw [decide_eq_false this]
      simp
  rw [h1, h2]
  simp
/-- what the law mixes -/
def mixC (d : Nat → Nat) (l : Nat → Int) (mem : Nat → Nat) (j : Nat) : Nat → Nat := fun t => if t < j ∧ l t ≠ -1 then d t else mem t
theorem mixC_next (d : Nat → Nat) (l : Nat → Int) (mem : Nat → Nat) (j : Nat) (h : l j ≠ -1) : mixC d l mem (j + 1) = upd (mixC d l mem j) j (d j) := by
  funext t
  unfold mixC upd
  by_cases e : t = j
  · rw [if_pos e, e, if_pos ⟨by omega, h⟩]
  · rw [if_neg e]
    show _ = if t < j ∧ l t ≠ -1 then d t else mem t
    by_cases c : t < j ∧ l t ≠ -1
    · rw [if_pos c, if_pos ⟨by omega, c.2⟩]
    · rw [if_neg c, if_neg (fun q => c ⟨by omega, q.2⟩)]
theorem mixC_skip (d : Nat → Nat) (l : Nat → Int) (mem : Nat → Nat) (j : Nat) (h : l j = -1) : mixC d l mem (j + 1) = mixC d l mem j := by
  funext t
  unfold mixC
  by_cases c : t < j ∧ l t ≠ -1
  · rw [if_pos c, if_pos ⟨by omega, c.2⟩]
  · rw [if_neg c, if_neg (fun q => c ⟨by
      rcases Nat.lt_or_ge t j with r | r
      · exact r
      · obtain rfl : t = j := by omega
        exact absurd h q.2, q.2⟩)]
theorem i64_and_nat (a b : Nat) (ha : a < 9223372036854775808) (hb : b < 9223372036854775808) : bits .and .i64 (a : Int) (b : Int) = ((a &&& b : Nat) : Int) := by
  have hx : a &&& b < 2 ^ 63 := Nat.lt_of_le_of_lt Nat.and_le_left (by omega)
  show IntKind.i64.wrap ((BitVec.ofInt 64 (a : Int) &&& BitVec.ofInt 64 (b : Int)).toNat : Int) = _
  rw [BitVec.toNat_and, ofInt_64 a ha, ofInt_64 b hb, IntKind.wrap_i64]
  omega
theorem bit_is (gm j x : Nat) (hg : gm < 16) (h : gm / 2 ^ j % 2 = x) : bits .and .i64 ((gm : Int) / 2 ^ j) 1 = (x : Int) := by
  have e : (gm : Int) / 2 ^ j = ((gm / 2 ^ j : Nat) : Int) := by simp
  have h1 : gm / 2 ^ j ≤ gm := Nat.div_le_self _ _
  rw [e]
  have := i64_and_nat (gm / 2 ^ j) 1 (by omega) (by omega)
  rw [nat_mask1, h] at this
  exact this
set_option maxRecDepth 100000 in
set_option maxHeartbeats 1000000 in
theorem xturn_w (g : Nat → Acc) (n r i k : Nat) (w0 w : World) (q cl : Nat) (v : Value) (lp : Option Addr) (b : Nat → Nat) (M : Ms) (bold : Bool) (hl : Accs w0 lp n g) (hn : n ≤ 60) (X : Xm w0 w q v (.slice lp n cl) b n M) (K : Kept g n M r) (hi : i < M.inn - M.out) (hk : k = M.out + i) (hst : (g k).st = false) (hgv : M.given k = true) (hkv : M.done k = false) (hwt : M.S.waits (M.S.at (r + i)) bold = true) : Calls Tryd.prog 33 #[.pointer (some ⟨b 0, 0, none⟩), .int .i64 k, .bool bold] w fun e y => e = .returned (.bool true) ∧ ∃ M' v', Xm w0 y q v' (.slice lp n cl) b n M' ∧ Kept g n M' r ∧ Went g M M' i := by
  have HKV := Hid.in hkv
  have HWT := Hid.in hwt
  clear hkv hwt
  have hio := K.io
  have hlen := K.len
  have hkn : k < n := by omega
  obtain ⟨sb, so, rfl, hsb, s0, s1, s2, s3, fit⟩ := hl k hkn
  have e0 := (X.low.cell (p := ⟨sb, so + k * 4, none⟩) hsb).trans s0
  have e1 := (X.low.cell (p := ⟨sb, so + k * 4 + 1, none⟩) hsb).trans s1
  have e2 := (X.low.cell (p := ⟨sb, so + k * 4 + 2, none⟩) hsb).trans s2
  have e3 := (X.low.cell (p := ⟨sb, so + k * 4 + 3, none⟩) hsb).trans s3
  have hsb' : sb < w.heap.size := Nat.lt_of_lt_of_le hsb X.low.size
  have hmul : (k : Int) * 4 = ((k * 4 : Nat) : Int) := by omega
  have hwh := fun x => where_any (g k) x fit
  have hzi := (g k).z_is
  have hai := (g k).a_is
  unfold Acc.vs at hwh
  rw [hst] at e0 hwh
  have HX := Hid.in X
  have HK := Hid.in K
  have HHI := Hid.in hi
  have HHK := Hid.in hk
  have HDA := Hid.in fit.d
  have HRI := Hid.in (show r + i < M.S.on.length by omega)
  obtain ⟨hb0, -, c1, -⟩ := X.cells
  obtain ⟨a, ha⟩ : ∃ a, (g k).a = a := ⟨_, rfl⟩
  obtain ⟨z, hz⟩ : ∃ z, (g k).z = z := ⟨_, rfl⟩
  rw [ha, hz] at hai
  rw [hz] at hzi
  have HA := Hid.in ha
  have HZ := Hid.in hz
  obtain ⟨da, hda⟩ : ∃ da, (g k).da = da := ⟨_, rfl⟩
  have HDD := Hid.in hda
  rw [ha, hz, hda] at hwh
  rw [hda] at e3
  generalize (g k).ad = ad at e1 hwh
  generalize (g k).sz = sz at e2 hwh
  have HWH := Hid.in hwh
  have HST := Hid.in hst
  have HGV := Hid.in hgv
  have hk1 : k < 60 := by omega
  clear X K hi hk ha hz hda hwh hst hgv fit s0 s1 s2 s3
  go_enter Tryd.func33, Tryd.ntmps33
  go_upto_region 2 with fail
  obtain ⟨X1, hX1, bX1, hW1, d0, d1, d2, d3, dl⟩ := box4 w (.bool false) (.int .i64 ad) (.int .i64 sz) (.int .u32 da) 74
  rw [hX1]
  have HW1 := Hid.in hW1
  have HBX := Hid.in bX1
  clear hX1 hW1 bX1 e0 e1 e2 e3 c1 hb0 hsb'
  generalize hab : w.heap.size = ab at HW1 d0 d1 d2 d3 dl ⊢
  have HAB := Hid.in hab
  clear hab
  go_upto_region 3 with (go_at_call 35; refine (HWH.out _).mono ?_; rintro e W ⟨rfl, hb⟩; have HB := Hid.in hb; clear hb)
  clear d0 d1 d2 d3 dl
  obtain ⟨a0, a3, al⟩ := HW1.out W HB.out
  have HXW := Hid.in (HX.out.below (below2 HBX.out HB.out))
  obtain ⟨hb0, c0, c1, c2, c3, c4, c5, c6, c7, c8⟩ := HXW.out.cells
  obtain ⟨g2, f2, h2⟩ := HXW.out.row2 k hkn
  rw [HGV.out] at g2
  have hri := HRI.out
  have hpn := HK.out.num i HHI.out
  have hpr := (HK.out.new i HHI.out)
  have hgi := HK.out.giv i HHI.out
  rw [← HHK.out] at hpn hpr hgi
  rw [HGV.out, if_pos rfl, HA.out, HZ.out] at hgi
  have hsl : (M.S.at (r + i)).st = false := by rw [hpr.2]; exact HST.out
  have hP : First (M.S.plc k) M.S.on.length (r + i : Nat) := by
    refine Or.inl ⟨r + i, by omega, ?_, fun j hj => ?_, rfl⟩
    · unfold QS.plc Ac.placed
      rw [hpn, hsl, hgi.2, decide_eq_true (show 0 < z by omega)]
      simp
    · unfold QS.plc
      have := HK.out.asc j (r + i) hj (by omega)
      rw [decide_eq_false (by omega)]
      simp
  have hS := search_good _ q v M.S k bold (r + i) W HXW.out.qm hri hP
  have e1 : M.S.found (M.S.at (r + i)) bold = .agg #[.bool true, .int .i64 0, .int .u32 0] := by
    unfold QS.found
    rw [HWT.out, if_pos rfl]
  rw [e1] at hS
  have HS := Hid.in hS
  obtain ⟨g3, f3, h3⟩ := HXW.out.row4 k hkn
  rw [HKV.out] at g3
  clear hpn hpr hsl hP hio hlen hzi hai hri hgi hS e1
  go_wp2_with (go_at_call 14; refine HS.out.mono ?_; rintro e y1 ⟨rfl, hb⟩; have HY := Hid.in hb; clear hb)
  go_ret
  refine ⟨rfl, M, v, HXW.out.below (below2 HY.out ((Below.refl _ _).alloc (Nat.le_refl _) _)), HK.out, ⟨rfl, ⟨by have := HHI.out; show M.out + i < M.inn; omega, Nat.le_refl _⟩, fun t ht => ⟨rfl, rfl, rfl⟩, by rw [← HHK.out]; exact HGV.out, fun _ q => ?_, fun _ _ q => ?_⟩⟩
  · rw [← HHK.out, HST.out] at q
    cases q
  · exfalso
    have := HHI.out
    have h1 := HK.out.nowait (by omega) bold
    have h2 := HWT.out
    rw [q, Nat.add_zero, h1] at h2
    cases h2
end Go.Proofs.YthbffonedpeeiaaDoor
/-
  LSQ's LAW LsqMemory: turn.
-/
namespace Go.Proofs.YthbffonedpeeiaaDoor
open Go Go.RowKit
set_option maxRecDepth 100000 in
set_option maxHeartbeats 2000000 in
theorem xturn_l (g : Nat → Acc) (n r i k : Nat) (w0 w : World) (q cl : Nat) (v : Value) (lp : Option Addr) (b : Nat → Nat) (M : Ms) (bold : Bool) (hl : Accs w0 lp n g) (hn : n ≤ 60) (X : Xm w0 w q v (.slice lp n cl) b n M) (K : Kept g n M r) (hi : i < M.inn - M.out) (hk : k = M.out + i) (hst : (g k).st = false) (hgv : M.given k = true) (hkv : M.done k = false) (hwt : M.S.waits (M.S.at (r + i)) bold = false) : Calls Tryd.prog 33 #[.pointer (some ⟨b 0, 0, none⟩), .int .i64 k, .bool bold] w fun e y => e = .returned (.bool true) ∧ ∃ M' v', Xm w0 y q v' (.slice lp n cl) b n M' ∧ Kept g n M' r ∧ Went g M M' i := by
  have HKV := Hid.in hkv
  have HWT := Hid.in hwt
  clear hkv hwt
  have hio := K.io
  have hlen := K.len
  have hkn : k < n := by omega
  obtain ⟨sb, so, rfl, hsb, s0, s1, s2, s3, fit⟩ := hl k hkn
  have e0 := (X.low.cell (p := ⟨sb, so + k * 4, none⟩) hsb).trans s0
  have e1 := (X.low.cell (p := ⟨sb, so + k * 4 + 1, none⟩) hsb).trans s1
  have e2 := (X.low.cell (p := ⟨sb, so + k * 4 + 2, none⟩) hsb).trans s2
  have e3 := (X.low.cell (p := ⟨sb, so + k * 4 + 3, none⟩) hsb).trans s3
  have hsb' : sb < w.heap.size := Nat.lt_of_lt_of_le hsb X.low.size
  have hmul : (k : Int) * 4 = ((k * 4 : Nat) : Int) := by omega
  have hwh := fun x => where_any (g k) x fit
  have hzi := (g k).z_is
  have hai := (g k).a_is
  unfold Acc.vs at hwh
  rw [hst] at e0 hwh
  have HX := Hid.in X
  have HK := Hid.in K
  have HHI := Hid.in hi
  have HHK := Hid.in hk
  have HDA := Hid.in fit.d
  have HRI := Hid.in (show r + i < M.S.on.length by omega)
  obtain ⟨hb0, -, c1, -⟩ := X.cells
  obtain ⟨a, ha⟩ : ∃ a, (g k).a = a := ⟨_, rfl⟩
  obtain ⟨z, hz⟩ : ∃ z, (g k).z = z := ⟨_, rfl⟩
  rw [ha, hz] at hai
  rw [hz] at hzi
  have HA := Hid.in ha
  have HZ := Hid.in hz
  obtain ⟨da, hda⟩ : ∃ da, (g k).da = da := ⟨_, rfl⟩
  have HDD := Hid.in hda
  rw [ha, hz, hda] at hwh
  rw [hda] at e3
  generalize (g k).ad = ad at e1 hwh
  generalize (g k).sz = sz at e2 hwh
  have HWH := Hid.in hwh
  have HST := Hid.in hst
  have HGV := Hid.in hgv
  have hk1 : k < 60 := by omega
  clear X K hi hk ha hz hda hwh hst hgv fit s0 s1 s2 s3
  go_enter Tryd.func33, Tryd.ntmps33
  go_upto_region 2 with fail
  obtain ⟨X1, hX1, bX1, hW1, d0, d1, d2, d3, dl⟩ := box4 w (.bool false) (.int .i64 ad) (.int .i64 sz) (.int .u32 da) 74
  rw [hX1]
  have HW1 := Hid.in hW1
  have HBX := Hid.in bX1
  clear hX1 hW1 bX1 e0 e1 e2 e3 c1 hb0 hsb'
  generalize hab : w.heap.size = ab at HW1 d0 d1 d2 d3 dl ⊢
  have HAB := Hid.in hab
  clear hab
  go_upto_region 3 with (go_at_call 35; refine (HWH.out _).mono ?_; rintro e W ⟨rfl, hb⟩; have HB := Hid.in hb; clear hb)
  clear d0 d1 d2 d3 dl
  obtain ⟨a0, a3, al⟩ := HW1.out W HB.out
  have HXW := Hid.in (HX.out.below (below2 HBX.out HB.out))
  obtain ⟨hb0, c0, c1, c2, c3, c4, c5, c6, c7, c8⟩ := HXW.out.cells
  obtain ⟨g2, f2, h2⟩ := HXW.out.row2 k hkn
  rw [HGV.out] at g2
  have hri := HRI.out
  have hpn := HK.out.num i HHI.out
  have hpr := (HK.out.new i HHI.out)
  have hgi := HK.out.giv i HHI.out
  rw [← HHK.out] at hpn hpr hgi
  rw [HGV.out, if_pos rfl, HA.out, HZ.out] at hgi
  have hsl : (M.S.at (r + i)).st = false := by rw [hpr.2]; exact HST.out
  have hP : First (M.S.plc k) M.S.on.length (r + i : Nat) := by
    refine Or.inl ⟨r + i, by omega, ?_, fun j hj => ?_, rfl⟩
    · unfold QS.plc Ac.placed
      rw [hpn, hsl, hgi.2, decide_eq_true (show 0 < z by omega)]
      simp
    · unfold QS.plc
      have := HK.out.asc j (r + i) hj (by omega)
      rw [decide_eq_false (by omega)]
      simp
  have hfr : (M.S.at (r + i)).fr = [] := by
    have := HK.out.don i HHI.out
    rw [← HHK.out, HKV.out, if_neg (by simp)] at this
    exact this
  have hlk : M.S.lacks (M.S.at (r + i)) = false := by
    have := HWT.out
    unfold QS.waits at this
    cases h : M.S.lacks (M.S.at (r + i))
    · rfl
    · rw [h] at this
      cases this
  obtain ⟨l, hl⟩ : ∃ l : Nat → Int, l = fun b => (M.S.ofs (M.S.at (r + i))).getD b 0 := ⟨_, rfl⟩
  obtain ⟨d, hd⟩ : ∃ d : Nat → Nat, d = fun b => if l b = -1 then 0 else M.S.byteOf (M.S.at (r + i)) b (l b) := ⟨_, rfl⟩
  obtain ⟨mx, hmx⟩ : ∃ mx : Nat → Nat, ∀ j, mx j = leN (mixC d l (fun t => M.mem (a + t)) j) z := ⟨_, fun _ => rfl⟩
  have hdl : ∀ t, d t < 256 := fun t => by
    rw [hd]
    show (if l t = -1 then 0 else _) < 256
    split
    · decide
    · exact Nat.mod_lt _ (by decide)
  have hlf : ∀ t, t < z → l t = M.S.from' (r + i) (a + t) := fun t ht => by
    rw [hl]
    have := ofs_from HK.out.asc (r + i) t hri (by rw [hgi.2]; exact ht)
    rw [hgi.1] at this
    exact this
  have hval : ∀ t, t < z → mixC d l (fun t => M.mem (a + t)) z t = M.S.val M.mem (r + i) (a + t) := fun t ht => by
    unfold mixC QS.val
    rw [← hlf t ht]
    by_cases c : l t = -1
    · rw [if_neg (fun q => q.2 c), if_pos c]
    · rw [if_pos ⟨ht, c⟩, if_neg c, hd]
      show (if l t = -1 then 0 else M.S.byteOf (M.S.at (r + i)) t (l t)) = _
      rw [if_neg c]
      unfold QS.byteOf
      rw [hgi.1]
  have hS := search_good _ q v M.S k bold (r + i) W HXW.out.qm hri hP
  obtain ⟨gm, hgm⟩ : ∃ gm, gmN (M.S.ofs (M.S.at (r + i))) z = gm := ⟨_, rfl⟩
  obtain ⟨gv, hgv⟩ : ∃ gv, leN d z = gv := ⟨_, rfl⟩
  have e1 : M.S.found (M.S.at (r + i)) bold = .agg #[.bool false, .int .i64 gm, .int .u32 gv] := by
    unfold QS.found
    rw [HWT.out, if_neg (by simp), hgi.2, hgm, gv_leN, ← hgv, hd, hl]
  rw [e1] at hS
  have HS := Hid.in hS
  have hbit : ∀ b, b < z → gm / 2 ^ b % 2 = if l b = -1 then 0 else 1 := fun b hb => by
    rw [← hgm, hl]
    exact gm_bit _ z b hb
  have hgml : gm < 2 ^ z := by rw [← hgm]; exact gmN_lt _ _
  have HLD : Hid (∀ x, Qm x w0.heap.size q v M.S → Calls Tryd.prog 17 #[.pointer (some ⟨q, 0, none⟩), .int .i64 k] x fun e x' => e = .returned .nilIface ∧ ∃ fb fc, Step x x' w0.heap.size q v M.S v (M.S.set (r + i) ((M.S.at (r + i)).withF (M.S.nums (M.S.at (r + i))) fb fc))) := fun x kx => by
    have := loaded_any _ q v M.S k (r + i) x kx hP hri hfr
    rw [hlk] at this
    exact this
  have HKN : Hid (∀ fb fc, Kept g n { M with S := M.S.set (r + i) ((M.S.at (r + i)).withF (M.S.nums (M.S.at (r + i))) fb fc), got := upd M.got k (mx z), done := upd M.done k true } r) := fun fb fc => by
    obtain ⟨y, hy⟩ : ∃ y, (M.S.at (r + i)).withF (M.S.nums (M.S.at (r + i))) fb fc = y := ⟨_, rfl⟩
    have yn : y.n = (M.S.at (r + i)).n ∧ y.st = (M.S.at (r + i)).st ∧ y.rt = (M.S.at (r + i)).rt ∧ y.a = (M.S.at (r + i)).a ∧ y.z = (M.S.at (r + i)).z ∧ y.hv = (M.S.at (r + i)).hv ∧ y.d = (M.S.at (r + i)).d ∧ y.fr = M.S.nums (M.S.at (r + i)) := by rw [← hy]; exact ⟨rfl, rfl, rfl, rfl, rfl, rfl, rfl, rfl⟩
    rw [hy]
    refine HK.out.turn i HHI.out y (upd M.got k (mx z)) M.given M.known (upd M.done k true) yn.1 (by rw [yn.2.2.1]; exact hpr.1) yn.2.1 (fun t ht => ⟨upd_other _ _ _ _ (by rw [HHK.out]; exact ht), rfl, rfl, upd_other _ _ _ _ (by rw [HHK.out]; exact ht)⟩) ?_ ?_ ?_ (fun j hj hne u hu => hu.load hri hne hsl (by rw [yn.2.1]; exact hsl))
    · rw [← HHK.out, HGV.out, if_pos rfl, HA.out, HZ.out, yn.2.2.2.1, yn.2.2.2.2.1]
      exact hgi
    · rw [← HHK.out, HST.out]
      exact fun q => by cases q
    · rw [← HHK.out, upd_same, upd_same, if_pos rfl]
      have hat : (M.S.set (r + i) y).at (r + i) = y := M.S.at_set _ y hri
      have hfm : ∀ u, (M.S.set (r + i) y).from' (r + i) u = M.S.from' (r + i) u := fun u => lastI_same _ (fun t ht => by unfold QS.cv; rw [M.S.at_set' _ t y (by omega)])
      have hao : ∀ u, M.S.from' (r + i) u ≠ -1 → (M.S.set (r + i) y).at (M.S.from' (r + i) u).toNat = M.S.at (M.S.from' (r + i) u).toNat := fun u hu => by
        have := from_lt M.S (r + i) u
        exact M.S.at_set' _ _ y (by omega)
      refine ⟨HST.out, HGV.out, ⟨?_, fun b hb hne => ?_, ?_⟩⟩
      · rw [hat, yn.2.2.2.2.2.2.2, nums_from HK.out.asc (r + i) hri, yn.2.2.2.1, yn.2.2.2.2.1]
        refine List.map_congr_left fun b _ => ?_
        rw [hfm]
        unfold QS.num
        by_cases c : M.S.from' (r + i) ((M.S.at (r + i)).a + b) = -1
        · rw [if_pos c, if_pos c]
        · rw [if_neg c, if_neg c, hao _ c]
      · rw [hat, yn.2.2.2.2.1] at hb
        rw [hat, yn.2.2.2.1] at hne ⊢
        rw [hfm] at hne ⊢
        rw [hao _ hne]
        unfold QS.lacks at hlk
        have := any_ff hlk b hb
        rw [ofs_from HK.out.asc (r + i) b hri hb] at this
        unfold QS.lack at this
        rw [decide_eq_true hne] at this
        simpa using this
      · rw [hmx, hat, yn.2.2.2.1, yn.2.2.2.2.1, hgi.1, hgi.2]
        refine leN_congr _ _ _ (fun t ht => ?_)
        rw [hval t ht]
        unfold QS.val
        rw [hfm]
        by_cases c : M.S.from' (r + i) (a + t) = -1
        · rw [if_pos c, if_pos c]
        · rw [if_neg c, if_neg c, hao _ c]
  have hbl : ∀ t, M.mem t < 256 := HK.out.bytes
  have HBY : Hid (∀ x, CellsAt 16 x (b 5) (fun o => .int .u8 (M.mem (64 + o))) → Calls Tryd.prog 36 #[.slice (some ⟨b 5, 0, none⟩) 16 16, .int .u32 a, .int .i64 z] x fun e x' => e = .returned (.int .u32 (mx 0)) ∧ x' = x) := fun x hx => by
    rw [hmx]
    have := bytes_any (b 5) a z (fun o => M.mem (64 + o)) x hx (fun o => hbl _) hai.1 hai.2.1 (by omega)
    have e2 : leN (fun t => (fun o => M.mem (64 + o)) (a - 64 + t)) z = leN (mixC d l (fun t => M.mem (a + t)) 0) z := leN_congr _ _ _ (fun t _ => by
      unfold mixC
      rw [if_neg (by omega)]
      show M.mem (64 + (a - 64 + t)) = M.mem (a + t)
      congr 1
      have := hai.1
      omega)
    rw [e2] at this
    exact this
  have HMIX : Hid (∀ j, j < z → l j ≠ -1 → bits .or .u32 (bits .andNot .u32 (mx j : Int) (255 * 2 ^ (8 * j) % 4294967296)) (bits .and .u32 (gv : Int) (255 * 2 ^ (8 * j) % 4294967296)) = (mx (j + 1) : Int)) := fun j hj hne => by
    rw [hmx, hmx, mixC_next _ _ _ _ hne]
    refine mix_is _ d z j _ gv (by omega) hj (fun t _ => ?_) (fun t _ => hdl t) rfl hgv.symm
    unfold mixC
    split
    · exact hdl t
    · exact hbl _
  have HSK : Hid (∀ j, l j = -1 → mx (j + 1) = mx j) := fun j h => by rw [hmx, hmx, mixC_skip _ _ _ _ h]
  have HBIT := Hid.in hbit
  have hz4 : z ≤ 4 := by omega
  have hgm16 : gm < 16 := Nat.lt_of_lt_of_le hgml (Nat.pow_le_pow_right (n := 2) (by decide) hz4)
  obtain ⟨g3, f3, h3⟩ := HXW.out.row4 k hkn
  rw [HKV.out] at g3
  clear hpn hpr hsl hP hfr hlk hl hd hdl hlf hval hS hgm hgv e1 hbit hgml hbl hmx hio hlen hai hri hgi
  go_upto_region 18 with (go_at_call 14; refine HS.out.mono ?_; rintro e y1 ⟨rfl, hb⟩; have HY := Hid.in hb; clear hb)
  obtain ⟨Y, hY, bY, y0, y1', y2, sY⟩ := boxW3 y1 (.bool false) (.int .i64 gm) (.int .u32 gv) 44
  rw [hY]
  have HXY := Hid.in (HXW.out.below (below2 HY.out bY))
  have HNF : Hid (∀ t, t < 6 → b t ≠ y1.heap.size) := fun t ht e => by
    have := ((HXW.out.below HY.out).c t ht).here
    omega
  clear hY bY hb0 c0 c1 c2 c3 c4 c5 c6 c7 c8 g2 f2 h2 a0 a3 al g3 f3 h3
  generalize y1.heap.size = fb at HNF y0 y1' y2 sY ⊢
  obtain ⟨hb0, c0, c1, c2, c3, c4, c5, c6, c7, c8⟩ := HXY.out.cells
  have HY1 := Hid.in y1'
  have HY2 := Hid.in y2
  have HSY := Hid.in sY
  clear y1' y2
  go_wp2_with (go_at_call 36; refine (HBY.out _ (HXY.out.c 5 (by decide))).mono ?_; rintro e z1 ⟨rfl, hz1⟩; have hz2 := hz1.symm; clear hz1; subst hz2)
  clear hb0 c0 c1 c2 c3 c4 c5 c6 c7 c8 y0
  go_loopw [15, 16] (fun u bv wr => ∃ j : Nat, bv = .int .i64 j ∧ j ≤ z ∧ u = .int .u32 (mx j) ∧ Below Y.heap.size Y wr) (fun _ bv _ => 5 - (intOf bv).toNat)
  case atStart => exact ⟨0, rfl, Nat.zero_le _, rfl, Below.refl _ _⟩
  case round =>
    obtain ⟨j, rfl, hj, rfl, hbw⟩ := hrel
    have HBW := Hid.in hbw
    have HXR := Hid.in (HXY.out.below hbw)
    by_cases hjz : j < z
    · have hjz' : (j : Int) < (z : Int) := by omega
      have f1 := (hbw.cell (p := ⟨fb, 1, none⟩) HSY.out).trans HY1.out
      have f2 := (hbw.cell (p := ⟨fb, 2, none⟩) HSY.out).trans HY2.out
      have hfb : fb < wr.heap.size := Nat.lt_of_lt_of_le HSY.out hbw.size
      have hj4 : j < 4 := by omega
      have hbt := HBIT.out j hjz
      clear hbw
      by_cases hlj : l j = -1
      · rw [if_pos hlj] at hbt
        have hbe := bit_is gm j 0 hgm16 hbt
        have HSKJ := Hid.in (HSK.out j hlj)
        clear hbt
        go_wp2
        go_roundw
        case rel => exact ⟨j + 1, by simp, by omega, by rw [HSKJ.out], HBW.out⟩
        case measure =>
          simp [intOf]
          omega
      · rw [if_neg hlj] at hbt
        have hbe := bit_is gm j 1 hgm16 hbt
        have hmix := HMIX.out j hjz hlj
        generalize hmj : mx (j + 1) = mj at hmix
        generalize mx j = m0 at hmix ⊢
        have HMJ := Hid.in hmj
        clear hbt hmj
        go_wp2
        go_quiet (fail)
        go_wp2
        go_roundw
        case rel => exact ⟨j + 1, by simp, by omega, by rw [HMJ.out], below2 HBW.out (below_drewN _ _)⟩
        case measure =>
          simp [intOf]
          omega
    · obtain rfl : j = z := by omega
      have hjj : ¬ (j : Int) < (j : Int) := by omega
      obtain ⟨hb0, c0, c1, c2, c3, c4, c5, c6, c7, c8⟩ := HXR.out.cells
      obtain ⟨g1, f1, h1⟩ := HXR.out.row1 k hkn
      obtain ⟨g4, f4, h4⟩ := HXR.out.row4 k hkn
      have n01 : b 0 ≠ b 1 := fun e => by have := HXR.out.ne 0 1 (by decide) (by decide) e; omega
      have n04 : b 0 ≠ b 4 := fun e => by have := HXR.out.ne 0 4 (by decide) (by decide) e; omega
      have n14 : b 1 ≠ b 4 := fun e => by have := HXR.out.ne 1 4 (by decide) (by decide) e; omega
      have m01 := n01.symm
      have m04 := n04.symm
      have m14 := n14.symm
      have HFN : Hid (Xm w0 ((wr.setCell ⟨b 1, k, none⟩ (.int .u32 (mx j))).setCell ⟨b 4, k, none⟩ (.bool true)) q v (.slice (some ⟨sb, so, none⟩) n cl) b n { M with got := upd M.got k (mx j), done := upd M.done k true }) := (HXR.out.setGot k (mx j) hkn).setDone k true hkn
      clear hbw
      go_wp2_with (go_at_call 17; refine (HLD.out _ HFN.out.qm).mono ?_; rintro e y3 ⟨rfl, fb3, fc3, st3⟩; have HST3 := Hid.in st3; clear st3)
      go_ret
      refine ⟨rfl, _, v, HFN.out.onQ (M' := { M with S := M.S.set (r + i) ((M.S.at (r + i)).withF (M.S.nums (M.S.at (r + i))) fb3 fc3), got := upd M.got k (mx j), done := upd M.done k true }) rfl rfl rfl rfl rfl rfl rfl HST3.out, HKN.out fb3 fc3, ⟨rfl, ⟨by have := HHI.out; show M.out + i < M.inn; omega, Nat.le_refl _⟩, fun t ht => ⟨rfl, rfl, upd_other _ _ _ _ (by have := HHK.out; omega)⟩, by rw [← HHK.out]; exact HGV.out, fun _ q => ?_, fun _ _ _ => ?_⟩⟩
      · rw [← HHK.out, HST.out] at q
        cases q
      · show upd M.done k true (M.out + i) = true
        rw [← HHK.out, upd_same]
end Go.Proofs.YthbffonedpeeiaaDoor
/-
  LSQ's LAW LsqMemory: turn, drain, retire, whatever there is; how long it goes on.
-/
namespace Go.Proofs.YthbffonedpeeiaaDoor
open Go Go.RowKit
theorem xturn_any (g : Nat → Acc) (n r i k : Nat) (w0 w : World) (q cl : Nat) (v : Value) (lp : Option Addr) (b : Nat → Nat) (M : Ms) (bold : Bool) (hl : Accs w0 lp n g) (hn : n ≤ 60) (X : Xm w0 w q v (.slice lp n cl) b n M) (K : Kept g n M r) (hi : i < M.inn - M.out) (hk : k = M.out + i) : Calls Tryd.prog 33 #[.pointer (some ⟨b 0, 0, none⟩), .int .i64 k, .bool bold] w fun e y => e = .returned (.bool true) ∧ ∃ M' v', Xm w0 y q v' (.slice lp n cl) b n M' ∧ Kept g n M' r ∧ Went g M M' i := by
  cases hgv : M.given k
  · cases hst : (g k).st
    · exact xturn_al g n r i k w0 w q cl v lp b M bold hl hn X K hi hk hst hgv
    · exact xturn_as g n r i k w0 w q cl v lp b M bold hl hn X K hi hk hst hgv
  · cases hst : (g k).st
    · cases hd : M.done k
      · cases hw : M.S.waits (M.S.at (r + i)) bold
        · exact xturn_l g n r i k w0 w q cl v lp b M bold hl hn X K hi hk hst hgv hd hw
        · exact xturn_w g n r i k w0 w q cl v lp b M bold hl hn X K hi hk hst hgv hd hw
      · exact xturn_dl g n r i k w0 w q cl v lp b M bold hl hn X K hi hk hst hgv hd
    · cases hkn : M.known k
      · exact xturn_v g n r i k w0 w q cl v lp b M bold hl hn X K hi hk hst hgv hkn
      · exact xturn_ds g n r i k w0 w q cl v lp b M bold hl hn X K hi hk hst hgv hkn
theorem xdrain_any (g : Nat → Acc) (n r : Nat) (w0 w : World) (q cl : Nat) (v : Value) (lp : Option Addr) (b : Nat → Nat) (M : Ms) (X : Xm w0 w q v (.slice lp n cl) b n M) (K : Kept g n M r) : Calls Tryd.prog 34 #[.pointer (some ⟨b 0, 0, none⟩)] w fun e y => e = .returned (.bool true) ∧ ∃ M' v', Xm w0 y q v' (.slice lp n cl) b n M' ∧ Kept g n M' (r - 1) ∧ M'.out = M.out ∧ M'.inn = M.inn ∧ M'.given = M.given ∧ M'.known = M.known ∧ M'.done = M.done := by
  cases r with
  | zero =>
    refine (xdrain_no g n w0 w q cl v lp b M X K).mono fun e y h => ⟨h.1, M, v, X.below h.2, K, rfl, rfl, rfl, rfl, rfl⟩
  | succ r =>
    refine (xdrain_yes g n r w0 w q cl v lp b M X K).mono fun e y h => ?_
    obtain ⟨h1, v', h2⟩ := h
    exact ⟨h1, _, v', h2, K.drn (fun a ha => (X.qm.fit a ha).n0), rfl, rfl, rfl, rfl, rfl⟩
/-- may the oldest one retire? -/
def Ms.may (g : Nat → Acc) (M : Ms) : Bool := decide (M.out < M.inn) && (M.given M.out && (((g M.out).st && M.known M.out) || M.done M.out))
theorem xretire_any (g : Nat → Acc) (n r : Nat) (w0 w : World) (q cl : Nat) (v : Value) (lp : Option Addr) (b : Nat → Nat) (M : Ms) (X : Xm w0 w q v (.slice lp n cl) b n M) (K : Kept g n M r) (h : M.may g = true) : Calls Tryd.prog 20 #[.pointer (some ⟨q, 0, none⟩), .int .i64 M.out] w fun e y => e = .returned .nilIface ∧ ∃ S' v' r', Xm w0 y q v' (.slice lp n cl) b n { M with S := S' } ∧ Kept g n { M with S := S', out := M.out + 1 } r' ∧ r' ≤ r + 1 := by
  unfold Ms.may at h
  simp only [Bool.and_eq_true, Bool.or_eq_true, decide_eq_true_eq] at h
  obtain ⟨h1, h2, h3⟩ := h
  have hlen := K.len
  have hr : r < M.S.on.length := by omega
  have hnum := K.num 0 (by omega)
  have hnew := K.new 0 (by omega)
  have hgiv := K.giv 0 (by omega)
  have hkno := K.kno 0 (by omega)
  have hdon := K.don 0 (by omega)
  simp only [Nat.add_zero] at hnum hnew hgiv hkno hdon
  rw [if_pos h2] at hgiv
  have hzz := (g M.out).z_is
  have hF : First M.S.act M.S.on.length (r : Nat) := by
    refine Or.inl ⟨r, hr, ?_, fun j hj => ?_, rfl⟩
    · unfold QS.act
      rw [hnew.1]
      rfl
    · unfold QS.act
      rw [(K.old j hj).1]
      rfl
  cases hst : (g M.out).st
  · rw [hst] at h3
    have h3 : M.done M.out = true := by
      rcases h3 with q | q
      · cases q.1
      · exact q
    rw [if_pos h3] at hdon
    have hs : (M.S.at r).st = false := by rw [hnew.2]; exact hst
    have hld : (M.S.at r).done = true := by
      unfold Ac.done Ac.loaded
      rw [hs, hdon.2.2.fr]
      simp only [Bool.false_eq_true, if_false]
      rw [List.length_map, List.length_range]
      exact decide_eq_true (by omega)
    refine (retire_load _ q v M.S M.out r w X.qm hF hr hnum hld hs).mono fun e y a => ?_
    obtain ⟨a1, v', a2⟩ := a
    exact ⟨a1, M.S.del r, v', r, X.onQ rfl rfl rfl rfl rfl rfl rfl a2, K.retL h1 hst h3, by omega⟩
  · have hdf : ¬ M.done M.out = true := fun q => by
      rw [if_pos q, hst] at hdon
      cases hdon.1
    have h3 : M.known M.out = true := by
      rcases h3 with q | q
      · exact q.2
      · exact absurd q hdf
    have hs : (M.S.at r).st = true := by rw [hnew.2]; exact hst
    have hld : (M.S.at r).done = true := by
      unfold Ac.done Ac.placed
      rw [hs, if_pos rfl, (hkno hst).1, h3, decide_eq_true (show 0 < (M.S.at r).z by omega)]
      rfl
    refine (retire_store _ q v M.S M.out r w X.qm hF hr hnum hld hs).mono fun e y a => ?_
    exact ⟨a.1, M.S.set r { M.S.at r with rt := true }, v, r + 1, X.onQ (M' := { M with S := M.S.set r { M.S.at r with rt := true } }) rfl rfl rfl rfl rfl rfl rfl a.2, K.retS h1 hst h2 h3, by omega⟩
/-- what is left to be done -/
def Ms.psi (n : Nat) (M : Ms) (r : Nat) : Nat := 4 * (n - M.out) + r + if M.out < M.inn ∧ M.given M.out = true then 0 else 2
theorem Kept.psi_le {g : Nat → Acc} {n : Nat} {M : Ms} {r : Nat} (K : Kept g n M r) (hn : n ≤ 60) (hs : M.S.size ≤ 32) : M.psi n r ≤ 274 := by
  have := K.len
  have := K.size.1
  unfold Ms.psi
  split <;> omega
end Go.Proofs.YthbffonedpeeiaaDoor
