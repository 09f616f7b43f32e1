import Derived.Test.YthbffonedpeeiaaDoorZmb
/-
  LSQ's LAW LsqMemory: turn.
-/
namespace Go.Proofs.YthbffonedpeeiaaDoor
open Go Go.RowKit
theorem box4 (w : World) (x y z u : Value) (t : TypeId) : ∃ X, w.alloc (.cells #[x, y, z, u] t) = X ∧ Below w.heap.size w X ∧ (∀ W, Below X.heap.size X W → W.cell? ⟨w.heap.size, 0, none⟩ = some x ∧ W.cell? ⟨w.heap.size, 3, none⟩ = some u ∧ w.heap.size < W.heap.size) ∧ X.cell? ⟨w.heap.size, 0, none⟩ = some x ∧ X.cell? ⟨w.heap.size, 1, none⟩ = some y ∧ X.cell? ⟨w.heap.size, 2, none⟩ = some z ∧ X.cell? ⟨w.heap.size, 3, none⟩ = some u ∧ w.heap.size < X.heap.size := by
  have h1 : w.heap.size < (w.alloc (.cells #[x, y, z, u] t)).heap.size := by simp
  refine ⟨_, rfl, (Below.refl _ _).alloc (Nat.le_refl _) _, fun W hb => ?_, by rw [World.cell?_alloc_new]; rfl, by rw [World.cell?_alloc_new]; rfl, by rw [World.cell?_alloc_new]; rfl, by rw [World.cell?_alloc_new]; rfl, h1⟩
  exact ⟨(hb.cell (p := ⟨w.heap.size, 0, none⟩) h1).trans (by rw [World.cell?_alloc_new]; rfl), (hb.cell (p := ⟨w.heap.size, 3, none⟩) h1).trans (by rw [World.cell?_alloc_new]; rfl), Nat.lt_of_lt_of_le h1 hb.size⟩
/-- what a turn of access k leaves -/
structure Went (g : Nat → Acc) (M M' : Ms) (i : Nat) : Prop where
  out : M'.out = M.out
  inn : M.out + i < M'.inn ∧ M'.inn ≤ M.inn
  old : ∀ t, t < M.out + i → M'.given t = M.given t ∧ M'.known t = M.known t ∧ M'.done t = M.done t
  giv : M'.given (M.out + i) = true
  kno : M.given (M.out + i) = true → (g (M.out + i)).st = true → M'.known (M.out + i) = true
  don : M.given (M.out + i) = true → (g (M.out + i)).st = false → i = 0 → M'.done (M.out + i) = true
theorem First.ex2 (f : Nat → Bool) : ∀ n, ∃ r, First f n r
  | 0 => ⟨-1, Or.inr ⟨fun j hj => by omega, rfl⟩⟩
  | n + 1 => by
    obtain ⟨r, h⟩ := First.ex2 f n
    rcases h with ⟨i, h1, h2, h3, h4⟩ | ⟨h1, h2⟩
    · exact ⟨r, Or.inl ⟨i, by omega, h2, h3, h4⟩⟩
    · cases e : f n
      · exact ⟨-1, Or.inr ⟨fun j hj => by
          rcases Nat.lt_or_ge j n with q | q
          · exact h1 j q
          · obtain rfl : j = n := by omega
            exact e, rfl⟩⟩
      · exact ⟨n, Or.inl ⟨n, by omega, e, h1, rfl⟩⟩
set_option maxRecDepth 100000 in
set_option maxHeartbeats 1000000 in
theorem xturn_al (g : Nat → Acc) (n r i k : Nat) (w0 w : World) (q cl : Nat) (v : Value) (lp : Option Addr) (b : Nat → Nat) (M : Ms) (bold : Bool) (hl : Accs w0 lp n g) (hn : n ≤ 60) (X : Xm w0 w q v (.slice lp n cl) b n M) (K : Kept g n M r) (hi : i < M.inn - M.out) (hk : k = M.out + i) (hst : (g k).st = false) (hgv : M.given k = false) : Calls Tryd.prog 33 #[.pointer (some ⟨b 0, 0, none⟩), .int .i64 k, .bool bold] w fun e y => e = .returned (.bool true) ∧ ∃ M' v', Xm w0 y q v' (.slice lp n cl) b n M' ∧ Kept g n M' r ∧ Went g M M' i := by
  have hio := K.io
  have hlen := K.len
  have hkn : k < n := by omega
  obtain ⟨sb, so, rfl, hsb, s0, s1, s2, s3, fit⟩ := hl k hkn
  have e0 := (X.low.cell (p := ⟨sb, so + k * 4, none⟩) hsb).trans s0
  have e1 := (X.low.cell (p := ⟨sb, so + k * 4 + 1, none⟩) hsb).trans s1
  have e2 := (X.low.cell (p := ⟨sb, so + k * 4 + 2, none⟩) hsb).trans s2
  have e3 := (X.low.cell (p := ⟨sb, so + k * 4 + 3, none⟩) hsb).trans s3
  have hsb' : sb < w.heap.size := Nat.lt_of_lt_of_le hsb X.low.size
  have hmul : (k : Int) * 4 = ((k * 4 : Nat) : Int) := by omega
  have hwh := fun x => where_any (g k) x fit
  have hzi := (g k).z_is
  have hai := (g k).a_is
  unfold Acc.vs at hwh
  rw [hst] at e0 hwh
  have HX := Hid.in X
  have HK := Hid.in K
  have HHI := Hid.in hi
  have HHK := Hid.in hk
  have HDA := Hid.in fit.d
  have HRI := Hid.in (show r + i < M.S.on.length by omega)
  obtain ⟨hb0, -, c1, -⟩ := X.cells
  obtain ⟨a, ha⟩ : ∃ a, (g k).a = a := ⟨_, rfl⟩
  obtain ⟨z, hz⟩ : ∃ z, (g k).z = z := ⟨_, rfl⟩
  rw [ha, hz] at hai
  rw [hz] at hzi
  have HA := Hid.in ha
  have HZ := Hid.in hz
  obtain ⟨da, hda⟩ : ∃ da, (g k).da = da := ⟨_, rfl⟩
  have HDD := Hid.in hda
  rw [ha, hz, hda] at hwh
  rw [hda] at e3
  generalize (g k).ad = ad at e1 hwh
  generalize (g k).sz = sz at e2 hwh
  have HWH := Hid.in hwh
  have HST := Hid.in hst
  have HGV := Hid.in hgv
  have hk1 : k < 60 := by omega
  clear X K hi hk ha hz hda hwh hst hgv fit s0 s1 s2 s3
  go_enter Tryd.func33, Tryd.ntmps33
  go_upto_region 2 with fail
  obtain ⟨X1, hX1, bX1, hW1, d0, d1, d2, d3, dl⟩ := box4 w (.bool false) (.int .i64 ad) (.int .i64 sz) (.int .u32 da) 74
  rw [hX1]
  have HW1 := Hid.in hW1
  have HBX := Hid.in bX1
  clear hX1 hW1 bX1 e0 e1 e2 e3 c1 hb0 hsb'
  generalize hab : w.heap.size = ab at HW1 d0 d1 d2 d3 dl ⊢
  have HAB := Hid.in hab
  clear hab
  go_upto_region 3 with (go_at_call 35; refine (HWH.out _).mono ?_; rintro e W ⟨rfl, hb⟩; have HB := Hid.in hb; clear hb)
  clear d0 d1 d2 d3 dl
  obtain ⟨a0, a3, al⟩ := HW1.out W HB.out
  have HXW := Hid.in (HX.out.below (below2 HBX.out HB.out))
  obtain ⟨hb0, c0, c1, c2, c3, c4, c5, c6, c7, c8⟩ := HXW.out.cells
  obtain ⟨g2, f2, h2⟩ := HXW.out.row2 k hkn
  rw [HGV.out] at g2
  have hri := HRI.out
  have hz0 : (M.S.at (r + i)).z = 0 := by
    have := HK.out.giv i HHI.out
    rw [← HHK.out, HGV.out] at this
    exact this
  have hpn := HK.out.num i HHI.out
  have hpr := (HK.out.new i HHI.out)
  rw [← HHK.out] at hpn hpr
  have hsl : (M.S.at (r + i)).st = false := by rw [hpr.2]; exact HST.out
  have hP : First (M.S.pend k) M.S.on.length (r + i : Nat) := by
    refine Or.inl ⟨r + i, by omega, ?_, fun j hj => ?_, rfl⟩
    · unfold QS.pend
      rw [hpn, hpr.1]
      simp
    · unfold QS.pend
      have := HK.out.asc j (r + i) hj (by omega)
      rw [decide_eq_false (by omega)]
      rfl
  have HAD : Hid (∀ y, Qm y w0.heap.size q v M.S → Calls Tryd.prog 10 #[.pointer (some ⟨q, 0, none⟩), .int .i64 k, .int .u32 a, .int .i64 z] y fun e y' => e = .returned (.tuple #[.int .i64 (-1), .nilIface]) ∧ Step y y' w0.heap.size q v M.S v (M.S.set (r + i) ((M.S.at (r + i)).put a z))) := fun y ky => addr_load _ q v M.S k (r + i) a z y ky hP (by omega) hz0 hsl (by omega) ⟨hzi, hai.2.2⟩
  have hfr : (M.S.at (r + i)).fr = [] := List.eq_nil_of_length_eq_zero (by have := (HXW.out.qm.fit (r + i) (by omega)).fz; omega)
  have HKN : Hid (Kept g n { M with S := M.S.set (r + i) ((M.S.at (r + i)).put a z), given := upd M.given k true } r) := by
    refine HK.out.turn i HHI.out ((M.S.at (r + i)).put a z) M.got (upd M.given k true) M.known M.done rfl hpr.1 rfl (fun t ht => ⟨rfl, upd_other _ _ _ _ (by rw [HHK.out]; exact ht), rfl, rfl⟩) ?_ ?_ ?_ (fun j hj hne u hu => hu.load (by omega) hne hsl hsl)
    · rw [← HHK.out, upd_same, if_pos rfl]
      exact ⟨HA.out.symm, HZ.out.symm⟩
    · rw [← HHK.out, HST.out]
      exact fun q => by cases q
    · have := HK.out.don i HHI.out
      rw [← HHK.out] at this ⊢
      split
      · rename_i hd
        rw [if_pos hd] at this
        rw [HGV.out] at this
        cases this.2.1
      · exact hfr
  clear hz0 hpn hpr hsl hP hfr hio hlen hzi hai hri
  go_wp2_with (go_at_call 10; refine (HAD.out _ HXW.out.qm).mono ?_; rintro e y1 ⟨rfl, st1⟩; have HY : Hid (Xm w0 y1 q v (.slice (some ⟨sb, so, none⟩) n cl) b n { M with S := M.S.set (r + i) ((M.S.at (r + i)).put a z) }) := HXW.out.onQ rfl rfl rfl rfl rfl rfl rfl st1; clear st1 hb0 c0 c1 c2 c3 c4 c5 c6 c7 c8 g2 f2 h2 a0 a3 al; obtain ⟨hb0, c0, c1, c2, c3, c4, c5, c6, c7, c8⟩ := HY.out.cells; obtain ⟨g2, f2, h2⟩ := HY.out.row2 k hkn)
  go_ret
  refine ⟨rfl, _, v, HY.out.setGiven k true hkn, HKN.out, ⟨rfl, ⟨by have := HHI.out; show M.out + i < M.inn; omega, Nat.le_refl _⟩, fun t ht => ⟨upd_other _ _ _ _ (by have := HHK.out; omega), rfl, rfl⟩, by show upd M.given k true _ = true; rw [← HHK.out, upd_same], fun q => ?_, fun q => ?_⟩⟩
  · rw [← HHK.out, HGV.out] at q
    cases q
  · rw [← HHK.out, HGV.out] at q
    cases q
end Go.Proofs.YthbffonedpeeiaaDoor
/-
  LSQ's LAW LsqMemory: turn.
-/
namespace Go.Proofs.YthbffonedpeeiaaDoor
open Go Go.RowKit
set_option maxRecDepth 100000 in
set_option maxHeartbeats 1000000 in
theorem xturn_as (g : Nat → Acc) (n r i k : Nat) (w0 w : World) (q cl : Nat) (v : Value) (lp : Option Addr) (b : Nat → Nat) (M : Ms) (bold : Bool) (hl : Accs w0 lp n g) (hn : n ≤ 60) (X : Xm w0 w q v (.slice lp n cl) b n M) (K : Kept g n M r) (hi : i < M.inn - M.out) (hk : k = M.out + i) (hst : (g k).st = true) (hgv : M.given k = false) : Calls Tryd.prog 33 #[.pointer (some ⟨b 0, 0, none⟩), .int .i64 k, .bool bold] w fun e y => e = .returned (.bool true) ∧ ∃ M' v', Xm w0 y q v' (.slice lp n cl) b n M' ∧ Kept g n M' r ∧ Went g M M' i := by
  have hio := K.io
  have hlen := K.len
  have hkn : k < n := by omega
  have HHL := Hid.in hl
  obtain ⟨sb, so, rfl, hsb, s0, s1, s2, s3, fit⟩ := hl k hkn
  have e0 := (X.low.cell (p := ⟨sb, so + k * 4, none⟩) hsb).trans s0
  have e1 := (X.low.cell (p := ⟨sb, so + k * 4 + 1, none⟩) hsb).trans s1
  have e2 := (X.low.cell (p := ⟨sb, so + k * 4 + 2, none⟩) hsb).trans s2
  have e3 := (X.low.cell (p := ⟨sb, so + k * 4 + 3, none⟩) hsb).trans s3
  have hsb' : sb < w.heap.size := Nat.lt_of_lt_of_le hsb X.low.size
  have hmul : (k : Int) * 4 = ((k * 4 : Nat) : Int) := by omega
  have hwh := fun x => where_any (g k) x fit
  have hzi := (g k).z_is
  have hai := (g k).a_is
  unfold Acc.vs at hwh
  rw [hst] at e0 hwh
  have HX := Hid.in X
  have HK := Hid.in K
  have HHI := Hid.in hi
  have HHK := Hid.in hk
  have HDA := Hid.in fit.d
  have HRI := Hid.in (show r + i < M.S.on.length by omega)
  obtain ⟨hb0, -, c1, -⟩ := X.cells
  obtain ⟨a, ha⟩ : ∃ a, (g k).a = a := ⟨_, rfl⟩
  obtain ⟨z, hz⟩ : ∃ z, (g k).z = z := ⟨_, rfl⟩
  rw [ha, hz] at hai
  rw [hz] at hzi
  have HA := Hid.in ha
  have HZ := Hid.in hz
  obtain ⟨da, hda⟩ : ∃ da, (g k).da = da := ⟨_, rfl⟩
  have HDD := Hid.in hda
  rw [ha, hz, hda] at hwh
  rw [hda] at e3
  generalize (g k).ad = ad at e1 hwh
  generalize (g k).sz = sz at e2 hwh
  have HWH := Hid.in hwh
  have HST := Hid.in hst
  have HGV := Hid.in hgv
  have hk1 : k < 60 := by omega
  clear X K hi hk ha hz hda hwh hst hgv fit s0 s1 s2 s3
  go_enter Tryd.func33, Tryd.ntmps33
  go_upto_region 2 with fail
  obtain ⟨X1, hX1, bX1, hW1, d0, d1, d2, d3, dl⟩ := box4 w (.bool true) (.int .i64 ad) (.int .i64 sz) (.int .u32 da) 74
  rw [hX1]
  have HW1 := Hid.in hW1
  have HBX := Hid.in bX1
  clear hX1 hW1 bX1 e0 e1 e2 e3 c1 hb0 hsb'
  generalize hab : w.heap.size = ab at HW1 d0 d1 d2 d3 dl ⊢
  have HAB := Hid.in hab
  clear hab
  go_upto_region 3 with (go_at_call 35; refine (HWH.out _).mono ?_; rintro e W ⟨rfl, hb⟩; have HB := Hid.in hb; clear hb)
  clear d0 d1 d2 d3 dl
  obtain ⟨a0, a3, al⟩ := HW1.out W HB.out
  have HXW := Hid.in (HX.out.below (below2 HBX.out HB.out))
  obtain ⟨hb0, c0, c1, c2, c3, c4, c5, c6, c7, c8⟩ := HXW.out.cells
  obtain ⟨g2, f2, h2⟩ := HXW.out.row2 k hkn
  rw [HGV.out] at g2
  have hri := HRI.out
  have hz0 : (M.S.at (r + i)).z = 0 := by
    have := HK.out.giv i HHI.out
    rw [← HHK.out, HGV.out] at this
    exact this
  have hpn := HK.out.num i HHI.out
  have hpr := (HK.out.new i HHI.out)
  rw [← HHK.out] at hpn hpr
  have hsl : (M.S.at (r + i)).st = true := by rw [hpr.2]; exact HST.out
  have hP : First (M.S.pend k) M.S.on.length (r + i : Nat) := by
    refine Or.inl ⟨r + i, by omega, ?_, fun j hj => ?_, rfl⟩
    · unfold QS.pend
      rw [hpn, hpr.1]
      simp
    · unfold QS.pend
      have := HK.out.asc j (r + i) hj (by omega)
      rw [decide_eq_false (by omega)]
      rfl
  obtain ⟨y, hy⟩ : ∃ y, (M.S.at (r + i)).put a z = y := ⟨_, rfl⟩
  have yn : y.n = (M.S.at (r + i)).n := by rw [← hy]; rfl
  have yst : y.st = (M.S.at (r + i)).st := by rw [← hy]; rfl
  have yrt : y.rt = false := by rw [← hy]; exact hpr.1
  have yhv : y.hv = (M.S.at (r + i)).hv ∧ y.d = (M.S.at (r + i)).d := by rw [← hy]; exact ⟨rfl, rfl⟩
  have yfr : y.fr = (M.S.at (r + i)).fr := by rw [← hy]; rfl
  have yaz : y.a = a ∧ y.z = z := by rw [← hy]; exact ⟨rfl, rfl⟩
  obtain ⟨rr, hrr⟩ := First.ex2 ((M.S.set (r + i) y).went y) M.S.on.length
  have hpos : ∀ t, t < M.S.on.length → 0 ≤ (M.S.at t).n := fun t ht => (HXW.out.qm.fit t ht).n0
  have hAD : ∀ x, Qm x w0.heap.size q v M.S → Calls Tryd.prog 10 #[.pointer (some ⟨q, 0, none⟩), .int .i64 k, .int .u32 a, .int .i64 z] x fun e x' => e = .returned (.tuple #[.int .i64 ((M.S.set (r + i) y).num rr), .nilIface]) ∧ Step x x' w0.heap.size q v M.S v (M.S.set (r + i) y) := fun x kx => by
    have := addr_store _ q v M.S k (r + i) a z x kx hP (by omega) hz0 hsl (by omega) ⟨hzi, hai.2.2⟩
    rw [hy] at this
    refine this.mono fun e x' h => ?_
    obtain ⟨r2, h1, h2, h3⟩ := h
    obtain rfl := h1.uniq hrr
    exact ⟨h2, h3⟩
  have hfr : (M.S.at (r + i)).fr = [] := List.eq_nil_of_length_eq_zero (by have := (HXW.out.qm.fit (r + i) (by omega)).fz; omega)
  have hdk : M.done k = false := by
    have := HK.out.don i HHI.out
    rw [← HHK.out] at this
    cases hd : M.done k
    · rfl
    · rw [if_pos hd, HST.out] at this
      cases this.1
  have hkk : (M.S.at (r + i)).hv = M.known k ∧ (M.known k = true → (M.S.at (r + i)).d = (g k).da) := by
    have := HK.out.kno i HHI.out
    rw [← HHK.out] at this
    exact this HST.out
  have hatn : ∀ j, j ≠ r + i → (M.S.set (r + i) y).at j = M.S.at j := fun j hj => M.S.at_set' _ j y hj
  have hwt : ∀ j, r + i < j → j < M.S.on.length → (M.S.set (r + i) y).went y j = (M.S.at j).early y := fun j h1 h2 => by
    unfold QS.went
    rw [hatn j (by omega), decide_eq_true (by rw [yn]; exact HK.out.asc _ _ h1 h2)]
    rfl
  by_cases hr1 : rr = -1
  · subst hr1
    have hno : ∀ j, j < M.S.on.length → (M.S.set (r + i) y).went y j = false := by
      rcases hrr with ⟨j, -, -, -, h4⟩ | ⟨h1, -⟩
      · omega
      · exact h1
    have HAD := Hid.in hAD
    have HKN : Hid (Kept g n { M with S := M.S.set (r + i) y, given := upd M.given k true } r) := by
      refine HK.out.turn i HHI.out y M.got (upd M.given k true) M.known M.done yn yrt yst (fun t ht => ⟨rfl, upd_other _ _ _ _ (by rw [HHK.out]; exact ht), rfl, rfl⟩) ?_ ?_ ?_ (fun j hj hne u hu => ?_)
      · rw [← HHK.out, upd_same, if_pos rfl, HA.out, HZ.out]
        exact yaz
      · rw [← HHK.out, yhv.1, yhv.2]
        exact fun _ => hkk
      · rw [← HHK.out, hdk, if_neg (by simp), yfr]
        exact hfr
      · rcases Nat.lt_or_ge j (r + i) with c | c
        · exact hu.low (fun t ht => hatn t (by omega))
        · exact hu.place HK.out.asc hpos hj (by omega) hz0 yn (by rw [← hwt j (by omega) hj]; exact hno j hj)
    have hnm : (M.S.set (r + i) y).num (-1) = -1 := rfl
    rw [hnm] at HAD
    clear hz0 hpn hpr hsl hP hfr hio hlen hzi hai hri hAD hno hrr hwt hatn hkk hdk yaz yfr yhv yrt yst yn hpos hy hnm
    go_wp2_with (go_at_call 10; refine (HAD.out _ HXW.out.qm).mono ?_; rintro e y1 ⟨rfl, st1⟩; have HY : Hid (Xm w0 y1 q v (.slice (some ⟨sb, so, none⟩) n cl) b n { M with S := M.S.set (r + i) y }) := HXW.out.onQ rfl rfl rfl rfl rfl rfl rfl st1; clear st1 hb0 c0 c1 c2 c3 c4 c5 c6 c7 c8 g2 f2 h2 a0 a3 al; obtain ⟨hb0, c0, c1, c2, c3, c4, c5, c6, c7, c8⟩ := HY.out.cells; obtain ⟨g2, f2, h2⟩ := HY.out.row2 k hkn)
    go_ret
    refine ⟨rfl, _, v, HY.out.setGiven k true hkn, HKN.out, ⟨rfl, ⟨by have := HHI.out; show M.out + i < M.inn; omega, Nat.le_refl _⟩, fun t ht => ⟨upd_other _ _ _ _ (by have := HHK.out; omega), rfl, rfl⟩, by show upd M.given k true _ = true; rw [← HHK.out, upd_same], fun q => ?_, fun q => ?_⟩⟩
    · rw [← HHK.out, HGV.out] at q
      cases q
    · rw [← HHK.out, HGV.out] at q
      cases q
  · obtain ⟨j0, hj0, hw0, rfl⟩ := hrr.some hr1
    have hlt : ∀ j, j < j0 → (M.S.set (r + i) y).went y j = false := by
      rcases hrr with ⟨j, h1, h2, h3, h4⟩ | ⟨h1, h2⟩
      · obtain rfl : j0 = j := by omega
        exact h3
      · omega
    have hgt : r + i < j0 := by
      rcases Nat.lt_trichotomy j0 (r + i) with c | c | c
      · have h1 := HK.out.asc j0 (r + i) c hri
        unfold QS.went at hw0
        rw [hatn j0 (by omega), decide_eq_false (by rw [yn]; omega)] at hw0
        cases hw0
      · subst c
        unfold QS.went at hw0
        rw [M.S.at_set _ y hri, decide_eq_false (by omega)] at hw0
        cases hw0
      · exact c
    have hea : (M.S.at j0).early y = true := by rw [← hwt j0 hgt hj0]; exact hw0
    obtain ⟨i2, hi2⟩ : ∃ i2, j0 = r + i2 := ⟨j0 - r, by omega⟩
    have hi2l : i2 < M.inn - M.out := by omega
    obtain ⟨bd, hbd⟩ : ∃ bd, bd = M.out + i2 := ⟨_, rfl⟩
    have hnum : (M.S.set (r + i) y).num (j0 : Int) = (bd : Int) := by
      unfold QS.num
      rw [if_neg (by omega), Int.toNat_natCast, hatn j0 (by omega), hi2, HK.out.num i2 hi2l, hbd]
    have hdn := HK.out.don i2 hi2l
    have hd2 : M.done bd = true := by
      rw [← hbd] at hdn
      cases hd : M.done bd
      · rw [if_neg (by rw [hd]; simp)] at hdn
        rw [hi2] at hea
        unfold Ac.early at hea
        rw [hdn] at hea
        simp at hea
      · rfl
    have hs2 : (g bd).st = false := by
      rw [← hbd, if_pos hd2] at hdn
      exact hdn.1
    rw [hnum] at hAD
    have HAD := Hid.in hAD
    have hbk : bk (upd M.given k true) bd n = upd (bk M.given bd n) k true := by
      funext t
      unfold bk upd
      by_cases e : t = k
      · have := HHK.out
        rw [if_neg (by omega), if_pos e, if_pos e]
      · show (if bd ≤ t ∧ t < n then false else (if t = k then true else M.given t)) = (if t = k then true else (if bd ≤ t ∧ t < n then false else M.given t))
        rw [if_neg e, if_neg e]
    have hsc : (M.S.set (r + i) y).cut (r + i2) = (M.S.cut (r + i2)).set (r + i) y := by
      unfold QS.cut QS.set
      simp [List.take_set]
    have HKN : Hid (Kept g n { ({ M with S := M.S.set (r + i) y, given := upd M.given k true } : Ms).bk ((M.S.set (r + i) y).cut (r + i2)) bd n with inn := bd } r) := by
      have hkb : k < bd := by have := HHK.out; omega
      have K1 := HK.out.back i2 (by omega) (bk M.given bd n) (bk M.known bd n) (bk M.done bd n) (fun t ht => by
        unfold bk
        rw [if_neg (by omega), if_neg (by omega), if_neg (by omega)]
        exact ⟨rfl, rfl, rfl⟩) (fun t ht => by
        unfold bk
        by_cases c : bd ≤ t ∧ t < n
        · rw [if_pos c, if_pos c, if_pos c]
          exact ⟨rfl, rfl, rfl⟩
        · rw [if_neg c, if_neg c, if_neg c]
          exact HK.out.fresh t (by omega))
      have hcl := M.S.cut_len (r + i2) (by omega)
      have hac : ∀ t, t < r + i2 → (M.S.cut (r + i2)).at t = M.S.at t := fun t ht => M.S.at_cut _ t ht
      have e1 : (M.S.cut (r + i2)).at (r + i) = M.S.at (r + i) := hac _ (by omega)
      have K2 := K1.turn i (by show i < M.out + i2 - M.out; omega) y M.got (upd (bk M.given bd n) k true) (bk M.known bd n) (bk M.done bd n) (by rw [yn]; exact (congrArg Ac.n e1).symm) yrt (by rw [yst]; exact (congrArg Ac.st e1).symm) (fun t ht => ⟨rfl, upd_other _ _ _ _ (by rw [HHK.out]; exact ht), rfl, rfl⟩) ?_ ?_ ?_ (fun j hj hne u hu => ?_)
      · rw [hbd] at K2 ⊢
        unfold Ms.bk
        rw [hsc, ← hbd, hbk]
        rw [← hbd] at K2
        exact K2
      · show if upd (bk M.given bd n) k true (M.out + i) = true then _ else _
        rw [← HHK.out, upd_same, if_pos rfl, HA.out, HZ.out]
        exact yaz
      · show (g (M.out + i)).st = true → y.hv = bk M.known bd n (M.out + i) ∧ (bk M.known bd n (M.out + i) = true → y.d = (g (M.out + i)).da)
        have e2 : bk M.known bd n k = M.known k := by unfold bk; rw [if_neg (by omega)]
        rw [← HHK.out, yhv.1, yhv.2, e2]
        exact fun _ => hkk
      · show if bk M.done bd n (M.out + i) = true then _ else y.fr = []
        have e2 : bk M.done bd n k = M.done k := by unfold bk; rw [if_neg (by omega)]
        rw [← HHK.out, e2, hdk, if_neg (by simp), yfr]
        exact hfr
      · have hj : j < (M.S.cut (r + i2)).on.length := hj
        have hu : Seen (M.S.cut (r + i2)) M.mem u j := hu
        show Seen ((M.S.cut (r + i2)).set (r + i) y) M.mem u j
        rw [hcl] at hj
        rcases Nat.lt_or_ge j (r + i) with c | c
        · exact hu.low (fun t ht => QS.at_set' _ _ t y (by omega))
        · refine hu.place (fun s t h1 h2 => ?_) (fun t ht => ?_) (by rw [hcl]; exact hj) (by omega) (by rw [e1]; exact hz0) (by rw [e1]; exact yn) ?_
          · rw [hcl] at h2
            rw [hac s (by omega), hac t h2]
            exact HK.out.asc s t h1 (by omega)
          · rw [hcl] at ht
            rw [hac t ht]
            exact hpos t (by omega)
          · rw [hac j hj, ← hwt j (by omega) (by omega)]
            exact hlt j (by omega)
    have HK0 : Hid (Kept0 n { M with S := M.S.set (r + i) y, given := upd M.given k true } r) := by
      refine ⟨by show (M.S.set (r + i) y).on.length = _; rw [M.S.set_len]; exact hlen, hio, fun j hj => ?_, fun t ht => ?_, fun t ht => ?_⟩
      · show ((M.S.set (r + i) y).at j).rt = true
        rw [hatn j (by omega)]
        exact (HK.out.old j hj).1
      · show ((M.S.set (r + i) y).at (r + t)).n = _
        by_cases e : t = i
        · rw [e, M.S.at_set _ y hri, yn]
          exact HK.out.num i HHI.out
        · rw [hatn _ (by omega)]
          exact HK.out.num t ht
      · show ((M.S.set (r + i) y).at (r + t)).rt = false
        by_cases e : t = i
        · rw [e, M.S.at_set _ y hri]
          exact yrt
        · rw [hatn _ (by omega)]
          exact (HK.out.new t ht).1
    have hbn : bd < n := by omega
    have hkb : k < bd := by have := HHK.out; omega
    obtain ⟨ob, oo, hop, hobl, t0, -⟩ := HHL.out bd hbn
    cases hop
    have HT0 := Hid.in t0
    have HI2 : Hid (i2 ≤ M.inn - M.out) := Nat.le_of_lt hi2l
    have HBD := Hid.in hbd
    have HDD2 := Hid.in hd2
    have HS2 := Hid.in hs2
    have hmul2 : (bd : Int) * 4 = ((bd * 4 : Nat) : Int) := by omega
    have hbdi : (bd : Int) < (n : Int) := by omega
    have hkbi : ¬ (bd : Int) ≤ (k : Int) := by omega
    have hdd1 : decide ((bd : Int) ≤ (k : Int)) = false := decide_eq_false hkbi
    have hdd2 : decide ((n : Int) ≤ (bd : Int)) = false := decide_eq_false (by omega)
    have hnbd : ¬ (n : Int) ≤ (bd : Int) := by omega
    have hn1 : ¬ bd ≤ k := by omega
    have hn2 : ¬ n ≤ bd := by omega
    have hn3 : decide (bd ≤ k) = false := decide_eq_false hn1
    have hn4 : decide (n ≤ bd) = false := decide_eq_false hn2
    clear hz0 hpn hpr hsl hP hfr hio hlen hzi hai hri hAD hrr hwt hatn hkk hdk yaz yfr yhv yrt yst yn hpos hy hnum hdn hbk hsc hlt hgt hea hw0 hj0 hi2 hi2l hbd hd2 hs2 hr1 t0 hbn
    go_upto_region 5 with (go_at_call 10; refine (HAD.out _ HXW.out.qm).mono ?_; rintro e y1 ⟨rfl, st1⟩; have HY : Hid (Xm w0 y1 q v (.slice (some ⟨sb, so, none⟩) n cl) b n { M with S := M.S.set (r + i) y }) := HXW.out.onQ rfl rfl rfl rfl rfl rfl rfl st1; clear st1 hb0 c0 c1 c2 c3 c4 c5 c6 c7 c8 g2 f2 h2 a0 a3 al; obtain ⟨hb0, c0, c1, c2, c3, c4, c5, c6, c7, c8⟩ := HY.out.cells; obtain ⟨g2, f2, h2⟩ := HY.out.row2 k hkn)
    go_upto_region 6 with fail
    have HY2 := Hid.in (HY.out.setGiven k true hkn)
    generalize y1.setCell ⟨b 2, k, none⟩ (.bool true) = Y at HY2 ⊢
    clear hb0 c0 c1 c2 c3 c4 c5 c6 c7 c8 g2 f2 h2
    obtain ⟨hb0, c0, c1, c2, c3, c4, c5, c6, c7, c8⟩ := HY2.out.cells
    obtain ⟨g5, f4, h4⟩ := HY2.out.row4 bd (by omega)
    have g4 : Y.cell? ⟨b 4, bd, none⟩ = some (.bool true) := by rw [g5]; show some (Value.bool (M.done bd)) = _; rw [HDD2.out]
    clear g5
    have t0 := (HY2.out.low.cell (p := ⟨sb, so + bd * 4, none⟩) hobl).trans HT0.out
    rw [HS2.out] at t0
    have hobY : sb < Y.heap.size := Nat.lt_of_lt_of_le hobl HY2.out.low.size
    go_wp2_with (go_at_call 64; refine (xback_any n r i2 bd w0 _ q cl v (some ⟨sb, so, none⟩) b _ hn HY2.out HK0.out HI2.out HBD.out).mono ?_; rintro e y3 ⟨rfl, v3, hx3⟩; have HX3 := Hid.in hx3; clear hx3)
    go_ret
    refine ⟨rfl, _, v3, HX3.out, HKN.out, ⟨rfl, ⟨by have := HHK.out; show M.out + i < bd; omega, by have := HI2.out; have := HBD.out; have := HK.out.io; show bd ≤ M.inn; omega⟩, fun t ht => ?_, ?_, fun q => ?_, fun q => ?_⟩⟩
    · have := HHK.out
      show bk (upd M.given k true) bd n t = _ ∧ bk M.known bd n t = _ ∧ bk M.done bd n t = _
      unfold bk
      rw [if_neg (by omega), if_neg (by omega), if_neg (by omega)]
      exact ⟨upd_other _ _ _ _ (by omega), rfl, rfl⟩
    · have := HHK.out
      show bk (upd M.given k true) bd n (M.out + i) = true
      unfold bk
      rw [if_neg (by omega), ← HHK.out, upd_same]
    · rw [← HHK.out, HGV.out] at q
      cases q
    · rw [← HHK.out, HGV.out] at q
      cases q
end Go.Proofs.YthbffonedpeeiaaDoor
/-
  LSQ's LAW LsqMemory: bytes that are mixed.
-/
namespace Go.Proofs.YthbffonedpeeiaaDoor
open Go Go.RowKit
theorem leN_bit (c : Nat → Nat) : ∀ (z t : Nat), (∀ b, b < z → c b < 256) → (leN c z).testBit t = (decide (t < 8 * z) && (c (t / 8)).testBit (t % 8))
  | 0, t, _ => by simp [leN]
  | z + 1, t, h => by
    have ih := leN_bit c z t (fun b hb => h b (by omega))
    have hlt := leN_lt c z (fun b hb => h b (by omega))
    have e1 : leN c (z + 1) = 2 ^ (8 * z) * c z + leN c z := by
      show leN c z + c z * 256 ^ z = _
      rw [← pow_is]
      rw [Nat.mul_comm, Nat.add_comm]
    rw [← pow_is] at hlt
    rw [e1, Nat.testBit_two_pow_mul_add _ hlt, ih]
    by_cases c1 : t < 8 * z
    · rw [if_pos c1, decide_eq_true c1, decide_eq_true (by omega)]
    · rw [if_neg c1]
      by_cases c2 : t < 8 * (z + 1)
      · rw [decide_eq_true c2]
        have e2 : t / 8 = z := by omega
        have e3 : t % 8 = t - 8 * z := by omega
        rw [e2, e3]
        simp
      · rw [decide_eq_false c2]
        simp only [Bool.false_and]
        have := h z (by omega)
        exact Nat.testBit_lt_two_pow (Nat.lt_of_lt_of_le this (Nat.pow_le_pow_right (n := 2) (by decide) (show 8 ≤ t - 8 * z by omega)))
theorem mask_bit (b t : Nat) : (255 * 2 ^ (8 * b)).testBit t = decide (t / 8 = b) := by
  rw [Nat.testBit_mul_two_pow]
  have e : (255 : Nat) = 2 ^ 8 - 1 := rfl
  rw [e, Nat.testBit_two_pow_sub_one]
  by_cases c : 8 * b ≤ t
  · rw [decide_eq_true c, Bool.true_and]
    exact decide_eq_decide.2 (by omega)
  · rw [decide_eq_false c, Bool.false_and]
    exact (decide_eq_false (by omega)).symm
theorem mask_lt (b : Nat) (h : b < 4) : 255 * 2 ^ (8 * b) < 4294967296 := by
  match b, h with
  | 0, _ => decide
  | 1, _ => decide
  | 2, _ => decide
  | 3, _ => decide
theorem mix_nat (c d : Nat → Nat) (z b : Nat) (hz : z ≤ 4) (hb : b < z) (hc : ∀ t, t < z → c t < 256) (hd : ∀ t, t < z → d t < 256) : (leN c z &&& (4294967295 - 255 * 2 ^ (8 * b))) ||| (leN d z &&& (255 * 2 ^ (8 * b))) = leN (upd c b (d b)) z := by
  apply Nat.eq_of_testBit_eq
  intro t
  have hm := mask_lt b (by omega)
  have e1 : 4294967295 - 255 * 2 ^ (8 * b) = 2 ^ 32 - (255 * 2 ^ (8 * b) + 1) := by omega
  have hu : ∀ s, s < z → upd c b (d b) s < 256 := fun s hs => by
    unfold upd
    split
    · exact hd b hb
    · exact hc s hs
  rw [Nat.testBit_or, Nat.testBit_and, Nat.testBit_and, e1, Nat.testBit_two_pow_sub_succ (by omega), mask_bit, leN_bit c z t hc, leN_bit d z t hd, leN_bit _ z t hu]
  by_cases c1 : t < 8 * z
  · rw [decide_eq_true c1, decide_eq_true (show t < 32 by omega)]
    by_cases c2 : t / 8 = b
    · rw [decide_eq_true c2, c2, upd_same]
      simp
    · rw [decide_eq_false c2, upd_other _ _ _ _ c2]
      simp
  · rw [decide_eq_false c1]
    simp
theorem mix_is (c d : Nat → Nat) (z b v V : Nat) (hz : z ≤ 4) (hb : b < z) (hc : ∀ t, t < z → c t < 256) (hd : ∀ t, t < z → d t < 256) (hv : v = leN c z) (hV : V = leN d z) : bits .or .u32 (bits .andNot .u32 (v : Int) (255 * 2 ^ (8 * b) % 4294967296)) (bits .and .u32 (V : Int) (255 * 2 ^ (8 * b) % 4294967296)) = ((leN (upd c b (d b)) z : Nat) : Int) := by
  have hp : (256 : Nat) ^ z ≤ 4294967296 := by
    have : 256 ^ z ≤ 256 ^ 4 := Nat.pow_le_pow_right (by decide) hz
    omega
  have h1 := leN_lt c z hc
  have h2 := leN_lt d z hd
  have hm := mask_lt b (by omega)
  have e1 : (255 : Int) * 2 ^ (8 * b) % 4294967296 = ((255 * 2 ^ (8 * b) : Nat) : Int) := by
    have : (255 : Int) * 2 ^ (8 * b) = ((255 * 2 ^ (8 * b) : Nat) : Int) := by simp
    rw [this]
    omega
  subst hv hV
  rw [e1, u32_andNot_nat _ _ (by omega) hm, u32_and_nat _ _ (by omega) hm, u32_or_nat _ _ (Nat.lt_of_le_of_lt Nat.and_le_left (by omega)) (Nat.lt_of_le_of_lt Nat.and_le_left (by omega)), mix_nat c d z b hz hb hc hd]
theorem gm_bit (l : List Int) : ∀ (z b : Nat), b < z → gmN l z / 2 ^ b % 2 = if l.getD b 0 = -1 then 0 else 1
  | 0, b, h => by omega
  | z + 1, b, h => by
    have hlt := gmN_lt l z
    unfold gmN
    by_cases e : b = z
    · subst e
      by_cases q : l.getD b 0 = -1
      · rw [if_pos q, if_pos q, Nat.add_zero, Nat.div_eq_of_lt hlt]
      · rw [if_neg q, if_neg q, Nat.add_div_right _ (Nat.two_pow_pos b), Nat.div_eq_of_lt hlt]
    · have ih := gm_bit l z b (by omega)
      by_cases q : l.getD z 0 = -1
      · rw [if_pos q, Nat.add_zero]
        exact ih
      · rw [if_neg q, ← ih]
        obtain ⟨u, hu⟩ : ∃ u, z = b + (u + 1) := ⟨z - b - 1, by omega⟩
        have e1 : (2 : Nat) ^ z = 2 ^ b * (2 ^ u * 2) := by rw [hu, Nat.pow_add, Nat.pow_succ]
        rw [e1, Nat.add_mul_div_left _ _ (Nat.two_pow_pos b), Nat.add_mul_mod_self_right]
theorem gv_leN (S : QS) (e : Ac) (l : List Int) : ∀ z, S.gvN e l z = leN (fun b => if l.getD b 0 = -1 then 0 else S.byteOf e b (l.getD b 0)) z
  | 0 => rfl
  | z + 1 => by
    unfold QS.gvN leN
    rw [gv_leN S e l z]
    split
    · simp
    · rfl
end Go.Proofs.YthbffonedpeeiaaDoor
