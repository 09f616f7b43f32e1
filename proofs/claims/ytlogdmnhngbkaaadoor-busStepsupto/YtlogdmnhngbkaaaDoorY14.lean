import Derived.Test.YtlogdmnhngbkaaaDoorY13
import Derived.Test.YtlogdmnhngbkaaaDoorY12
/-
  CACHE: Lower.
-/
namespace Go.Proofs.YtlogdmnhngbkaaaDoor
open Go Go.RowKit
theorem results_line2 {fn : Func} {p u : Tmp} (h : fn.results = #[.cell p 114, .tmp u]) (tmps : Array Value) (w : World) (g : Nat) (e : Ln) (x : Value) (hp : tmps.getD p undef = .pointer (some ⟨g, 0, none⟩)) (hx : tmps.getD u undef = x) (hg : w.rangeAt g 0 e.vs) : (results fn tmps).run Tryd.prog w = .ok (.tuple #[.agg e.vs.toArray, x]) w := by
  have hp' : tmps[p]?.getD undef = .pointer (some ⟨g, 0, none⟩) := by simpa using hp
  have hx' : tmps[u]?.getD undef = x := by simpa using hx
  simp [results, h, hp', hx', asAddr, load_var w g 0 e hg]
theorem low_fin (w W : World) (e : Ln) (hW : w.alloc (.cells zl 114) = W) : ∀ X : World, Below W.heap.size W X → X.there w.heap.size 0 18 ∧ Below w.heap.size w (X.setCells w.heap.size 0 e.vs) ∧ (X.setCells w.heap.size 0 e.vs).rangeAt w.heap.size 0 e.vs := by
  intro X hX
  have tW : W.there w.heap.size 0 18 := by rw [← hW]; exact there_new w _
  have b1 : Below w.heap.size w W := by rw [← hW]; exact (Below.refl _ _).alloc (Nat.le_refl _) _
  have sW : W.heap.size = w.heap.size + 1 := by rw [← hW]; simp
  have t1 : X.there w.heap.size 0 18 := there_turned tW (Turned.of_below (Q := fun _ => False) hX) (by omega) (fun q => q)
  have b2 : Below w.heap.size w X := b1.trans (hX.mono b1.size)
  exact ⟨t1, b2.trans ((turned_setCells (g := w.heap.size) e.vs 0 X).below b2.size (fun q e => by omega)), World.rangeAt_setCells_same _ _ _ _ (by rw [Ln.len]; exact t1)⟩
set_option maxRecDepth 100000 in
set_option maxHeartbeats 2000000 in
theorem lower_bad (B p h c : Nat) (V : Nat → Value) (S : CS) (a : Nat) (st : Int) (w : World) (k : Ch w B p h c V S) (ha : a < 4294967296) (er : Int) (hb : (er = 3 ∧ (a % 16 ≠ 0 ∨ st < 0 ∨ 2 < st)) ∨ (er = 7 ∧ a % 16 = 0 ∧ 0 ≤ st ∧ st ≤ 2 ∧ (No (S.set (S.of a)) a ∨ ∃ i, At (S.set (S.of a)) a i ∧ (((S.set (S.of a)).getD i l0).s : Int) ≤ st))) : Calls Tryd.prog 46 #[.pointer (some ⟨p, 0, none⟩), .int .u32 a, .int .i64 st] w fun e w' => e = .returned (.tuple #[.agg l0.vs.toArray, errV er]) ∧ Below w.heap.size w w' := by
  have hu : undef = Value.tuple #[] := rfl
  have hp := k.c.here
  obtain ⟨W, hW⟩ : ∃ W, w.alloc (.cells #[.int .u32 0, .int .i64 0, .int .u8 0, .int .u8 0, .int .u8 0, .int .u8 0, .int .u8 0, .int .u8 0, .int .u8 0, .int .u8 0, .int .u8 0, .int .u8 0, .int .u8 0, .int .u8 0, .int .u8 0, .int .u8 0, .int .u8 0, .int .u8 0] 114) = W := ⟨_, rfl⟩
  have HW := Hid.in hW
  have fin := Hid.in (low_fin w W l0 hW)
  have b1 : Below w.heap.size w W := by rw [← hW]; exact (Below.refl _ _).alloc (Nat.le_refl _) _
  have kW := k.below b1
  have main : (er = 3 ∧ a % 16 ≠ 0) ∨ (er = 3 ∧ a % 16 = 0 ∧ st < 0) ∨ (er = 3 ∧ a % 16 = 0 ∧ 0 ≤ st ∧ 2 < st) ∨ (er = 7 ∧ a % 16 = 0 ∧ 0 ≤ st ∧ st ≤ 2 ∧ (No (S.set (S.of a)) a ∨ ∃ i, At (S.set (S.of a)) a i ∧ (((S.set (S.of a)).getD i l0).s : Int) ≤ st)) := by
    rcases hb with h | h
    · omega
    · exact Or.inr (Or.inr (Or.inr h))
  clear hb hW b1
  rcases main with ⟨rfl, hq⟩ | ⟨rfl, hq, h0⟩ | ⟨rfl, hq, h0, h2⟩ | ⟨rfl, hq, h1, h3, hA⟩
  · have hd : decide (a % 16 = 0) = false := by simp [hq]
    clear k kW
    go_enter Tryd.func46, Tryd.ntmps46
    go_upto_region 1 with fail
    rw [HW.out]
    obtain ⟨T1, hF⟩ := fin.out W (Below.refl _ _)
    have HF := Hid.in hF
    clear hF
    go_wp2_with (first
      | (go_at_call 69
         refine (isLine_any a _ ha).mono ?_
         rintro e9 w1 ⟨rfl, hww⟩
         rw [hww, hd]
         clear hww)
      | (refine st_line w.heap.size 0 l0 T1 rfl rfl _ _ rfl rfl rfl ?_))
    refine bodyPost_ret (results_line2 Tryd.results46 _ _ w.heap.size l0 _ rfl rfl HF.out.2) rfl ?_
    exact ⟨rfl, HF.out.1⟩
  · have hd : decide (a % 16 = 0) = true := by simp [hq]
    have h0d : decide (st < 0) = true := by simp [h0]
    clear k kW
    go_enter Tryd.func46, Tryd.ntmps46
    go_upto_region 1 with fail
    rw [HW.out]
    obtain ⟨T1, hF⟩ := fin.out W (Below.refl _ _)
    have HF := Hid.in hF
    clear hF
    go_wp2_with (first
      | (go_at_call 69
         refine (isLine_any a _ ha).mono ?_
         rintro e9 w1 ⟨rfl, hww⟩
         rw [hww, hd]
         clear hww)
      | (refine st_line w.heap.size 0 l0 T1 rfl rfl _ _ rfl rfl rfl ?_))
    refine bodyPost_ret (results_line2 Tryd.results46 _ _ w.heap.size l0 _ rfl rfl HF.out.2) rfl ?_
    exact ⟨rfl, HF.out.1⟩
  · have hd : decide (a % 16 = 0) = true := by simp [hq]
    have h0d : decide (st < 0) = false := by simp; omega
    have h2d : decide (2 < st) = true := by simp [h2]
    clear k kW
    go_enter Tryd.func46, Tryd.ntmps46
    go_upto_region 1 with fail
    rw [HW.out]
    obtain ⟨T1, hF⟩ := fin.out W (Below.refl _ _)
    have HF := Hid.in hF
    clear hF
    go_wp2_with (first
      | (go_at_call 69
         refine (isLine_any a _ ha).mono ?_
         rintro e9 w1 ⟨rfl, hww⟩
         rw [hww, hd]
         clear hww)
      | (refine st_line w.heap.size 0 l0 T1 rfl rfl _ _ rfl rfl rfl ?_))
    refine bodyPost_ret (results_line2 Tryd.results46 _ _ w.heap.size l0 _ rfl rfl HF.out.2) rfl ?_
    exact ⟨rfl, HF.out.1⟩
  · have hd : decide (a % 16 = 0) = true := by simp [hq]
    have h0d : decide (st < 0) = false := by simp; omega
    have h2d : decide (2 < st) = false := by simp; omega
    have HK := Hid.in kW
    have hO := S.of_lt a k.small.2.2.1
    have HO := Hid.in hO
    have h4 := k.four _ hO
    obtain ⟨qa, cap, hv, hcap, hel⟩ := own_lines (kW.l _ hO)
    obtain ⟨m, hm⟩ : ∃ m, (S.set (S.of a)).length = m := ⟨_, rfl⟩
    rw [hm] at hv h4
    have HV := Hid.in hv
    have HM := Hid.in hm
    obtain ⟨r, hr⟩ : ∃ r, S.of a = r := ⟨_, rfl⟩
    have HR := Hid.in hr
    rcases hA with hA | ⟨i, hA, hle⟩
    · have HA := Hid.in hA
      clear k kW hA hO hv hm hr hel hcap
      go_enter Tryd.func46, Tryd.ntmps46
      go_upto_region 1 with fail
      rw [HW.out]
      go_wp2_with (first
      | (go_at_call 55
         refine (find_no_m B m _ (S.set (S.of a)) HM.out a _ (HX.out.rowm _ HO.out _ HV.out _ HM.out) h4 ha HA.out).mono ?_
         rintro e9 w2 ⟨rfl, rfl⟩)
      | (go_at_call 54
         refine (setOf_any B p h c V S a _ HK.out ha).mono ?_
         rintro e9 w1 ⟨rfl, hb⟩
         have k1 := HK.out.below hb
         have HX := Hid.in k1
         have ch := k1.v.cell _ HO.out
         have hh1 := k1.v.here
         have HB := Hid.in hb
         rw [HR.out] at ch ⊢
         rw [← HR.out, HV.out, HR.out] at ch
         obtain ⟨T1, hF⟩ := fin.out w1 hb
         have HF := Hid.in hF
         clear hF
         clear k1 hb)
      | (go_at_call 69
         refine (isLine_any a _ ha).mono ?_
         rintro e9 w1 ⟨rfl, hww⟩
         rw [hww, hd]
         clear hww)
      | (refine st_line w.heap.size 0 l0 T1 rfl rfl _ _ rfl rfl rfl ?_))
      refine bodyPost_ret (results_line2 Tryd.results46 _ _ w.heap.size l0 _ rfl rfl HF.out.2) rfl ?_
      exact ⟨rfl, HF.out.1⟩
    · have hii : ((i : Int) == -1) = false := by simp
      have him : i < m := by rw [← hm]; exact hA.1
      obtain ⟨g, rfl, -, hg, -, -, -, d1, -⟩ := hel i hA.1
      obtain ⟨s, hs⟩ : ∃ s, ((S.set (S.of a)).getD i l0).s = s := ⟨_, rfl⟩
      rw [hs] at d1 hle
      have hled : decide ((s : Int) ≤ st) = true := by simp [hle]
      have HA := Hid.in hA
      have HD := Hid.in (And.intro hg d1)
      clear k kW hA hO hv hm hr hel hcap hs d1 hg
      go_enter Tryd.func46, Tryd.ntmps46
      go_upto_region 1 with fail
      rw [HW.out]
      go_wp2_with (first
      | (go_at_call 55
         refine (find_at_m B m _ (S.set (S.of a)) HM.out a i _ (HX.out.rowm _ HO.out _ HV.out _ HM.out) h4 ha HA.out).mono ?_
         rintro e9 w2 ⟨rfl, rfl⟩)
      | (go_at_call 54
         refine (setOf_any B p h c V S a _ HK.out ha).mono ?_
         rintro e9 w1 ⟨rfl, hb⟩
         have k1 := HK.out.below hb
         have HX := Hid.in k1
         have ch := k1.v.cell _ HO.out
         have hh1 := k1.v.here
         have HB := Hid.in hb
         rw [HR.out] at ch ⊢
         rw [← HR.out, HV.out, HR.out] at ch
         obtain ⟨T1, hF⟩ := fin.out w1 hb
         have HF := Hid.in hF
         clear hF
         have d1 := (hb.cell (p := ⟨g, i * 18 + 1, none⟩) HD.out.1).trans HD.out.2
         have hg1 := Nat.lt_of_lt_of_le HD.out.1 hb.size
         clear k1 hb)
      | (go_at_call 69
         refine (isLine_any a _ ha).mono ?_
         rintro e9 w1 ⟨rfl, hww⟩
         rw [hww, hd]
         clear hww)
      | (refine st_line w.heap.size 0 l0 T1 rfl rfl _ _ rfl rfl rfl ?_))
      refine bodyPost_ret (results_line2 Tryd.results46 _ _ w.heap.size l0 _ rfl rfl HF.out.2) rfl ?_
      exact ⟨rfl, HF.out.1⟩
set_option maxRecDepth 100000 in
set_option maxHeartbeats 4000000 in
theorem lower_good (B p h c : Nat) (V : Nat → Value) (S : CS) (a st i : Nat) (w : World) (k : Ch w B p h c V S) (ha : a < 4294967296) (h16 : a % 16 = 0) (h2 : st ≤ 2) (hA : At (S.set (S.of a)) a i) (hst : st < ((S.set (S.of a)).getD i l0).s) : Calls Tryd.prog 46 #[.pointer (some ⟨p, 0, none⟩), .int .u32 a, .int .i64 st] w fun e w' => e = .returned (.tuple #[.agg ((S.set (S.of a)).getD i l0).vs.toArray, .nilIface]) ∧ ∃ V', Ch w' B p h c V' (S.put (S.of a) (if st = 0 then rest (S.set (S.of a)) i else (S.set (S.of a)).set i (((S.set (S.of a)).getD i l0).setS st))) ∧ (∀ j q, j < S.n → (V' j).ownBlock = some q → (V j).ownBlock = some q) ∧ Turned (mine p h S.n V) w w' := by
  have hu : undef = Value.tuple #[] := rfl
  have hp := k.c.here
  have hh := k.v.here
  obtain ⟨W, hW⟩ : ∃ W, w.alloc (.cells #[.int .u32 0, .int .i64 0, .int .u8 0, .int .u8 0, .int .u8 0, .int .u8 0, .int .u8 0, .int .u8 0, .int .u8 0, .int .u8 0, .int .u8 0, .int .u8 0, .int .u8 0, .int .u8 0, .int .u8 0, .int .u8 0, .int .u8 0, .int .u8 0] 114) = W := ⟨_, rfl⟩
  have HW := Hid.in hW
  obtain ⟨e, he⟩ : ∃ e, (S.set (S.of a)).getD i l0 = e := ⟨_, rfl⟩
  have tW : W.there w.heap.size 0 18 := by rw [← hW]; exact there_new w _
  have b1 : Below w.heap.size w W := by rw [← hW]; exact (Below.refl _ _).alloc (Nat.le_refl _) _
  have sW : W.heap.size = w.heap.size + 1 := by rw [← hW]; simp
  have kW := k.below b1
  have hd : decide (a % 16 = 0) = true := by simp [h16]
  have h0d : decide ((st : Int) < 0) = false := by simp
  have h2d : decide ((2 : Int) < st) = false := by simp; omega
  have hii : ((i : Int) == -1) = false := by simp
  have HK := Hid.in kW
  have hO := S.of_lt a k.small.2.2.1
  have HO := Hid.in hO
  have h4 := k.four _ hO
  have HFW := Hid.in (k.few _ hO)
  obtain ⟨qa, cap, hv, hcap, hel⟩ := own_lines (kW.l _ hO)
  obtain ⟨g, rfl, -, hg, hrg, hth, -, d1, hfr⟩ := hel i hA.1
  obtain ⟨m, hm⟩ : ∃ m, (S.set (S.of a)).length = m := ⟨_, rfl⟩
  have hgb : (V (S.of a)).ownBlock = some g := by rw [hv]; rfl
  have hglt : g < w.heap.size := (own_base (k.l _ hO) g hgb).2
  have hgh : g ≠ h := fun q => k.vh _ hO (by rw [hgb, q])
  rw [hm] at hv h4
  have him : i < m := by rw [← hm]; exact hA.1
  rw [he] at hst hrg d1 ⊢
  obtain ⟨s, hs⟩ : ∃ s, e.s = s := ⟨_, rfl⟩
  rw [hs] at hst d1
  have hled : decide ((s : Int) ≤ st) = false := by simp; omega
  have HV := Hid.in hv
  have HM := Hid.in hm
  have HE := Hid.in he
  obtain ⟨r, hr⟩ : ∃ r, S.of a = r := ⟨_, rfl⟩
  have HR := Hid.in hr
  have HA := Hid.in hA
  have HD := Hid.in (And.intro hg d1)
  have HT := Hid.in tW
  have HB1 := Hid.in b1
  have HSW := Hid.in sW
  have HGB := Hid.in hgb
  have HRG := Hid.in (hrg : W.rangeAt g (i * 18) e.vs)
  have HFR := Hid.in hfr
  have HBL : Hid (∀ j q, j < S.n → (V j).ownBlock = some q → q < w.heap.size) := fun j q hj hq => (own_base (k.l j hj) q hq).2
  by_cases hz : st = 0
  · subst hz
    rw [if_pos rfl]
    clear k kW hA hO hv hm hr hel hcap hs d1 hg tW b1 sW hW he hrg hth hfr hgb
    go_enter Tryd.func46, Tryd.ntmps46
    go_upto_region 1 with fail
    rw [HW.out]
    go_wp2_with (first
      | (go_at_call 55
         refine (find_at_m B m _ (S.set (S.of a)) HM.out a i _ (HX.out.rowm _ HO.out _ HV.out _ HM.out) h4 ha HA.out).mono ?_
         rintro e9 w2 ⟨rfl, rfl⟩)
      | (go_at_call 70
         refine (takeOut_ch B p h c V S r i _ HX.out (by rw [← HR.out]; exact HO.out) (by rw [← HR.out]; exact HA.out.1)).mono ?_
         rintro e9 w3 ⟨rfl, v', hch, hvb, ht⟩
         have HEE := HE.out
         rw [HR.out] at HEE
         rw [HEE]
         clear HEE
         have T3 := there_turned (there_turned HT.out (Turned.of_below (Q := fun _ => False) HB.out) (by have := HSW.out; omega) (fun q => q)) ht (by have := HSW.out; have := HB.out.size; omega) (fun q => q.elim (fun q => by have := HBL.out r _ (by rw [← HR.out]; exact HO.out) q; omega) (fun q => by omega))
         have HCH := Hid.in hch
         have HVB := Hid.in hvb
         have HT3 := Hid.in ht
         clear hch hvb ht)
      | (go_at_call 54
         refine (setOf_any B p h c V S a _ HK.out ha).mono ?_
         rintro e9 w1 ⟨rfl, hb⟩
         have k1 := HK.out.below hb
         have HX := Hid.in k1
         have ch := k1.v.cell _ HO.out
         have hh1 := k1.v.here
         have HB := Hid.in hb
         rw [HR.out] at ch ⊢
         rw [← HR.out, HV.out, HR.out] at ch
         have d1 := (hb.cell (p := ⟨g, i * 18 + 1, none⟩) HD.out.1).trans HD.out.2
         have hg1 := Nat.lt_of_lt_of_le HD.out.1 hb.size
         have R1 := range_turned HRG.out (Turned.of_below (Q := fun _ => False) hb) HD.out.1 (fun q => q)
         clear k1 hb)
      | (go_at_call 69
         refine (isLine_any a _ ha).mono ?_
         rintro e9 w1 ⟨rfl, hww⟩
         rw [hww, hd]
         clear hww)
      | (refine st_line w.heap.size 0 e T3 rfl rfl _ _ rfl rfl rfl ?_))
    have tf := turned_setCells (g := w.heap.size) e.vs 0 w3
    refine bodyPost_ret (results_line2 Tryd.results46 _ _ w.heap.size e _ rfl rfl (World.rangeAt_setCells_same _ _ _ _ (by rw [Ln.len]; exact T3))) rfl ?_
    have hbl : ∀ j q, j < S.n → (upd V r v' j).ownBlock = some q → (V j).ownBlock = some q := by
      intro j q hj hq
      by_cases e1 : j = r
      · subst e1
        rw [upd_same, HVB.out] at hq
        exact hq
      · rw [upd_other _ _ _ _ e1] at hq
        exact hq
    refine ⟨rfl, upd V r v', ?_, hbl, ?_⟩
    · rw [HR.out]
      exact HCH.out.turned tf (by omega) (by omega) (fun j q hj hq e1 => by have := HBL.out j q hj (hbl j q hj hq); omega)
    · refine ((((Turned.of_below HB1.out).trans (Turned.of_below HB.out)).trans (HT3.out.mono (fun q hq => ?_))).trans2'' tf (fun q hq => Or.inr (by omega)))
      rcases hq with hq | hq
      · exact Or.inr (Or.inr ⟨r, by rw [← HR.out]; exact HO.out, hq⟩)
      · exact Or.inr (Or.inl hq)
  · rw [if_neg hz]
    have hz0 : ((st : Int) == 0) = false := by simp; omega
    clear k kW hA hO hv hm hr hel hcap hs d1 hg tW b1 sW hW he hrg hth hfr hgb
    go_enter Tryd.func46, Tryd.ntmps46
    go_upto_region 1 with fail
    rw [HW.out]
    go_upto_region 10 with (first
      | (go_at_call 55
         refine (find_at_m B m _ (S.set (S.of a)) HM.out a i _ (HX.out.rowm _ HO.out _ HV.out _ HM.out) h4 ha HA.out).mono ?_
         rintro e9 w2 ⟨rfl, rfl⟩)
      | (go_at_call 54
         refine (setOf_any B p h c V S a _ HK.out ha).mono ?_
         rintro e9 w1 ⟨rfl, hb⟩
         have k1 := HK.out.below hb
         have HX := Hid.in k1
         have ch := k1.v.cell _ HO.out
         have hh1 := k1.v.here
         have HB := Hid.in hb
         rw [HR.out] at ch ⊢
         rw [← HR.out, HV.out, HR.out] at ch
         have d1 := (hb.cell (p := ⟨g, i * 18 + 1, none⟩) HD.out.1).trans HD.out.2
         have hg1 := Nat.lt_of_lt_of_le HD.out.1 hb.size
         have R1 := range_turned HRG.out (Turned.of_below (Q := fun _ => False) hb) HD.out.1 (fun q => q)
         clear k1 hb)
      | (go_at_call 69
         refine (isLine_any a _ ha).mono ?_
         rintro e9 w1 ⟨rfl, hww⟩
         rw [hww, hd]
         clear hww)
      | (refine ld_line g (i * 18) e R1 rfl _ rfl rfl ?_)
      | (refine st_new w2 e zl rfl w2.heap.size rfl rfl rfl _ _ rfl rfl rfl ?_))
    obtain ⟨X, hX⟩ : ∃ X, w2.alloc (.cells e.vs.toArray 114) = X := ⟨_, rfl⟩
    obtain ⟨lb, hlb⟩ : ∃ lb, w2.heap.size = lb := ⟨_, rfl⟩
    have b2 : Below w2.heap.size w2 X := by rw [← hX]; exact (Below.refl _ _).alloc (Nat.le_refl _) _
    have kX := HX.out.below b2
    have rX : X.rangeAt lb 0 e.vs := by rw [← hX, ← hlb]; exact range_new w2 e _
    have sX : X.heap.size = lb + 1 := by rw [← hX, ← hlb]; simp
    have hlb1 : w.heap.size + 1 ≤ lb := by have h1 := HB.out.size; have h2 := HSW.out; omega
    have tX := there_turned (there_turned HT.out (Turned.of_below (Q := fun _ => False) HB.out) (by have := HSW.out; omega) (fun q => q)) (Turned.of_below (Q := fun _ => False) b2) (by omega) (fun q => q)
    have bX : Turned (mine p h S.n V) w X := (Turned.of_below HB1.out).trans ((Turned.of_below HB.out).trans (Turned.of_below b2))
    have cX : X.cell? ⟨h, r, none⟩ = some (.slice (some ⟨g, 0, none⟩) m cap) := (b2.cell (p := ⟨h, r, none⟩) hh1).trans ch
    have hhX : h < X.heap.size := by omega
    have hgX : g < X.heap.size := by omega
    have dX : X.cell? ⟨g, i * 18 + 1, none⟩ = some (.int .i64 s) := (b2.cell (p := ⟨g, i * 18 + 1, none⟩) (by omega)).trans d1
    have kr := kX.rowm _ HO.out _ HV.out _ HM.out
    have fX : X.frozen? ⟨g, i * 18 + 1, none⟩ = false := World.ownsRow.frozenAt kr _
    have tS : Turned (fun q => q = g) X (X.setCell ⟨g, i * 18 + 1, none⟩ (.int .i64 st)) := (Turned.refl (fun q => q = g) X).set (b := g) rfl _ _
    have kS : Ch (X.setCell ⟨g, i * 18 + 1, none⟩ (.int .i64 st)) B p h c V (S.put (S.of a) ((S.set (S.of a)).set i (e.setS st))) := by
      have o2 := own_set kr (i * 18 + 1) (.int .i64 st)
      have ef := flatL_setS (S.set (S.of a)) i st HA.out.1
      rw [HE.out] at ef
      rw [ef] at o2
      refine kX.row _ HO.out _ (tS.mono (fun q e1 => by rw [HGB.out, e1])) ?_ (by rw [List.length_set]; exact HFW.out)
      rw [List.length_set, HM.out, HV.out]
      exact o2
    have R2 := range_turned rX tS (by omega) (by omega)
    have T2 := there_turned tX tS (by omega) (by omega)
    have HKS := Hid.in kS
    have HTS := Hid.in tS
    have HBX := Hid.in bX
    rw [hX, hlb]
    clear kX kr rX tX kS tS bX hX b2 hlb ch d1 R1
    go_wp2_with (first
      | (refine ld_line lb 0 e R2 rfl _ rfl rfl ?_)
      | (refine st_line w.heap.size 0 e T2 rfl rfl _ _ rfl rfl rfl ?_))
    have tf := turned_setCells (g := w.heap.size) e.vs 0 (X.setCell ⟨g, i * 18 + 1, none⟩ (.int .i64 st))
    refine bodyPost_ret (results_line2 Tryd.results46 _ _ w.heap.size e _ rfl rfl (World.rangeAt_setCells_same _ _ _ _ (by rw [Ln.len]; exact T2))) rfl ?_
    refine ⟨rfl, V, HKS.out.turned tf (by omega) (by omega) (fun j q hj hq e1 => by have := HBL.out j q hj hq; omega), fun j q _ hq => hq, ?_⟩
    exact (HBX.out.trans (HTS.out.mono (fun q e1 => Or.inr (Or.inr ⟨_, HO.out, by rw [HGB.out, e1]⟩)))).trans2'' tf (fun q hq => Or.inr (by omega))
end Go.Proofs.YtlogdmnhngbkaaaDoor
/-
  THE BUS IN MEMORY.
-/
namespace Go.Proofs.YtlogdmnhngbkaaaDoor
open Go Go.RowKit
/-- a bus, plainly: cores, cycles, caches, memory, what is newer, what was asked, whose turn it is, does a transaction go on, for how long -/
structure BS where
  nc : Nat
  cyc : Nat
  c : Nat → CS
  len : Nat
  mem : Nat → Nat
  nw : Int → Option (Nat → Nat)
  ak : Int → Option (Nat × Bool)
  turn : Nat
  on : Bool
  tk : Nat
def askV (p : Nat × Bool) : Value := .agg #[.int .u32 p.1, .bool p.2]
def encN (f : Int → Option (Nat → Nat)) (a : Int) : Option Value := (f a).map fun b => .agg (bvs b).toArray
def encA (f : Int → Option (Nat × Bool)) (a : Int) : Option Value := (f a).map askV
def bv (rb rc mb mc nb ab : Nat) (S : BS) : Nat → Value
  | 0 => .slice (some ⟨rb, 0, none⟩) S.nc rc
  | 1 => .int .i64 S.cyc
  | 2 => .slice (some ⟨mb, 0, none⟩) S.len mc
  | 3 => .map (some nb)
  | 4 => .map (some ab)
  | 5 => .int .i64 S.turn
  | 6 => .bool S.on
  | _ => .int .i64 S.tk
/-- the blocks of a bus that are none of its caches' -/
def own5 (p rb mb nb ab : Nat) (j : Nat) : Prop := j = p ∨ j = rb ∨ j = mb ∨ j = nb ∨ j = ab
structure Bm (x : World) (B p rb rc mb mc nb ab kn ka : Nat) (P H C : Nat → Nat) (V : Nat → Nat → Value) (S : BS) : Prop where
  c : CellsAt 8 x p (bv rb rc mb mc nb ab S)
  row : CellsAt S.nc x rb (fun i => .pointer (some ⟨P i, 0, none⟩))
  ch : ∀ i, i < S.nc → Ch x B (P i) (H i) (C i) (V i) (S.c i)
  m : CellsAt S.len x mb (fun o => .int .u8 (S.mem o))
  nw : MapAt x 31 .u32 nb kn (encN S.nw)
  ak : MapAt x 3 .i64 ab ka (encA S.ak)
  d0 : p ≠ rb ∧ p ≠ mb ∧ p ≠ nb ∧ p ≠ ab ∧ rb ≠ mb ∧ rb ≠ nb ∧ rb ≠ ab ∧ mb ≠ nb ∧ mb ≠ ab ∧ nb ≠ ab
  d1 : ∀ i, i < S.nc → ∀ z, own5 p rb mb nb ab z → ¬ mine (P i) (H i) (S.c i).n (V i) z
  d2 : ∀ i j, i < S.nc → j < S.nc → i ≠ j → ∀ z, mine (P i) (H i) (S.c i).n (V i) z → ¬ mine (P j) (H j) (S.c j).n (V j) z
  lo : ∀ z, own5 p rb mb nb ab z → B ≤ z
  sz : 1 ≤ S.nc ∧ S.nc ≤ 2 ∧ S.cyc ≤ 10 ∧ S.len ≤ 4096 ∧ S.len % 16 = 0 ∧ S.turn < S.nc ∧ S.tk ≤ 10
  rm : S.nc ≤ rc ∧ S.len ≤ mc ∧ rc ≤ 9223372036854775807 ∧ mc ≤ 9223372036854775807
  m8 : ∀ o, S.mem o < 256
section
variable {x y : World} {B p rb rc mb mc nb ab kn ka : Nat} {P H C : Nat → Nat} {V : Nat → Nat → Value} {S : BS}
theorem mine_lt {p h c : Nat} {V : Nat → Value} {T : CS} (k : Ch x B p h c V T) : ∀ z, mine p h T.n V z → z < x.heap.size ∧ B ≤ z := by
  rintro z (rfl | rfl | ⟨i, hi, hz⟩)
  · exact ⟨k.c.here, k.lo.1⟩
  · exact ⟨k.v.here, k.lo.2⟩
  · have := own_base (k.l i hi) z hz
    exact ⟨this.2, this.1⟩
theorem Ch.off {Q : Nat → Prop} {p h c : Nat} {V : Nat → Value} {T : CS} (k : Ch x B p h c V T) (t : Turned Q x y) (hq : ∀ z, mine p h T.n V z → ¬ Q z) : Ch y B p h c V T :=
  k.turned t (hq p (Or.inl rfl)) (hq h (Or.inr (Or.inl rfl))) (fun i j hi hj => hq j (Or.inr (Or.inr ⟨i, hi, hj⟩)))
theorem Bm.at (k : Bm x B p rb rc mb mc nb ab kn ka P H C V S) : ∀ z, own5 p rb mb nb ab z → z < x.heap.size := by
  rintro z (rfl | rfl | rfl | rfl | rfl)
  · exact k.c.here
  · exact k.row.here
  · exact k.m.here
  · exact k.nw.here
  · exact k.ak.here
theorem Bm.below (k : Bm x B p rb rc mb mc nb ab kn ka P H C V S) (t : Below x.heap.size x y) : Bm y B p rb rc mb mc nb ab kn ka P H C V S :=
  ⟨k.c.below t, k.row.below t, fun i hi => (k.ch i hi).below t, k.m.below t, k.nw.below t, k.ak.below t, k.d0, k.d1, k.d2, k.lo, k.sz, k.rm, k.m8⟩
/-- one of its caches has changed -/
theorem Bm.cache (k : Bm x B p rb rc mb mc nb ab kn ka P H C V S) (i : Nat) (hi : i < S.nc) {T : CS} {W : Nat → Value} (hT : T.n = (S.c i).n) (ch : Ch y B (P i) (H i) (C i) W T) (hw : ∀ j q, j < T.n → (W j).ownBlock = some q → (V i j).ownBlock = some q ∨ x.heap.size ≤ q) (t : Turned (mine (P i) (H i) (S.c i).n (V i)) x y) : Bm y B p rb rc mb mc nb ab kn ka P H C (fun j => if j = i then W else V j) { S with c := fun j => if j = i then T else S.c j } := by
  have hm : ∀ z, mine (P i) (H i) T.n W z → mine (P i) (H i) (S.c i).n (V i) z ∨ x.heap.size ≤ z := by
    rintro z (rfl | rfl | ⟨j, hj, hz⟩)
    · exact Or.inl (Or.inl rfl)
    · exact Or.inl (Or.inr (Or.inl rfl))
    · rcases hw j z hj hz with h | h
      · exact Or.inl (Or.inr (Or.inr ⟨j, by omega, h⟩))
      · exact Or.inr h
  have h5 : ∀ z, own5 p rb mb nb ab z → ¬ mine (P i) (H i) (S.c i).n (V i) z := k.d1 i hi
  refine ⟨?_, ?_, fun j hj => ?_, ?_, ?_, ?_, k.d0, fun j hj z hz => ?_, fun a b ha hb hab z hz => ?_, k.lo, k.sz, k.rm, k.m8⟩
  · exact t.cells k.c (h5 p (Or.inl rfl))
  · exact t.cells k.row (h5 rb (Or.inr (Or.inl rfl)))
  · show Ch y B (P j) (H j) (C j) (if j = i then W else V j) (if j = i then T else S.c j)
    by_cases e : j = i
    · subst e
      rw [if_pos rfl, if_pos rfl]
      exact ch
    · rw [if_neg e, if_neg e]
      exact (k.ch j hj).off t (k.d2 j i hj hi e)
  · exact t.cells k.m (h5 mb (Or.inr (Or.inr (Or.inl rfl))))
  · exact k.nw.turned t (h5 nb (Or.inr (Or.inr (Or.inr (Or.inl rfl)))))
  · exact k.ak.turned t (h5 ab (Or.inr (Or.inr (Or.inr (Or.inr rfl)))))
  · show ¬ mine (P j) (H j) (if j = i then T else S.c j).n (if j = i then W else V j) z
    by_cases e : j = i
    · subst e
      rw [if_pos rfl, if_pos rfl]
      intro q
      rcases hm z q with h | h
      · exact h5 z hz h
      · have := k.at z hz
        omega
    · rw [if_neg e, if_neg e]
      exact k.d1 j hj z hz
  · show ¬ mine (P b) (H b) (if b = i then T else S.c b).n (if b = i then W else V b) z
    have hz2 : mine (P a) (H a) (if a = i then T else S.c a).n (if a = i then W else V a) z := hz
    clear hz
    by_cases ea : a = i
    · subst ea
      rw [if_pos rfl, if_pos rfl] at hz2
      rw [if_neg (fun e => hab e.symm), if_neg (fun e => hab e.symm)]
      rcases hm z hz2 with h | h
      · exact k.d2 a b ha hb hab z h
      · intro q
        have := (mine_lt (k.ch b hb) z q).1
        omega
    · rw [if_neg ea, if_neg ea] at hz2
      by_cases eb : b = i
      · subst eb
        rw [if_pos rfl, if_pos rfl]
        intro q
        rcases hm z q with h | h
        · exact k.d2 a b ha hb hab z hz2 h
        · have := (mine_lt (k.ch a ha) z hz2).1
          omega
      · rw [if_neg eb, if_neg eb]
        exact k.d2 a b ha hb hab z hz2
end
end Go.Proofs.YtlogdmnhngbkaaaDoor
/-
  BUS: its small functions.
-/
namespace Go.Proofs.YtlogdmnhngbkaaaDoor
open Go Go.RowKit
theorem blineOf_any (a : Nat) (w : World) (ha : a < 4294967296) : Calls Tryd.prog 25 #[.int .u32 a] w fun e w' => e = .returned (.int .u32 (lineOf a : Nat)) ∧ w' = w := by
  have h1 : (a : Int) - (a : Int) % 16 = ((lineOf a : Nat) : Int) := by unfold lineOf; omega
  have h2 : lineOf a < 4294967296 := by unfold lineOf; omega
  have h3 : (a : Int).tmod 16 = (a : Int) % 16 := Int.tmod_eq_emod_of_nonneg (by omega)
  have h4 : ((lineOf a : Nat) : Int) % 4294967296 = ((lineOf a : Nat) : Int) := by omega
  go_enter Tryd.func25, Tryd.ntmps25
  go_wp2
  go_ret
  refine ⟨?_, rfl⟩
  first
    | rfl
    | (rw [h1]; try rw [h4])
    | skip
def hasB (a len : Nat) : Bool := decide (65536 ≤ a ∧ a < 65536 + len)
theorem mhas_any (q : Option Addr) (a len mc : Nat) (w : World) (ha : a < 4294967296) (hl : len ≤ 4096) : Calls Tryd.prog 43 #[.slice q len mc, .int .u32 a] w fun e w' => e = .returned (.bool (hasB a len)) ∧ w' = w := by
  have h0 : (len : Int) % 4294967296 = (len : Int) := by omega
  have h1 : decide (((a : Int) - 65536) % 4294967296 < (len : Int)) = hasB a len := by
    unfold hasB
    rw [decide_eq_decide]
    omega
  go_enter Tryd.func43, Tryd.ntmps43
  go_wp2
  go_ret
  exact ⟨by rw [← h1]; rfl, rfl⟩
theorem mline_any (mb a len mc : Nat) (w : World) (ha : a < 4294967296) (h16 : a % 16 = 0) (hh : hasB a len = true) (hl : len ≤ 4096) (hl16 : len % 16 = 0) (hm : len ≤ mc) : Calls Tryd.prog 39 #[.slice (some ⟨mb, 0, none⟩) len mc, .int .u32 a] w fun e w' => e = .returned (.slice (some ⟨mb, a - 65536, none⟩) 16 16) ∧ w' = w := by
  have hb : 65536 ≤ a ∧ a < 65536 + len := by simpa [hasB] using hh
  have HE : Hid (a - 65536 + 16 - (a - 65536) = 16) := by show a - 65536 + 16 - (a - 65536) = 16; omega
  have h1 : a - 65536 + 16 ≤ mc := by omega
  have h2 : 65536 ≤ a := hb.1
  have h3 : a < 69632 := by omega
  clear hb hh h16 hl16
  go_enter Tryd.func39, Tryd.ntmps39
  go_wp2
  go_ret
  refine ⟨?_, rfl⟩
  show Ending.returned (Value.slice _ (a - 65536 + 16 - (a - 65536)) (a - 65536 + 16 - (a - 65536))) = _
  rw [HE.out]
end Go.Proofs.YtlogdmnhngbkaaaDoor
