import Derived.Test.YtlogdmnhngbkaaaDoorY04
import Derived.Test.YtlogdmnhngbkaaaDoorY05
import Derived.Deep.Cut
/-
  CACHE: what is refused by Read, Write, Fill, New.
-/
namespace Go.Proofs.YtlogdmnhngbkaaaDoor
open Go Go.RowKit
def errV (n : Int) : Value := .iface 62 (.int .i64 n)
set_option maxRecDepth 100000 in
set_option maxHeartbeats 2000000 in
theorem read_no (B p h c : Nat) (V : Nat → Value) (S : CS) (a : Nat) (z : Int) (w : World) (k : Ch w B p h c V S) (ha : a < 4294967296) (hno : No (S.set (S.of a)) a ∨ fits a z = false) : Calls Tryd.prog 31 #[.pointer (some ⟨p, 0, none⟩), .int .u32 a, .int .i64 z] w fun e w' => e = .returned (.tuple #[.int .u32 0, .bool false]) ∧ Below w.heap.size w w' := by
  have HK := Hid.in k
  have hp := k.c.here
  have hO := S.of_lt a k.small.2.2.1
  have HO := Hid.in hO
  have h4 := k.four _ hO
  obtain ⟨qa, cap, hv, hcap, hel⟩ := own_lines (k.l _ hO)
  obtain ⟨m, hm⟩ : ∃ m, (S.set (S.of a)).length = m := ⟨_, rfl⟩
  rw [hm] at hv h4
  have HV := Hid.in hv
  have HM := Hid.in hm
  obtain ⟨r, hr⟩ : ∃ r, S.of a = r := ⟨_, rfl⟩
  have HR := Hid.in hr
  have hu : undef = Value.tuple #[] := rfl
  rcases at_or_no (S.set (S.of a)) a with ⟨i, hA⟩ | hA
  · have hf : fits a z = false := hno.elim (fun q => absurd hA.2.1 (q i hA.1)) id
    have HA := Hid.in hA
    have HF := Hid.in hf
    have hii : ((i : Int) == -1) = false := by simp
    clear hno hA hf k hO hv hm hr hel hcap
    go_enter Tryd.func31, Tryd.ntmps31
    go_wp2_with (first
      | (go_at_call 55
         refine (find_at_m B m _ (S.set (S.of a)) HM.out a i _ (HX.out.rowm _ HO.out _ HV.out _ HM.out) h4 ha HA.out).mono ?_
         rintro e w2 ⟨rfl, rfl⟩)
      | (go_at_call 56
         refine (mayStand_any a z _ ha).mono ?_
         rintro e w2 ⟨rfl, rfl⟩
         rw [HF.out])
      | (go_at_call 54
         refine (setOf_any B p h c V S a _ HK.out ha).mono ?_
         rintro e w1 ⟨rfl, hb⟩
         have k1 := HK.out.below hb
         have HX := Hid.in k1
         have ch := k1.v.cell _ HO.out
         have hh1 := k1.v.here
         have HB := Hid.in hb
         rw [HR.out] at ch ⊢
         rw [← HR.out, HV.out, HR.out] at ch
         clear k1 hb))
    refine bodyPost_ret (results_tmp2 Tryd.results31 _ _ _) rfl ?_
    exact ⟨rfl, HB.out⟩
  · have HA := Hid.in hA
    clear hno hA k hO hv hm hr hel hcap
    go_enter Tryd.func31, Tryd.ntmps31
    go_wp2_with (first
      | (go_at_call 55
         refine (find_no_m B m _ (S.set (S.of a)) HM.out a _ (HX.out.rowm _ HO.out _ HV.out _ HM.out) h4 ha HA.out).mono ?_
         rintro e w2 ⟨rfl, rfl⟩)
      | (go_at_call 54
         refine (setOf_any B p h c V S a _ HK.out ha).mono ?_
         rintro e w1 ⟨rfl, hb⟩
         have k1 := HK.out.below hb
         have HX := Hid.in k1
         have ch := k1.v.cell _ HO.out
         have hh1 := k1.v.here
         have HB := Hid.in hb
         rw [HR.out] at ch ⊢
         rw [← HR.out, HV.out, HR.out] at ch
         clear k1 hb))
    refine bodyPost_ret (results_tmp2 Tryd.results31 _ _ _) rfl ?_
    exact ⟨rfl, HB.out⟩
set_option maxRecDepth 100000 in
set_option maxHeartbeats 2000000 in
theorem write_no (B p h c : Nat) (V : Nat → Value) (S : CS) (a : Nat) (z : Int) (d : Nat) (w : World) (k : Ch w B p h c V S) (ha : a < 4294967296) (hno : No (S.set (S.of a)) a ∨ fits a z = false ∨ ∃ i, At (S.set (S.of a)) a i ∧ ((S.set (S.of a)).getD i l0).s = 1) : Calls Tryd.prog 33 #[.pointer (some ⟨p, 0, none⟩), .int .u32 a, .int .i64 z, .int .u32 d] w fun e w' => e = .returned (.bool false) ∧ Below w.heap.size w w' := by
  have HK := Hid.in k
  have hp := k.c.here
  have hO := S.of_lt a k.small.2.2.1
  have HO := Hid.in hO
  have h4 := k.four _ hO
  obtain ⟨qa, cap, hv, hcap, hel⟩ := own_lines (k.l _ hO)
  obtain ⟨m, hm⟩ : ∃ m, (S.set (S.of a)).length = m := ⟨_, rfl⟩
  rw [hm] at hv h4
  have HV := Hid.in hv
  have HM := Hid.in hm
  obtain ⟨r, hr⟩ : ∃ r, S.of a = r := ⟨_, rfl⟩
  have HR := Hid.in hr
  have hu : undef = Value.tuple #[] := rfl
  rcases at_or_no (S.set (S.of a)) a with ⟨i, hA⟩ | hA
  · have hii : ((i : Int) == -1) = false := by simp
    have him : i < m := by rw [← hm]; exact hA.1
    obtain ⟨g, rfl, -, hg, -, -, -, d1, -⟩ := hel i hA.1
    obtain ⟨s, hs⟩ : ∃ s, ((S.set (S.of a)).getD i l0).s = s := ⟨_, rfl⟩
    rw [hs] at d1
    have hcase : fits a z = false ∨ s = 1 := by
      rcases hno with q | q | ⟨j, q1, q2⟩
      · exact absurd hA.2.1 (q i hA.1)
      · exact Or.inl q
      · rw [at_inj q1 hA, hs] at q2
        exact Or.inr q2
    have HA := Hid.in hA
    have HC := Hid.in hcase
    have HD := Hid.in (And.intro hg d1)
    clear hno hA hcase k hO hv hm hr hel hcap hs d1 hg
    cases hf : fits a z
    · have HF := Hid.in hf
      clear hf
      go_enter Tryd.func33, Tryd.ntmps33
      go_wp2_with (first
      | (go_at_call 55
         refine (find_at_m B m _ (S.set (S.of a)) HM.out a i _ (HX.out.rowm _ HO.out _ HV.out _ HM.out) h4 ha HA.out).mono ?_
         rintro e w2 ⟨rfl, rfl⟩)
      | (go_at_call 56
         refine (mayStand_any a z _ ha).mono ?_
         rintro e w2 ⟨rfl, rfl⟩
         rw [HF.out])
      | (go_at_call 54
         refine (setOf_any B p h c V S a _ HK.out ha).mono ?_
         rintro e w1 ⟨rfl, hb⟩
         have k1 := HK.out.below hb
         have HX := Hid.in k1
         have ch := k1.v.cell _ HO.out
         have hh1 := k1.v.here
         have HB := Hid.in hb
         rw [HR.out] at ch ⊢
         rw [← HR.out, HV.out, HR.out] at ch
         clear k1 hb))
      go_ret
      exact ⟨rfl, HB.out⟩
    · have HF := Hid.in hf
      have hs1 : s = 1 := by
        have := HC.out
        rw [hf] at this
        simpa using this
      subst hs1
      clear hf
      go_enter Tryd.func33, Tryd.ntmps33
      go_wp2_with (first
      | (go_at_call 55
         refine (find_at_m B m _ (S.set (S.of a)) HM.out a i _ (HX.out.rowm _ HO.out _ HV.out _ HM.out) h4 ha HA.out).mono ?_
         rintro e w2 ⟨rfl, rfl⟩)
      | (go_at_call 56
         refine (mayStand_any a z _ ha).mono ?_
         rintro e w2 ⟨rfl, rfl⟩
         rw [HF.out])
      | (go_at_call 54
         refine (setOf_any B p h c V S a _ HK.out ha).mono ?_
         rintro e w1 ⟨rfl, hb⟩
         have k1 := HK.out.below hb
         have HX := Hid.in k1
         have ch := k1.v.cell _ HO.out
         have hh1 := k1.v.here
         have HB := Hid.in hb
         rw [HR.out] at ch ⊢
         rw [← HR.out, HV.out, HR.out] at ch
         have d1 := (hb.cell (p := ⟨g, i * 18 + 1, none⟩) HD.out.1).trans HD.out.2
         have hg1 := Nat.lt_of_lt_of_le HD.out.1 hb.size
         clear k1 hb))
      go_ret
      exact ⟨rfl, HB.out⟩
  · have HA := Hid.in hA
    clear hno hA k hO hv hm hr hel hcap
    go_enter Tryd.func33, Tryd.ntmps33
    go_wp2_with (first
      | (go_at_call 55
         refine (find_no_m B m _ (S.set (S.of a)) HM.out a _ (HX.out.rowm _ HO.out _ HV.out _ HM.out) h4 ha HA.out).mono ?_
         rintro e w2 ⟨rfl, rfl⟩)
      | (go_at_call 54
         refine (setOf_any B p h c V S a _ HK.out ha).mono ?_
         rintro e w1 ⟨rfl, hb⟩
         have k1 := HK.out.below hb
         have HX := Hid.in k1
         have ch := k1.v.cell _ HO.out
         have hh1 := k1.v.here
         have HB := Hid.in hb
         rw [HR.out] at ch ⊢
         rw [← HR.out, HV.out, HR.out] at ch
         clear k1 hb))
    go_ret
    exact ⟨rfl, HB.out⟩
set_option maxRecDepth 100000 in
set_option maxHeartbeats 2000000 in
theorem fill_bad (B p h c : Nat) (V : Nat → Value) (S : CS) (a : Nat) (st : Int) (b : Nat → Nat) (w : World) (k : Ch w B p h c V S) (ha : a < 4294967296) (er : Int) (hb : (er = 3 ∧ (a % 16 ≠ 0 ∨ st < 1 ∨ 3 < st)) ∨ (er = 7 ∧ a % 16 = 0 ∧ 1 ≤ st ∧ st ≤ 3 ∧ ∃ i, At (S.set (S.of a)) a i)) : Calls Tryd.prog 48 #[.pointer (some ⟨p, 0, none⟩), .int .u32 a, .agg (bvs b).toArray, .int .i64 st] w fun e w' => e = .returned (.tuple #[.agg l0.vs.toArray, .bool false, errV er]) ∧ Below w.heap.size w w' := by
  have hu : undef = Value.tuple #[] := rfl
  have hp := k.c.here
  obtain ⟨W, hW⟩ : ∃ W, (w.alloc (.cells (bvs b).toArray 98)).alloc (.cells #[.int .u32 0, .int .i64 0, .int .u8 0, .int .u8 0, .int .u8 0, .int .u8 0, .int .u8 0, .int .u8 0, .int .u8 0, .int .u8 0, .int .u8 0, .int .u8 0, .int .u8 0, .int .u8 0, .int .u8 0, .int .u8 0, .int .u8 0, .int .u8 0] 114) = W := ⟨_, rfl⟩
  have tW : W.there (w.heap.size + 1) 0 18 := by
    rw [← hW]
    have := there_new (w.alloc (.cells (bvs b).toArray 98)) 114
    rw [World.size_alloc] at this
    exact this
  have HW := Hid.in hW
  have b1 : Below w.heap.size w W := by rw [← hW]; exact ((Below.refl _ _).alloc (Nat.le_refl _) _).alloc (by simp) _
  have sW : W.heap.size = w.heap.size + 2 := by rw [← hW]; simp
  have HT := Hid.in tW
  have HB1 := Hid.in b1
  have HSW := Hid.in sW
  have fin : Hid (∀ X : World, Below W.heap.size W X → X.there (w.heap.size + 1) 0 18 ∧ Below w.heap.size w (X.setCells (w.heap.size + 1) 0 l0.vs) ∧ (X.setCells (w.heap.size + 1) 0 l0.vs).rangeAt (w.heap.size + 1) 0 l0.vs) := by
    intro X hX
    have t1 : X.there (w.heap.size + 1) 0 18 := there_turned tW (Turned.of_below (Q := fun _ => False) hX) (by omega) (fun q => q)
    have b2 : Below w.heap.size w X := b1.trans (hX.mono b1.size)
    exact ⟨t1, b2.trans ((turned_setCells (g := w.heap.size + 1) l0.vs 0 X).below b2.size (fun q e => by omega)), World.rangeAt_setCells_same _ _ _ _ (by rw [Ln.len]; exact t1)⟩
  have kW := k.below b1
  have main : (er = 3 ∧ a % 16 ≠ 0) ∨ (er = 3 ∧ a % 16 = 0 ∧ st < 1) ∨ (er = 3 ∧ a % 16 = 0 ∧ 1 ≤ st ∧ 3 < st) ∨ (er = 7 ∧ a % 16 = 0 ∧ 1 ≤ st ∧ st ≤ 3 ∧ ∃ i, At (S.set (S.of a)) a i) := by
    rcases hb with h | h
    · omega
    · exact Or.inr (Or.inr (Or.inr h))
  clear hb hW tW b1 sW
  rcases main with ⟨rfl, hq⟩ | ⟨rfl, hq, h0⟩ | ⟨rfl, hq, h0, h2⟩ | ⟨rfl, hq, h1, h3, i, hA⟩
  · have hd : decide (a % 16 = 0) = false := by simp [hq]
    clear k kW
    go_enter Tryd.func48, Tryd.ntmps48
    go_upto_region 1 with fail
    rw [HW.out]
    obtain ⟨T1, hF⟩ := fin.out W (Below.refl _ _)
    have HF := Hid.in hF
    clear hF
    go_wp2_with (first
      | (go_at_call 69
         refine (isLine_any a _ ha).mono ?_
         rintro e w1 ⟨rfl, hww⟩
         rw [hww, hd]
         clear hww)
      | (refine st_line (w.heap.size + 1) 0 l0 T1 rfl rfl _ _ rfl rfl rfl ?_))
    refine bodyPost_ret (results_line3 Tryd.results48 _ _ (w.heap.size + 1) l0 _ _ rfl rfl rfl HF.out.2) rfl ?_
    exact ⟨rfl, HF.out.1⟩
  · have hd : decide (a % 16 = 0) = true := by simp [hq]
    have h0d : decide (st < 1) = true := by simp [h0]
    clear k kW
    go_enter Tryd.func48, Tryd.ntmps48
    go_upto_region 1 with fail
    rw [HW.out]
    obtain ⟨T1, hF⟩ := fin.out W (Below.refl _ _)
    have HF := Hid.in hF
    clear hF
    go_wp2_with (first
      | (go_at_call 69
         refine (isLine_any a _ ha).mono ?_
         rintro e w1 ⟨rfl, hww⟩
         rw [hww, hd]
         clear hww)
      | (refine st_line (w.heap.size + 1) 0 l0 T1 rfl rfl _ _ rfl rfl rfl ?_))
    refine bodyPost_ret (results_line3 Tryd.results48 _ _ (w.heap.size + 1) l0 _ _ rfl rfl rfl HF.out.2) rfl ?_
    exact ⟨rfl, HF.out.1⟩
  · have hd : decide (a % 16 = 0) = true := by simp [hq]
    have h0d : decide (st < 1) = false := by simp; omega
    have h2d : decide (3 < st) = true := by simp [h2]
    clear k kW
    go_enter Tryd.func48, Tryd.ntmps48
    go_upto_region 1 with fail
    rw [HW.out]
    obtain ⟨T1, hF⟩ := fin.out W (Below.refl _ _)
    have HF := Hid.in hF
    clear hF
    go_wp2_with (first
      | (go_at_call 69
         refine (isLine_any a _ ha).mono ?_
         rintro e w1 ⟨rfl, hww⟩
         rw [hww, hd]
         clear hww)
      | (refine st_line (w.heap.size + 1) 0 l0 T1 rfl rfl _ _ rfl rfl rfl ?_))
    refine bodyPost_ret (results_line3 Tryd.results48 _ _ (w.heap.size + 1) l0 _ _ rfl rfl rfl HF.out.2) rfl ?_
    exact ⟨rfl, HF.out.1⟩
  · have hd : decide (a % 16 = 0) = true := by simp [hq]
    have h0d : decide (st < 1) = false := by simp; omega
    have h2d : decide (3 < st) = false := by simp; omega
    have hinz : ((i : Int) != -1) = true := by simp
    have HK := Hid.in kW
    have hO := S.of_lt a k.small.2.2.1
    have HO := Hid.in hO
    have h4 := k.four _ hO
    obtain ⟨qa, cap, hv, hcap, hel⟩ := own_lines (k.l _ hO)
    obtain ⟨m, hm⟩ : ∃ m, (S.set (S.of a)).length = m := ⟨_, rfl⟩
    rw [hm] at hv h4
    have HV := Hid.in hv
    have HM := Hid.in hm
    obtain ⟨r, hr⟩ : ∃ r, S.of a = r := ⟨_, rfl⟩
    have HR := Hid.in hr
    have HA := Hid.in hA
    clear k kW hA hO hv hm hr hel hcap
    go_enter Tryd.func48, Tryd.ntmps48
    go_upto_region 1 with fail
    rw [HW.out]
    go_wp2_with (first
      | (go_at_call 55
         refine (find_at_m B m _ (S.set (S.of a)) HM.out a i _ (HX.out.rowm _ HO.out _ HV.out _ HM.out) h4 ha HA.out).mono ?_
         rintro e w2 ⟨rfl, rfl⟩)
      | (go_at_call 54
         refine (setOf_any B p h c V S a _ HK.out ha).mono ?_
         rintro e w1 ⟨rfl, hb⟩
         have k1 := HK.out.below hb
         have HX := Hid.in k1
         have ch := k1.v.cell _ HO.out
         have hh1 := k1.v.here
         have HB := Hid.in hb
         rw [HR.out] at ch ⊢
         rw [← HR.out, HV.out, HR.out] at ch
         obtain ⟨T1, hF⟩ := fin.out w1 hb
         have HF := Hid.in hF
         clear hF
         clear k1 hb)
      | (go_at_call 69
         refine (isLine_any a _ ha).mono ?_
         rintro e w1 ⟨rfl, hww⟩
         rw [hww, hd]
         clear hww)
      | (refine st_line (w.heap.size + 1) 0 l0 T1 rfl rfl _ _ rfl rfl rfl ?_))
    refine bodyPost_ret (results_line3 Tryd.results48 _ _ (w.heap.size + 1) l0 _ _ rfl rfl rfl HF.out.2) rfl ?_
    exact ⟨rfl, HF.out.1⟩
end Go.Proofs.YtlogdmnhngbkaaaDoor
