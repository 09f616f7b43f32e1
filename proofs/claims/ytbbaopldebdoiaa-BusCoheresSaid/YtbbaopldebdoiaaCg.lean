/-
  CACHE: Read, Write.
-/
import Derived.Test.YtbbaopldebdoiaaCf
namespace Go.Proofs.Ytbbaopldebdoiaa
open Go Go.RowKit
theorem Ch.rowm {x : World} {B p h c : Nat} {V : Nat → Value} {S : CS} (k : Ch x B p h c V S) (i : Nat) (hi : i < S.n) (v : Value) (hv : V i = v) (m : Nat) (hm : (S.set i).length = m) : x.ownsRow B 86 18 v m (flatL (S.set i)) := by
  rw [← hv, ← hm]
  exact k.l i hi
theorem find_at_m (B m : Nat) (v : Value) (l : List Ln) (hm : l.length = m) (a i : Nat) (w : World) (k : w.ownsRow B 86 18 v m (flatL l)) (hl : m ≤ 4) (ha : a < 4294967296) (hA : At l a i) : Calls Try.prog 29 #[v, .int .u32 a] w fun e w' => e = .returned (.int .i64 i) ∧ w' = w := by
  subst hm
  exact find_at B v l a i w k hl ha hA
theorem find_no_m (B m : Nat) (v : Value) (l : List Ln) (hm : l.length = m) (a : Nat) (w : World) (k : w.ownsRow B 86 18 v m (flatL l)) (hl : m ≤ 4) (ha : a < 4294967296) (hA : No l a) : Calls Try.prog 29 #[v, .int .u32 a] w fun e w' => e = .returned (.int .i64 (-1)) ∧ w' = w := by
  subst hm
  exact find_no B v l a w k hl ha hA
theorem use_m (B g k m cap : Nat) (l : List Ln) (hm : l.length = m) (w : World) (h : w.ownsRow B 86 18 (.slice (some ⟨g, 0, none⟩) m cap) m (flatL l)) (hk : k < m) (h4 : m ≤ 4) : Calls Try.prog 37 #[.slice (some ⟨g, 0, none⟩) m cap, .int .i64 k] w fun e w' => e = .returned (.pointer (some ⟨g, (m - 1) * 18, none⟩)) ∧ w'.ownsRow B 86 18 (.slice (some ⟨g, 0, none⟩) m cap) m (flatL (rest l k ++ [l.getD k l0])) ∧ Turned (fun k => k = g) w w' := by
  subst hm
  exact use_any B g k cap l w h hk h4
/-- the set that an address has, opened -/
theorem Ch.open {w : World} {B p h c : Nat} {V : Nat → Value} {S : CS} (k : Ch w B p h c V S) (a i : Nat) (hA : i < (S.set (S.of a)).length) : ∃ g m cap, V (S.of a) = .slice (some ⟨g, 0, none⟩) m cap ∧ (S.set (S.of a)).length = m ∧ i < m ∧ m ≤ 4 ∧ m ≤ cap ∧ cap ≤ 9223372036854775807 ∧ g < w.heap.size ∧ g ≠ p ∧ g ≠ h := by
  have hO := S.of_lt a k.small.2.2.1
  obtain ⟨q, cap, hv, hcap, hel⟩ := own_lines (k.l _ hO)
  obtain ⟨g, rfl, -, hg, -⟩ := hel i hA
  have hb : (V (S.of a)).ownBlock = some g := by rw [hv]; rfl
  refine ⟨g, _, cap, hv, rfl, hA, k.four _ hO, hcap.1, ?_, hg, fun e => k.vp _ hO (by rw [hb, e]), fun e => k.vh _ hO (by rw [hb, e])⟩
  have := hcap.2
  unfold maxLen at this
  omega
def CS.used (S : CS) (i k : Nat) : CS := S.put i (rest (S.set i) k ++ [(S.set i).getD k l0])
theorem fits_le (a z : Nat) (h : fits a z = true) : 0 < z ∧ z ≤ 4 ∧ a % 16 + z ≤ 16 := by
  simp only [fits, Bool.or_eq_true, decide_eq_true_eq] at h
  rcases h with (h | h) | h <;> omega
set_option maxRecDepth 100000 in
set_option maxHeartbeats 2000000 in
theorem read_at (B p h c : Nat) (V : Nat → Value) (S : CS) (a z i : Nat) (w : World) (k : Ch w B p h c V S) (ha : a < 4294967296) (hA : At (S.set (S.of a)) a i) (hz : fits a z = true) (hb : ∀ j, j < 16 → ((S.set (S.of a)).getD i l0).b j < 256) : Calls Try.prog 24 #[.pointer (some ⟨p, 0, none⟩), .int .u32 a, .int .i64 z] w fun e w' => e = .returned (.tuple #[.int .u32 (leN (fun t => ((S.set (S.of a)).getD i l0).b (a % 16 + t)) z : Nat), .bool true]) ∧ Ch w' B p h c V (S.used (S.of a) i) ∧ Turned (mine p h S.n V) w w' := by
  have HK := Hid.in k
  have hp := k.c.here
  have hO := S.of_lt a k.small.2.2.1
  have HO := Hid.in hO
  have HFW := Hid.in (k.few _ hO)
  obtain ⟨g, m, cap, hv, hm, him, h4, hc1, hc2, hg, -, -⟩ := k.open a i hA.1
  have HV := Hid.in hv
  have HM := Hid.in hm
  obtain ⟨z0, z4, z16⟩ := fits_le a z hz
  have HZ := Hid.in hz
  obtain ⟨r, hr⟩ : ∃ r, S.of a = r := ⟨_, rfl⟩
  have HR := Hid.in hr
  have HA := Hid.in hA
  obtain ⟨L, hL⟩ : ∃ L, S.set (S.of a) = L := ⟨_, rfl⟩
  have HL := Hid.in hL
  have HBY := Hid.in hb
  rw [hL]
  clear hA k hO hv hm hr hL hb hz
  go_enter Try.func24, Try.ntmps24
  go_wp2_with (first
    | (go_at_call 40
       have hrow := HROW.out.1
       obtain ⟨q', cap', hv', -, hel⟩ := own_lines (l := rest L i ++ [L.getD i l0]) (by rw [HLEN.out]; exact hrow)
       obtain ⟨g', hg1, -, hg2, hrg, -⟩ := hel (m - 1) (by rw [HLEN.out]; omega)
       have hgg : g' = g := by
         rw [hg1] at hv'
         simp only [Value.slice.injEq, Option.some.injEq, Addr.mk.injEq] at hv'
         exact hv'.1.1.symm
       rw [hgg, HLAST.out] at hrg
       refine (number_any g ((m - 1) * 18 + 2 + a % 16) z (fun t => (L.getD i l0).b (a % 16 + t)) _ (by rw [← hgg]; exact hg2) z4 (fun t ht => by have := HBY.out (a % 16 + t) (by omega); rw [HL.out] at this; exact this) (fun t ht => by have := hrg (2 + (a % 16 + t)) _ (Ln.at2 _ (a % 16 + t) (by omega)); rw [← Nat.add_assoc, ← Nat.add_assoc] at this; exact this)).mono ?_
       rintro e w4 ⟨rfl, rfl⟩
       clear hrow hel hv' hg1 hg2 hrg hgg)
    | (go_at_call 39
       refine (part_any g ((m - 1) * 18) a z _ ha z16 z0).mono ?_
       rintro e w3 ⟨rfl, rfl⟩)
    | (go_at_call 37
       refine (use_m B g i m cap L (by rw [← HL.out]; exact HM.out) _ (by rw [← HL.out]; exact HX.out.rowm _ HO.out _ HV.out _ HM.out) him h4).mono ?_
       rintro e w2 ⟨rfl, hrow⟩
       have HROW := Hid.in hrow
       have HLEN : Hid ((rest L i ++ [L.getD i l0]).length = m) := by
         show _ = m
         rw [List.length_append, rest_len _ _ (by rw [← HL.out, HM.out]; exact him), ← HL.out, HM.out]
         simp
         omega
       have HLAST : Hid ((rest L i ++ [L.getD i l0]).getD (m - 1) l0 = L.getD i l0) := by
         have e1 : (rest L i).length = m - 1 := by rw [rest_len _ _ (by rw [← HL.out, HM.out]; exact him), ← HL.out, HM.out]
         show _ = _
         rw [← e1]
         simp [List.getD_eq_getElem?_getD]
       clear hrow)
    | (go_at_call 36
       refine (mayStand_any a z _ ha).mono ?_
       rintro e w2 ⟨rfl, rfl⟩
       rw [HZ.out])
    | (go_at_call 29
       refine (find_at_m B m _ (S.set (S.of a)) HM.out a i _ (HX.out.rowm _ HO.out _ HV.out _ HM.out) h4 ha HA.out).mono ?_
       rintro e w2 ⟨rfl, rfl⟩)
    | (go_at_call 28
       refine (setOf_any B p h c V S a _ HK.out ha).mono ?_
       rintro e w1 ⟨rfl, hb⟩
       have k1 := HK.out.below hb
       have HX := Hid.in k1
       have ch := k1.v.cell _ HO.out
       have hh1 := k1.v.here
       have HB := Hid.in hb
       have hg1 : g < w1.heap.size := Nat.lt_of_lt_of_le hg hb.size
       rw [HR.out] at ch ⊢
       rw [← HR.out, HV.out, HR.out] at ch
       clear k1 hb))
  refine bodyPost_ret (results_tmp2 Try.results24 _ _ _) rfl ?_
  refine ⟨rfl, ?_, ?_⟩
  · refine HX.out.row _ HO.out _ (HROW.out.2.mono (fun q e => by rw [HV.out, e]; rfl)) ?_ ?_
    · rw [HL.out, HLEN.out, HV.out]
      exact HROW.out.1
    · rw [HL.out, HLEN.out, ← HM.out]
      exact HFW.out
  · exact (Turned.of_below HB.out).trans (HROW.out.2.mono (fun q e => Or.inr (Or.inr ⟨_, HO.out, by rw [HV.out, e]; rfl⟩)))
def Ln.wr (e : Ln) (q d z : Nat) : Ln := (e.setS 3).putN q d z
def CS.wrote (S : CS) (i k q d z : Nat) : CS := S.put i (rest (S.set i) k ++ [((S.set i).getD k l0).wr q d z])
theorem last_set (l : List Ln) (m : Nat) (x y : Ln) (h : l.length = m - 1) : (l ++ [x]).set (m - 1) y = l ++ [y] := by
  rw [← h]
  simp
theorem last_get (l : List Ln) (m : Nat) (x : Ln) (h : l.length = m - 1) : (l ++ [x]).getD (m - 1) l0 = x := by
  rw [← h]
  simp [List.getD_eq_getElem?_getD]
theorem put_m (B g r q z d m cap : Nat) (l : List Ln) (hm : l.length = m) (w : World) (k : w.ownsRow B 86 18 (.slice (some ⟨g, 0, none⟩) m cap) m (flatL l)) (hr : r < m) (hq : q + z ≤ 16) (hz : z ≤ 4) (hd : d < 4294967296) : Calls Try.prog 38 #[.slice (some ⟨g, r * 18 + 2 + q, none⟩) z z, .int .u32 d] w fun e w' => e = .returned (.tuple #[]) ∧ w'.ownsRow B 86 18 (.slice (some ⟨g, 0, none⟩) m cap) m (flatL (l.set r ((l.getD r l0).putN q d z))) ∧ Turned (fun k => k = g) w w' := by
  subst hm
  exact put_any B g r q z d cap l w k hr hq hz hd
set_option maxRecDepth 100000 in
set_option maxHeartbeats 2000000 in
theorem write_at (B p h c : Nat) (V : Nat → Value) (S : CS) (a z d i : Nat) (w : World) (k : Ch w B p h c V S) (ha : a < 4294967296) (hd : d < 4294967296) (hA : At (S.set (S.of a)) a i) (hz : fits a z = true) (hs1 : ((S.set (S.of a)).getD i l0).s ≠ 1) : Calls Try.prog 22 #[.pointer (some ⟨p, 0, none⟩), .int .u32 a, .int .i64 z, .int .u32 d] w fun e w' => e = .returned (.bool true) ∧ Ch w' B p h c V (S.wrote (S.of a) i (a % 16) d z) ∧ Turned (mine p h S.n V) w w' := by
  have HK := Hid.in k
  have hp := k.c.here
  have hO := S.of_lt a k.small.2.2.1
  have HO := Hid.in hO
  have HFW := Hid.in (k.few _ hO)
  obtain ⟨g, m, cap, hv, hm, him, h4, hc1, hc2, hg, -, -⟩ := k.open a i hA.1
  have HV := Hid.in hv
  have HM := Hid.in hm
  obtain ⟨z0, z4, z16⟩ := fits_le a z hz
  have HZ := Hid.in hz
  obtain ⟨r, hr⟩ : ∃ r, S.of a = r := ⟨_, rfl⟩
  have HR := Hid.in hr
  have HA := Hid.in hA
  obtain ⟨L, hL⟩ : ∃ L, S.set (S.of a) = L := ⟨_, rfl⟩
  have HL := Hid.in hL
  obtain ⟨s, hs⟩ : ∃ s, ((S.set (S.of a)).getD i l0).s = s := ⟨_, rfl⟩
  have HS := Hid.in hs
  rw [hs] at hs1
  have hsi : ((s : Int) == 1) = false := by simp; omega
  have hii : ((i : Int) == -1) = false := by simp
  have HRL : Hid ((rest L i).length = m - 1) := by
    show _ = _
    rw [rest_len _ _ (by rw [← hL, hm]; exact him), ← hL, hm]
  clear hA k hO hv hm hr hL hz hs
  go_enter Try.func22, Try.ntmps22
  go_wp2_with (first
    | (go_at_call 38
       refine (put_m B g (m - 1) (a % 16) z d m cap (rest L i ++ [(L.getD i l0).setS 3]) (by rw [List.length_append, HRL.out]; simp; omega) _ HROW3.out (by omega) z16 z4 hd).mono ?_
       rintro e w4 ⟨rfl, hrow4⟩
       rw [last_set _ _ _ _ HRL.out, last_get _ _ _ HRL.out] at hrow4
       have HROW4 := Hid.in hrow4
       clear hrow4)
    | (go_at_call 39
       refine (part_any g ((m - 1) * 18) a z _ ha z16 z0).mono ?_
       rintro e w3 ⟨rfl, rfl⟩)
    | (go_at_call 37
       refine (use_m B g i m cap L (by rw [← HL.out]; exact HM.out) _ (by rw [← HL.out]; exact HX.out.rowm _ HO.out _ HV.out _ HM.out) him h4).mono ?_
       rintro e w2 ⟨rfl, hrow⟩
       have HROW := Hid.in hrow
       have hlen : (rest L i ++ [L.getD i l0]).length = m := by
         rw [List.length_append, HRL.out]
         simp
         omega
       obtain ⟨q', cap', hv', -, hel⟩ := own_lines (l := rest L i ++ [L.getD i l0]) (by rw [hlen]; exact hrow.1)
       obtain ⟨g', hg1', -, hg2, -, -, -, hst, hfr⟩ := hel (m - 1) (by rw [hlen]; omega)
       have hgg : g' = g := by
         rw [hg1'] at hv'
         simp only [Value.slice.injEq, Option.some.injEq, Addr.mk.injEq] at hv'
         exact hv'.1.1.symm
       rw [hgg] at hst hg2 hfr
       have hf2 := hfr ((m - 1) * 18 + 1)
       have HROW3 : Hid ((w2.setCell ⟨g, (m - 1) * 18 + 1, none⟩ (.int .i64 3)).ownsRow B 86 18 (.slice (some ⟨g, 0, none⟩) m cap) m (flatL (rest L i ++ [(L.getD i l0).setS 3]))) := by
         have q := own_set hrow.1 ((m - 1) * 18 + 1) (.int .i64 (3 : Nat))
         rw [flatL_setS _ (m - 1) 3 (by rw [hlen]; omega), last_get _ _ _ HRL.out, last_set _ _ _ _ HRL.out] at q
         exact q
       clear hrow hlen hel hv' hgg hg1' hfr)
    | (go_at_call 36
       refine (mayStand_any a z _ ha).mono ?_
       rintro e w2 ⟨rfl, rfl⟩
       rw [HZ.out])
    | (go_at_call 29
       refine (find_at_m B m _ (S.set (S.of a)) HM.out a i _ (HX.out.rowm _ HO.out _ HV.out _ HM.out) h4 ha HA.out).mono ?_
       rintro e w2 ⟨rfl, rfl⟩)
    | (go_at_call 28
       refine (setOf_any B p h c V S a _ HK.out ha).mono ?_
       rintro e w1 ⟨rfl, hb⟩
       have k1 := HK.out.below hb
       have HX := Hid.in k1
       have ch := k1.v.cell _ HO.out
       have hh1 := k1.v.here
       have HB := Hid.in hb
       have hg1 : g < w1.heap.size := Nat.lt_of_lt_of_le hg hb.size
       obtain ⟨q', cap', hv', -, hel⟩ := own_lines (k1.l _ HO.out)
       obtain ⟨g', hg1', -, -, -, -, -, hst1, -⟩ := hel i HA.out.1
       have hgg : g' = g := by
         rw [HV.out, hg1'] at hv'
         simp only [Value.slice.injEq, Option.some.injEq, Addr.mk.injEq] at hv'
         exact hv'.1.1.symm
       rw [hgg, HS.out] at hst1
       rw [HR.out] at ch ⊢
       rw [← HR.out, HV.out, HR.out] at ch
       clear k1 hb hel hv' hg1' hgg))
  go_ret
  refine ⟨rfl, ?_, ?_⟩
  · refine HX.out.row _ HO.out _ ((HROW.out.2.trans (((Turned.refl (fun k => k = g) _).set (b := g) rfl _ _).trans HROW4.out.2)).mono (fun q e => by rw [HV.out, e]; rfl)) ?_ ?_
    · rw [HL.out, HV.out, List.length_append, HRL.out, show m - 1 + [((L.getD i l0).wr (a % 16) d z)].length = m by simp; omega]
      exact HROW4.out.1
    · rw [HL.out, List.length_append, HRL.out, show m - 1 + [((L.getD i l0).wr (a % 16) d z)].length = m by simp; omega, ← HM.out]
      exact HFW.out
  · exact (Turned.of_below HB.out).trans ((HROW.out.2.trans (((Turned.refl (fun k => k = g) _).set (b := g) rfl _ _).trans HROW4.out.2)).mono (fun q e => Or.inr (Or.inr ⟨_, HO.out, by rw [HV.out, e]; rfl⟩)))
end Go.Proofs.Ytbbaopldebdoiaa
