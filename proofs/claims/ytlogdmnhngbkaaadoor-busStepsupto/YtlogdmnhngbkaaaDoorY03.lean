import Derived.Test.YtlogdmnhngbkaaaDoorY02
import Derived.Deep.RegionHeldLaw
import Derived.Maps.AppendAt
/-
  CACHE: Read, Write.
-/
namespace Go.Proofs.YtlogdmnhngbkaaaDoor
open Go Go.RowKit
theorem Ch.rowm {x : World} {B p h c : Nat} {V : Nat → Value} {S : CS} (k : Ch x B p h c V S) (i : Nat) (hi : i < S.n) (v : Value) (hv : V i = v) (m : Nat) (hm : (S.set i).length = m) : x.ownsRow B 114 18 v m (flatL (S.set i)) := by
  rw [← hv, ← hm]
  exact k.l i hi
theorem find_at_m (B m : Nat) (v : Value) (l : List Ln) (hm : l.length = m) (a i : Nat) (w : World) (k : w.ownsRow B 114 18 v m (flatL l)) (hl : m ≤ 4) (ha : a < 4294967296) (hA : At l a i) : Calls Tryd.prog 55 #[v, .int .u32 a] w fun e w' => e = .returned (.int .i64 i) ∧ w' = w := by
  subst hm
  exact find_at B v l a i w k hl ha hA
theorem find_no_m (B m : Nat) (v : Value) (l : List Ln) (hm : l.length = m) (a : Nat) (w : World) (k : w.ownsRow B 114 18 v m (flatL l)) (hl : m ≤ 4) (ha : a < 4294967296) (hA : No l a) : Calls Tryd.prog 55 #[v, .int .u32 a] w fun e w' => e = .returned (.int .i64 (-1)) ∧ w' = w := by
  subst hm
  exact find_no B v l a w k hl ha hA
theorem use_m (B g k m cap : Nat) (l : List Ln) (hm : l.length = m) (w : World) (h : w.ownsRow B 114 18 (.slice (some ⟨g, 0, none⟩) m cap) m (flatL l)) (hk : k < m) (h4 : m ≤ 4) : Calls Tryd.prog 59 #[.slice (some ⟨g, 0, none⟩) m cap, .int .i64 k] w fun e w' => e = .returned (.pointer (some ⟨g, (m - 1) * 18, none⟩)) ∧ w'.ownsRow B 114 18 (.slice (some ⟨g, 0, none⟩) m cap) m (flatL (rest l k ++ [l.getD k l0])) ∧ Turned (fun k => k = g) w w' := by
  subst hm
  exact use_any B g k cap l w h hk h4
/-- the set that an address has, opened -/
theorem Ch.open {w : World} {B p h c : Nat} {V : Nat → Value} {S : CS} (k : Ch w B p h c V S) (a i : Nat) (hA : i < (S.set (S.of a)).length) : ∃ g m cap, V (S.of a) = .slice (some ⟨g, 0, none⟩) m cap ∧ (S.set (S.of a)).length = m ∧ i < m ∧ m ≤ 4 ∧ m ≤ cap ∧ cap ≤ 9223372036854775807 ∧ g < w.heap.size ∧ g ≠ p ∧ g ≠ h := by
  have hO := S.of_lt a k.small.2.2.1
  obtain ⟨q, cap, hv, hcap, hel⟩ := own_lines (k.l _ hO)
  obtain ⟨g, rfl, -, hg, -⟩ := hel i hA
  have hb : (V (S.of a)).ownBlock = some g := by rw [hv]; rfl
  refine ⟨g, _, cap, hv, rfl, hA, k.four _ hO, hcap.1, ?_, hg, fun e => k.vp _ hO (by rw [hb, e]), fun e => k.vh _ hO (by rw [hb, e])⟩
  have := hcap.2
  unfold maxLen at this
  omega
def CS.used (S : CS) (i k : Nat) : CS := S.put i (rest (S.set i) k ++ [(S.set i).getD k l0])
theorem fits_le (a z : Nat) (h : fits a z = true) : 0 < z ∧ z ≤ 4 ∧ a % 16 + z ≤ 16 := by
  simp only [fits, Bool.or_eq_true, decide_eq_true_eq] at h
  rcases h with (h | h) | h <;> omega
set_option maxRecDepth 100000 in
set_option maxHeartbeats 2000000 in
theorem read_at (B p h c : Nat) (V : Nat → Value) (S : CS) (a z i : Nat) (w : World) (k : Ch w B p h c V S) (ha : a < 4294967296) (hA : At (S.set (S.of a)) a i) (hz : fits a z = true) (hb : ∀ j, j < 16 → ((S.set (S.of a)).getD i l0).b j < 256) : Calls Tryd.prog 31 #[.pointer (some ⟨p, 0, none⟩), .int .u32 a, .int .i64 z] w fun e w' => e = .returned (.tuple #[.int .u32 (leN (fun t => ((S.set (S.of a)).getD i l0).b (a % 16 + t)) z : Nat), .bool true]) ∧ Ch w' B p h c V (S.used (S.of a) i) ∧ Turned (mine p h S.n V) w w' := by
  have HK := Hid.in k
  have hp := k.c.here
  have hO := S.of_lt a k.small.2.2.1
  have HO := Hid.in hO
  have HFW := Hid.in (k.few _ hO)
  obtain ⟨g, m, cap, hv, hm, him, h4, hc1, hc2, hg, -, -⟩ := k.open a i hA.1
  have HV := Hid.in hv
  have HM := Hid.in hm
  obtain ⟨z0, z4, z16⟩ := fits_le a z hz
  have HZ := Hid.in hz
  obtain ⟨r, hr⟩ : ∃ r, S.of a = r := ⟨_, rfl⟩
  have HR := Hid.in hr
  have HA := Hid.in hA
  obtain ⟨L, hL⟩ : ∃ L, S.set (S.of a) = L := ⟨_, rfl⟩
  have HL := Hid.in hL
  have HBY := Hid.in hb
  rw [hL]
  clear hA k hO hv hm hr hL hb hz
  go_enter Tryd.func31, Tryd.ntmps31
  go_wp2_with (first
    | (go_at_call 57
       have hrow := HROW.out.1
       obtain ⟨q', cap', hv', -, hel⟩ := own_lines (l := rest L i ++ [L.getD i l0]) (by rw [HLEN.out]; exact hrow)
       obtain ⟨g', hg1, -, hg2, hrg, -⟩ := hel (m - 1) (by rw [HLEN.out]; omega)
       have hgg : g' = g := by
         rw [hg1] at hv'
         simp only [Value.slice.injEq, Option.some.injEq, Addr.mk.injEq] at hv'
         exact hv'.1.1.symm
       rw [hgg, HLAST.out] at hrg
       refine (number_any g ((m - 1) * 18 + 2 + a % 16) z (fun t => (L.getD i l0).b (a % 16 + t)) _ (by rw [← hgg]; exact hg2) z4 (fun t ht => by have := HBY.out (a % 16 + t) (by omega); rw [HL.out] at this; exact this) (fun t ht => by have := hrg (2 + (a % 16 + t)) _ (Ln.at2 _ (a % 16 + t) (by omega)); rw [← Nat.add_assoc, ← Nat.add_assoc] at this; exact this)).mono ?_
       rintro e w4 ⟨rfl, rfl⟩
       clear hrow hel hv' hg1 hg2 hrg hgg)
    | (go_at_call 58
       refine (part_any g ((m - 1) * 18) a z _ ha z16 z0).mono ?_
       rintro e w3 ⟨rfl, rfl⟩)
    | (go_at_call 59
       refine (use_m B g i m cap L (by rw [← HL.out]; exact HM.out) _ (by rw [← HL.out]; exact HX.out.rowm _ HO.out _ HV.out _ HM.out) him h4).mono ?_
       rintro e w2 ⟨rfl, hrow⟩
       have HROW := Hid.in hrow
       have HLEN : Hid ((rest L i ++ [L.getD i l0]).length = m) := by
         show _ = m
         rw [List.length_append, rest_len _ _ (by rw [← HL.out, HM.out]; exact him), ← HL.out, HM.out]
         simp
         omega
       have HLAST : Hid ((rest L i ++ [L.getD i l0]).getD (m - 1) l0 = L.getD i l0) := by
         have e1 : (rest L i).length = m - 1 := by rw [rest_len _ _ (by rw [← HL.out, HM.out]; exact him), ← HL.out, HM.out]
         show _ = _
         rw [← e1]
         simp [List.getD_eq_getElem?_getD]
       clear hrow)
    | (go_at_call 56
       refine (mayStand_any a z _ ha).mono ?_
       rintro e w2 ⟨rfl, rfl⟩
       rw [HZ.out])
    | (go_at_call 55
       refine (find_at_m B m _ (S.set (S.of a)) HM.out a i _ (HX.out.rowm _ HO.out _ HV.out _ HM.out) h4 ha HA.out).mono ?_
       rintro e w2 ⟨rfl, rfl⟩)
    | (go_at_call 54
       refine (setOf_any B p h c V S a _ HK.out ha).mono ?_
       rintro e w1 ⟨rfl, hb⟩
       have k1 := HK.out.below hb
       have HX := Hid.in k1
       have ch := k1.v.cell _ HO.out
       have hh1 := k1.v.here
       have HB := Hid.in hb
       have hg1 : g < w1.heap.size := Nat.lt_of_lt_of_le hg hb.size
       rw [HR.out] at ch ⊢
       rw [← HR.out, HV.out, HR.out] at ch
       clear k1 hb))
  refine bodyPost_ret (results_tmp2 Tryd.results31 _ _ _) rfl ?_
  refine ⟨rfl, ?_, ?_⟩
  · refine HX.out.row _ HO.out _ (HROW.out.2.mono (fun q e => by rw [HV.out, e]; rfl)) ?_ ?_
    · rw [HL.out, HLEN.out, HV.out]
      exact HROW.out.1
    · rw [HL.out, HLEN.out, ← HM.out]
      exact HFW.out
  · exact (Turned.of_below HB.out).trans (HROW.out.2.mono (fun q e => Or.inr (Or.inr ⟨_, HO.out, by rw [HV.out, e]; rfl⟩)))
def Ln.wr (e : Ln) (q d z : Nat) : Ln := (e.setS 3).putN q d z
def CS.wrote (S : CS) (i k q d z : Nat) : CS := S.put i (rest (S.set i) k ++ [((S.set i).getD k l0).wr q d z])
theorem last_set (l : List Ln) (m : Nat) (x y : Ln) (h : l.length = m - 1) : (l ++ [x]).set (m - 1) y = l ++ [y] := by
  rw [← h]
  simp
theorem last_get (l : List Ln) (m : Nat) (x : Ln) (h : l.length = m - 1) : (l ++ [x]).getD (m - 1) l0 = x := by
  rw [← h]
  simp [List.getD_eq_getElem?_getD]
theorem put_m (B g r q z d m cap : Nat) (l : List Ln) (hm : l.length = m) (w : World) (k : w.ownsRow B 114 18 (.slice (some ⟨g, 0, none⟩) m cap) m (flatL l)) (hr : r < m) (hq : q + z ≤ 16) (hz : z ≤ 4) (hd : d < 4294967296) : Calls Tryd.prog 63 #[.slice (some ⟨g, r * 18 + 2 + q, none⟩) z z, .int .u32 d] w fun e w' => e = .returned (.tuple #[]) ∧ w'.ownsRow B 114 18 (.slice (some ⟨g, 0, none⟩) m cap) m (flatL (l.set r ((l.getD r l0).putN q d z))) ∧ Turned (fun k => k = g) w w' := by
  subst hm
  exact put_any B g r q z d cap l w k hr hq hz hd
set_option maxRecDepth 100000 in
set_option maxHeartbeats 2000000 in
theorem write_at (B p h c : Nat) (V : Nat → Value) (S : CS) (a z d i : Nat) (w : World) (k : Ch w B p h c V S) (ha : a < 4294967296) (hd : d < 4294967296) (hA : At (S.set (S.of a)) a i) (hz : fits a z = true) (hs1 : ((S.set (S.of a)).getD i l0).s ≠ 1) : Calls Tryd.prog 33 #[.pointer (some ⟨p, 0, none⟩), .int .u32 a, .int .i64 z, .int .u32 d] w fun e w' => e = .returned (.bool true) ∧ Ch w' B p h c V (S.wrote (S.of a) i (a % 16) d z) ∧ Turned (mine p h S.n V) w w' := by
  have HK := Hid.in k
  have hp := k.c.here
  have hO := S.of_lt a k.small.2.2.1
  have HO := Hid.in hO
  have HFW := Hid.in (k.few _ hO)
  obtain ⟨g, m, cap, hv, hm, him, h4, hc1, hc2, hg, -, -⟩ := k.open a i hA.1
  have HV := Hid.in hv
  have HM := Hid.in hm
  obtain ⟨z0, z4, z16⟩ := fits_le a z hz
  have HZ := Hid.in hz
  obtain ⟨r, hr⟩ : ∃ r, S.of a = r := ⟨_, rfl⟩
  have HR := Hid.in hr
  have HA := Hid.in hA
  obtain ⟨L, hL⟩ : ∃ L, S.set (S.of a) = L := ⟨_, rfl⟩
  have HL := Hid.in hL
  obtain ⟨s, hs⟩ : ∃ s, ((S.set (S.of a)).getD i l0).s = s := ⟨_, rfl⟩
  have HS := Hid.in hs
  rw [hs] at hs1
  have hsi : ((s : Int) == 1) = false := by simp; omega
  have hii : ((i : Int) == -1) = false := by simp
  have HRL : Hid ((rest L i).length = m - 1) := by
    show _ = _
    rw [rest_len _ _ (by rw [← hL, hm]; exact him), ← hL, hm]
  clear hA k hO hv hm hr hL hz hs
  go_enter Tryd.func33, Tryd.ntmps33
  go_wp2_with (first
    | (go_at_call 63
       refine (put_m B g (m - 1) (a % 16) z d m cap (rest L i ++ [(L.getD i l0).setS 3]) (by rw [List.length_append, HRL.out]; simp; omega) _ HROW3.out (by omega) z16 z4 hd).mono ?_
       rintro e w4 ⟨rfl, hrow4⟩
       rw [last_set _ _ _ _ HRL.out, last_get _ _ _ HRL.out] at hrow4
       have HROW4 := Hid.in hrow4
       clear hrow4)
    | (go_at_call 58
       refine (part_any g ((m - 1) * 18) a z _ ha z16 z0).mono ?_
       rintro e w3 ⟨rfl, rfl⟩)
    | (go_at_call 59
       refine (use_m B g i m cap L (by rw [← HL.out]; exact HM.out) _ (by rw [← HL.out]; exact HX.out.rowm _ HO.out _ HV.out _ HM.out) him h4).mono ?_
       rintro e w2 ⟨rfl, hrow⟩
       have HROW := Hid.in hrow
       have hlen : (rest L i ++ [L.getD i l0]).length = m := by
         rw [List.length_append, HRL.out]
         simp
         omega
       obtain ⟨q', cap', hv', -, hel⟩ := own_lines (l := rest L i ++ [L.getD i l0]) (by rw [hlen]; exact hrow.1)
       obtain ⟨g', hg1', -, hg2, -, -, -, hst, hfr⟩ := hel (m - 1) (by rw [hlen]; omega)
       have hgg : g' = g := by
         rw [hg1'] at hv'
         simp only [Value.slice.injEq, Option.some.injEq, Addr.mk.injEq] at hv'
         exact hv'.1.1.symm
       rw [hgg] at hst hg2 hfr
       have hf2 := hfr ((m - 1) * 18 + 1)
       have HROW3 : Hid ((w2.setCell ⟨g, (m - 1) * 18 + 1, none⟩ (.int .i64 3)).ownsRow B 114 18 (.slice (some ⟨g, 0, none⟩) m cap) m (flatL (rest L i ++ [(L.getD i l0).setS 3]))) := by
         have q := own_set hrow.1 ((m - 1) * 18 + 1) (.int .i64 (3 : Nat))
         rw [flatL_setS _ (m - 1) 3 (by rw [hlen]; omega), last_get _ _ _ HRL.out, last_set _ _ _ _ HRL.out] at q
         exact q
       clear hrow hlen hel hv' hgg hg1' hfr)
    | (go_at_call 56
       refine (mayStand_any a z _ ha).mono ?_
       rintro e w2 ⟨rfl, rfl⟩
       rw [HZ.out])
    | (go_at_call 55
       refine (find_at_m B m _ (S.set (S.of a)) HM.out a i _ (HX.out.rowm _ HO.out _ HV.out _ HM.out) h4 ha HA.out).mono ?_
       rintro e w2 ⟨rfl, rfl⟩)
    | (go_at_call 54
       refine (setOf_any B p h c V S a _ HK.out ha).mono ?_
       rintro e w1 ⟨rfl, hb⟩
       have k1 := HK.out.below hb
       have HX := Hid.in k1
       have ch := k1.v.cell _ HO.out
       have hh1 := k1.v.here
       have HB := Hid.in hb
       have hg1 : g < w1.heap.size := Nat.lt_of_lt_of_le hg hb.size
       obtain ⟨q', cap', hv', -, hel⟩ := own_lines (k1.l _ HO.out)
       obtain ⟨g', hg1', -, -, -, -, -, hst1, -⟩ := hel i HA.out.1
       have hgg : g' = g := by
         rw [HV.out, hg1'] at hv'
         simp only [Value.slice.injEq, Option.some.injEq, Addr.mk.injEq] at hv'
         exact hv'.1.1.symm
       rw [hgg, HS.out] at hst1
       rw [HR.out] at ch ⊢
       rw [← HR.out, HV.out, HR.out] at ch
       clear k1 hb hel hv' hg1' hgg))
  go_ret
  refine ⟨rfl, ?_, ?_⟩
  · refine HX.out.row _ HO.out _ ((HROW.out.2.trans (((Turned.refl (fun k => k = g) _).set (b := g) rfl _ _).trans HROW4.out.2)).mono (fun q e => by rw [HV.out, e]; rfl)) ?_ ?_
    · rw [HL.out, HV.out, List.length_append, HRL.out, show m - 1 + [((L.getD i l0).wr (a % 16) d z)].length = m by simp; omega]
      exact HROW4.out.1
    · rw [HL.out, List.length_append, HRL.out, show m - 1 + [((L.getD i l0).wr (a % 16) d z)].length = m by simp; omega, ← HM.out]
      exact HFW.out
  · exact (Turned.of_below HB.out).trans ((HROW.out.2.trans (((Turned.refl (fun k => k = g) _).set (b := g) rfl _ _).trans HROW4.out.2)).mono (fun q e => Or.inr (Or.inr ⟨_, HO.out, by rw [HV.out, e]; rfl⟩)))
end Go.Proofs.YtlogdmnhngbkaaaDoor
/-
  CACHE: Fill: what it does to memory; takeOut by the cache.
-/
namespace Go.Proofs.YtlogdmnhngbkaaaDoor
open Go Go.RowKit
theorem info_parts {P : Program} {t : TypeId} {z : Option Value} {s b : Nat} (h : (P.info? t).map (fun i => (i.zero, i.size, i.bytes)) = some (z, s, b)) : ∃ i, P.info? t = some i ∧ i.zero = z ∧ i.size = s ∧ i.bytes = b := by
  cases q : P.info? t with
  | none => rw [q] at h; simp at h
  | some i =>
    rw [q] at h
    simp at h
    exact ⟨i, rfl, h.1, h.2.1, h.2.2⟩
theorem own_succ {w : World} {base : Nat} {e : TypeId} {size n : Nat} {v : Value} {xs : List Value} (h : w.ownsRow base e size v (n + 1) xs) : ∃ g cap, v = .slice (some ⟨g, 0, none⟩) (n + 1) cap := by
  rcases h.2 with ⟨-, h2⟩ | ⟨g, cap, cur, h1, -⟩
  · omega
  · exact ⟨g, cap, h1⟩
theorem range_turned {Q : Nat → Prop} {x y : World} {b o : Nat} {cs : List Value} (h : x.rangeAt b o cs) (t : Turned Q x y) (hb : b < x.heap.size) (hq : ¬ Q b) : y.rangeAt b o cs := fun j v hv => (World.cell?_of_block (t.block b hb hq)).trans (h j v hv)
theorem there_turned {Q : Nat → Prop} {x y : World} {b o n : Nat} (h : x.there b o n) (t : Turned Q x y) (hb : b < x.heap.size) (hq : ¬ Q b) : y.there b o n := fun j hj => ⟨by rw [World.cell?_of_block (t.block b hb hq)]; exact (h j hj).1, by rw [World.frozen?_of_block (t.block b hb hq)]; exact (h j hj).2⟩
theorem takeOut_ch (B p h c : Nat) (V : Nat → Value) (S : CS) (i k : Nat) (w : World) (K : Ch w B p h c V S) (hi : i < S.n) (hk : k < (S.set i).length) : Calls Tryd.prog 70 #[.pointer (some ⟨h, i, none⟩), .int .i64 k] w fun e w' => e = .returned (.agg ((S.set i).getD k l0).vs.toArray) ∧ ∃ v', Ch w' B p h c (upd V i v') (S.put i (rest (S.set i) k)) ∧ v'.ownBlock = (V i).ownBlock ∧ Turned (fun q => (V i).ownBlock = some q ∨ q = h) w w' := by
  obtain ⟨q, cap, hv, hcap, hel⟩ := own_lines (K.l i hi)
  obtain ⟨g, rfl, -⟩ := hel k hk
  have hb : (V i).ownBlock = some g := by rw [hv]; rfl
  have hne : h ≠ g := fun e => K.vh i hi (by rw [hb, e])
  have hl := K.l i hi
  rw [hv] at hl
  refine (takeOut_mem B g h i k cap (S.set i) w hl (by rw [← hv]; exact K.v.cell i hi) (K.v.free i) hne hk (K.four i hi)).mono ?_
  rintro e w' ⟨rfl, h1, ⟨_, -, h2⟩, h3⟩
  refine ⟨rfl, .slice (some ⟨g, 0, none⟩) ((S.set i).length - 1) cap, ?_, by rw [hb]; rfl, h2.mono (fun q e => e.elim (fun e => Or.inl (by rw [hb, e])) Or.inr)⟩
  have hrl := rest_len _ _ hk
  refine K.rowTo2 i hi _ _ (h2.mono (fun q e => e.elim (fun e => Or.inl (by rw [hb, e])) Or.inr)) (h3 _ _ K.v hi) ?_ ?_ (fun q e => Or.inl (by rw [hb]; exact e))
  · rw [hrl]
    exact h1
  · have := K.few i hi
    omega
theorem fill_mem (B p h c : Nat) (V : Nat → Value) (S : CS) (r bx rv lv m cap : Nat) (b : Nat → Nat) (e left : Ln) (qa : Option Addr) (Y : World) (k : Ch Y B p h c V S) (hr : r < S.n) (hv : V r = .slice qa m cap) (hm : (S.set r).length = m) (hroom : m < S.ways)
    (hbx : Y.rangeAt bx 0 (bvs b)) (hlv : Y.rangeAt lv 0 left.vs) (hrv : Y.there rv 0 18) (lbx : bx < Y.heap.size) (llv : lv < Y.heap.size) (lrv : rv < Y.heap.size) (nlr : lv ≠ rv)
    (nbx : ¬ mine p h S.n V bx) (nlv : ¬ mine p h S.n V lv) (nrv : ¬ mine p h S.n V rv) :
    ∃ g' cap' w1, (Builtin.append_ #[126, 126] 126 #[.slice qa m cap, .slice (some ⟨Y.heap.size, 0, none⟩) 1 1]).run Tryd.prog (Y.drew.alloc (.cells e.vs.toArray 114)) = .ok (.slice (some ⟨g', 0, none⟩) (m + 1) cap') w1 ∧
      (Y.drew.alloc (.cells e.vs.toArray 114)).cell? ⟨h, r, none⟩ = some (.slice qa m cap) ∧ w1.cell? ⟨h, r, none⟩ = some (.slice qa m cap) ∧ w1.frozen? ⟨h, r, none⟩ = false ∧ h < w1.heap.size ∧
      (Y.drew.alloc (.cells e.vs.toArray 114)).rangeAt bx 0 (bvs b) ∧ w1.rangeAt bx 0 (bvs b) ∧ (w1.setCell ⟨h, r, none⟩ (.slice (some ⟨g', 0, none⟩) (m + 1) cap')).rangeAt bx 0 (bvs b) ∧
      (w1.setCell ⟨h, r, none⟩ (.slice (some ⟨g', 0, none⟩) (m + 1) cap')).rangeAt lv 0 left.vs ∧ (w1.setCell ⟨h, r, none⟩ (.slice (some ⟨g', 0, none⟩) (m + 1) cap')).there rv 0 18 ∧
      ((w1.setCell ⟨h, r, none⟩ (.slice (some ⟨g', 0, none⟩) (m + 1) cap')).setCells rv 0 left.vs).rangeAt rv 0 left.vs ∧
      Ch ((w1.setCell ⟨h, r, none⟩ (.slice (some ⟨g', 0, none⟩) (m + 1) cap')).setCells rv 0 left.vs) B p h c (upd V r (.slice (some ⟨g', 0, none⟩) (m + 1) cap')) (S.put r (S.set r ++ [e])) ∧
      Turned (fun x => (V r).ownBlock = some x ∨ x = h ∨ x = rv) Y ((w1.setCell ⟨h, r, none⟩ (.slice (some ⟨g', 0, none⟩) (m + 1) cap')).setCells rv 0 left.vs) ∧
      ((V r).ownBlock = some g' ∨ Y.heap.size ≤ g') := by
  obtain ⟨i0, hi0, hz0, hz1, hz2⟩ := info_parts (show (Tryd.prog.info? 114).map (fun i => (i.zero, i.size, i.bytes)) = some (some (.agg zl), 18, 32) by kernel_rfl)
  have hl := k.rowm r hr _ hv m hm
  have hh := k.v.here
  have h4 := k.small.1
  obtain ⟨A, hA⟩ : ∃ A, Y.drew.alloc (.cells e.vs.toArray 114) = A := ⟨_, rfl⟩
  have tA : Turned (fun _ => False) Y A := by rw [← hA]; exact ((Turned.refl _ Y).drew).alloc _
  have sA : A.heap.size = Y.heap.size + 1 := by rw [← hA]; simp
  have lA := own_turned hl tA (fun _ _ q => q)
  rw [hA]
  obtain ⟨v', w1, hrun, r1, r2, r3, r4⟩ := run_append_own_at (P := Tryd.prog) (w := A) B 126 126 114 i0 (.agg zl) 18 32 Tryd.underlying126 hi0 hz0 hz1 hz2 rfl (by decide) (.slice qa m cap) m (flatL (S.set r)) lA ⟨Y.heap.size, 0, none⟩ 1 1 e.vs (by rw [Ln.len]) (fun j u hj => by
      rw [Addr.add_mid, Nat.zero_add, ← hA]
      have e2 := World.cell?_alloc_new Y.drew e.vs.toArray 114 j
      refine e2.trans ?_
      rw [← hj]
      simp) e.one (by unfold maxLen; omega) (by omega) (by have := k.lo; omega)
  obtain ⟨g', cap', rfl⟩ := own_succ r1
  have e3 : flatL (S.set r) ++ e.vs = flatL (S.set r ++ [e]) := by rw [flatL_app, flatL_one]
  rw [e3] at r1
  have t1 := turned_grown r2
  have hvb : ∀ x, (Value.slice qa m cap).ownBlock = some x → (V r).ownBlock = some x := fun x hx => by rw [hv]; exact hx
  have T1 : Turned (fun x => (V r).ownBlock = some x) Y w1 := (tA.mono (fun _ q => q.elim)).trans (t1.mono hvb)
  have nh : ¬ (V r).ownBlock = some h := k.vh r hr
  have c1 : Y.cell? ⟨h, r, none⟩ = some (.slice qa m cap) := by rw [← hv]; exact k.v.cell r hr
  have own_lt : ∀ x, (V r).ownBlock = some x → x < Y.heap.size := fun x hx => (own_base (k.l r hr) x hx).2
  have hg' : (V r).ownBlock = some g' ∨ Y.heap.size ≤ g' := by
    rcases r4 with q | q
    · exact Or.inl (hvb g' (by rw [← q]; rfl))
    · right
      simp [Value.ownBlock] at q
      omega
  obtain ⟨Z, hZ⟩ : ∃ Z, w1.setCell ⟨h, r, none⟩ (.slice (some ⟨g', 0, none⟩) (m + 1) cap') = Z := ⟨_, rfl⟩
  have TZ : Turned (fun x => (V r).ownBlock = some x ∨ x = h) Y Z := by
    rw [← hZ]
    exact (T1.mono (R := fun x => (V r).ownBlock = some x ∨ x = h) (fun _ q => Or.inl q)).set (b := h) (Or.inr rfl) _ _
  have sub : ∀ x, ((V r).ownBlock = some x ∨ x = h) → mine p h S.n V x := fun x q => q.elim (fun q => Or.inr (Or.inr ⟨r, hr, q⟩)) (fun q => Or.inr (Or.inl q))
  have zbx := range_turned hbx TZ lbx (fun q => nbx (sub _ q))
  have zlv := range_turned hlv TZ llv (fun q => nlv (sub _ q))
  have zrv := there_turned hrv TZ lrv (fun q => nrv (sub _ q))
  have tF := turned_setCells (g := rv) left.vs 0 Z
  have hgh : g' ≠ h := by
    rcases hg' with q | q
    · exact fun e => nh (by rw [← e]; exact q)
    · omega
  refine ⟨g', cap', w1, hrun, tA.to_cell hh (fun q => q) c1, T1.to_cell hh nh c1, (World.frozen?_of_block (T1.block h hh nh)).trans (k.v.free r), Nat.lt_of_lt_of_le hh T1.size, range_turned hbx tA lbx (fun q => q), range_turned hbx T1 lbx (fun q => nbx (sub _ (Or.inl q))), ?_⟩
  rw [hZ]
  refine ⟨zbx, zlv, zrv, World.rangeAt_setCells_same _ _ _ _ (by rw [Ln.len]; exact zrv), ?_, ?_, hg'⟩
  · have kZ : Ch Z B p h c (upd V r (.slice (some ⟨g', 0, none⟩) (m + 1) cap')) (S.put r (S.set r ++ [e])) := by
      have el : (S.set r ++ [e]).length = m + 1 := by simp [hm]
      refine k.rowTo2 r hr _ _ TZ ?_ ?_ (by rw [el]; omega) (fun x q => ?_)
      · rw [← hZ]
        exact (T1.cells k.v nh).set r hr _
      · rw [el, ← hZ]
        exact own_turned r1 ((Turned.refl (fun x => x = h) w1).set (b := h) rfl _ _) (fun x q e => by simp [Value.ownBlock] at q; omega)
      · simp [Value.ownBlock] at q
        rw [← q]
        exact hg'
    refine kZ.turned tF (fun e => nrv (Or.inl e.symm)) (fun e => nrv (Or.inr (Or.inl e.symm))) (fun i j hi hj e => ?_)
    subst e
    by_cases q : i = r
    · subst q
      rw [upd_same] at hj
      simp [Value.ownBlock] at hj
      rcases hg' with q | q
      · exact nrv (Or.inr (Or.inr ⟨i, hi, by rw [← hj]; exact q⟩))
      · omega
    · rw [upd_other _ _ _ _ q] at hj
      exact nrv (Or.inr (Or.inr ⟨i, hi, hj⟩))
  · exact (TZ.mono (fun x q => q.elim Or.inl (fun q => Or.inr (Or.inl q)))).trans (tF.mono (fun x q => Or.inr (Or.inr q)))
end Go.Proofs.YtlogdmnhngbkaaaDoor
