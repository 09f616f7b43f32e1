/-
  BUS: Write, Read.
-/
import Derived.Test.YtbbaopldebdoiaaBw0
namespace Go.Proofs.Ytbbaopldebdoiaa
open Go Go.RowKit
theorem wrote_last {T : CS} (h : Stc T) (a j q d z : Nat) (hA : At (T.set (T.of a)) a j) (e : Ln) (he : ((T.set (T.of a)).getD j l0).wr q d z = e) : (T.wrote (T.of a) j q d z).set ((T.wrote (T.of a) j q d z).of (lineOf a)) = rest (T.set (T.of a)) j ++ [e] ∧ At (rest (T.set (T.of a)) j ++ [e]) (lineOf a) ((rest (T.set (T.of a)) j ++ [e]).length - 1) ∧ (rest (T.set (T.of a)) j ++ [e]).getD ((rest (T.set (T.of a)) j ++ [e]).length - 1) l0 = e := by
  have hq : T.of a < T.n := T.of_lt a h.n
  have e1 : (T.wrote (T.of a) j q d z).of (lineOf a) = T.of a := of_lineOf T a
  have e2 : (T.wrote (T.of a) j q d z).set (T.of a) = rest (T.set (T.of a)) j ++ [e] := by
    rw [← he]
    exact upd_same _ _ _
  have hl : (rest (T.set (T.of a)) j ++ [e]).length - 1 = (rest (T.set (T.of a)) j).length := by rw [List.length_append]; simp
  have hg : (rest (T.set (T.of a)) j ++ [e]).getD (rest (T.set (T.of a)) j).length l0 = e := by
    rw [List.getD_eq_getElem?_getD, List.getElem?_append_right (Nat.le_refl _)]
    simp
  have ll : lineOf (lineOf a) = lineOf a := lineOf_self (by unfold lineOf; omega)
  have ea : e.a = lineOf a := by rw [← he, (wr_is _ q d z).1]; exact hA.2.1
  rw [e1, e2, hl]
  refine ⟨rfl, ⟨by rw [List.length_append]; simp, by rw [hg, ll]; exact ea, fun i hi => ?_⟩, hg⟩
  have hm : (rest (T.set (T.of a)) j ++ [e]).getD i l0 ∈ rest (T.set (T.of a)) j := by
    rw [List.getD_eq_getElem?_getD, List.getElem?_append_left hi, List.getElem?_eq_getElem hi]
    exact List.getElem_mem hi
  rw [ll, ← hA.2.1]
  exact (apart_rest _ j hA.1 (h.one _ hq)).2 _ hm
section
variable {x : World} {g : Bn} {F : Nat → Prop} {N : Nat} {S : BS}
def BS.wrt (S : BS) (i a j d z : Nat) : BS := { S.cput i ((S.c i).wrote ((S.c i).of a) j (a % 16) d z) with nw := updO S.nw (lineOf a : Nat) (some (((((S.c i).set ((S.c i).of a)).getD j l0).wr (a % 16) d z).b)) }
set_option maxRecDepth 100000 in
set_option maxHeartbeats 2000000 in
theorem uwrite (h : Bu x g F N S) (hN : N < 9000000000000000000) (i a z d j : Nat) (ha : a + 16 < 4294967296) (hd : d < 4294967296) (hh : S.has i a = true) (hA : At ((S.c i).set ((S.c i).of a)) a j) (hz : fits a z = true) (hs1 : (((S.c i).set ((S.c i).of a)).getD j l0).s ≠ 1) (hst : Stc (S.c i)) (h8 : ∀ q, (((S.c i).set ((S.c i).of a)).getD j l0).b q < 256) : Calls Try.prog 10 #[.pointer (some ⟨g.p, 0, none⟩), .int .i64 i, .int .u32 a, .int .i64 z, .int .u32 d] x fun e w' => e = .returned (.bool true) ∧ Bu w' g F (N + 1) (S.wrt i a j d z) ∧ Turned (fun j => ¬ F j) x w' := by
  obtain ⟨V, kn, ka, k, h1, h2, h3⟩ := h
  obtain ⟨i', hii, hi, -, -⟩ := has_core hh
  obtain rfl : i = i' := by omega
  have HH := Hid.in (bhas_any k i a (by omega))
  rw [hh] at HH
  obtain ⟨w1, w2, w3⟩ := wrote_last hst a j (a % 16) d z hA _ rfl
  have HWR := Hid.in ((write_at g.B (g.P i) (g.H i) (g.C i) (V i) (S.c i) a z d j x (k.ch i hi) (by omega) hd hA hz hs1).mono (R' := fun e w' => e = .returned (.bool true) ∧ g.M w' kn ka V (S.cput i ((S.c i).wrote ((S.c i).of a) j (a % 16) d z)) ∧ Turned (mine (g.P i) (g.H i) (S.c i).n (V i)) x w') fun e w' hq => ⟨hq.1, k.cache1 i hi rfl hq.2.1 hq.2.2, hq.2.2⟩)
  have e8 : ∀ q, ((((S.c i).set ((S.c i).of a)).getD j l0).wr (a % 16) d z).b q < 256 := fun q => by
    rw [(wr_is _ _ _ _).2.2 q]
    split
    · exact Nat.mod_lt _ (by decide)
    · exact h8 q
  have HNT : Hid (∀ y, g.M y kn ka V (S.cput i ((S.c i).wrote ((S.c i).of a) j (a % 16) d z)) → Turned (mine (g.P i) (g.H i) (S.c i).n (V i)) x y → Calls Try.prog 23 #[.pointer (some ⟨g.p, 0, none⟩), .int .i64 i, .int .u32 (lineOf a : Nat)] y fun r w' => r = .returned (.tuple #[]) ∧ Bu w' g F (N + 1) (S.wrt i a j d z) ∧ Turned (fun j => ¬ F j) x w') := fun y ky ty => by
    have ec : (S.cput i ((S.c i).wrote ((S.c i).of a) j (a % 16) d z)).c i = (S.c i).wrote ((S.c i).of a) j (a % 16) d z := if_pos rfl
    have al : lineOf a ≤ a := Nat.sub_le _ _
    refine (bnote_any ky i (lineOf a) hi (by unfold lineOf; omega) (by omega) (by rw [ec, w1]; exact w2) ((((S.c i).set ((S.c i).of a)).getD j l0).wr (a % 16) d z) (by rw [ec, w1]; exact w3) e8 (by unfold maxLen; omega)).mono ?_
    rintro r w' ⟨rfl, k', t⟩
    have tt : Turned (fun z => mine (g.P i) (g.H i) (S.c i).n (V i) z ∨ z = g.nb) x w' := (ty.mono (fun z q => Or.inl q)).trans (t.mono (fun z q => by
      rw [ec] at q
      exact q))
    refine ⟨rfl, Bu.step h3 k' (by omega) (by omega) rfl (fun j' => ?_) (fun _ _ _ _ _ q => Or.inl q) tt (fun z hz => ?_)⟩
    · show (if j' = i then _ else S.c j').n = _
      by_cases e : j' = i
      · rw [if_pos e, e]; rfl
      · rw [if_neg e]
    · rcases hz with hz | hz
      · exact Or.inr ⟨i, hi, hz⟩
      · exact Or.inl (Or.inr (Or.inr (Or.inr (Or.inl hz))))
  have HLO : Hid (∀ y, Calls Try.prog 19 #[.int .u32 a] y fun e w' => e = .returned (.int .u32 (lineOf a : Nat)) ∧ w' = y) := fun y => blineOf_any a y (by omega)
  have c0 : x.cell? ⟨g.p, 0, none⟩ = some (.slice (some ⟨g.rb, 0, none⟩) S.nc g.rc) := k.c.cell 0 (by decide)
  have r0 : x.cell? ⟨g.rb, i, none⟩ = some (.pointer (some ⟨g.P i, 0, none⟩)) := k.row.cell i hi
  have hp := k.c.here
  have hrr := k.row.here
  have hi' : (i : Int) < (S.nc : Int) := by omega
  clear k hh hA hz hs1 hst h8 e8 w1 w2 w3 hii hi h1 h2 h3 ha hd hN
  go_enter Try.func10, Try.ntmps10
  go_wp2_with (first
    | (go_at_call 17; refine HH.out.mono ?_; rintro e y ⟨rfl, hy⟩; have hy2 := hy.symm; clear hy; subst hy2)
    | (go_at_call 22; refine HWR.out.mono ?_; rintro e y ⟨rfl, hk, ht⟩; have HK := Hid.in hk; have HT := Hid.in ht; clear hk ht)
    | (go_at_call 19; refine (HLO.out _).mono ?_; rintro e y' ⟨rfl, hy⟩; have hy2 := hy.symm; clear hy; subst hy2)
    | (go_at_call 23; refine (HNT.out _ HK.out HT.out).mono ?_; rintro e y2 ⟨rfl, hq⟩; have HQ := Hid.in hq; clear hq))
  go_ret
  exact ⟨rfl, HQ.out⟩
theorem uread (h : Bu x g F N S) (i a z j : Nat) (ha : a < 4294967296) (hh : S.has i a = true) (hA : At ((S.c i).set ((S.c i).of a)) a j) (hz : fits a z = true) (hb : ∀ t, t < 16 → (((S.c i).set ((S.c i).of a)).getD j l0).b t < 256) : Calls Try.prog 11 #[.pointer (some ⟨g.p, 0, none⟩), .int .i64 i, .int .u32 a, .int .i64 z] x fun e w' => e = .returned (.tuple #[.int .u32 (leN (fun t => (((S.c i).set ((S.c i).of a)).getD j l0).b (a % 16 + t)) z : Nat), .bool true]) ∧ Bu w' g F N (S.cput i ((S.c i).used ((S.c i).of a) j)) ∧ Turned (fun j => ¬ F j) x w' := by
  obtain ⟨V, kn, ka, k, h1, h2, h3⟩ := h
  obtain ⟨i', hii, hi, -, -⟩ := has_core hh
  obtain rfl : i = i' := by omega
  refine (bread_hit k i a z j ha hh hA hz hb).mono ?_
  rintro e w' ⟨rfl, k', t⟩
  refine ⟨rfl, Bu.step h3 k' h1 h2 rfl (fun j' => ?_) (fun _ _ _ _ _ q => Or.inl q) t (fun z hz => Or.inr ⟨i, hi, hz⟩)⟩
  show (if j' = i then _ else S.c j').n = _
  by_cases e : j' = i
  · rw [if_pos e, e]; rfl
  · rw [if_neg e]
end
end Go.Proofs.Ytbbaopldebdoiaa
