/-
  LSQ: fromMemory.
-/
import Derived.Test.YthbffonedpeeiaaDoorMt
namespace Go.Proofs.YthbffonedpeeiaaDoor
open Go Go.RowKit
theorem flatA_same : ∀ (l : List Ac) (i : Nat) (y : Ac), i < l.length → y.vs = (l.getD i a0).vs → flatA (l.set i y) = flatA l
  | [], i, y, h, _ => by simp at h
  | e :: l, 0, y, _, hy => by
    simp only [List.set_cons_zero, flatA]
    rw [hy]
    rfl
  | e :: l, i + 1, y, h, hy => by
    simp only [List.set_cons_succ, flatA]
    rw [flatA_same l i y (by simp at h; omega) hy]
def Ac.setF (e : Ac) (t : Nat) (u : Int) : Ac := { e with fr := e.fr.set t u }
theorem Ac.setF_vs (e : Ac) (t : Nat) (u : Int) : (e.setF t u).vs = e.vs := by
  unfold Ac.setF Ac.vs Ac.v
  simp
theorem Qm.setF {w : World} {B p b : Nat} {v : Value} {S : QS} (k : Qm w B p v S) (i t : Nat) (hi : i < S.on.length) (ht : t < (S.at i).fr.length) (u : Int) (hb : (S.at i).fb = some b) : Step w (w.setCell ⟨b, t, none⟩ (.int .i64 u)) B p v S v (S.set i ((S.at i).setF t u)) := by
  have t1 : Turned (fun j => j = b) w (w.setCell ⟨b, t, none⟩ (.int .i64 u)) := (Turned.refl (fun j => j = b) w).set (b := b) rfl _ _
  have hbv : v.ownBlock ≠ some b := k.fv i hi b hb
  have hl : (S.set i ((S.at i).setF t u)).on.length = S.on.length := S.set_len i _
  have hat : ∀ j, ((S.set i ((S.at i).setF t u)).at j).fb = (S.at j).fb := fun j => by
    by_cases e : j = i
    · subst e
      rw [S.at_set j _ hi]
      rfl
    · rw [S.at_set' i j _ e]
  have f := k.fit i hi
  refine ⟨⟨t1.cells k.c (fun e => k.fp i hi (by rw [hb, e])), ?_, fun j hj => ?_, k.vp, fun j hj => by rw [hat]; exact k.fp j (by omega), fun j hj b' hb' => by rw [hat] at hb'; exact k.fv j (by omega) b' hb', fun j j' hj hj' b' h1 h2 => by rw [hat] at h1 h2; exact k.ff j j' (by omega) (by omega) b' h1 h2, k.lo, by rw [hl]; exact k.small, fun j hj => ?_⟩, t1.mono (fun j e => Or.inr (Or.inr ⟨i, hi, by rw [hb, e]⟩)), ?_⟩
  · rw [hl, show (S.set i ((S.at i).setF t u)).on = S.on.set i ((S.at i).setF t u) from rfl, flatA_same S.on i _ hi ((S.at i).setF_vs t u)]
    exact own_turned k.l t1 (fun j hj e => hbv (by rw [hj, e]))
  · by_cases e : j = i
    · subst e
      rw [S.at_set j _ hi]
      have o := k.f j hi
      have hvv : ((S.at j).setF t u).v = (S.at j).v := by unfold Ac.setF Ac.v; simp
      have hlen : ((S.at j).setF t u).fr.length = (S.at j).fr.length := by unfold Ac.setF; simp
      have hmap : ((S.at j).setF t u).fr.map (Value.int .i64) = ((S.at j).fr.map (Value.int .i64)).set t (.int .i64 u) := by
        unfold Ac.setF
        rw [List.map_set]
      rw [hvv, hlen, hmap]
      have hv2 : (S.at j).v = .slice (some ⟨b, 0, none⟩) (S.at j).fr.length (S.at j).fc := by unfold Ac.v; rw [hb]; rfl
      rw [hv2] at o ⊢
      exact own_set o t (.int .i64 u)
    · rw [S.at_set' i j _ e]
      exact own_turned (k.f j (by omega)) t1 (fun b' hb' e2 => e (k.ff j i (by omega) hi b' (by rw [Ac.vb] at hb'; exact hb') (by rw [hb, e2])))
  · by_cases e : j = i
    · subst e
      rw [S.at_set j _ hi]
      have hlen : ((S.at j).setF t u).fr.length = (S.at j).fr.length := by unfold Ac.setF; simp
      exact ⟨f.n0, f.n1, f.a, f.d, f.z, f.az, by rw [hlen]; exact f.f, by rw [hlen]; exact f.fa, by rw [hlen]; exact f.fz⟩
    · rw [S.at_set' i j _ e]
      exact k.fit j (by omega)
  · rintro j (rfl | h | ⟨i', hi', h⟩)
    · exact Or.inl (Or.inl rfl)
    · exact Or.inl (Or.inr (Or.inl h))
    · rw [hat] at h
      exact Or.inl (Or.inr (Or.inr ⟨i', by omega, h⟩))
/-- what is of a store that is written is memory's -/
def toMem (s x : Int) : Int := if x = s then -1 else x
def frT (s : Int) (l : List Int) (t : Nat) : List Int := (l.take t).map (toMem s) ++ l.drop t
theorem frT_len (s : Int) (l : List Int) (t : Nat) (h : t ≤ l.length) : (frT s l t).length = l.length := by
  unfold frT
  simp
  omega
theorem frT_at (s : Int) (l : List Int) (t : Nat) (h : t < l.length) : (frT s l t).getD t 0 = l.getD t 0 := by
  unfold frT
  have h1 : ((l.take t).map (toMem s)).length = t := by simp; omega
  rw [List.getD_eq_getElem?_getD, List.getElem?_append_right (by omega), h1, Nat.sub_self, List.getElem?_drop, Nat.add_zero, List.getD_eq_getElem?_getD]
theorem frT_next (s : Int) (l : List Int) (t : Nat) (h : t < l.length) : frT s l (t + 1) = (frT s l t).set t (toMem s (l.getD t 0)) := by
  unfold frT
  have h1 : ((l.take t).map (toMem s)).length = t := by simp; omega
  rw [List.set_append, if_neg (by omega), h1, Nat.sub_self, List.take_add_one, List.getElem?_eq_getElem h, List.map_append, List.append_assoc, List.drop_eq_getElem_cons h, List.set_cons_zero, List.getD_eq_getElem?_getD, List.getElem?_eq_getElem h]
  rfl
theorem frT_all (s : Int) (l : List Int) : frT s l l.length = l.map (toMem s) := by
  unfold frT
  simp
theorem frT_zero (s : Int) (l : List Int) : frT s l 0 = l := by
  unfold frT
  simp
def Ac.withR (e : Ac) (fr : List Int) : Ac := { e with fr := fr }
set_option maxRecDepth 100000 in
set_option maxHeartbeats 1000000 in
theorem fromMemory_any (B p g cap : Nat) (v : Value) (S : QS) (i : Nat) (s : Int) (w : World) (k : Qm w B p v S) (hv : v = .slice (some ⟨g, 0, none⟩) S.on.length cap) (hi : i < S.on.length) : Calls Tryd.prog 57 #[.pointer (some ⟨g, i * 8, none⟩), .int .i64 s] w fun e w' => e = .returned (.tuple #[]) ∧ Step w w' B p v S v (S.set i ((S.at i).withR ((S.at i).fr.map (toMem s)))) := by
  obtain ⟨e, he⟩ : ∃ e, S.at i = e := ⟨_, rfl⟩
  have h4 := (k.fit i hi).f
  rw [he] at h4 ⊢
  have HK := Hid.in k
  have HV := Hid.in hv
  have HE := Hid.in he
  have HST0 : Hid (Step w w B p v S v (S.set i (e.withR (frT s e.fr 0)))) := by
    show Step _ _ _ _ _ _ _ _
    rw [frT_zero, show e.withR e.fr = e from rfl, ← he, S.set_self i hi]
    exact Step.same k (Below.refl _ _)
  -- the row's value, whatever was written
  have HRW : Hid (∀ wr t, t ≤ e.fr.length → Step w wr B p v S v (S.set i (e.withR (frT s e.fr t))) → wr.cell? ⟨g, i * 8 + 7, none⟩ = some (.slice (e.fb.map fun b => (⟨b, 0, none⟩ : Addr)) e.fr.length e.fc)) := fun wr t ht st => by
    have hl : (S.set i (e.withR (frT s e.fr t))).on.length = S.on.length := S.set_len i _
    obtain ⟨g', cap', hv', -, hrow⟩ := st.q.rows i (by omega)
    rw [hv, hl] at hv'
    cases hv'
    obtain ⟨-, x2, -⟩ := hrow wr (Below.refl _ _)
    rw [S.at_set i _ hi] at x2
    obtain ⟨-, -, -, -, -, -, -, c7⟩ := row_cells x2
    rw [c7]
    unfold Ac.v
    show some (Value.slice _ (frT s e.fr t).length _) = _
    rw [frT_len s e.fr t ht]
    rfl
  have c7 := HRW.out w 0 (Nat.zero_le _) HST0.out
  obtain ⟨qa, hqa⟩ : ∃ qa, e.fb.map (fun b => (⟨b, 0, none⟩ : Addr)) = qa := ⟨_, rfl⟩
  rw [hqa] at c7 HRW
  obtain ⟨m, hm⟩ : ∃ m, e.fr.length = m := ⟨_, rfl⟩
  have HM := Hid.in hm
  rw [hm] at c7 h4 HRW
  have HQA := Hid.in hqa
  clear k hv he hqa hm
  go_enter Tryd.func57, Tryd.ntmps57
  go_wp2
  clear c7
  go_loopw [11] (fun u wr => ∃ t : Nat, u = .int .i64 t ∧ t ≤ m ∧ Step w wr B p v S v (S.set i (e.withR (frT s e.fr t)))) (fun v _ => 5 - (intOf v).toNat)
  case atStart => exact ⟨0, rfl, by omega, HST0.out⟩
  case round =>
    obtain ⟨t, rfl, ht, hst⟩ := hrel
    have HST := Hid.in hst
    by_cases htm : t < m
    · have hte : t < e.fr.length := by rw [HM.out]; exact htm
      have c7 := HRW.out wr t (by omega) hst
      have hl : (S.set i (e.withR (frT s e.fr t))).on.length = S.on.length := S.set_len i _
      have hat : (S.set i (e.withR (frT s e.fr t))).at i = e.withR (frT s e.fr t) := S.at_set i _ hi
      have hlen : (frT s e.fr t).length = e.fr.length := frT_len s e.fr t (by omega)
      have fr := hst.q.fr i (by omega)
      rw [hat] at fr
      obtain ⟨b, hb, hbl, d00⟩ := fr t (by show t < (frT s e.fr t).length; omega)
      have hqb : qa = some ⟨b, 0, none⟩ := by
        rw [← HQA.out, show e.fb = some b from hb]
        rfl
      have d0 : wr.cell? ⟨b, t, none⟩ = some (.int .i64 (e.fr.getD t 0)) := by
        rw [d00]
        show some (Value.int .i64 ((frT s e.fr t).getD t 0)) = _
        rw [frT_at s e.fr t hte]
      have fz : wr.frozen? ⟨b, t, none⟩ = false := by
        have o := hst.q.f i (by omega)
        rw [hat] at o
        rcases o.2 with ⟨h1, h2⟩ | ⟨g2, cap2, cur, h1, -, h3, -⟩
        · exfalso
          have : (frT s e.fr t).length = 0 := h2
          omega
        · have hb2 : (e.withR (frT s e.fr t)).v.ownBlock = some g2 := by rw [h1]; rfl
          rw [Ac.vb] at hb2
          have : b = g2 := Option.some.inj (hb.symm.trans hb2)
          subst this
          simp [World.frozen?, h3]
      subst hqb
      obtain ⟨x, hx⟩ : ∃ x, e.fr.getD t 0 = x := ⟨_, rfl⟩
      rw [hx] at d0
      have HNX := Hid.in (frT_next s e.fr t hte)
      rw [hx] at HNX
      have HATX : Hid ((frT s e.fr t).getD t 0 = x) := (frT_at s e.fr t hte).trans hx
      have HB := Hid.in hb
      clear hst hx fr d00
      by_cases hxs : x = s
      · subst hxs
        have HREL : Hid (Step w (wr.setCell ⟨b, t, none⟩ (.int .i64 (-1))) B p v S v (S.set i (e.withR (frT x e.fr (t + 1))))) := by
          have s1 := HST.out.trans (HST.out.q.setF i t (by omega) (by rw [hat]; show t < (frT x e.fr t).length; omega) (-1) (by rw [hat]; exact HB.out))
          rw [hat, S.set_set] at s1
          have e1 : (e.withR (frT x e.fr t)).setF t (-1) = e.withR (frT x e.fr (t + 1)) := by
            rw [HNX.out]
            unfold toMem
            rw [if_pos rfl]
            rfl
          rw [e1] at s1
          exact s1
        clear hat
        go_wp2
        go_roundw
        case rel => exact ⟨t + 1, by simp, by omega, HREL.out⟩
        case measure =>
          simp [intOf]
          omega
      · have hxs2 : (x == s) = false := by simpa using hxs
        have HREL : Hid (Step w wr B p v S v (S.set i (e.withR (frT s e.fr (t + 1))))) := by
          have e1 : frT s e.fr (t + 1) = frT s e.fr t := by
            rw [HNX.out]
            unfold toMem
            rw [if_neg hxs]
            apply List.ext_getElem?
            intro j
            by_cases ej : j = t
            · subst ej
              rw [List.getElem?_set_self (by omega)]
              have := HATX.out
              rw [List.getD_eq_getElem?_getD, List.getElem?_eq_getElem (by omega)] at this
              rw [List.getElem?_eq_getElem (by omega)]
              exact congrArg some this.symm
            · rw [List.getElem?_set_ne (Ne.symm ej)]
          show Step _ _ _ _ _ _ _ _
          rw [e1]
          exact HST.out
        clear hat
        go_wp2
        go_roundw
        case rel => exact ⟨t + 1, by simp, by omega, HREL.out⟩
        case measure =>
          simp [intOf]
          omega
    · obtain rfl : t = m := by omega
      go_wp2
      refine bodyPost_end (results_none Tryd.results57 _ _ _) rfl ⟨rfl, ?_⟩
      have := HST.out
      rw [← HM.out, frT_all] at this
      exact this
end Go.Proofs.YthbffonedpeeiaaDoor
