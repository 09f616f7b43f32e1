/-
  BUS' LAW BusCoheres: a transaction, a tick, a read, a write keep what lasts.
-/
import Derived.Test.YtbbaopldebdoiaaBv3
import Derived.Test.YtbbaopldebdoiaaBw2
import Derived.Test.YtbbaopldebdoiaaBw4
namespace Go.Proofs.Ytbbaopldebdoiaa
open Go Go.RowKit
theorem wb_id (S : BS) (e : Ln) (h : e.s ≠ 3) : S.wb e = S := by
  unfold BS.wb wbm' wbn
  rw [if_neg h, if_neg h]
theorem Co.same {S S' : BS} {f : Nat → Nat} (h : Co S f) (h1 : S'.nc = S.nc) (h2 : S'.len = S.len) (h3 : S'.c = S.c) (h4 : S'.mem = S.mem) (h5 : S'.nw = S.nw) : Co S' f :=
  ⟨h1.trans h.nc, h2.trans h.len, by rw [h3]; exact h.s0, by rw [h3]; exact h.s1, by rw [h3, h4, h5]; exact h.se, by rw [h4]; exact h.m8⟩
theorem Co.used {S : BS} {f : Nat → Nat} (h : Co S f) (i : Nat) (hi : i < 2) (a j : Nat) (hA : At ((S.c i).set ((S.c i).of a)) a j) : Co (S.cput i ((S.c i).used ((S.c i).of a) j)) f := by
  obtain ⟨u, v⟩ := (h.st hi).used ((S.c i).of a) j ((S.c i).of_lt a (h.st hi).n) hA.1
  refine h.put i _ S.mem S.nw u h.m8 (h.se.congr fun k e => ?_)
  by_cases c : k = i
  · subst c
    rw [if_pos rfl, v e]
  · rw [if_neg c]
theorem Co.wrt {S : BS} {f : Nat → Nat} (h : Co S f) (i : Nat) (hi : i < 2) (a j d z : Nat) (hA : At ((S.c i).set ((S.c i).of a)) a j) (h2 : 2 ≤ (((S.c i).set ((S.c i).of a)).getD j l0).s) (hz : a % 16 + z ≤ 16) : Co (S.wrt i a j d z) (written f (a - 65536) z d) := by
  have st := h.st hi
  obtain ⟨hL, hla⟩ := st.has a hA
  obtain ⟨e0, he0⟩ : ∃ e0, ((S.c i).set ((S.c i).of a)).getD j l0 = e0 := ⟨_, rfl⟩
  rw [he0] at hL hla h2
  have w := wr_is e0 (a % 16) d z
  obtain ⟨u, v⟩ := st.wrote ((S.c i).of a) j ((S.c i).of_lt a st.n) hA.1 (e0.wr (a % 16) d z) (by rw [w.1, he0])
  have ew : (S.c i).wrote ((S.c i).of a) j (a % 16) d z = (S.c i).put ((S.c i).of a) (rest ((S.c i).set ((S.c i).of a)) j ++ [e0.wr (a % 16) d z]) := by
    unfold CS.wrote
    rw [he0]
  have hse := h.se.write i e0 ⟨hi, hL⟩ h2 a z d hla hz (L' := fun k e => k < 2 ∧ (if k = i then (S.c i).wrote ((S.c i).of a) j (a % 16) d z else S.c k).L e) (fun k e => by
    by_cases c : k = i
    · subst c
      rw [if_pos rfl, ew, v e, w.1]
      constructor
      · rintro ⟨q0, q | q⟩
        · exact Or.inl ⟨⟨q0, q.1⟩, fun z => q.2 z.2⟩
        · exact Or.inr ⟨rfl, q⟩
      · rintro (⟨⟨q0, q1⟩, q2⟩ | ⟨-, q2⟩)
        · exact ⟨q0, Or.inl ⟨q1, fun z => q2 ⟨rfl, z⟩⟩⟩
        · exact ⟨hi, Or.inr q2⟩
    · rw [if_neg c]
      constructor
      · intro q
        exact Or.inl ⟨q, fun z => c z.1⟩
      · rintro (q | q)
        · exact q.1
        · exact absurd q.1 c)
  have := h.put i ((S.c i).wrote ((S.c i).of a) j (a % 16) d z) S.mem _ (by rw [ew]; exact u) h.m8 hse
  unfold BS.wrt
  rw [he0, ← hla]
  exact this
theorem getD_l0 {P : Ln → Prop} (l : List Ln) (k : Nat) (h : ∀ e ∈ l, P e) (h0 : P l0) : P (l.getD k l0) := by
  by_cases c : k < l.length
  · exact h _ (getD_mem l k c)
  · rw [List.getD_eq_getElem?_getD, List.getElem?_eq_none (by omega)]
    exact h0
theorem Co.ln8 {S : BS} {f : Nat → Nat} (h : Co S f) (i : Nat) (hi : i < 2) (l : Nat) : ∀ t, ((S.c i).ln l).b t < 256 := by
  have st := h.st hi
  refine getD_l0 (P := fun e => ∀ t, e.b t < 256) _ _ (fun e he => ?_) (fun t => by show 0 < 256; decide)
  exact (h.se.line i e ⟨hi, ((st.L_of ((S.c i).of_lt l st.n) e).1 he).1⟩).2.2.2.2.2.2.2
/-- lowerOthers, of two -/
theorem Co.lowN {S : BS} {f : Nat → Nat} (h : Co S f) (l tw : Nat) (hl : l % 16 = 0) (hto : tw ≤ 1) : Co (S.lowN l tw 2) f ∧ (S.lowN l tw 2).c S.turn = S.c S.turn ∧ (∀ j, j < 2 → j ≠ S.turn → ((S.lowN l tw 2).c j).st l ≤ tw) ∧ (S.lowN l tw 2).ak = S.ak ∧ (S.lowN l tw 2).on = S.on ∧ (S.lowN l tw 2).tk = S.tk ∧ (S.lowN l tw 2).cyc = S.cyc := by
  have one : ∀ (U : BS), Co U f → U.turn = S.turn → ∀ i, i < 2 → Co (U.lowAt l tw i) f ∧ (U.lowAt l tw i).turn = S.turn ∧ (U.lowAt l tw i).c S.turn = U.c S.turn ∧ (i ≠ S.turn → ((U.lowAt l tw i).c i).st l ≤ tw) ∧ (∀ j, j ≠ i → (U.lowAt l tw i).c j = U.c j) ∧ (U.lowAt l tw i).ak = U.ak ∧ (U.lowAt l tw i).on = U.on ∧ (U.lowAt l tw i).tk = U.tk ∧ (U.lowAt l tw i).cyc = U.cyc := by
    intro U hU hUt i hi
    unfold BS.lowAt
    split
    · rename_i c
      obtain ⟨c1, c2⟩ := c
      obtain ⟨q1, q2, q3, q4, q5⟩ := hU.low i hi l tw hl hto c2
      have ec : ((U.cput i ((U.c i).lowTo l tw)).wb ((U.c i).ln l)).c i = (U.c i).lowTo l tw := if_pos rfl
      refine ⟨q1, hUt, ?_, fun _ => ?_, fun j hj => if_neg hj, rfl, rfl, rfl, rfl⟩
      · show (if S.turn = i then _ else U.c S.turn) = _
        rw [if_neg]
        rw [← hUt]
        exact fun e => c1 e.symm
      · have st' : Stc ((U.c i).lowTo l tw) := by
          have := q1.st hi
          rw [ec] at this
          exact this
        rw [ec]
        by_cases z : ((U.c i).lowTo l tw).st l = 0
        · omega
        · obtain ⟨k, -, r1, r2, r3⟩ := st'.st_some l z
          rw [lineOf_self hl] at r2
          rcases (q2 _).1 r1 with r | r
          · exact absurd r2 r.2
          · rw [r3, r.2, r.1]
            exact Nat.le_refl _
    · rename_i c
      refine ⟨hU, hUt, rfl, fun hi' => ?_, fun _ _ => rfl, rfl, rfl, rfl, rfl⟩
      by_cases z : tw < (U.c i).st l
      · exact absurd ⟨by rw [hUt]; exact hi', z⟩ c
      · omega
  obtain ⟨a1, a2, a3, a4, a5, a6, a7, a8, a9⟩ := one S h rfl 0 (by omega)
  obtain ⟨b1, b2, b3, b4, b5, b6, b7, b8, b9⟩ := one (S.lowAt l tw 0) a1 a2 1 (by omega)
  have e2 : S.lowN l tw 2 = (S.lowAt l tw 0).lowAt l tw 1 := rfl
  rw [e2]
  refine ⟨b1, b3.trans a3, fun j hj hjt => ?_, b6.trans a6, b7.trans a7, b8.trans a8, b9.trans a9⟩
  match j, hj with
  | 0, _ => rw [b5 0 (by omega)]; exact a4 hjt
  | 1, _ => exact b4 hjt
/-- a whole transaction -/
theorem Co.does {S : BS} {f : Nat → Nat} (h : Co S f) (ht : S.turn < 2) (l tw : Nat) (hl : l % 16 = 0) (hlo : 65536 ≤ l) (hhi : l < 65792) (hto : tw ≤ 1) (hown : (S.c S.turn).st l ≤ 1) : Co (((S.lowN l tw 2).do2 l).do4 l) f ∧ No ((((S.lowN l tw 2).do2 l).c S.turn).set ((((S.lowN l tw 2).do2 l).c S.turn).of l)) l ∧ ((((S.lowN l tw 2).do2 l).c S.turn).full l = true → (((S.lowN l tw 2).do2 l).c S.turn).L ((((S.lowN l tw 2).do2 l).c S.turn).left l)) ∧ Co ((S.lowN l tw 2).do2 l) f ∧ (if tw = 0 then 2 else 1) ≤ ((((S.lowN l tw 2).do2 l).do4 l).c S.turn).st l ∧ (((S.lowN l tw 2).do2 l).do4 l).ak = S.ak ∧ (((S.lowN l tw 2).do2 l).do4 l).on = S.on ∧ (((S.lowN l tw 2).do2 l).do4 l).cyc = S.cyc := by
  obtain ⟨r1, r2, r3, r4, r5, r6, r7⟩ := h.lowN l tw hl hto
  obtain ⟨t1, t2, t3, -⟩ := lowN_same S l tw 2
  obtain ⟨R, hR⟩ : ∃ R, S.lowN l tw 2 = R := ⟨_, rfl⟩
  rw [hR] at r1 r2 r3 r4 r5 r6 r7 t1 t2 t3 ⊢
  have hq : Co (R.do2 l) f ∧ ((R.do2 l).c S.turn).st l = 0 ∧ (∀ j, j < 2 → j ≠ S.turn → ((R.do2 l).c j).st l ≤ tw) ∧ (R.do2 l).ak = S.ak ∧ (R.do2 l).on = S.on ∧ (R.do2 l).cyc = S.cyc := by
    unfold BS.do2
    rw [t1]
    split
    · rename_i c
      exact ⟨r1, c, r3, r4, r5, r7⟩
    · rename_i c
      have c1 : (R.c S.turn).st l ≤ 1 := by rw [r2]; exact hown
      obtain ⟨q1, q2, q3, q4, q5⟩ := r1.low S.turn ht l 0 hl (by omega) (by omega)
      rw [wb_id _ _ (by omega)] at q1
      have ec : (R.cput S.turn ((R.c S.turn).lowTo l 0)).c S.turn = (R.c S.turn).lowTo l 0 := if_pos rfl
      refine ⟨q1, ?_, fun j hj hjt => ?_, r4, r5, r7⟩
      · have st' := q1.st ht
        rw [ec] at st' ⊢
        refine st'.st_zero l (fun e he q => ?_)
        rw [lineOf_self hl] at q
        rcases (q2 e).1 he with z | z
        · exact z.2 q
        · omega
      · have ej : (R.cput S.turn ((R.c S.turn).lowTo l 0)).c j = R.c j := if_neg hjt
        rw [ej]
        exact r3 j hj hjt
  obtain ⟨n1, n2, n3⟩ := do2_same R l
  obtain ⟨Q, hQ⟩ : ∃ Q, R.do2 l = Q := ⟨_, rfl⟩
  rw [hQ] at hq n1 n2 n3 ⊢
  obtain ⟨q1, q2, q3, q4, q5, q6⟩ := hq
  rw [t1] at n1
  rw [t2, h.nc] at n2
  have hth : (Q.then' l = 1 ∨ Q.then' l = 2) ∧ (∀ j, j < 2 → j ≠ S.turn → (Q.c j).st l ≠ 0 → Q.then' l = 1) ∧ (tw = 0 → Q.then' l = 2) := by
    unfold BS.then'
    refine ⟨by split <;> omega, fun j hj hjt hs => if_pos ⟨j, by rw [n2]; exact hj, by rw [n1]; exact hjt, hs⟩, fun h0 => if_neg ?_⟩
    rintro ⟨j, hj, hjt, hs⟩
    rw [n2] at hj
    rw [n1] at hjt
    have := q3 j hj hjt
    omega
  obtain ⟨f1, f2, f3, f4⟩ := q1.fill S.turn ht l (Q.then' l) hl hlo hhi hth.1 q2 (fun j hj hjt => ⟨Nat.le_trans (q3 j hj hjt) hto, hth.2.1 j hj hjt⟩)
  have e4 : Q.do4 l = (Q.cput S.turn ((Q.c S.turn).fill l (Q.then' l) (fun t => Q.mem (l - 65536 + t)))).wb (if (Q.c S.turn).full l then (Q.c S.turn).left l else l0) := by
    unfold BS.do4 BS.do3
    rw [n1]
    split
    · rfl
    · exact (wb_id _ _ (by decide)).symm
  have ec : (Q.do4 l).c S.turn = (Q.c S.turn).fill l (Q.then' l) (fun t => Q.mem (l - 65536 + t)) := by
    rw [e4]
    exact if_pos rfl
  refine ⟨by rw [e4]; exact f1, f2, f3, q1, ?_, by rw [e4]; exact q4, by rw [e4]; exact q5, by rw [e4]; exact q6⟩
  rw [ec, f4]
  split
  · rename_i c
    rw [hth.2.2 c]
    exact Nat.le_refl _
  · have := hth.1
    omega
end Go.Proofs.Ytbbaopldebdoiaa
