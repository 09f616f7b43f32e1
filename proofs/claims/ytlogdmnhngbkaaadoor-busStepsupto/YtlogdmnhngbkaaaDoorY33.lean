import Derived.Test.YtlogdmnhngbkaaaDoorY32
import Derived.Test.YtlogdmnhngbkaaaDoorY31
import Derived.Test.YtlogdmnhngbkaaaDoorY22
import Derived.Test.YtlogdmnhngbkaaaDoorY29
/-
  BUS' LAW BusSteps: what lasts of the bus; a transaction keeps it.
-/
namespace Go.Proofs.YtlogdmnhngbkaaaDoor
open Go Go.RowKit
/-- f: what was written last -/
structure Cg (S : BS) (f : Nat → Nat) : Prop where
  nc : 1 ≤ S.nc ∧ S.nc ≤ 2
  len : S.len ≤ 4096 ∧ S.len % 16 = 0
  st : ∀ i, i < S.nc → Stc (S.c i)
  se : Sg S.nc S.len (fun i e => i < S.nc ∧ (S.c i).L e) S.mem S.nw f
  m8 : ∀ o, S.mem o < 256
/-- a cache of it has changed -/
theorem Cg.put {S : BS} {f f' : Nat → Nat} (h : Cg S f) (i : Nat) (T : CS) (m : Nat → Nat) (nw : Int → Option (Nat → Nat)) (hT : Stc T) (hm : ∀ o, m o < 256) (hs : Sg S.nc S.len (fun j e => j < S.nc ∧ (if j = i then T else S.c j).L e) m nw f') : Cg { S.cput i T with mem := m, nw := nw } f' := by
  refine ⟨h.nc, h.len, fun j hj => ?_, hs, hm⟩
  show Stc (if j = i then T else S.c j)
  split
  · exact hT
  · exact h.st j hj
/-- a line of a cache, too be let go of: too 0 or 1 -/
theorem Cg.low {S : BS} {f : Nat → Nat} (h : Cg S f) (i : Nat) (hi : i < S.nc) (l too : Nat) (hl : l % 16 = 0) (hto : too ≤ 1) (hst : too < (S.c i).st l) : Cg ((S.cput i ((S.c i).lowTo l too)).wb ((S.c i).ln l)) f ∧ (∀ e, ((S.c i).lowTo l too).L e ↔ (((S.c i).L e ∧ e.a ≠ l) ∨ (too = 1 ∧ e = ((S.c i).ln l).setS 1))) ∧ (S.c i).L ((S.c i).ln l) ∧ ((S.c i).ln l).a = l ∧ ((S.c i).ln l).s = (S.c i).st l := by
  have st := h.st _ hi
  obtain ⟨hA, hs⟩ := CS.st_ix (T := S.c i) (a := l) (by omega)
  have hq : (S.c i).of l < (S.c i).n := (S.c i).of_lt l st.n
  obtain ⟨hL, hla⟩ := st.has l hA
  rw [lineOf_self hl] at hla
  have key : Stc ((S.c i).lowTo l too) ∧ ∀ e, ((S.c i).lowTo l too).L e ↔ (((S.c i).L e ∧ e.a ≠ l) ∨ (too = 1 ∧ e = ((S.c i).ln l).setS 1)) := by
    unfold CS.lowTo
    by_cases c : too = 0
    · rw [if_pos c]
      obtain ⟨u, v⟩ := st.rem ((S.c i).of l) ((S.c i).ix l) hq hA.1
      refine ⟨u, fun e => (v e).trans ?_⟩
      rw [hla]
      constructor
      · intro q; exact Or.inl q
      · rintro (q | q)
        · exact q
        · omega
    · rw [if_neg c]
      obtain rfl : too = 1 := by omega
      obtain ⟨u, v⟩ := st.low ((S.c i).of l) ((S.c i).ix l) hq hA.1 (((S.c i).ln l).setS 1) rfl
      refine ⟨u, fun e => (v e).trans ?_⟩
      have e2 : (((S.c i).ln l).setS 1).a = l := hla
      rw [e2]
      constructor
      · rintro (q | q)
        · exact Or.inl q
        · exact Or.inr ⟨rfl, q⟩
      · rintro (q | q)
        · exact Or.inl q
        · exact Or.inr q.2
  refine ⟨?_, key.2, hL, hla, hs.symm⟩
  have hse := h.se.low i ((S.c i).ln l) ⟨hi, hL⟩ too (by rw [← hs]; exact hst) (L' := fun j e => j < S.nc ∧ (if j = i then (S.c i).lowTo l too else S.c j).L e) (fun j e => by
    have hla' : ((S.c i).ln l).a = l := hla
    by_cases c : j = i
    · subst c
      rw [if_pos rfl, key.2 e, hla']
      constructor
      · rintro ⟨q0, q | q⟩
        · exact Or.inl ⟨⟨q0, q.1⟩, fun z => q.2 z.2⟩
        · exact Or.inr ⟨q.1, rfl, q.2⟩
      · rintro (⟨⟨q0, q1⟩, q2⟩ | ⟨q1, -, q2⟩)
        · exact ⟨q0, Or.inl ⟨q1, fun z => q2 ⟨rfl, z⟩⟩⟩
        · exact ⟨hi, Or.inr ⟨q1, q2⟩⟩
    · rw [if_neg c]
      constructor
      · intro q
        exact Or.inl ⟨q, fun z => c z.1⟩
      · rintro (q | q)
        · exact q.1
        · exact absurd q.2.1 c)
  exact h.put i _ _ _ key.1 (wb8 h.m8 _ (h.se.line i _ ⟨hi, hL⟩).2.2.2.2.2.2.2) hse
/-- a line's state, in terms of lines -/
theorem Cg.alone {S : BS} {f : Nat → Nat} (h : Cg S f) (l : Nat) {i j : Nat} (hi : i < S.nc) (hj : j < S.nc) (hij : i ≠ j) (h2 : 2 ≤ (S.c i).st l) : (S.c j).st l = 0 := by
  by_cases c : (S.c j).st l = 0
  · exact c
  · obtain ⟨p, -, q1, q2, q3⟩ := (h.st _ hi).st_some l (by omega)
    obtain ⟨p', -, q1', q2', q3'⟩ := (h.st _ hj).st_some l c
    have := h.se.ex i j _ _ hij ⟨hi, q1⟩ ⟨hj, q1'⟩ (by rw [q2, q2'])
    omega
theorem Cg.fill {S : BS} {f : Nat → Nat} (h : Cg S f) (i : Nat) (hi : i < S.nc) (l s : Nat) (hl : l % 16 = 0) (hlo : 65536 ≤ l) (hhi : l < 65536 + S.len) (hs : s = 1 ∨ s = 2) (hn : (S.c i).st l = 0) (hot : ∀ j, j < S.nc → j ≠ i → (S.c j).st l ≤ 1 ∧ ((S.c j).st l ≠ 0 → s = 1)) : Cg ((S.cput i ((S.c i).fill l s (fun t => S.mem (l - 65536 + t)))).wb (if (S.c i).full l then (S.c i).left l else l0)) f ∧ No ((S.c i).set ((S.c i).of l)) l ∧ ((S.c i).full l = true → (S.c i).L ((S.c i).left l)) ∧ ((S.c i).fill l s (fun t => S.mem (l - 65536 + t))).st l = s := by
  have st := h.st _ hi
  have hN : No ((S.c i).set ((S.c i).of l)) l := by
    rcases at_or_no ((S.c i).set ((S.c i).of l)) l with ⟨p, hA⟩ | hN
    · have := CS.st_at hA
      have := (h.se.line i _ ⟨hi, (st.has l hA).1⟩).2.2.2.2.1
      omega
    · exact hN
  obtain ⟨⟨f1, f2⟩, f3⟩ := st.fill l s (fun t => S.mem (l - 65536 + t)) hl hN
  have hno : ∀ e, (S.c i).L e → e.a ≠ l := fun e he => by
    have := (st.no l).1 hN e he
    rwa [lineOf_self hl] at this
  have hoth : ∀ j e, j < S.nc → (S.c j).L e → e.a = l → e.s = 1 ∧ s = 1 := fun j e hj he hea => by
    by_cases c : j = i
    · subst c
      exact absurd hea (hno e he)
    · have e1 := (h.st _ hj).st_is l he (by rw [lineOf_self hl]; exact hea)
      have e2 := hot j hj c
      have e3 := (h.se.line j e ⟨hj, he⟩).2.2.2.2.1
      rw [e1] at e2
      exact ⟨by omega, e2.2 (by omega)⟩
  refine ⟨?_, hN, f3, ?_⟩
  · have hl0 : (l0 : Ln).s ≠ 3 := by decide
    cases hf : (S.c i).full l
    · have hse := h.se.new i l s (fun t => S.mem (l - 65536 + t)) hi hl hlo hhi hs h.len.2 (fun e he => hno e he.2) (fun j e he hea => hoth j e he.1 he.2 hea) (fun t _ => rfl) (fun t => h.m8 _) (L' := fun j e => j < S.nc ∧ (if j = i then (S.c i).fill l s (fun t => S.mem (l - 65536 + t)) else S.c j).L e) (fun j e => by
        by_cases c : j = i
        · subst c
          rw [if_pos rfl, f2 e]
          constructor
          · rintro ⟨q0, q | q⟩
            · exact Or.inl ⟨q0, q.1⟩
            · exact Or.inr ⟨rfl, q⟩
          · rintro (q | q)
            · exact ⟨q.1, Or.inl ⟨q.2, fun z => by rw [hf] at z; cases z⟩⟩
            · exact ⟨hi, Or.inr q.2⟩
        · rw [if_neg c]
          constructor
          · intro q; exact Or.inl q
          · rintro (q | q)
            · exact q
            · exact absurd q.1 c)
      have e0 : (S.cput i ((S.c i).fill l s (fun t => S.mem (l - 65536 + t)))).wb (if false = true then (S.c i).left l else l0) = { S.cput i ((S.c i).fill l s (fun t => S.mem (l - 65536 + t))) with mem := S.mem, nw := S.nw } := by
        unfold BS.wb wbm' wbn
        rfl
      rw [e0]
      exact h.put i _ _ _ f1 h.m8 hse
    · have hL := f3 hf
      obtain ⟨lf, hlf⟩ : ∃ lf, (S.c i).left l = lf := ⟨_, rfl⟩
      rw [hlf] at hL f2
      have ll := h.se.line i lf ⟨hi, hL⟩
      have hne : lf.a ≠ l := hno lf hL
      have s1 := h.se.low i lf ⟨hi, hL⟩ 0 (by have := ll.2.2.2.2.1; omega) (L' := fun j e => (j < S.nc ∧ (S.c j).L e) ∧ ¬ (j = i ∧ e.a = lf.a)) (fun j e => by
        constructor
        · intro q; exact Or.inl q
        · rintro (q | q)
          · exact q
          · exact absurd q.1 (by omega))
      have hw : ∀ t, t < 16 → (fun t => S.mem (l - 65536 + t)) t = wbm' S.mem lf (l - 65536 + t) := fun t ht => by
        unfold wbm'
        split
        · unfold wbm
          rw [if_neg]
          have := ll.2.1
          have := ll.2.2.1
          omega
        · rfl
      have hse := s1.new i l s (fun t => S.mem (l - 65536 + t)) hi hl hlo hhi hs h.len.2 (fun e he => hno e he.1.2) (fun j e he hea => hoth j e he.1.1 he.1.2 hea) hw (fun t => h.m8 _) (L' := fun j e => j < S.nc ∧ (if j = i then (S.c i).fill l s (fun t => S.mem (l - 65536 + t)) else S.c j).L e) (fun j e => by
        by_cases c : j = i
        · subst c
          rw [if_pos rfl, f2 e]
          constructor
          · rintro ⟨q0, q | q⟩
            · exact Or.inl ⟨⟨q0, q.1⟩, fun z => q.2 hf z.2⟩
            · exact Or.inr ⟨rfl, q⟩
          · rintro (q | q)
            · exact ⟨q.1.1, Or.inl ⟨q.1.2, fun _ z => q.2 ⟨rfl, z⟩⟩⟩
            · exact ⟨hi, Or.inr q.2⟩
        · rw [if_neg c]
          constructor
          · intro q; exact Or.inl ⟨q, fun z => c z.1⟩
          · rintro (q | q)
            · exact q.1
            · exact absurd q.1 c)
      have e0 : (S.cput i ((S.c i).fill l s (fun t => S.mem (l - 65536 + t)))).wb (if true = true then (S.c i).left l else l0) = { S.cput i ((S.c i).fill l s (fun t => S.mem (l - 65536 + t))) with mem := wbm' S.mem lf, nw := wbn S.nw lf } := by
        rw [if_pos rfl, hlf]
        rfl
      rw [e0]
      exact h.put i _ _ _ f1 (wb8 h.m8 _ ll.2.2.2.2.2.2.2) hse
  · exact f1.st_is l ((f2 _).2 (Or.inr rfl)) (by rw [lineOf_self hl])
end Go.Proofs.YtlogdmnhngbkaaaDoor
/-
  BUS' LAW BusCoheres: a transaction, a tick, a read, a write keep what lasts.
-/
namespace Go.Proofs.YtlogdmnhngbkaaaDoor
open Go Go.RowKit
theorem wb_id (S : BS) (e : Ln) (h : e.s ≠ 3) : S.wb e = S := by
  unfold BS.wb wbm' wbn
  rw [if_neg h, if_neg h]
theorem Co.same {S S' : BS} {f : Nat → Nat} (h : Co S f) (h1 : S'.nc = S.nc) (h2 : S'.len = S.len) (h3 : S'.c = S.c) (h4 : S'.mem = S.mem) (h5 : S'.nw = S.nw) : Co S' f :=
  ⟨h1.trans h.nc, h2.trans h.len, by rw [h3]; exact h.s0, by rw [h3]; exact h.s1, by rw [h3, h4, h5]; exact h.se, by rw [h4]; exact h.m8⟩
theorem Co.used {S : BS} {f : Nat → Nat} (h : Co S f) (i : Nat) (hi : i < 2) (a j : Nat) (hA : At ((S.c i).set ((S.c i).of a)) a j) : Co (S.cput i ((S.c i).used ((S.c i).of a) j)) f := by
  obtain ⟨u, v⟩ := (h.st hi).used ((S.c i).of a) j ((S.c i).of_lt a (h.st hi).n) hA.1
  refine h.put i _ S.mem S.nw u h.m8 (h.se.congr fun k e => ?_)
  by_cases c : k = i
  · subst c
    rw [if_pos rfl, v e]
  · rw [if_neg c]
theorem Co.wrt {S : BS} {f : Nat → Nat} (h : Co S f) (i : Nat) (hi : i < 2) (a j d z : Nat) (hA : At ((S.c i).set ((S.c i).of a)) a j) (h2 : 2 ≤ (((S.c i).set ((S.c i).of a)).getD j l0).s) (hz : a % 16 + z ≤ 16) : Co (S.wrt i a j d z) (written f (a - 65536) z d) := by
  have st := h.st hi
  obtain ⟨hL, hla⟩ := st.has a hA
  obtain ⟨e0, he0⟩ : ∃ e0, ((S.c i).set ((S.c i).of a)).getD j l0 = e0 := ⟨_, rfl⟩
  rw [he0] at hL hla h2
  have w := wr_is e0 (a % 16) d z
  obtain ⟨u, v⟩ := st.wrote ((S.c i).of a) j ((S.c i).of_lt a st.n) hA.1 (e0.wr (a % 16) d z) (by rw [w.1, he0])
  have ew : (S.c i).wrote ((S.c i).of a) j (a % 16) d z = (S.c i).put ((S.c i).of a) (rest ((S.c i).set ((S.c i).of a)) j ++ [e0.wr (a % 16) d z]) := by
    unfold CS.wrote
    rw [he0]
  have hse := h.se.write i e0 ⟨hi, hL⟩ h2 a z d hla hz (L' := fun k e => k < 2 ∧ (if k = i then (S.c i).wrote ((S.c i).of a) j (a % 16) d z else S.c k).L e) (fun k e => by
    by_cases c : k = i
    · subst c
      rw [if_pos rfl, ew, v e, w.1]
      constructor
      · rintro ⟨q0, q | q⟩
        · exact Or.inl ⟨⟨q0, q.1⟩, fun z => q.2 z.2⟩
        · exact Or.inr ⟨rfl, q⟩
      · rintro (⟨⟨q0, q1⟩, q2⟩ | ⟨-, q2⟩)
        · exact ⟨q0, Or.inl ⟨q1, fun z => q2 ⟨rfl, z⟩⟩⟩
        · exact ⟨hi, Or.inr q2⟩
    · rw [if_neg c]
      constructor
      · intro q
        exact Or.inl ⟨q, fun z => c z.1⟩
      · rintro (q | q)
        · exact q.1
        · exact absurd q.1 c)
  have := h.put i ((S.c i).wrote ((S.c i).of a) j (a % 16) d z) S.mem _ (by rw [ew]; exact u) h.m8 hse
  unfold BS.wrt
  rw [he0, ← hla]
  exact this
theorem getD_l0 {P : Ln → Prop} (l : List Ln) (k : Nat) (h : ∀ e ∈ l, P e) (h0 : P l0) : P (l.getD k l0) := by
  by_cases c : k < l.length
  · exact h _ (getD_mem l k c)
  · rw [List.getD_eq_getElem?_getD, List.getElem?_eq_none (by omega)]
    exact h0
theorem Co.ln8 {S : BS} {f : Nat → Nat} (h : Co S f) (i : Nat) (hi : i < 2) (l : Nat) : ∀ t, ((S.c i).ln l).b t < 256 := by
  have st := h.st hi
  refine getD_l0 (P := fun e => ∀ t, e.b t < 256) _ _ (fun e he => ?_) (fun t => by show 0 < 256; decide)
  exact (h.se.line i e ⟨hi, ((st.L_of ((S.c i).of_lt l st.n) e).1 he).1⟩).2.2.2.2.2.2.2
/-- lowerOthers, of two -/
theorem Co.lowN {S : BS} {f : Nat → Nat} (h : Co S f) (l tw : Nat) (hl : l % 16 = 0) (hto : tw ≤ 1) : Co (S.lowN l tw 2) f ∧ (S.lowN l tw 2).c S.turn = S.c S.turn ∧ (∀ j, j < 2 → j ≠ S.turn → ((S.lowN l tw 2).c j).st l ≤ tw) ∧ (S.lowN l tw 2).ak = S.ak ∧ (S.lowN l tw 2).on = S.on ∧ (S.lowN l tw 2).tk = S.tk ∧ (S.lowN l tw 2).cyc = S.cyc := by
  have one : ∀ (U : BS), Co U f → U.turn = S.turn → ∀ i, i < 2 → Co (U.lowAt l tw i) f ∧ (U.lowAt l tw i).turn = S.turn ∧ (U.lowAt l tw i).c S.turn = U.c S.turn ∧ (i ≠ S.turn → ((U.lowAt l tw i).c i).st l ≤ tw) ∧ (∀ j, j ≠ i → (U.lowAt l tw i).c j = U.c j) ∧ (U.lowAt l tw i).ak = U.ak ∧ (U.lowAt l tw i).on = U.on ∧ (U.lowAt l tw i).tk = U.tk ∧ (U.lowAt l tw i).cyc = U.cyc := by
    intro U hU hUt i hi
    unfold BS.lowAt
    split
    · rename_i c
      obtain ⟨c1, c2⟩ := c
      obtain ⟨q1, q2, q3, q4, q5⟩ := hU.low i hi l tw hl hto c2
      have ec : ((U.cput i ((U.c i).lowTo l tw)).wb ((U.c i).ln l)).c i = (U.c i).lowTo l tw := if_pos rfl
      refine ⟨q1, hUt, ?_, fun _ => ?_, fun j hj => if_neg hj, rfl, rfl, rfl, rfl⟩
      · show (if S.turn = i then _ else U.c S.turn) = _
        rw [if_neg]
        rw [← hUt]
        exact fun e => c1 e.symm
      · have st' : Stc ((U.c i).lowTo l tw) := by
          have := q1.st hi
          rw [ec] at this
          exact this
        rw [ec]
        by_cases z : ((U.c i).lowTo l tw).st l = 0
        · omega
        · obtain ⟨k, -, r1, r2, r3⟩ := st'.st_some l z
          rw [lineOf_self hl] at r2
          rcases (q2 _).1 r1 with r | r
          · exact absurd r2 r.2
          · rw [r3, r.2, r.1]
            exact Nat.le_refl _
    · rename_i c
      refine ⟨hU, hUt, rfl, fun hi' => ?_, fun _ _ => rfl, rfl, rfl, rfl, rfl⟩
      by_cases z : tw < (U.c i).st l
      · exact absurd ⟨by rw [hUt]; exact hi', z⟩ c
      · omega
  obtain ⟨a1, a2, a3, a4, a5, a6, a7, a8, a9⟩ := one S h rfl 0 (by omega)
  obtain ⟨b1, b2, b3, b4, b5, b6, b7, b8, b9⟩ := one (S.lowAt l tw 0) a1 a2 1 (by omega)
  have e2 : S.lowN l tw 2 = (S.lowAt l tw 0).lowAt l tw 1 := rfl
  rw [e2]
  refine ⟨b1, b3.trans a3, fun j hj hjt => ?_, b6.trans a6, b7.trans a7, b8.trans a8, b9.trans a9⟩
  match j, hj with
  | 0, _ => rw [b5 0 (by omega)]; exact a4 hjt
  | 1, _ => exact b4 hjt
/-- a whole transaction -/
theorem Co.does {S : BS} {f : Nat → Nat} (h : Co S f) (ht : S.turn < 2) (l tw : Nat) (hl : l % 16 = 0) (hlo : 65536 ≤ l) (hhi : l < 65792) (hto : tw ≤ 1) (hown : (S.c S.turn).st l ≤ 1) : Co (((S.lowN l tw 2).do2 l).do4 l) f ∧ No ((((S.lowN l tw 2).do2 l).c S.turn).set ((((S.lowN l tw 2).do2 l).c S.turn).of l)) l ∧ ((((S.lowN l tw 2).do2 l).c S.turn).full l = true → (((S.lowN l tw 2).do2 l).c S.turn).L ((((S.lowN l tw 2).do2 l).c S.turn).left l)) ∧ Co ((S.lowN l tw 2).do2 l) f ∧ (if tw = 0 then 2 else 1) ≤ ((((S.lowN l tw 2).do2 l).do4 l).c S.turn).st l ∧ (((S.lowN l tw 2).do2 l).do4 l).ak = S.ak ∧ (((S.lowN l tw 2).do2 l).do4 l).on = S.on ∧ (((S.lowN l tw 2).do2 l).do4 l).cyc = S.cyc := by
  obtain ⟨r1, r2, r3, r4, r5, r6, r7⟩ := h.lowN l tw hl hto
  obtain ⟨t1, t2, t3, -⟩ := lowN_same S l tw 2
  obtain ⟨R, hR⟩ : ∃ R, S.lowN l tw 2 = R := ⟨_, rfl⟩
  rw [hR] at r1 r2 r3 r4 r5 r6 r7 t1 t2 t3 ⊢
  have hq : Co (R.do2 l) f ∧ ((R.do2 l).c S.turn).st l = 0 ∧ (∀ j, j < 2 → j ≠ S.turn → ((R.do2 l).c j).st l ≤ tw) ∧ (R.do2 l).ak = S.ak ∧ (R.do2 l).on = S.on ∧ (R.do2 l).cyc = S.cyc := by
    unfold BS.do2
    rw [t1]
    split
    · rename_i c
      exact ⟨r1, c, r3, r4, r5, r7⟩
    · rename_i c
      have c1 : (R.c S.turn).st l ≤ 1 := by rw [r2]; exact hown
      obtain ⟨q1, q2, q3, q4, q5⟩ := r1.low S.turn ht l 0 hl (by omega) (by omega)
      rw [wb_id _ _ (by omega)] at q1
      have ec : (R.cput S.turn ((R.c S.turn).lowTo l 0)).c S.turn = (R.c S.turn).lowTo l 0 := if_pos rfl
      refine ⟨q1, ?_, fun j hj hjt => ?_, r4, r5, r7⟩
      · have st' := q1.st ht
        rw [ec] at st' ⊢
        refine st'.st_zero l (fun e he q => ?_)
        rw [lineOf_self hl] at q
        rcases (q2 e).1 he with z | z
        · exact z.2 q
        · omega
      · have ej : (R.cput S.turn ((R.c S.turn).lowTo l 0)).c j = R.c j := if_neg hjt
        rw [ej]
        exact r3 j hj hjt
  obtain ⟨n1, n2, n3⟩ := do2_same R l
  obtain ⟨Q, hQ⟩ : ∃ Q, R.do2 l = Q := ⟨_, rfl⟩
  rw [hQ] at hq n1 n2 n3 ⊢
  obtain ⟨q1, q2, q3, q4, q5, q6⟩ := hq
  rw [t1] at n1
  rw [t2, h.nc] at n2
  have hth : (Q.then' l = 1 ∨ Q.then' l = 2) ∧ (∀ j, j < 2 → j ≠ S.turn → (Q.c j).st l ≠ 0 → Q.then' l = 1) ∧ (tw = 0 → Q.then' l = 2) := by
    unfold BS.then'
    refine ⟨by split <;> omega, fun j hj hjt hs => if_pos ⟨j, by rw [n2]; exact hj, by rw [n1]; exact hjt, hs⟩, fun h0 => if_neg ?_⟩
    rintro ⟨j, hj, hjt, hs⟩
    rw [n2] at hj
    rw [n1] at hjt
    have := q3 j hj hjt
    omega
  obtain ⟨f1, f2, f3, f4⟩ := q1.fill S.turn ht l (Q.then' l) hl hlo hhi hth.1 q2 (fun j hj hjt => ⟨Nat.le_trans (q3 j hj hjt) hto, hth.2.1 j hj hjt⟩)
  have e4 : Q.do4 l = (Q.cput S.turn ((Q.c S.turn).fill l (Q.then' l) (fun t => Q.mem (l - 65536 + t)))).wb (if (Q.c S.turn).full l then (Q.c S.turn).left l else l0) := by
    unfold BS.do4 BS.do3
    rw [n1]
    split
    · rfl
    · exact (wb_id _ _ (by decide)).symm
  have ec : (Q.do4 l).c S.turn = (Q.c S.turn).fill l (Q.then' l) (fun t => Q.mem (l - 65536 + t)) := by
    rw [e4]
    exact if_pos rfl
  refine ⟨by rw [e4]; exact f1, f2, f3, q1, ?_, by rw [e4]; exact q4, by rw [e4]; exact q5, by rw [e4]; exact q6⟩
  rw [ec, f4]
  split
  · rename_i c
    rw [hth.2.2 c]
    exact Nat.le_refl _
  · have := hth.1
    omega
end Go.Proofs.YtlogdmnhngbkaaaDoor
/-
  BUS' LAW BusSteps: a transaction, a tick, a read, a write keep what lasts.
-/
namespace Go.Proofs.YtlogdmnhngbkaaaDoor
open Go Go.RowKit
theorem Cg.same {S S' : BS} {f : Nat → Nat} (h : Cg S f) (h1 : S'.nc = S.nc) (h2 : S'.len = S.len) (h3 : S'.c = S.c) (h4 : S'.mem = S.mem) (h5 : S'.nw = S.nw) : Cg S' f :=
  ⟨by rw [h1]; exact h.nc, by rw [h2]; exact h.len, by rw [h1, h3]; exact h.st, by rw [h1, h2, h3, h4, h5]; exact h.se, by rw [h4]; exact h.m8⟩
theorem Cg.used {S : BS} {f : Nat → Nat} (h : Cg S f) (i : Nat) (hi : i < S.nc) (a j : Nat) (hA : At ((S.c i).set ((S.c i).of a)) a j) : Cg (S.cput i ((S.c i).used ((S.c i).of a) j)) f := by
  obtain ⟨u, v⟩ := (h.st _ hi).used ((S.c i).of a) j ((S.c i).of_lt a (h.st _ hi).n) hA.1
  refine h.put i _ S.mem S.nw u h.m8 (h.se.congr fun k e => ?_)
  by_cases c : k = i
  · subst c
    rw [if_pos rfl, v e]
  · rw [if_neg c]
theorem Cg.wrt {S : BS} {f : Nat → Nat} (h : Cg S f) (i : Nat) (hi : i < S.nc) (a j d z : Nat) (hA : At ((S.c i).set ((S.c i).of a)) a j) (h2 : 2 ≤ (((S.c i).set ((S.c i).of a)).getD j l0).s) (hz : a % 16 + z ≤ 16) : Cg (S.wrt i a j d z) (written f (a - 65536) z d) := by
  have st := h.st _ hi
  obtain ⟨hL, hla⟩ := st.has a hA
  obtain ⟨e0, he0⟩ : ∃ e0, ((S.c i).set ((S.c i).of a)).getD j l0 = e0 := ⟨_, rfl⟩
  rw [he0] at hL hla h2
  have w := wr_is e0 (a % 16) d z
  obtain ⟨u, v⟩ := st.wrote ((S.c i).of a) j ((S.c i).of_lt a st.n) hA.1 (e0.wr (a % 16) d z) (by rw [w.1, he0])
  have ew : (S.c i).wrote ((S.c i).of a) j (a % 16) d z = (S.c i).put ((S.c i).of a) (rest ((S.c i).set ((S.c i).of a)) j ++ [e0.wr (a % 16) d z]) := by
    unfold CS.wrote
    rw [he0]
  have hse := h.se.write i e0 ⟨hi, hL⟩ h2 a z d hla hz (L' := fun k e => k < S.nc ∧ (if k = i then (S.c i).wrote ((S.c i).of a) j (a % 16) d z else S.c k).L e) (fun k e => by
    by_cases c : k = i
    · subst c
      rw [if_pos rfl, ew, v e, w.1]
      constructor
      · rintro ⟨q0, q | q⟩
        · exact Or.inl ⟨⟨q0, q.1⟩, fun z => q.2 z.2⟩
        · exact Or.inr ⟨rfl, q⟩
      · rintro (⟨⟨q0, q1⟩, q2⟩ | ⟨-, q2⟩)
        · exact ⟨q0, Or.inl ⟨q1, fun z => q2 ⟨rfl, z⟩⟩⟩
        · exact ⟨hi, Or.inr q2⟩
    · rw [if_neg c]
      constructor
      · intro q
        exact Or.inl ⟨q, fun z => c z.1⟩
      · rintro (q | q)
        · exact q.1
        · exact absurd q.1 c)
  have := h.put i ((S.c i).wrote ((S.c i).of a) j (a % 16) d z) S.mem _ (by rw [ew]; exact u) h.m8 hse
  unfold BS.wrt
  rw [he0, ← hla]
  exact this
theorem Cg.ln8 {S : BS} {f : Nat → Nat} (h : Cg S f) (i : Nat) (hi : i < S.nc) (l : Nat) : ∀ t, ((S.c i).ln l).b t < 256 := by
  have st := h.st _ hi
  refine getD_l0 (P := fun e => ∀ t, e.b t < 256) _ _ (fun e he => ?_) (fun t => by show 0 < 256; decide)
  exact (h.se.line i e ⟨hi, ((st.L_of ((S.c i).of_lt l st.n) e).1 he).1⟩).2.2.2.2.2.2.2
/-- one of the others -/
theorem Cg.lowAt {U : BS} {f : Nat → Nat} (hU : Cg U f) (l tw : Nat) (hl : l % 16 = 0) (hto : tw ≤ 1) (i : Nat) (hi : i < U.nc) : Cg (U.lowAt l tw i) f ∧ (U.lowAt l tw i).c U.turn = U.c U.turn ∧ (i ≠ U.turn → ((U.lowAt l tw i).c i).st l ≤ tw) ∧ (∀ a, ((U.lowAt l tw i).c i).st a ≤ max 1 ((U.c i).st a)) ∧ (∀ j, j ≠ i → (U.lowAt l tw i).c j = U.c j) ∧ (U.lowAt l tw i).ak = U.ak ∧ (U.lowAt l tw i).on = U.on ∧ (U.lowAt l tw i).tk = U.tk ∧ (U.lowAt l tw i).cyc = U.cyc := by
  unfold BS.lowAt
  split
  · rename_i c
    obtain ⟨c1, c2⟩ := c
    obtain ⟨q1, q2, q3, q4, q5⟩ := hU.low i hi l tw hl hto c2
    have ec : ((U.cput i ((U.c i).lowTo l tw)).wb ((U.c i).ln l)).c i = (U.c i).lowTo l tw := if_pos rfl
    have st' : Stc ((U.c i).lowTo l tw) := by
      have := q1.st i hi
      rw [ec] at this
      exact this
    refine ⟨q1, ?_, fun _ => ?_, fun a => ?_, fun j hj => if_neg hj, rfl, rfl, rfl, rfl⟩
    · show (if U.turn = i then _ else U.c U.turn) = _
      rw [if_neg]
      exact fun e => c1 e.symm
    · rw [ec]
      by_cases z : ((U.c i).lowTo l tw).st l = 0
      · omega
      · obtain ⟨k, -, r1, r2, r3⟩ := st'.st_some l z
        rw [lineOf_self hl] at r2
        rcases (q2 _).1 r1 with r | r
        · exact absurd r2 r.2
        · rw [r3, r.2, r.1]
          exact Nat.le_refl _
    · rw [ec]
      by_cases z : ((U.c i).lowTo l tw).st a = 0
      · omega
      · obtain ⟨k, -, r1, r2, r3⟩ := st'.st_some a z
        rcases (q2 _).1 r1 with r | r
        · have := (hU.st i hi).st_is a r.1 r2
          omega
        · rw [r3, r.2]
          show 1 ≤ _
          omega
  · rename_i c
    refine ⟨hU, rfl, fun hi' => ?_, fun a => by omega, fun _ _ => rfl, rfl, rfl, rfl, rfl⟩
    by_cases z : tw < (U.c i).st l
    · exact absurd ⟨hi', z⟩ c
    · omega
/-- lowerOthers -/
theorem Cg.lowN {S : BS} {f : Nat → Nat} (h : Cg S f) (l tw : Nat) (hl : l % 16 = 0) (hto : tw ≤ 1) : ∀ n, n ≤ S.nc → Cg (S.lowN l tw n) f ∧ (S.lowN l tw n).c S.turn = S.c S.turn ∧ (∀ j, j < n → j ≠ S.turn → ((S.lowN l tw n).c j).st l ≤ tw) ∧ (S.lowN l tw n).ak = S.ak ∧ (S.lowN l tw n).on = S.on ∧ (S.lowN l tw n).tk = S.tk ∧ (S.lowN l tw n).cyc = S.cyc ∧ (∀ j a, ((S.lowN l tw n).c j).st a ≤ max 1 ((S.c j).st a))
  | 0, _ => ⟨h, rfl, fun j hj => absurd hj (by omega), rfl, rfl, rfl, rfl, fun j a => by show (S.c j).st a ≤ _; omega⟩
  | n + 1, hn => by
    obtain ⟨a1, a2, a3, a4, a5, a6, a7, a8⟩ := h.lowN l tw hl hto n (by omega)
    obtain ⟨t1, t2, t3, t4⟩ := lowN_same S l tw n
    obtain ⟨b1, b2, b3, b4, b5, b6, b7, b8, b9⟩ := a1.lowAt l tw hl hto n (by rw [t2]; omega)
    rw [t1] at b2 b3
    have e2 : S.lowN l tw (n + 1) = (S.lowN l tw n).lowAt l tw n := rfl
    rw [e2]
    refine ⟨b1, b2.trans a2, fun j hj hjt => ?_, b6.trans a4, b7.trans a5, b8.trans a6, b9.trans a7, fun j a => ?_⟩
    · by_cases e : j = n
      · subst e
        exact b3 hjt
      · rw [b5 j e]
        exact a3 j (by omega) hjt
    · by_cases e : j = n
      · subst e
        have h1 := b4 a
        have h2 := a8 j a
        omega
      · rw [b5 j e]
        exact a8 j a
/-- a whole transaction -/
theorem Cg.does {S : BS} {f : Nat → Nat} (h : Cg S f) (ht : S.turn < S.nc) (l tw : Nat) (hl : l % 16 = 0) (hlo : 65536 ≤ l) (hhi : l < 65536 + S.len) (hto : tw ≤ 1) (hown : (S.c S.turn).st l ≤ 1) : Cg (((S.lowN l tw S.nc).do2 l).do4 l) f ∧ No ((((S.lowN l tw S.nc).do2 l).c S.turn).set ((((S.lowN l tw S.nc).do2 l).c S.turn).of l)) l ∧ ((((S.lowN l tw S.nc).do2 l).c S.turn).full l = true → (((S.lowN l tw S.nc).do2 l).c S.turn).L ((((S.lowN l tw S.nc).do2 l).c S.turn).left l)) ∧ Cg ((S.lowN l tw S.nc).do2 l) f ∧ (if tw = 0 then 2 else 1) ≤ ((((S.lowN l tw S.nc).do2 l).do4 l).c S.turn).st l ∧ (((S.lowN l tw S.nc).do2 l).do4 l).ak = S.ak ∧ (((S.lowN l tw S.nc).do2 l).do4 l).on = S.on ∧ (((S.lowN l tw S.nc).do2 l).do4 l).cyc = S.cyc ∧ (∀ j, j ≠ S.turn → ∀ a, ((((S.lowN l tw S.nc).do2 l).do4 l).c j).st a ≤ max 1 ((S.c j).st a)) := by
  obtain ⟨r1, r2, r3, r4, r5, r6, r7, r8⟩ := h.lowN l tw hl hto S.nc (Nat.le_refl _)
  obtain ⟨t1, t2, t3, -⟩ := lowN_same S l tw S.nc
  obtain ⟨R, hR⟩ : ∃ R, S.lowN l tw S.nc = R := ⟨_, rfl⟩
  rw [hR] at r1 r2 r3 r4 r5 r6 r7 r8 t1 t2 t3 ⊢
  have ht2 : S.turn < R.nc := by rw [t2]; exact ht
  have hq : Cg (R.do2 l) f ∧ ((R.do2 l).c S.turn).st l = 0 ∧ (∀ j, j < S.nc → j ≠ S.turn → ((R.do2 l).c j).st l ≤ tw) ∧ (R.do2 l).ak = S.ak ∧ (R.do2 l).on = S.on ∧ (R.do2 l).cyc = S.cyc ∧ (∀ j, j ≠ S.turn → (R.do2 l).c j = R.c j) := by
    unfold BS.do2
    rw [t1]
    split
    · rename_i c
      exact ⟨r1, c, r3, r4, r5, r7, fun _ _ => rfl⟩
    · rename_i c
      have c1 : (R.c S.turn).st l ≤ 1 := by rw [r2]; exact hown
      obtain ⟨q1, q2, q3, q4, q5⟩ := r1.low S.turn ht2 l 0 hl (by omega) (by omega)
      rw [wb_id _ _ (by omega)] at q1
      have ec : (R.cput S.turn ((R.c S.turn).lowTo l 0)).c S.turn = (R.c S.turn).lowTo l 0 := if_pos rfl
      refine ⟨q1, ?_, fun j hj hjt => ?_, r4, r5, r7, fun j hj => if_neg hj⟩
      · have st' := q1.st S.turn ht2
        rw [ec] at st' ⊢
        refine st'.st_zero l (fun e he q => ?_)
        rw [lineOf_self hl] at q
        rcases (q2 e).1 he with z | z
        · exact z.2 q
        · omega
      · have ej : (R.cput S.turn ((R.c S.turn).lowTo l 0)).c j = R.c j := if_neg hjt
        rw [ej]
        exact r3 j hj hjt
  obtain ⟨n1, n2, n3⟩ := do2_same R l
  obtain ⟨Q, hQ⟩ : ∃ Q, R.do2 l = Q := ⟨_, rfl⟩
  rw [hQ] at hq n1 n2 n3 ⊢
  obtain ⟨q1, q2, q3, q4, q5, q6, q7⟩ := hq
  rw [t1] at n1
  rw [t2] at n2
  have hth : (Q.then' l = 1 ∨ Q.then' l = 2) ∧ (∀ j, j < S.nc → j ≠ S.turn → (Q.c j).st l ≠ 0 → Q.then' l = 1) ∧ (tw = 0 → Q.then' l = 2) := by
    unfold BS.then'
    refine ⟨by split <;> omega, fun j hj hjt hs => if_pos ⟨j, by rw [n2]; exact hj, by rw [n1]; exact hjt, hs⟩, fun h0 => if_neg ?_⟩
    rintro ⟨j, hj, hjt, hs⟩
    rw [n2] at hj
    rw [n1] at hjt
    have := q3 j hj hjt
    omega
  obtain ⟨f1, f2, f3, f4⟩ := q1.fill S.turn (by rw [n2]; exact ht) l (Q.then' l) hl hlo (by rw [n3, t3]; exact hhi) hth.1 q2 (fun j hj hjt => by rw [n2] at hj; exact ⟨Nat.le_trans (q3 j hj hjt) hto, hth.2.1 j hj hjt⟩)
  have e4 : Q.do4 l = (Q.cput S.turn ((Q.c S.turn).fill l (Q.then' l) (fun t => Q.mem (l - 65536 + t)))).wb (if (Q.c S.turn).full l then (Q.c S.turn).left l else l0) := by
    unfold BS.do4 BS.do3
    rw [n1]
    split
    · rfl
    · exact (wb_id _ _ (by decide)).symm
  have ec : (Q.do4 l).c S.turn = (Q.c S.turn).fill l (Q.then' l) (fun t => Q.mem (l - 65536 + t)) := by
    rw [e4]
    exact if_pos rfl
  refine ⟨by rw [e4]; exact f1, f2, f3, q1, ?_, by rw [e4]; exact q4, by rw [e4]; exact q5, by rw [e4]; exact q6, fun j hj a => ?_⟩
  · rw [ec, f4]
    split
    · rename_i c
      rw [hth.2.2 c]
      exact Nat.le_refl _
    · have := hth.1
      omega
  · have ej : (Q.do4 l).c j = Q.c j := by
      rw [e4]
      exact if_neg hj
    rw [ej, q7 j hj]
    exact r8 j a
end Go.Proofs.YtlogdmnhngbkaaaDoor
