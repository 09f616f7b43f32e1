/-
  BUS' LAW BusCoheres: what lasts of the bus; a transaction keeps it.
-/
import Derived.Test.YtbbaopldebdoiaaBw5
namespace Go.Proofs.Ytbbaopldebdoiaa
open Go Go.RowKit
/-- two caches, 256 bytes; f: what was written last -/
structure Co (S : BS) (f : Nat → Nat) : Prop where
  nc : S.nc = 2
  len : S.len = 256
  s0 : Stc (S.c 0)
  s1 : Stc (S.c 1)
  se : Se (fun i e => i < 2 ∧ (S.c i).L e) S.mem S.nw f
  m8 : ∀ o, S.mem o < 256
theorem Co.st {S : BS} {f : Nat → Nat} (h : Co S f) {i : Nat} (hi : i < 2) : Stc (S.c i) := by
  match i, hi with
  | 0, _ => exact h.s0
  | 1, _ => exact h.s1
theorem cput_c (S : BS) (i j : Nat) (T : CS) : (S.cput i T).c j = if j = i then T else S.c j := rfl
/-- a cache of it has changed -/
theorem Co.put {S : BS} {f f' : Nat → Nat} (h : Co S f) (i : Nat) (T : CS) (m : Nat → Nat) (nw : Int → Option (Nat → Nat)) (hT : Stc T) (hm : ∀ o, m o < 256) (hs : Se (fun j e => j < 2 ∧ (if j = i then T else S.c j).L e) m nw f') : Co { S.cput i T with mem := m, nw := nw } f' := by
  refine ⟨h.nc, h.len, ?_, ?_, hs, hm⟩
  · show Stc (if 0 = i then T else S.c 0)
    split
    · exact hT
    · exact h.s0
  · show Stc (if 1 = i then T else S.c 1)
    split
    · exact hT
    · exact h.s1
theorem wb8 {m : Nat → Nat} (h : ∀ o, m o < 256) (e : Ln) (he : ∀ t, e.b t < 256) : ∀ o, wbm' m e o < 256 := fun o => by
  unfold wbm'
  split
  · unfold wbm
    split
    · exact he _
    · exact h o
  · exact h o
theorem lineOf_range {a : Nat} (h : 65536 ≤ a ∧ a < 65792) : lineOf a % 16 = 0 ∧ 65536 ≤ lineOf a ∧ lineOf a < 65792 := by
  unfold lineOf
  omega
/-- a line of a cache, to be let go of: to 0 or 1 -/
theorem Co.low {S : BS} {f : Nat → Nat} (h : Co S f) (i : Nat) (hi : i < 2) (l to : Nat) (hl : l % 16 = 0) (hto : to ≤ 1) (hst : to < (S.c i).st l) : Co ((S.cput i ((S.c i).lowTo l to)).wb ((S.c i).ln l)) f ∧ (∀ e, ((S.c i).lowTo l to).L e ↔ (((S.c i).L e ∧ e.a ≠ l) ∨ (to = 1 ∧ e = ((S.c i).ln l).setS 1))) ∧ (S.c i).L ((S.c i).ln l) ∧ ((S.c i).ln l).a = l ∧ ((S.c i).ln l).s = (S.c i).st l := by
  have st := h.st hi
  obtain ⟨hA, hs⟩ := CS.st_ix (T := S.c i) (a := l) (by omega)
  have hq : (S.c i).of l < (S.c i).n := (S.c i).of_lt l st.n
  obtain ⟨hL, hla⟩ := st.has l hA
  rw [lineOf_self hl] at hla
  have key : Stc ((S.c i).lowTo l to) ∧ ∀ e, ((S.c i).lowTo l to).L e ↔ (((S.c i).L e ∧ e.a ≠ l) ∨ (to = 1 ∧ e = ((S.c i).ln l).setS 1)) := by
    unfold CS.lowTo
    by_cases c : to = 0
    · rw [if_pos c]
      obtain ⟨u, v⟩ := st.rem ((S.c i).of l) ((S.c i).ix l) hq hA.1
      refine ⟨u, fun e => (v e).trans ?_⟩
      rw [hla]
      constructor
      · intro q; exact Or.inl q
      · rintro (q | q)
        · exact q
        · omega
    · rw [if_neg c]
      obtain rfl : to = 1 := by omega
      obtain ⟨u, v⟩ := st.low ((S.c i).of l) ((S.c i).ix l) hq hA.1 (((S.c i).ln l).setS 1) rfl
      refine ⟨u, fun e => (v e).trans ?_⟩
      have e2 : (((S.c i).ln l).setS 1).a = l := hla
      rw [e2]
      constructor
      · rintro (q | q)
        · exact Or.inl q
        · exact Or.inr ⟨rfl, q⟩
      · rintro (q | q)
        · exact Or.inl q
        · exact Or.inr q.2
  refine ⟨?_, key.2, hL, hla, hs.symm⟩
  have hse := h.se.low i ((S.c i).ln l) ⟨hi, hL⟩ to (by rw [← hs]; exact hst) (L' := fun j e => j < 2 ∧ (if j = i then (S.c i).lowTo l to else S.c j).L e) (fun j e => by
    have hla' : ((S.c i).ln l).a = l := hla
    by_cases c : j = i
    · subst c
      rw [if_pos rfl, key.2 e, hla']
      constructor
      · rintro ⟨q0, q | q⟩
        · exact Or.inl ⟨⟨q0, q.1⟩, fun z => q.2 z.2⟩
        · exact Or.inr ⟨q.1, rfl, q.2⟩
      · rintro (⟨⟨q0, q1⟩, q2⟩ | ⟨q1, -, q2⟩)
        · exact ⟨q0, Or.inl ⟨q1, fun z => q2 ⟨rfl, z⟩⟩⟩
        · exact ⟨hi, Or.inr ⟨q1, q2⟩⟩
    · rw [if_neg c]
      constructor
      · intro q
        exact Or.inl ⟨q, fun z => c z.1⟩
      · rintro (q | q)
        · exact q.1
        · exact absurd q.2.1 c)
  exact h.put i _ _ _ key.1 (wb8 h.m8 _ (h.se.line i _ ⟨hi, hL⟩).2.2.2.2.2.2.2) hse
/-- a line's state, in terms of lines -/
theorem Co.alone {S : BS} {f : Nat → Nat} (h : Co S f) (l : Nat) {i j : Nat} (hi : i < 2) (hj : j < 2) (hij : i ≠ j) (h2 : 2 ≤ (S.c i).st l) : (S.c j).st l = 0 := by
  by_cases c : (S.c j).st l = 0
  · exact c
  · obtain ⟨p, -, q1, q2, q3⟩ := (h.st hi).st_some l (by omega)
    obtain ⟨p', -, q1', q2', q3'⟩ := (h.st hj).st_some l c
    have := h.se.ex i j _ _ hij ⟨hi, q1⟩ ⟨hj, q1'⟩ (by rw [q2, q2'])
    omega
theorem Co.fill {S : BS} {f : Nat → Nat} (h : Co S f) (i : Nat) (hi : i < 2) (l s : Nat) (hl : l % 16 = 0) (hlo : 65536 ≤ l) (hhi : l < 65792) (hs : s = 1 ∨ s = 2) (hn : (S.c i).st l = 0) (hot : ∀ j, j < 2 → j ≠ i → (S.c j).st l ≤ 1 ∧ ((S.c j).st l ≠ 0 → s = 1)) : Co ((S.cput i ((S.c i).fill l s (fun t => S.mem (l - 65536 + t)))).wb (if (S.c i).full l then (S.c i).left l else l0)) f ∧ No ((S.c i).set ((S.c i).of l)) l ∧ ((S.c i).full l = true → (S.c i).L ((S.c i).left l)) ∧ ((S.c i).fill l s (fun t => S.mem (l - 65536 + t))).st l = s := by
  have st := h.st hi
  have hN : No ((S.c i).set ((S.c i).of l)) l := by
    rcases at_or_no ((S.c i).set ((S.c i).of l)) l with ⟨p, hA⟩ | hN
    · have := CS.st_at hA
      have := (h.se.line i _ ⟨hi, (st.has l hA).1⟩).2.2.2.2.1
      omega
    · exact hN
  obtain ⟨⟨f1, f2⟩, f3⟩ := st.fill l s (fun t => S.mem (l - 65536 + t)) hl hN
  have hno : ∀ e, (S.c i).L e → e.a ≠ l := fun e he => by
    have := (st.no l).1 hN e he
    rwa [lineOf_self hl] at this
  have hoth : ∀ j e, j < 2 → (S.c j).L e → e.a = l → e.s = 1 ∧ s = 1 := fun j e hj he hea => by
    by_cases c : j = i
    · subst c
      exact absurd hea (hno e he)
    · have e1 := (h.st hj).st_is l he (by rw [lineOf_self hl]; exact hea)
      have e2 := hot j hj c
      have e3 := (h.se.line j e ⟨hj, he⟩).2.2.2.2.1
      rw [e1] at e2
      exact ⟨by omega, e2.2 (by omega)⟩
  refine ⟨?_, hN, f3, ?_⟩
  · have hl0 : (l0 : Ln).s ≠ 3 := by decide
    cases hf : (S.c i).full l
    · have hse := h.se.new i l s (fun t => S.mem (l - 65536 + t)) hi hl hlo hhi hs (fun e he => hno e he.2) (fun j e he hea => hoth j e he.1 he.2 hea) (fun t _ => rfl) (fun t => h.m8 _) (L' := fun j e => j < 2 ∧ (if j = i then (S.c i).fill l s (fun t => S.mem (l - 65536 + t)) else S.c j).L e) (fun j e => by
        by_cases c : j = i
        · subst c
          rw [if_pos rfl, f2 e]
          constructor
          · rintro ⟨q0, q | q⟩
            · exact Or.inl ⟨q0, q.1⟩
            · exact Or.inr ⟨rfl, q⟩
          · rintro (q | q)
            · exact ⟨q.1, Or.inl ⟨q.2, fun z => by rw [hf] at z; cases z⟩⟩
            · exact ⟨hi, Or.inr q.2⟩
        · rw [if_neg c]
          constructor
          · intro q; exact Or.inl q
          · rintro (q | q)
            · exact q
            · exact absurd q.1 c)
      have e0 : (S.cput i ((S.c i).fill l s (fun t => S.mem (l - 65536 + t)))).wb (if false = true then (S.c i).left l else l0) = { S.cput i ((S.c i).fill l s (fun t => S.mem (l - 65536 + t))) with mem := S.mem, nw := S.nw } := by
        unfold BS.wb wbm' wbn
        rfl
      rw [e0]
      exact h.put i _ _ _ f1 h.m8 hse
    · have hL := f3 hf
      obtain ⟨lf, hlf⟩ : ∃ lf, (S.c i).left l = lf := ⟨_, rfl⟩
      rw [hlf] at hL f2
      have ll := h.se.line i lf ⟨hi, hL⟩
      have hne : lf.a ≠ l := hno lf hL
      have s1 := h.se.low i lf ⟨hi, hL⟩ 0 (by have := ll.2.2.2.2.1; omega) (L' := fun j e => (j < 2 ∧ (S.c j).L e) ∧ ¬ (j = i ∧ e.a = lf.a)) (fun j e => by
        constructor
        · intro q; exact Or.inl q
        · rintro (q | q)
          · exact q
          · exact absurd q.1 (by omega))
      have hw : ∀ t, t < 16 → (fun t => S.mem (l - 65536 + t)) t = wbm' S.mem lf (l - 65536 + t) := fun t ht => by
        unfold wbm'
        split
        · unfold wbm
          rw [if_neg]
          have := ll.2.1
          have := ll.2.2.1
          omega
        · rfl
      have hse := s1.new i l s (fun t => S.mem (l - 65536 + t)) hi hl hlo hhi hs (fun e he => hno e he.1.2) (fun j e he hea => hoth j e he.1.1 he.1.2 hea) hw (fun t => h.m8 _) (L' := fun j e => j < 2 ∧ (if j = i then (S.c i).fill l s (fun t => S.mem (l - 65536 + t)) else S.c j).L e) (fun j e => by
        by_cases c : j = i
        · subst c
          rw [if_pos rfl, f2 e]
          constructor
          · rintro ⟨q0, q | q⟩
            · exact Or.inl ⟨⟨q0, q.1⟩, fun z => q.2 hf z.2⟩
            · exact Or.inr ⟨rfl, q⟩
          · rintro (q | q)
            · exact ⟨q.1.1, Or.inl ⟨q.1.2, fun _ z => q.2 ⟨rfl, z⟩⟩⟩
            · exact ⟨hi, Or.inr q.2⟩
        · rw [if_neg c]
          constructor
          · intro q; exact Or.inl ⟨q, fun z => c z.1⟩
          · rintro (q | q)
            · exact q.1
            · exact absurd q.1 c)
      have e0 : (S.cput i ((S.c i).fill l s (fun t => S.mem (l - 65536 + t)))).wb (if true = true then (S.c i).left l else l0) = { S.cput i ((S.c i).fill l s (fun t => S.mem (l - 65536 + t))) with mem := wbm' S.mem lf, nw := wbn S.nw lf } := by
        rw [if_pos rfl, hlf]
        rfl
      rw [e0]
      exact h.put i _ _ _ f1 (wb8 h.m8 _ ll.2.2.2.2.2.2.2) hse
  · exact f1.st_is l ((f2 _).2 (Or.inr rfl)) (by rw [lineOf_self hl])
end Go.Proofs.Ytbbaopldebdoiaa
