import Derived.Test.YtemamhkhjijdlaaGreatDoorY25
import Derived.Test.YtemamhkhjijdlaaGreatDoorY22
/-
  BUS' LAW BusSteps: what lasts, plainly, of any number of caches and bytes.
-/
namespace Go.Proofs.YtemamhkhjijdlaaGreatDoor
open Go Go.RowKit
/-- L: the lines of each cache; m: memory; nw: what is newer; f: what was written last -/
structure Sg (nn len : Nat) (L : Nat → Ln → Prop) (m : Nat → Nat) (nw : Int → Option (Nat → Nat)) (f : Nat → Nat) : Prop where
  line : ∀ i e, L i e → i < nn ∧ e.a % 16 = 0 ∧ 65536 ≤ e.a ∧ e.a < 65536 + len ∧ 1 ≤ e.s ∧ e.s ≤ 3 ∧ (∀ t, t < 16 → e.b t = f (e.a - 65536 + t)) ∧ ∀ t, e.b t < 256
  uni : ∀ i e e', L i e → L i e' → e.a = e'.a → e = e'
  ex : ∀ i j e e', i ≠ j → L i e → L j e' → e.a = e'.a → e.s = 1
  out : ∀ o, o < len → m o = f o ∨ ∃ i e, L i e ∧ e.s = 3 ∧ e.a = 65536 + lineOf o
  n1 : ∀ i e, L i e → e.s = 3 → nw (e.a : Nat) = some e.b
  n2 : ∀ (a : Nat) b, nw a = some b → ∃ i e, L i e ∧ e.s = 3 ∧ e.a = a ∧ e.b = b
theorem Sg.congr {nn len : Nat} {L L' : Nat → Ln → Prop} {m : Nat → Nat} {nw : Int → Option (Nat → Nat)} {f : Nat → Nat} (h : Sg nn len L m nw f) (hL : ∀ i e, L' i e ↔ L i e) : Sg nn len L' m nw f := by
  obtain rfl : L' = L := funext fun i => funext fun e => propext (hL i e)
  exact h
theorem Sg.low {nn len : Nat} {L L' : Nat → Ln → Prop} {m : Nat → Nat} {nw : Int → Option (Nat → Nat)} {f : Nat → Nat} (h : Sg nn len L m nw f) (i : Nat) (e0 : Ln) (h0 : L i e0) (s' : Nat) (hs : s' < e0.s) (hL : ∀ j e, L' j e ↔ ((L j e ∧ ¬ (j = i ∧ e.a = e0.a)) ∨ (s' = 1 ∧ j = i ∧ e = e0.setS 1))) : Sg nn len L' (wbm' m e0) (wbn nw e0) f := by
  obtain ⟨i2, a16, alo, ahi, s1, s3, hb, h8⟩ := h.line i e0 h0
  have same : ∀ j e, L' j e → ∃ e', L j e' ∧ e'.a = e.a ∧ e'.b = e.b ∧ (e.s = 1 ∨ (e = e' ∧ ¬ (j = i ∧ e.a = e0.a))) := by
    intro j e he
    rcases (hL j e).1 he with ⟨u, v⟩ | ⟨u, rfl, rfl⟩
    · exact ⟨e, u, rfl, rfl, Or.inr ⟨rfl, v⟩⟩
    · exact ⟨e0, h0, rfl, rfl, Or.inl rfl⟩
  refine ⟨fun j e he => ?_, fun j e e' he he' q => ?_, fun j j' e e' hj he he' q => ?_, fun o ho => ?_, fun j e he h3 => ?_, fun a b hab => ?_⟩
  · obtain ⟨e', l', q1, q2, q3⟩ := same j e he
    obtain ⟨u1, u2, u3, u4, u5, u6, u7, u8⟩ := h.line j e' l'
    rw [q1] at u2 u3 u4 u7
    rw [q2] at u7 u8
    refine ⟨u1, u2, u3, u4, ?_, ?_, u7, u8⟩
    · rcases q3 with q | q
      · omega
      · rw [q.1]; omega
    · rcases q3 with q | q
      · omega
      · rw [q.1]; omega
  · rcases (hL j e).1 he with ⟨u, v⟩ | ⟨u, u2, u3⟩ <;> rcases (hL j e').1 he' with ⟨x, y⟩ | ⟨x, x2, x3⟩
    · exact h.uni j e e' u x q
    · exact absurd ⟨x2, by rw [q, x3]; rfl⟩ v
    · exact absurd ⟨u2, by rw [← q, u3]; rfl⟩ y
    · rw [u3, x3]
  · obtain ⟨x, lx, x1, x2, x3⟩ := same j e he
    obtain ⟨y, ly, y1, y2, y3⟩ := same j' e' he'
    rcases x3 with x3 | x3
    · exact x3
    · rw [x3.1]
      exact h.ex j j' x y hj lx ly (by rw [x1, y1, q])
  · by_cases c : e0.s = 3 ∧ e0.a = 65536 + lineOf o
    · left
      unfold wbm'
      rw [if_pos c.1]
      unfold wbm
      have : e0.a - 65536 ≤ o ∧ o < e0.a - 65536 + 16 := by
        have := c.2
        unfold lineOf at this
        omega
      have e2 : e0.a - 65536 + (o - (e0.a - 65536)) = o := by omega
      rw [if_pos this, hb _ (by omega), e2]
    · have hm : wbm' m e0 o = m o := by
        unfold wbm'
        split
        · rename_i h3
          unfold wbm
          rw [if_neg]
          intro q
          refine c ⟨h3, ?_⟩
          unfold lineOf
          omega
        · rfl
      rw [hm]
      rcases h.out o ho with q | ⟨j, e, l, q1, q2⟩
      · exact Or.inl q
      · right
        refine ⟨j, e, (hL j e).2 (Or.inl ⟨l, ?_⟩), q1, q2⟩
        rintro ⟨rfl, q3⟩
        have := h.uni j e e0 l h0 q3
        subst this
        exact c ⟨q1, q2⟩
  · rcases (hL j e).1 he with ⟨u, v⟩ | ⟨u, u2, u3⟩
    · have := h.n1 j e u h3
      unfold wbn
      split
      · unfold updO
        rw [if_neg]
        · exact this
        · intro q
          have q : e.a = e0.a := by omega
          by_cases z : j = i
          · exact v ⟨z, q⟩
          · have := h.ex j i e e0 z u h0 q
            omega
      · exact this
    · rw [u3] at h3
      cases h3
  · have key : nw a = some b ∧ (e0.s = 3 → a ≠ e0.a) := by
      unfold wbn at hab
      split at hab
      · unfold updO at hab
        split at hab
        · cases hab
        · rename_i q
          exact ⟨hab, fun _ z => q (by rw [z])⟩
      · rename_i q
        exact ⟨hab, fun z => absurd z q⟩
    obtain ⟨j, e, l, q1, q2, q3⟩ := h.n2 a b key.1
    refine ⟨j, e, (hL j e).2 (Or.inl ⟨l, ?_⟩), q1, q2, q3⟩
    rintro ⟨rfl, q4⟩
    have := h.uni j e e0 l h0 q4
    subst this
    exact key.2 q1 q2.symm
theorem Sg.new {nn len : Nat} {L L' : Nat → Ln → Prop} {m : Nat → Nat} {nw : Int → Option (Nat → Nat)} {f : Nat → Nat} (h : Sg nn len L m nw f) (i a s : Nat) (b : Nat → Nat) (hi : i < nn) (h16 : a % 16 = 0) (hlo : 65536 ≤ a) (hhi : a < 65536 + len) (hs : s = 1 ∨ s = 2) (hl16 : len % 16 = 0) (hno : ∀ e, L i e → e.a ≠ a) (hot : ∀ j e, L j e → e.a = a → e.s = 1 ∧ s = 1) (hb : ∀ t, t < 16 → b t = m (a - 65536 + t)) (h8 : ∀ t, b t < 256) (hL : ∀ j e, L' j e ↔ (L j e ∨ (j = i ∧ e = ⟨a, s, b⟩))) : Sg nn len L' m nw f := by
  refine ⟨fun j e he => ?_, fun j e e' he he' q => ?_, fun j j' e e' hj he he' q => ?_, fun o ho => ?_, fun j e he h3 => ?_, fun a' b' hab => ?_⟩
  · rcases (hL j e).1 he with u | ⟨rfl, rfl⟩
    · exact h.line j e u
    · refine ⟨hi, h16, hlo, hhi, by show 1 ≤ s; omega, by show s ≤ 3; omega, fun t ht => ?_, h8⟩
      show b t = f (a - 65536 + t)
      rw [hb t ht]
      rcases h.out (a - 65536 + t) (by omega) with q | ⟨j', e', l', q1, q2⟩
      · exact q
      · have q3 : e'.a = a := by
          rw [q2]
          unfold lineOf
          omega
        have := (hot j' e' l' q3).1
        omega
  · rcases (hL j e).1 he with u | ⟨u1, u2⟩ <;> rcases (hL j e').1 he' with x | ⟨x1, x2⟩
    · exact h.uni j e e' u x q
    · exact absurd (by rw [q, x2]) (hno e (by rw [← x1]; exact u))
    · exact absurd (by rw [← q, u2]) (hno e' (by rw [← u1]; exact x))
    · rw [u2, x2]
  · rcases (hL j e).1 he with u | ⟨u1, u2⟩ <;> rcases (hL j' e').1 he' with x | ⟨x1, x2⟩
    · exact h.ex j j' e e' hj u x q
    · exact (hot j e u (by rw [q, x2])).1
    · rw [u2]
      exact (hot j' e' x (by rw [← q, u2])).2
    · exact absurd (u1.trans x1.symm) hj
  · rcases h.out o ho with q | ⟨j, e, l, q1, q2⟩
    · exact Or.inl q
    · exact Or.inr ⟨j, e, (hL j e).2 (Or.inl l), q1, q2⟩
  · rcases (hL j e).1 he with u | ⟨u1, u2⟩
    · exact h.n1 j e u h3
    · rw [u2] at h3
      have h3 : s = 3 := h3
      omega
  · obtain ⟨j, e, l, q⟩ := h.n2 a' b' hab
    exact ⟨j, e, (hL j e).2 (Or.inl l), q⟩
theorem Sg.write {nn len : Nat} {L L' : Nat → Ln → Prop} {m : Nat → Nat} {nw : Int → Option (Nat → Nat)} {f : Nat → Nat} (h : Sg nn len L m nw f) (i : Nat) (e0 : Ln) (h0 : L i e0) (h2 : 2 ≤ e0.s) (a z d : Nat) (ha : e0.a = lineOf a) (hz : a % 16 + z ≤ 16) (hL : ∀ j e, L' j e ↔ ((L j e ∧ ¬ (j = i ∧ e.a = e0.a)) ∨ (j = i ∧ e = e0.wr (a % 16) d z))) : Sg nn len L' m (updO nw (e0.a : Nat) (some (e0.wr (a % 16) d z).b)) (written f (a - 65536) z d) := by
  obtain ⟨i2, a16, alo, ahi, s1, s3, hb, h8⟩ := h.line i e0 h0
  obtain ⟨w1, w2, w3⟩ := wr_is e0 (a % 16) d z
  have hal : lineOf a = a - a % 16 := rfl
  have alone : ∀ j e, L j e → ¬ (j = i ∧ e.a = e0.a) → e.a ≠ e0.a := by
    intro j e l hn q
    by_cases x : j = i
    · exact hn ⟨x, q⟩
    · have := h.ex i j e0 e (fun z => x z.symm) h0 l q.symm
      omega
  refine ⟨fun j e he => ?_, fun j e e' he he' q => ?_, fun j j' e e' hj he he' q => ?_, fun o ho => ?_, fun j e he h3 => ?_, fun a' b' hab => ?_⟩
  · rcases (hL j e).1 he with ⟨u, v⟩ | ⟨rfl, rfl⟩
    · obtain ⟨u1, u2, u3, u4, u5, u6, u7, u8⟩ := h.line j e u
      refine ⟨u1, u2, u3, u4, u5, u6, fun t ht => ?_, u8⟩
      rw [u7 t ht]
      unfold written
      rw [if_neg]
      have := alone j e u v
      omega
    · refine ⟨i2, by rw [w1]; exact a16, by rw [w1]; exact alo, by rw [w1]; exact ahi, by omega, by omega, fun t ht => ?_, fun t => ?_⟩
      · rw [w1, w3 t]
        unfold written
        by_cases c : a % 16 ≤ t ∧ t < a % 16 + z
        · have e2 : e0.a - 65536 + t - (a - 65536) = t - a % 16 := by omega
          rw [if_pos c, if_pos (by omega), e2]
        · rw [if_neg c, if_neg (by omega)]
          exact hb t ht
      · rw [w3 t]
        split
        · exact Nat.mod_lt _ (by decide)
        · exact h8 t
  · rcases (hL j e).1 he with ⟨u, v⟩ | ⟨u1, u2⟩ <;> rcases (hL j e').1 he' with ⟨x, y⟩ | ⟨x1, x2⟩
    · exact h.uni j e e' u x q
    · exact absurd ⟨x1, by rw [q, x2, w1]⟩ v
    · exact absurd ⟨u1, by rw [← q, u2, w1]⟩ y
    · rw [u2, x2]
  · rcases (hL j e).1 he with ⟨u, v⟩ | ⟨u1, u2⟩ <;> rcases (hL j' e').1 he' with ⟨x, y⟩ | ⟨x1, x2⟩
    · exact h.ex j j' e e' hj u x q
    · exact absurd (by rw [q, x2, w1]) (alone j e u v)
    · exact absurd (by rw [← q, u2, w1]) (alone j' e' x y)
    · exact absurd (u1.trans x1.symm) hj
  · by_cases c : e0.a = 65536 + lineOf o
    · exact Or.inr ⟨i, _, (hL i _).2 (Or.inr ⟨rfl, rfl⟩), w2, by rw [w1]; exact c⟩
    · have hw : written f (a - 65536) z d o = f o := by
        unfold written
        rw [if_neg]
        intro q
        apply c
        unfold lineOf
        omega
      rw [hw]
      rcases h.out o ho with q | ⟨j, e, l, q1, q2⟩
      · exact Or.inl q
      · exact Or.inr ⟨j, e, (hL j e).2 (Or.inl ⟨l, fun q => c (by rw [← q.2, q2])⟩), q1, q2⟩
  · rcases (hL j e).1 he with ⟨u, v⟩ | ⟨u1, u2⟩
    · unfold updO
      rw [if_neg]
      · exact h.n1 j e u h3
      · have := alone j e u v
        omega
    · rw [u2, w1]
      unfold updO
      rw [if_pos rfl]
  · unfold updO at hab
    split at hab
    · rename_i q
      have q : a' = e0.a := by omega
      refine ⟨i, _, (hL i _).2 (Or.inr ⟨rfl, rfl⟩), w2, by rw [w1]; exact q.symm, ?_⟩
      exact Option.some.inj hab
    · rename_i q
      obtain ⟨j, e, l, q1, q2, q3⟩ := h.n2 a' b' hab
      exact ⟨j, e, (hL j e).2 (Or.inl ⟨l, fun z => q (by rw [← z.2, q2])⟩), q1, q2, q3⟩
end Go.Proofs.YtemamhkhjijdlaaGreatDoor
/-
  BUS' LAW BusSteps: what lasts of the bus; a transaction keeps it.
-/
namespace Go.Proofs.YtemamhkhjijdlaaGreatDoor
open Go Go.RowKit
/-- f: what was written last -/
structure Cg (S : BS) (f : Nat → Nat) : Prop where
  nc : 1 ≤ S.nc ∧ S.nc ≤ 2
  len : S.len ≤ 4096 ∧ S.len % 16 = 0
  st : ∀ i, i < S.nc → Stc (S.c i)
  se : Sg S.nc S.len (fun i e => i < S.nc ∧ (S.c i).L e) S.mem S.nw f
  m8 : ∀ o, S.mem o < 256
/-- a cache of it has changed -/
theorem Cg.put {S : BS} {f f' : Nat → Nat} (h : Cg S f) (i : Nat) (T : CS) (m : Nat → Nat) (nw : Int → Option (Nat → Nat)) (hT : Stc T) (hm : ∀ o, m o < 256) (hs : Sg S.nc S.len (fun j e => j < S.nc ∧ (if j = i then T else S.c j).L e) m nw f') : Cg { S.cput i T with mem := m, nw := nw } f' := by
  refine ⟨h.nc, h.len, fun j hj => ?_, hs, hm⟩
  show Stc (if j = i then T else S.c j)
  split
  · exact hT
  · exact h.st j hj
/-- a line of a cache, too be let go of: too 0 or 1 -/
theorem Cg.low {S : BS} {f : Nat → Nat} (h : Cg S f) (i : Nat) (hi : i < S.nc) (l too : Nat) (hl : l % 16 = 0) (hto : too ≤ 1) (hst : too < (S.c i).st l) : Cg ((S.cput i ((S.c i).lowTo l too)).wb ((S.c i).ln l)) f ∧ (∀ e, ((S.c i).lowTo l too).L e ↔ (((S.c i).L e ∧ e.a ≠ l) ∨ (too = 1 ∧ e = ((S.c i).ln l).setS 1))) ∧ (S.c i).L ((S.c i).ln l) ∧ ((S.c i).ln l).a = l ∧ ((S.c i).ln l).s = (S.c i).st l := by
  have st := h.st _ hi
  obtain ⟨hA, hs⟩ := CS.st_ix (T := S.c i) (a := l) (by omega)
  have hq : (S.c i).of l < (S.c i).n := (S.c i).of_lt l st.n
  obtain ⟨hL, hla⟩ := st.has l hA
  rw [lineOf_self hl] at hla
  have key : Stc ((S.c i).lowTo l too) ∧ ∀ e, ((S.c i).lowTo l too).L e ↔ (((S.c i).L e ∧ e.a ≠ l) ∨ (too = 1 ∧ e = ((S.c i).ln l).setS 1)) := by
    unfold CS.lowTo
    by_cases c : too = 0
    · rw [if_pos c]
      obtain ⟨u, v⟩ := st.rem ((S.c i).of l) ((S.c i).ix l) hq hA.1
      refine ⟨u, fun e => (v e).trans ?_⟩
      rw [hla]
      constructor
      · intro q; exact Or.inl q
      · rintro (q | q)
        · exact q
        · omega
    · rw [if_neg c]
      obtain rfl : too = 1 := by omega
      obtain ⟨u, v⟩ := st.low ((S.c i).of l) ((S.c i).ix l) hq hA.1 (((S.c i).ln l).setS 1) rfl
      refine ⟨u, fun e => (v e).trans ?_⟩
      have e2 : (((S.c i).ln l).setS 1).a = l := hla
      rw [e2]
      constructor
      · rintro (q | q)
        · exact Or.inl q
        · exact Or.inr ⟨rfl, q⟩
      · rintro (q | q)
        · exact Or.inl q
        · exact Or.inr q.2
  refine ⟨?_, key.2, hL, hla, hs.symm⟩
  have hse := h.se.low i ((S.c i).ln l) ⟨hi, hL⟩ too (by rw [← hs]; exact hst) (L' := fun j e => j < S.nc ∧ (if j = i then (S.c i).lowTo l too else S.c j).L e) (fun j e => by
    have hla' : ((S.c i).ln l).a = l := hla
    by_cases c : j = i
    · subst c
      rw [if_pos rfl, key.2 e, hla']
      constructor
      · rintro ⟨q0, q | q⟩
        · exact Or.inl ⟨⟨q0, q.1⟩, fun z => q.2 z.2⟩
        · exact Or.inr ⟨q.1, rfl, q.2⟩
      · rintro (⟨⟨q0, q1⟩, q2⟩ | ⟨q1, -, q2⟩)
        · exact ⟨q0, Or.inl ⟨q1, fun z => q2 ⟨rfl, z⟩⟩⟩
        · exact ⟨hi, Or.inr ⟨q1, q2⟩⟩
    · rw [if_neg c]
      constructor
      · intro q
        exact Or.inl ⟨q, fun z => c z.1⟩
      · rintro (q | q)
        · exact q.1
        · exact absurd q.2.1 c)
  exact h.put i _ _ _ key.1 (wb8 h.m8 _ (h.se.line i _ ⟨hi, hL⟩).2.2.2.2.2.2.2) hse
/-- a line's state, in terms of lines -/
theorem Cg.alone {S : BS} {f : Nat → Nat} (h : Cg S f) (l : Nat) {i j : Nat} (hi : i < S.nc) (hj : j < S.nc) (hij : i ≠ j) (h2 : 2 ≤ (S.c i).st l) : (S.c j).st l = 0 := by
  by_cases c : (S.c j).st l = 0
  · exact c
  · obtain ⟨p, -, q1, q2, q3⟩ := (h.st _ hi).st_some l (by omega)
    obtain ⟨p', -, q1', q2', q3'⟩ := (h.st _ hj).st_some l c
    have := h.se.ex i j _ _ hij ⟨hi, q1⟩ ⟨hj, q1'⟩ (by rw [q2, q2'])
    omega
theorem Cg.fill {S : BS} {f : Nat → Nat} (h : Cg S f) (i : Nat) (hi : i < S.nc) (l s : Nat) (hl : l % 16 = 0) (hlo : 65536 ≤ l) (hhi : l < 65536 + S.len) (hs : s = 1 ∨ s = 2) (hn : (S.c i).st l = 0) (hot : ∀ j, j < S.nc → j ≠ i → (S.c j).st l ≤ 1 ∧ ((S.c j).st l ≠ 0 → s = 1)) : Cg ((S.cput i ((S.c i).fill l s (fun t => S.mem (l - 65536 + t)))).wb (if (S.c i).full l then (S.c i).left l else l0)) f ∧ No ((S.c i).set ((S.c i).of l)) l ∧ ((S.c i).full l = true → (S.c i).L ((S.c i).left l)) ∧ ((S.c i).fill l s (fun t => S.mem (l - 65536 + t))).st l = s := by
  have st := h.st _ hi
  have hN : No ((S.c i).set ((S.c i).of l)) l := by
    rcases at_or_no ((S.c i).set ((S.c i).of l)) l with ⟨p, hA⟩ | hN
    · have := CS.st_at hA
      have := (h.se.line i _ ⟨hi, (st.has l hA).1⟩).2.2.2.2.1
      omega
    · exact hN
  obtain ⟨⟨f1, f2⟩, f3⟩ := st.fill l s (fun t => S.mem (l - 65536 + t)) hl hN
  have hno : ∀ e, (S.c i).L e → e.a ≠ l := fun e he => by
    have := (st.no l).1 hN e he
    rwa [lineOf_self hl] at this
  have hoth : ∀ j e, j < S.nc → (S.c j).L e → e.a = l → e.s = 1 ∧ s = 1 := fun j e hj he hea => by
    by_cases c : j = i
    · subst c
      exact absurd hea (hno e he)
    · have e1 := (h.st _ hj).st_is l he (by rw [lineOf_self hl]; exact hea)
      have e2 := hot j hj c
      have e3 := (h.se.line j e ⟨hj, he⟩).2.2.2.2.1
      rw [e1] at e2
      exact ⟨by omega, e2.2 (by omega)⟩
  refine ⟨?_, hN, f3, ?_⟩
  · have hl0 : (l0 : Ln).s ≠ 3 := by decide
    cases hf : (S.c i).full l
    · have hse := h.se.new i l s (fun t => S.mem (l - 65536 + t)) hi hl hlo hhi hs h.len.2 (fun e he => hno e he.2) (fun j e he hea => hoth j e he.1 he.2 hea) (fun t _ => rfl) (fun t => h.m8 _) (L' := fun j e => j < S.nc ∧ (if j = i then (S.c i).fill l s (fun t => S.mem (l - 65536 + t)) else S.c j).L e) (fun j e => by
        by_cases c : j = i
        · subst c
          rw [if_pos rfl, f2 e]
          constructor
          · rintro ⟨q0, q | q⟩
            · exact Or.inl ⟨q0, q.1⟩
            · exact Or.inr ⟨rfl, q⟩
          · rintro (q | q)
            · exact ⟨q.1, Or.inl ⟨q.2, fun z => by rw [hf] at z; cases z⟩⟩
            · exact ⟨hi, Or.inr q.2⟩
        · rw [if_neg c]
          constructor
          · intro q; exact Or.inl q
          · rintro (q | q)
            · exact q
            · exact absurd q.1 c)
      have e0 : (S.cput i ((S.c i).fill l s (fun t => S.mem (l - 65536 + t)))).wb (if false = true then (S.c i).left l else l0) = { S.cput i ((S.c i).fill l s (fun t => S.mem (l - 65536 + t))) with mem := S.mem, nw := S.nw } := by
        unfold BS.wb wbm' wbn
        rfl
      rw [e0]
      exact h.put i _ _ _ f1 h.m8 hse
    · have hL := f3 hf
      obtain ⟨lf, hlf⟩ : ∃ lf, (S.c i).left l = lf := ⟨_, rfl⟩
      rw [hlf] at hL f2
      have ll := h.se.line i lf ⟨hi, hL⟩
      have hne : lf.a ≠ l := hno lf hL
      have s1 := h.se.low i lf ⟨hi, hL⟩ 0 (by have := ll.2.2.2.2.1; omega) (L' := fun j e => (j < S.nc ∧ (S.c j).L e) ∧ ¬ (j = i ∧ e.a = lf.a)) (fun j e => by
        constructor
        · intro q; exact Or.inl q
        · rintro (q | q)
          · exact q
          · exact absurd q.1 (by omega))
      have hw : ∀ t, t < 16 → (fun t => S.mem (l - 65536 + t)) t = wbm' S.mem lf (l - 65536 + t) := fun t ht => by
        unfold wbm'
        split
        · unfold wbm
          rw [if_neg]
          have := ll.2.1
          have := ll.2.2.1
          omega
        · rfl
      have hse := s1.new i l s (fun t => S.mem (l - 65536 + t)) hi hl hlo hhi hs h.len.2 (fun e he => hno e he.1.2) (fun j e he hea => hoth j e he.1.1 he.1.2 hea) hw (fun t => h.m8 _) (L' := fun j e => j < S.nc ∧ (if j = i then (S.c i).fill l s (fun t => S.mem (l - 65536 + t)) else S.c j).L e) (fun j e => by
        by_cases c : j = i
        · subst c
          rw [if_pos rfl, f2 e]
          constructor
          · rintro ⟨q0, q | q⟩
            · exact Or.inl ⟨⟨q0, q.1⟩, fun z => q.2 hf z.2⟩
            · exact Or.inr ⟨rfl, q⟩
          · rintro (q | q)
            · exact ⟨q.1.1, Or.inl ⟨q.1.2, fun _ z => q.2 ⟨rfl, z⟩⟩⟩
            · exact ⟨hi, Or.inr q.2⟩
        · rw [if_neg c]
          constructor
          · intro q; exact Or.inl ⟨q, fun z => c z.1⟩
          · rintro (q | q)
            · exact q.1
            · exact absurd q.1 c)
      have e0 : (S.cput i ((S.c i).fill l s (fun t => S.mem (l - 65536 + t)))).wb (if true = true then (S.c i).left l else l0) = { S.cput i ((S.c i).fill l s (fun t => S.mem (l - 65536 + t))) with mem := wbm' S.mem lf, nw := wbn S.nw lf } := by
        rw [if_pos rfl, hlf]
        rfl
      rw [e0]
      exact h.put i _ _ _ f1 (wb8 h.m8 _ ll.2.2.2.2.2.2.2) hse
  · exact f1.st_is l ((f2 _).2 (Or.inr rfl)) (by rw [lineOf_self hl])
end Go.Proofs.YtemamhkhjijdlaaGreatDoor
/-
  BUS' LAW BusSteps: a transaction, a tick, a read, a write keep what lasts.
-/
namespace Go.Proofs.YtemamhkhjijdlaaGreatDoor
open Go Go.RowKit
theorem Cg.same {S S' : BS} {f : Nat → Nat} (h : Cg S f) (h1 : S'.nc = S.nc) (h2 : S'.len = S.len) (h3 : S'.c = S.c) (h4 : S'.mem = S.mem) (h5 : S'.nw = S.nw) : Cg S' f :=
  ⟨by rw [h1]; exact h.nc, by rw [h2]; exact h.len, by rw [h1, h3]; exact h.st, by rw [h1, h2, h3, h4, h5]; exact h.se, by rw [h4]; exact h.m8⟩
theorem Cg.wrt {S : BS} {f : Nat → Nat} (h : Cg S f) (i : Nat) (hi : i < S.nc) (a j d z : Nat) (hA : At ((S.c i).set ((S.c i).of a)) a j) (h2 : 2 ≤ (((S.c i).set ((S.c i).of a)).getD j l0).s) (hz : a % 16 + z ≤ 16) : Cg (S.wrt i a j d z) (written f (a - 65536) z d) := by
  have st := h.st _ hi
  obtain ⟨hL, hla⟩ := st.has a hA
  obtain ⟨e0, he0⟩ : ∃ e0, ((S.c i).set ((S.c i).of a)).getD j l0 = e0 := ⟨_, rfl⟩
  rw [he0] at hL hla h2
  have w := wr_is e0 (a % 16) d z
  obtain ⟨u, v⟩ := st.wrote ((S.c i).of a) j ((S.c i).of_lt a st.n) hA.1 (e0.wr (a % 16) d z) (by rw [w.1, he0])
  have ew : (S.c i).wrote ((S.c i).of a) j (a % 16) d z = (S.c i).put ((S.c i).of a) (rest ((S.c i).set ((S.c i).of a)) j ++ [e0.wr (a % 16) d z]) := by
    unfold CS.wrote
    rw [he0]
  have hse := h.se.write i e0 ⟨hi, hL⟩ h2 a z d hla hz (L' := fun k e => k < S.nc ∧ (if k = i then (S.c i).wrote ((S.c i).of a) j (a % 16) d z else S.c k).L e) (fun k e => by
    by_cases c : k = i
    · subst c
      rw [if_pos rfl, ew, v e, w.1]
      constructor
      · rintro ⟨q0, q | q⟩
        · exact Or.inl ⟨⟨q0, q.1⟩, fun z => q.2 z.2⟩
        · exact Or.inr ⟨rfl, q⟩
      · rintro (⟨⟨q0, q1⟩, q2⟩ | ⟨-, q2⟩)
        · exact ⟨q0, Or.inl ⟨q1, fun z => q2 ⟨rfl, z⟩⟩⟩
        · exact ⟨hi, Or.inr q2⟩
    · rw [if_neg c]
      constructor
      · intro q
        exact Or.inl ⟨q, fun z => c z.1⟩
      · rintro (q | q)
        · exact q.1
        · exact absurd q.1 c)
  have := h.put i ((S.c i).wrote ((S.c i).of a) j (a % 16) d z) S.mem _ (by rw [ew]; exact u) h.m8 hse
  unfold BS.wrt
  rw [he0, ← hla]
  exact this
/-- one of the others -/
theorem Cg.lowAt {U : BS} {f : Nat → Nat} (hU : Cg U f) (l tw : Nat) (hl : l % 16 = 0) (hto : tw ≤ 1) (i : Nat) (hi : i < U.nc) : Cg (U.lowAt l tw i) f ∧ (U.lowAt l tw i).c U.turn = U.c U.turn ∧ (i ≠ U.turn → ((U.lowAt l tw i).c i).st l ≤ tw) ∧ (∀ a, ((U.lowAt l tw i).c i).st a ≤ max 1 ((U.c i).st a)) ∧ (∀ j, j ≠ i → (U.lowAt l tw i).c j = U.c j) ∧ (U.lowAt l tw i).ak = U.ak ∧ (U.lowAt l tw i).on = U.on ∧ (U.lowAt l tw i).tk = U.tk ∧ (U.lowAt l tw i).cyc = U.cyc := by
  unfold BS.lowAt
  split
  · rename_i c
    obtain ⟨c1, c2⟩ := c
    obtain ⟨q1, q2, q3, q4, q5⟩ := hU.low i hi l tw hl hto c2
    have ec : ((U.cput i ((U.c i).lowTo l tw)).wb ((U.c i).ln l)).c i = (U.c i).lowTo l tw := if_pos rfl
    have st' : Stc ((U.c i).lowTo l tw) := by
      have := q1.st i hi
      rw [ec] at this
      exact this
    refine ⟨q1, ?_, fun _ => ?_, fun a => ?_, fun j hj => if_neg hj, rfl, rfl, rfl, rfl⟩
    · show (if U.turn = i then _ else U.c U.turn) = _
      rw [if_neg]
      exact fun e => c1 e.symm
    · rw [ec]
      by_cases z : ((U.c i).lowTo l tw).st l = 0
      · omega
      · obtain ⟨k, -, r1, r2, r3⟩ := st'.st_some l z
        rw [lineOf_self hl] at r2
        rcases (q2 _).1 r1 with r | r
        · exact absurd r2 r.2
        · rw [r3, r.2, r.1]
          exact Nat.le_refl _
    · rw [ec]
      by_cases z : ((U.c i).lowTo l tw).st a = 0
      · omega
      · obtain ⟨k, -, r1, r2, r3⟩ := st'.st_some a z
        rcases (q2 _).1 r1 with r | r
        · have := (hU.st i hi).st_is a r.1 r2
          omega
        · rw [r3, r.2]
          show 1 ≤ _
          omega
  · rename_i c
    refine ⟨hU, rfl, fun hi' => ?_, fun a => by omega, fun _ _ => rfl, rfl, rfl, rfl, rfl⟩
    by_cases z : tw < (U.c i).st l
    · exact absurd ⟨hi', z⟩ c
    · omega
/-- lowerOthers -/
theorem Cg.lowN {S : BS} {f : Nat → Nat} (h : Cg S f) (l tw : Nat) (hl : l % 16 = 0) (hto : tw ≤ 1) : ∀ n, n ≤ S.nc → Cg (S.lowN l tw n) f ∧ (S.lowN l tw n).c S.turn = S.c S.turn ∧ (∀ j, j < n → j ≠ S.turn → ((S.lowN l tw n).c j).st l ≤ tw) ∧ (S.lowN l tw n).ak = S.ak ∧ (S.lowN l tw n).on = S.on ∧ (S.lowN l tw n).tk = S.tk ∧ (S.lowN l tw n).cyc = S.cyc ∧ (∀ j a, ((S.lowN l tw n).c j).st a ≤ max 1 ((S.c j).st a))
  | 0, _ => ⟨h, rfl, fun j hj => absurd hj (by omega), rfl, rfl, rfl, rfl, fun j a => by show (S.c j).st a ≤ _; omega⟩
  | n + 1, hn => by
    obtain ⟨a1, a2, a3, a4, a5, a6, a7, a8⟩ := h.lowN l tw hl hto n (by omega)
    obtain ⟨t1, t2, t3, t4⟩ := lowN_same S l tw n
    obtain ⟨b1, b2, b3, b4, b5, b6, b7, b8, b9⟩ := a1.lowAt l tw hl hto n (by rw [t2]; omega)
    rw [t1] at b2 b3
    have e2 : S.lowN l tw (n + 1) = (S.lowN l tw n).lowAt l tw n := rfl
    rw [e2]
    refine ⟨b1, b2.trans a2, fun j hj hjt => ?_, b6.trans a4, b7.trans a5, b8.trans a6, b9.trans a7, fun j a => ?_⟩
    · by_cases e : j = n
      · subst e
        exact b3 hjt
      · rw [b5 j e]
        exact a3 j (by omega) hjt
    · by_cases e : j = n
      · subst e
        have h1 := b4 a
        have h2 := a8 j a
        omega
      · rw [b5 j e]
        exact a8 j a
/-- a whole transaction -/
theorem Cg.does {S : BS} {f : Nat → Nat} (h : Cg S f) (ht : S.turn < S.nc) (l tw : Nat) (hl : l % 16 = 0) (hlo : 65536 ≤ l) (hhi : l < 65536 + S.len) (hto : tw ≤ 1) (hown : (S.c S.turn).st l ≤ 1) : Cg (((S.lowN l tw S.nc).do2 l).do4 l) f ∧ No ((((S.lowN l tw S.nc).do2 l).c S.turn).set ((((S.lowN l tw S.nc).do2 l).c S.turn).of l)) l ∧ ((((S.lowN l tw S.nc).do2 l).c S.turn).full l = true → (((S.lowN l tw S.nc).do2 l).c S.turn).L ((((S.lowN l tw S.nc).do2 l).c S.turn).left l)) ∧ Cg ((S.lowN l tw S.nc).do2 l) f ∧ (if tw = 0 then 2 else 1) ≤ ((((S.lowN l tw S.nc).do2 l).do4 l).c S.turn).st l ∧ (((S.lowN l tw S.nc).do2 l).do4 l).ak = S.ak ∧ (((S.lowN l tw S.nc).do2 l).do4 l).on = S.on ∧ (((S.lowN l tw S.nc).do2 l).do4 l).cyc = S.cyc ∧ (∀ j, j ≠ S.turn → ∀ a, ((((S.lowN l tw S.nc).do2 l).do4 l).c j).st a ≤ max 1 ((S.c j).st a)) := by
  obtain ⟨r1, r2, r3, r4, r5, r6, r7, r8⟩ := h.lowN l tw hl hto S.nc (Nat.le_refl _)
  obtain ⟨t1, t2, t3, -⟩ := lowN_same S l tw S.nc
  obtain ⟨R, hR⟩ : ∃ R, S.lowN l tw S.nc = R := ⟨_, rfl⟩
  rw [hR] at r1 r2 r3 r4 r5 r6 r7 r8 t1 t2 t3 ⊢
  have ht2 : S.turn < R.nc := by rw [t2]; exact ht
  have hq : Cg (R.do2 l) f ∧ ((R.do2 l).c S.turn).st l = 0 ∧ (∀ j, j < S.nc → j ≠ S.turn → ((R.do2 l).c j).st l ≤ tw) ∧ (R.do2 l).ak = S.ak ∧ (R.do2 l).on = S.on ∧ (R.do2 l).cyc = S.cyc ∧ (∀ j, j ≠ S.turn → (R.do2 l).c j = R.c j) := by
    unfold BS.do2
    rw [t1]
    split
    · rename_i c
      exact ⟨r1, c, r3, r4, r5, r7, fun _ _ => rfl⟩
    · rename_i c
      have c1 : (R.c S.turn).st l ≤ 1 := by rw [r2]; exact hown
      obtain ⟨q1, q2, q3, q4, q5⟩ := r1.low S.turn ht2 l 0 hl (by omega) (by omega)
      rw [wb_id _ _ (by omega)] at q1
      have ec : (R.cput S.turn ((R.c S.turn).lowTo l 0)).c S.turn = (R.c S.turn).lowTo l 0 := if_pos rfl
      refine ⟨q1, ?_, fun j hj hjt => ?_, r4, r5, r7, fun j hj => if_neg hj⟩
      · have st' := q1.st S.turn ht2
        rw [ec] at st' ⊢
        refine st'.st_zero l (fun e he q => ?_)
        rw [lineOf_self hl] at q
        rcases (q2 e).1 he with z | z
        · exact z.2 q
        · omega
      · have ej : (R.cput S.turn ((R.c S.turn).lowTo l 0)).c j = R.c j := if_neg hjt
        rw [ej]
        exact r3 j hj hjt
  obtain ⟨n1, n2, n3⟩ := do2_same R l
  obtain ⟨Q, hQ⟩ : ∃ Q, R.do2 l = Q := ⟨_, rfl⟩
  rw [hQ] at hq n1 n2 n3 ⊢
  obtain ⟨q1, q2, q3, q4, q5, q6, q7⟩ := hq
  rw [t1] at n1
  rw [t2] at n2
  have hth : (Q.then' l = 1 ∨ Q.then' l = 2) ∧ (∀ j, j < S.nc → j ≠ S.turn → (Q.c j).st l ≠ 0 → Q.then' l = 1) ∧ (tw = 0 → Q.then' l = 2) := by
    unfold BS.then'
    refine ⟨by split <;> omega, fun j hj hjt hs => if_pos ⟨j, by rw [n2]; exact hj, by rw [n1]; exact hjt, hs⟩, fun h0 => if_neg ?_⟩
    rintro ⟨j, hj, hjt, hs⟩
    rw [n2] at hj
    rw [n1] at hjt
    have := q3 j hj hjt
    omega
  obtain ⟨f1, f2, f3, f4⟩ := q1.fill S.turn (by rw [n2]; exact ht) l (Q.then' l) hl hlo (by rw [n3, t3]; exact hhi) hth.1 q2 (fun j hj hjt => by rw [n2] at hj; exact ⟨Nat.le_trans (q3 j hj hjt) hto, hth.2.1 j hj hjt⟩)
  have e4 : Q.do4 l = (Q.cput S.turn ((Q.c S.turn).fill l (Q.then' l) (fun t => Q.mem (l - 65536 + t)))).wb (if (Q.c S.turn).full l then (Q.c S.turn).left l else l0) := by
    unfold BS.do4 BS.do3
    rw [n1]
    split
    · rfl
    · exact (wb_id _ _ (by decide)).symm
  have ec : (Q.do4 l).c S.turn = (Q.c S.turn).fill l (Q.then' l) (fun t => Q.mem (l - 65536 + t)) := by
    rw [e4]
    exact if_pos rfl
  refine ⟨by rw [e4]; exact f1, f2, f3, q1, ?_, by rw [e4]; exact q4, by rw [e4]; exact q5, by rw [e4]; exact q6, fun j hj a => ?_⟩
  · rw [ec, f4]
    split
    · rename_i c
      rw [hth.2.2 c]
      exact Nat.le_refl _
    · have := hth.1
      omega
  · have ej : (Q.do4 l).c j = Q.c j := by
      rw [e4]
      exact if_neg hj
    rw [ej, q7 j hj]
    exact r8 j a
end Go.Proofs.YtemamhkhjijdlaaGreatDoor
/-
  BUS: Data, of any number of bytes.
-/
namespace Go.Proofs.YtemamhkhjijdlaaGreatDoor
open Go Go.RowKit
def OwnG (len : Nat) (w : World) (B b : Nat) : Prop := ∃ xs, w.ownsRow B 5 1 (.slice (some ⟨b, 0, none⟩) len len) len xs
theorem OwnG.turned {len : Nat} {Q : Nat → Prop} {w y : World} {B b : Nat} (h : OwnG len w B b) (t : Turned Q w y) (hb : ¬ Q b) : OwnG len y B b := by
  obtain ⟨xs, h⟩ := h
  exact ⟨xs, own_turned_bus h t (fun j hj => by
    have hj : b = j := by simpa [Value.ownBlock] using hj
    rw [← hj]
    exact hb)⟩
theorem OwnG.set {len B b : Nat} : ∀ (vs : List Value) (o : Nat) (w : World), OwnG len w B b → OwnG len (w.setCells b o vs) B b
  | [], _, _, h => h
  | v :: vs, o, w, h => by
    obtain ⟨xs, h⟩ := h
    exact OwnG.set vs (o + 1) _ ⟨_, own_set_bus h o v⟩
set_option maxRecDepth 100000 in
theorem copied_ownG (a : Addr) (len cc : Nat) (g : Nat → Nat) (w : World) (hD : HandB w (some a) len g) (hln : len ≤ 4096) : Calls Tryz.prog 54 #[.slice (some a) len cc] w fun e w' => e = .returned (.slice (some ⟨w.heap.size, 0, none⟩) len len) ∧ Below w.heap.size w w' ∧ CellsAt len w' w.heap.size (fun i => .int .u8 (g i : Nat)) ∧ OwnG len w' w.heap.size w.heap.size := by
  have key : ∃ y, (Builtin.copy_ #[148, 148] 3 #[.slice (some ⟨w.heap.size, 0, none⟩) len len, .slice (some a) len cc]).run Tryz.prog (w.alloc (.cells (madeCells #[.int .u8 0] len) 5)) = .ok (goInt len) y ∧ Below w.heap.size w y ∧ CellsAt len y w.heap.size (fun i => .int .u8 (g i : Nat)) ∧ OwnG len y w.heap.size w.heap.size := by
    have bA : Below w.heap.size w (w.alloc (.cells (madeCells #[.int .u8 0] len) 5)) := (Below.refl _ _).alloc (Nat.le_refl _) _
    have hs : (Tryz.prog.info? 5).map (·.size) = some 1 := by kernel_rfl
    have hg : (w.alloc (.cells (madeCells #[.int .u8 0] len) 5)).heap[w.heap.size]? = some (.cells (madeCells #[.int .u8 0] len) 5 (0, 0)) := by
      show (w.heap.push _)[w.heap.size]? = _
      simp
    have hz : (madeCells #[Value.int .u8 0] len).size = len := size_madeCells _ _
    have hD' := hD.below bA
    have hr := run_copy_row (P := Tryz.prog) _ 148 148 3 5 w.heap.size 0 len len a len cc _ _ ((List.range len).map fun i => .int .u8 (g i : Nat)) Tryz.underlying148 hs hg (by rw [List.length_map, List.length_range]; exact (Nat.min_self len).symm) (fun j u hj => by
      have hjn : j < len := by
        have := (List.getElem?_eq_some_iff.1 hj).1
        simpa using this
      rw [List.getElem?_map, List.getElem?_range hjn] at hj
      obtain ⟨c, o, h1, h2, h3⟩ := hD' j hjn
      obtain rfl := Option.some.inj h1
      rw [Addr.add_lit, h3]
      exact hj) (by simp [hz]) (by
      intro u hu
      obtain ⟨i, _, rfl⟩ := List.mem_map.1 hu
      rfl)
    refine ⟨_, by simpa using hr, below_setR bA (Nat.le_refl _) _, ⟨?_, fun o ho => ?_, fun o => ?_⟩, ⟨_, by simp, Or.inr ⟨w.heap.size, len, _, rfl, Nat.le_refl _, setRow_heap _ _ _ _ _ _ hg, Nat.le_refl _, by unfold maxLen; omega, ?_, rfl⟩⟩⟩
    · exact (Array.getElem?_eq_some_iff.1 (setRow_heap _ _ _ _ _ _ hg)).1
    · rw [cell_setRow_same _ _ o _ _ _ _ hg]
      simp [List.getElem?_append, ho]
    · exact frz (setRow_heap _ _ _ _ _ _ hg) o
    · simp [hz]
  obtain ⟨y, hc, hb, hk, ho⟩ := key
  have HMK := Hid.in (make_run_bus (P := Tryz.prog) 148 5 (.int .u8 0) 1 Tryz.underlying148 (by kernel_rfl) rfl len (by omega) (by omega) w)
  have HC := Hid.in hc
  have HB := Hid.in (And.intro hb (And.intro hk ho))
  clear hc hb hk hD ho
  go_enter Tryz.func54, Tryz.ntmps54
  go_wp2_with (refine wpl_make (v := .int .i64 len) (u := .int .i64 len) rfl rfl rfl rfl HMK.out ?_)
  rw [HC.out]
  go_wp2
  go_ret
  exact ⟨rfl, HB.out⟩
section
variable {x : World} {g : Bn} {F : Nat → Prop} {N : Nat} {S : BS} {f : Nat → Nat}
/-- the copy, while it is made: lines that are not to come any more are as they should be -/
def DtG (len : Nat) (wr : World) (db : Nat) (left : Lit → Bool) (f : Nat → Nat) : Prop := ∃ dd : Nat → Nat, CellsAt len wr db (fun o => .int .u8 (dd o)) ∧ ∀ o, o < len → left (.int .u32 ((65536 + lineOf o : Nat) : Int)) = false → dd o = f o
theorem dt_nextG {len : Nat} {wr w1 : World} {db : Nat} {left : Lit → Bool} (h : DtG len wr db left f) (t : Turned (fun j => j ≠ db) wr w1) (a : Nat) (b : Nat → Nat) (h16 : a % 16 = 0) (hlo : 65536 ≤ a) (hhi : a < 65536 + len) (hl16 : len % 16 = 0) (hb : ∀ t, t < 16 → b t = f (a - 65536 + t)) : DtG len (w1.setCells db (a - 65536) (bvs b)) db (fun z => left z && !z.sameKey (.int .u32 (a : Int))) f := by
  obtain ⟨dd, hc, hd⟩ := h
  have c1 := t.cells hc (fun q => q rfl)
  have c2 := cells_setCells (bvs b) (a - 65536) w1 _ c1 (by rw [bvs_len]; omega)
  refine ⟨fun o => if a - 65536 ≤ o ∧ o < a - 65536 + 16 then b (o - (a - 65536)) else dd o, ⟨c2.here, fun o ho => ?_, c2.free⟩, fun o ho hl => ?_⟩
  · rw [c2.cell o ho, bvs_len]
    dsimp only
    by_cases q : a - 65536 ≤ o ∧ o < a - 65536 + 16
    · rw [if_pos q, if_pos q, List.getD_eq_getElem?_getD, bvs_at _ _ (by omega)]
      rfl
    · rw [if_neg q, if_neg q]
  · by_cases q : a - 65536 ≤ o ∧ o < a - 65536 + 16
    · show (if _ then _ else _) = _
      rw [if_pos q, hb _ (by omega)]
      have : a - 65536 + (o - (a - 65536)) = o := by omega
      rw [this]
    · show (if _ then _ else _) = _
      rw [if_neg q]
      refine hd o ho ?_
      have hne : (Lit.int .u32 ((65536 + lineOf o : Nat) : Int)).sameKey (.int .u32 (a : Int)) = false := by
        have : ((65536 + lineOf o : Nat) : Int) ≠ (a : Int) := by
          intro e
          apply q
          have e : 65536 + lineOf o = a := by omega
          unfold lineOf at e
          omega
        simp [Lit.sameKey]
        omega
      dsimp only at hl
      rw [hne] at hl
      simpa using hl
/-- an entry of what is newer -/
theorem newer_ofG {D : DataW Value} (co : Cg S f) (hH : Has .u32 D (encN S.nw)) (xk : Int) (c : Value) (kl : Lit) (y : DataW Value × List MemPlace) (hkey : keyOf Tryz.prog 43 (.int .u32 xk) = some kl) (hR : rdV c = some y) (hat : ∀ zd, D.atKey kl zd = y.1) (hhas : Maps.has D kl = true) : ∃ (a : Nat) (b : Nat → Nat), xk = a ∧ kl = .int .u32 (a : Int) ∧ c = .agg (bvs b).toArray ∧ a % 16 = 0 ∧ 65536 ≤ a ∧ a < 65536 + S.len ∧ ∀ t, t < 16 → b t = f (a - 65536 + t) := by
  obtain ⟨x', e1, e2, hwf⟩ := Maps.keyOf_int_inv Tryz.underlying43 hkey
  have e1 : xk = x' := by simpa using e1
  subst e1
  have hw : 0 ≤ xk ∧ xk ≤ 4294967295 := by
    simpa [Lit.wf, IntKind.bits, IntKind.signed, IntKind.min, IntKind.max] using hwf
  obtain ⟨a, ha⟩ : ∃ a : Nat, xk = a := ⟨xk.toNat, by omega⟩
  subst ha
  obtain ⟨h1, h2⟩ := hH a hwf
  rw [e2] at hhas hat
  rw [hhas] at h1
  obtain ⟨v, hv⟩ := Option.isSome_iff_exists.1 h1.symm
  have q1 := h2 v (.held c) hv
  rw [hat] at q1
  have q2 : y.1 = .held c := by
    have : some (DataW.held c, ([] : List MemPlace)) = some y := hR
    simp at this
    rw [← this]
  rw [q2] at q1
  have q3 : c = v := by simpa using q1
  unfold encN at hv
  cases hn : S.nw (a : Int) with
  | none => rw [hn] at hv; cases hv
  | some b =>
    rw [hn] at hv
    have q4 : Value.agg (bvs b).toArray = v := by simpa using hv
    obtain ⟨i, e, l, s3, ea, eb⟩ := co.se.n2 a b hn
    obtain ⟨l1, l2, l3, l4, l5, l6, l7, l8⟩ := co.se.line i e l
    rw [ea] at l2 l3 l4 l7
    rw [eb] at l7
    exact ⟨a, b, rfl, e2, by rw [q3, q4], l2, l3, l4, l7⟩
set_option maxRecDepth 100000 in
set_option maxHeartbeats 4000000 in
theorem udataG (h : Bu x g F N S) (co : Cg S f) : Calls Tryz.prog 27 #[.pointer (some ⟨g.p, 0, none⟩)] x fun e w' => e = .returned (.slice (some ⟨x.heap.size, 0, none⟩) S.len S.len) ∧ CellsAt S.len w' x.heap.size (fun o => .int .u8 (f o)) ∧ Below x.heap.size x w' ∧ OwnG S.len w' x.heap.size x.heap.size := by
  obtain ⟨V, kn, ka, k, -⟩ := h
  have hl4 := co.len.1
  have hl16 := co.len.2
  obtain ⟨len, hlen⟩ : ∃ len, S.len = len := ⟨_, rfl⟩
  rw [hlen] at hl4 hl16 ⊢
  have hmc : len ≤ g.mc ∧ g.mc ≤ 9223372036854775807 := by rw [← hlen]; exact ⟨k.rm.2.1, k.rm.2.2.2⟩
  have p2 : x.cell? ⟨g.p, 2, none⟩ = some (.slice (some ⟨g.mb, 0, none⟩) len g.mc) := by rw [← hlen]; exact k.c.cell 2 (by decide)
  have hp := k.c.here
  have km := k.m
  rw [hlen] at km
  have HLEN := Hid.in hlen
  have HCP := Hid.in (copied_ownG ⟨g.mb, 0, none⟩ len g.mc S.mem x (hand_row km) hl4)
  have HK := Hid.in k
  have HCO := Hid.in co
  have hnbx : g.nb < x.heap.size := k.nw.here
  clear km k co hlen
  go_enter Tryz.func27, Tryz.ntmps27
  go_upto_region 2 with (go_at_call 54; refine HCP.out.mono ?_; rintro e y ⟨rfl, hb, hcm, how⟩; have HB := Hid.in hb; have HCM := Hid.in hcm; have HOW := Hid.in how; clear hb hcm how)
  have kY := HK.out.below HB.out
  obtain ⟨D, hown, hHas⟩ := kY.nw
  have y3 : y.cell? ⟨g.p, 3, none⟩ = some (.map (some g.nb)) := kY.c.cell 3 (by decide)
  have yh := kY.c.here
  have HHAS := Hid.in hHas
  clear p2 hp kY hHas
  have HOWN := Hid.in hown
  obtain ⟨ys, hys⟩ : ∃ ys, y.heap.size = ys := ⟨_, rfl⟩
  have HYS := Hid.in hys
  clear hown
  go_wp2_with (first
    | (at_range; refine wpList_range_own _ rfl _ 149 rfl 43 166 (Maps.int_keyed Tryz.underlying43) Tryz.underlying149 _ g.nb kn D rfl HOWN.out ?_; intro w0 hrg0 hg0 hs0; have HRG0 := Hid.in hrg0; have HG0 := Hid.in hg0; have HS0 := Hid.in hs0; clear hrg0 hg0 hs0)
    | go_in)
  go_frame
  rw [hys]
  clear hys
  go_loopw [4] (fun _ wr => ∃ (left : Lit → Bool) (cnt : Nat), wr.ranges Tryz.prog 43 rdV g.nb ys kn D left cnt ∧ (∀ z, left z = true → Maps.has D z = true) ∧ DtG len wr x.heap.size left f ∧ Below x.heap.size x wr ∧ OwnG len wr x.heap.size x.heap.size) (fun _ wr => wr.rangeLeft g.nb ys)
  case atStart =>
    refine ⟨_, _, by rw [← HYS.out]; exact HRG0.out, fun _ q => q, ?_, HB.out.trans ((grown_below HG0.out).mono HB.out.size), HOW.out.turned (Turned.of_below (Q := fun _ => False) (grown_below HG0.out)) (fun q => q)⟩
    refine ⟨S.mem, HCM.out.below (grown_below HG0.out), fun o ho hf => ?_⟩
    rcases HCO.out.se.out o (by rw [HLEN.out]; exact ho) with q | ⟨i, e, l, q1, q2⟩
    · exact q
    · have h1 := HCO.out.se.n1 i e l q1
      have l4 := (HCO.out.se.line i e l).2.2.2.1
      rw [HLEN.out] at l4
      have h2 := (HHAS.out (e.a : Nat) (wf_u32 (by omega))).1
      rw [q2] at h1 h2
      have h3 : encN S.nw ((65536 + lineOf o : Nat) : Int) = some (.agg (bvs e.b).toArray) := by
        unfold encN
        rw [h1]
        rfl
      rw [h3, hf] at h2
      cases h2
  case round =>
    obtain ⟨left, cnt, hrg, hl, hdt, hbw, how⟩ := hrel
    have HOWR := Hid.in how
    clear how HOW
    have HRG := Hid.in hrg
    have HLF := Hid.in hl
    have HDT := Hid.in hdt
    have HBW := Hid.in hbw
    clear hrg hl hdt hbw HRG0 HG0 HS0
    go_wp2_with (first
      | (at_next; refine wpList_next_ranges _ rfl _ rfl 43 (Maps.int_keyed Tryz.underlying43) rdV (Value.int .u32) (fun v : Value => v) (fun key kl hkey => by obtain ⟨z, e1, _⟩ := Maps.keyOf_int_inv Tryz.underlying43 hkey; exact ⟨z, e1⟩) (fun v _ _ => ⟨v, rfl⟩) g.nb ys kn D left cnt rfl HRG.out ?_ ?_)
      | go_in)
    · intro _ hl0
      have HL0 := Hid.in hl0
      clear hl0
      go_wp2
      go_ret
      obtain ⟨dd, h1, h2⟩ := HDT.out
      refine ⟨rfl, ⟨h1.here, fun o ho => ?_, h1.free⟩, HBW.out, HOWR.out⟩
      rw [h1.cell o ho, h2 o ho (HL0.out _)]
    · intro xk c kl y1 y2 w1 cnt1 hkey hlk hR hat hrg1 hlt hg1 hs1 hen
      obtain ⟨a, b, rfl, rfl, rfl, a16, alo, ahi, hb⟩ := newer_ofG HCO.out HHAS.out xk c kl (y1, y2) hkey hR hat (HLF.out _ hlk)
      rw [HLEN.out] at ahi
      have HRG1 := Hid.in hrg1
      have HLT := Hid.in hlt
      have HG1 := Hid.in hg1
      have HAA := Hid.in (And.intro a16 (And.intro alo (And.intro ahi hb)))
      have hys : x.heap.size < ys := by rw [← HYS.out]; exact HCM.out.here
      have t1 : Turned (fun j => j = ys) wr w1 := ⟨hg1.os, hg1.tape, hg1.output, hg1.size, fun i hi hne => hg1.block i hi (fun e => hne (by simpa using e))⟩
      obtain ⟨X0, hX0⟩ : ∃ X0, w1.alloc (.cells z16 166) = X0 := ⟨_, rfl⟩
      have th0 : X0.there w1.heap.size 0 16 := by rw [← hX0]; exact there_arr w1 _
      obtain ⟨X, hX⟩ : ∃ X, X0.setCells w1.heap.size 0 (bvs b) = X := ⟨_, rfl⟩
      have b0 : Below w1.heap.size w1 X0 := by rw [← hX0]; exact (Below.refl _ _).alloc (Nat.le_refl _) _
      have s0 : w1.heap.size < X0.heap.size := by rw [← hX0]; simp
      have tX : Turned (fun j => j = w1.heap.size) X0 X := by rw [← hX]; exact turned_setCells_bus _ _ _
      have bX : Below w1.heap.size w1 X := b0.trans (tX.below (Nat.le_of_lt s0) (fun j hj => by omega))
      have rX : X.rangeAt w1.heap.size 0 (bvs b) := by rw [← hX]; exact World.rangeAt_setCells_same _ _ _ _ (by rw [bvs_len]; exact th0)
      obtain ⟨dd, hdd, -⟩ := HDT.out
      have cX := ((t1.cells hdd (by omega)).below bX)
      have hcp := copy16 X.drew 3 x.heap.size (a - 65536) w1.heap.size 0 16 16 b 16 16 rfl ((World.rangeAt_drew _ _ _ _).2 rX) ((World.there_drew _ _ _ _).2 (there_row cX (by omega)))
      obtain ⟨Y, hY⟩ : ∃ Y, X.drew.setCells x.heap.size (a - 65536) (bvs b) = Y := ⟨_, rfl⟩
      rw [hY] at hcp
      have tY : Turned (fun j => j = x.heap.size) w1 Y := by
        rw [← hY]
        exact (Turned.of_below bX).drew.trans (turned_setCells_bus _ _ _)
      have bwr : x.heap.size ≤ wr.heap.size := HBW.out.size
      have HREL : Hid (Y.ranges Tryz.prog 43 rdV g.nb ys kn D (fun z => left z && !z.sameKey (.int .u32 (a : Int))) cnt1 ∧ (∀ z, (left z && !z.sameKey (.int .u32 (a : Int))) = true → Maps.has D z = true) ∧ DtG len Y x.heap.size (fun z => left z && !z.sameKey (.int .u32 (a : Int))) f ∧ Below x.heap.size x Y ∧ OwnG len Y x.heap.size x.heap.size) := by
        refine ⟨hrg1.kept (turned_grows tY) (by simp; omega) (by simp; omega), fun z hz => HLF.out z (by simp at hz; exact hz.1), ?_, ?_, ?_⟩
        · rw [← hY]
          have tw : Turned (fun j => j ≠ x.heap.size) wr X.drew := ((t1.mono (fun j hj => by omega)).trans (Turned.of_below bX)).drew
          exact dt_nextG HDT.out tw a b a16 alo ahi hl16 hb
        · exact (HBW.out.trans (t1.below bwr (fun j hj => by omega))).trans (tY.below (by have := t1.size; omega) (fun j hj => by omega))
        · rw [← hY]
          exact OwnG.set _ _ _ ((HOWR.out.turned ((t1.mono (R := fun j => j ≠ x.heap.size) (fun j hj => by omega)).trans (Turned.of_below bX)).drew (fun q => q rfl)))
      have HLN : Hid (∀ z, Calls Tryz.prog 55 #[.slice (some ⟨x.heap.size, 0, none⟩) len len, .int .u32 a] z fun e w' => e = .returned (.slice (some ⟨x.heap.size, a - 65536, none⟩) 16 16) ∧ w' = z) := fun z => mline_any x.heap.size a len len z (by omega) a16 (by unfold hasB_bus; simp; omega) (by omega) (by omega) (Nat.le_refl _)
      unfold z16 at hX0
      have HX := Hid.in hX
      clear hs1 tY tX bX rX cX hdd b0 s0 t1 hg1 hrg1 hlt hkey hlk hR hat a16 alo ahi hb hY hX
      go_upto_region 5 with (first
        | (rw [hX0]; refine st_arr w1.heap.size 0 b th0 rfl rfl _ _ rfl rfl rfl ?_)
        | (refine st_arr w1.heap.size 0 b th0 rfl rfl _ _ rfl rfl rfl ?_)
        | go_in)
      try rw [hX0]
      rw [HX.out]
      clear hX0 th0
      go_region_with (go_at_call 55; refine (HLN.out _).mono ?_; rintro e y' ⟨rfl, hy⟩; have hy2 := hy.symm; clear hy; subst hy2)
      all_goals
        go_wp2
        go_roundw
        case rel => exact ⟨_, _, HREL.out⟩
        case measure => rw [HREL.out.1.left_eq, HRG.out.left_eq]; exact HLT.out
end
end Go.Proofs.YtemamhkhjijdlaaGreatDoor
