/-
  BUS' LAW BusCoheres: what lasts, plainly: lines of a cache as a set.
-/
import Derived.Test.YtbbaopldebdoiaaBue
namespace Go.Proofs.Ytbbaopldebdoiaa
open Go Go.RowKit
/-- a cache whose lines stand in their sets, each once -/
structure Stc (T : CS) : Prop where
  n : 1 ≤ T.n
  ways : 1 ≤ T.ways
  at' : ∀ q, q < T.n → ∀ e ∈ T.set q, T.of e.a = q ∧ e.a % 16 = 0
  one : ∀ q, q < T.n → Apart (T.set q)
def CS.L (T : CS) (e : Ln) : Prop := ∃ q, q < T.n ∧ e ∈ T.set q
theorem apart_uni {l : List Ln} (h : Apart l) {e e' : Ln} (a : e ∈ l) (b : e' ∈ l) (q : e.a = e'.a) : e = e' := by
  induction l with
  | nil => cases a
  | cons x l ih =>
    obtain ⟨h1, h2⟩ := List.pairwise_cons.1 h
    rcases List.mem_cons.1 a with a | a <;> rcases List.mem_cons.1 b with b | b
    · rw [a, b]
    · exact absurd (by rw [← a]; exact q) (h1 e' b)
    · exact absurd (by rw [← b]; exact q.symm) (h1 e a)
    · exact ih h2 a b
theorem Stc.uni {T : CS} (h : Stc T) {e e' : Ln} (a : T.L e) (b : T.L e') (q : e.a = e'.a) : e = e' := by
  obtain ⟨x, hx, mx⟩ := a
  obtain ⟨y, hy, my⟩ := b
  have e1 := (h.at' x hx e mx).1
  have e2 := (h.at' y hy e' my).1
  rw [q, e2] at e1
  subst e1
  exact apart_uni (h.one _ hy) mx my q
theorem Stc.put {T : CS} (h : Stc T) (q : Nat) (hq : q < T.n) (l : List Ln) (hl : ∀ e ∈ l, T.of e.a = q ∧ e.a % 16 = 0) (hp : Apart l) : Stc (T.put q l) ∧ ∀ e, (T.put q l).L e ↔ (e ∈ l ∨ (T.L e ∧ T.of e.a ≠ q)) := by
  have hs : ∀ j, (T.put q l).set j = if j = q then l else T.set j := fun j => by
    show upd T.set q l j = _
    by_cases e : j = q
    · rw [if_pos e, e, upd_same]
    · rw [if_neg e, upd_other _ _ _ _ e]
  refine ⟨⟨h.n, h.ways, fun j hj e he => ?_, fun j hj => ?_⟩, fun e => ⟨?_, ?_⟩⟩
  · rw [hs] at he
    by_cases x : j = q
    · rw [if_pos x] at he
      rw [x]
      exact hl e he
    · rw [if_neg x] at he
      exact h.at' j hj e he
  · rw [hs]
    by_cases x : j = q
    · rw [if_pos x]; exact hp
    · rw [if_neg x]; exact h.one j hj
  · rintro ⟨j, hj, he⟩
    rw [hs] at he
    by_cases x : j = q
    · rw [if_pos x] at he; exact Or.inl he
    · rw [if_neg x] at he
      exact Or.inr ⟨⟨j, hj, he⟩, by rw [(h.at' j hj e he).1]; exact x⟩
  · rintro (he | ⟨⟨j, hj, he⟩, x⟩)
    · exact ⟨q, hq, by rw [hs, if_pos rfl]; exact he⟩
    · rw [(h.at' j hj e he).1] at x
      exact ⟨j, hj, by rw [hs, if_neg x]; exact he⟩
theorem Stc.L_of {T : CS} (h : Stc T) {q : Nat} (hq : q < T.n) (e : Ln) : e ∈ T.set q ↔ (T.L e ∧ T.of e.a = q) :=
  ⟨fun he => ⟨⟨q, hq, he⟩, (h.at' q hq e he).1⟩, fun ⟨⟨j, hj, he⟩, x⟩ => by rw [(h.at' j hj e he).1] at x; rw [← x]; exact he⟩
theorem rest_iff {l : List Ln} (h : Apart l) {k : Nat} (hk : k < l.length) (e : Ln) : e ∈ rest l k ↔ (e ∈ l ∧ e.a ≠ (l.getD k l0).a) := by
  constructor
  · intro he
    exact ⟨mem_rest l k e he, (apart_rest l k hk h).2 e he⟩
  · rintro ⟨he, hn⟩
    rcases mem_split l k e hk he with q | q
    · exact q
    · exact absurd (by rw [q]) hn
theorem Stc.rem {T : CS} (h : Stc T) (q k : Nat) (hq : q < T.n) (hk : k < (T.set q).length) : Stc (T.put q (rest (T.set q) k)) ∧ ∀ e, (T.put q (rest (T.set q) k)).L e ↔ (T.L e ∧ e.a ≠ ((T.set q).getD k l0).a) := by
  have hr := rest_iff (h.one q hq) hk
  obtain ⟨a, b⟩ := h.put q hq (rest (T.set q) k) (fun e he => h.at' q hq e ((hr e).1 he).1) (apart_rest _ k hk (h.one q hq)).1
  refine ⟨a, fun e => ?_⟩
  rw [b e, hr e, h.L_of hq]
  have g := (h.L_of hq ((T.set q).getD k l0)).1 (getD_mem _ k hk)
  constructor
  · rintro (⟨⟨x, y⟩, z⟩ | ⟨x, y⟩)
    · exact ⟨x, z⟩
    · exact ⟨x, fun e' => y (by rw [e']; exact g.2)⟩
  · rintro ⟨x, y⟩
    by_cases z : T.of e.a = q
    · exact Or.inl ⟨⟨x, z⟩, y⟩
    · exact Or.inr ⟨x, z⟩
theorem Stc.wrote {T : CS} (h : Stc T) (q k : Nat) (hq : q < T.n) (hk : k < (T.set q).length) (x : Ln) (hx : x.a = ((T.set q).getD k l0).a) : Stc (T.put q (rest (T.set q) k ++ [x])) ∧ ∀ e, (T.put q (rest (T.set q) k ++ [x])).L e ↔ ((T.L e ∧ e.a ≠ x.a) ∨ e = x) := by
  have hr := rest_iff (h.one q hq) hk
  have g := (h.L_of hq ((T.set q).getD k l0)).1 (getD_mem _ k hk)
  have g2 := h.at' q hq _ (getD_mem _ k hk)
  have ap := apart_rest _ k hk (h.one q hq)
  obtain ⟨a, b⟩ := h.put q hq (rest (T.set q) k ++ [x]) (fun e he => by
    rcases List.mem_append.1 he with he | he
    · exact h.at' q hq e ((hr e).1 he).1
    · rw [List.mem_singleton.1 he, hx]
      exact g2) (List.pairwise_append.2 ⟨ap.1, List.pairwise_singleton _ _, fun e he y hy => by
      rw [List.mem_singleton.1 hy, hx]
      exact ap.2 e he⟩)
  refine ⟨a, fun e => ?_⟩
  rw [b e, List.mem_append, hr e, List.mem_singleton, h.L_of hq, hx]
  constructor
  · rintro ((⟨⟨u, y⟩, z⟩ | u) | ⟨u, y⟩)
    · exact Or.inl ⟨u, z⟩
    · exact Or.inr u
    · exact Or.inl ⟨u, fun e' => y (by rw [e']; exact g.2)⟩
  · rintro (⟨u, y⟩ | u)
    · by_cases z : T.of e.a = q
      · exact Or.inl (Or.inl ⟨⟨u, z⟩, y⟩)
      · exact Or.inr ⟨u, z⟩
    · exact Or.inl (Or.inr u)
theorem Stc.used {T : CS} (h : Stc T) (q k : Nat) (hq : q < T.n) (hk : k < (T.set q).length) : Stc (T.used q k) ∧ ∀ e, (T.used q k).L e ↔ T.L e := by
  have g := (h.L_of hq ((T.set q).getD k l0)).1 (getD_mem _ k hk)
  obtain ⟨a, b⟩ := h.wrote q k hq hk ((T.set q).getD k l0) rfl
  refine ⟨a, fun e => (b e).trans ⟨?_, fun u => ?_⟩⟩
  · rintro (u | u)
    · exact u.1
    · rw [u]; exact g.1
  · by_cases z : e.a = ((T.set q).getD k l0).a
    · exact Or.inr (h.uni u g.1 z)
    · exact Or.inl ⟨u, z⟩
theorem mem_setL (l : List Ln) (k : Nat) (hk : k < l.length) (x e : Ln) : e ∈ l.set k x ↔ (e ∈ rest l k ∨ e = x) := by
  have : l.set k x = l.take k ++ x :: l.drop (k + 1) := List.set_eq_take_append_cons_drop .. |>.trans (by rw [if_pos hk])
  rw [this, List.mem_append, List.mem_cons]
  show _ ↔ (e ∈ l.take k ++ l.drop (k + 1) ∨ _)
  rw [List.mem_append]
  constructor
  · rintro (u | u | u)
    · exact Or.inl (Or.inl u)
    · exact Or.inr u
    · exact Or.inl (Or.inr u)
  · rintro ((u | u) | u)
    · exact Or.inl u
    · exact Or.inr (Or.inr u)
    · exact Or.inr (Or.inl u)
theorem apart_setL (l : List Ln) (k : Nat) (hk : k < l.length) (x : Ln) (hx : x.a = (l.getD k l0).a) (h : Apart l) : Apart (l.set k x) := by
  have : l.set k x = l.take k ++ x :: l.drop (k + 1) := List.set_eq_take_append_cons_drop .. |>.trans (by rw [if_pos hk])
  rw [this]
  have h2 : Apart (l.take k ++ l.getD k l0 :: l.drop (k + 1)) := by rw [← cut_at l k hk]; exact h
  obtain ⟨a1, a2, a3⟩ := List.pairwise_append.1 h2
  obtain ⟨b1, b2⟩ := List.pairwise_cons.1 a2
  refine List.pairwise_append.2 ⟨a1, List.pairwise_cons.2 ⟨fun y hy => by rw [hx]; exact b1 y hy, b2⟩, fun y hy z hz => ?_⟩
  rcases List.mem_cons.1 hz with hz | hz
  · rw [hz, hx]; exact a3 y hy _ List.mem_cons_self
  · exact a3 y hy z (List.mem_cons_of_mem _ hz)
theorem Stc.low {T : CS} (h : Stc T) (q k : Nat) (hq : q < T.n) (hk : k < (T.set q).length) (x : Ln) (hx : x.a = ((T.set q).getD k l0).a) : Stc (T.put q ((T.set q).set k x)) ∧ ∀ e, (T.put q ((T.set q).set k x)).L e ↔ ((T.L e ∧ e.a ≠ x.a) ∨ e = x) := by
  have hr := rest_iff (h.one q hq) hk
  have hm := mem_setL (T.set q) k hk x
  have g := (h.L_of hq ((T.set q).getD k l0)).1 (getD_mem _ k hk)
  have g2 := h.at' q hq _ (getD_mem _ k hk)
  obtain ⟨a, b⟩ := h.put q hq ((T.set q).set k x) (fun e he => by
    rcases (hm e).1 he with he | he
    · exact h.at' q hq e ((hr e).1 he).1
    · rw [he, hx]
      exact g2) (apart_setL _ k hk x hx (h.one q hq))
  refine ⟨a, fun e => ?_⟩
  rw [b e, hm e, hr e, h.L_of hq, hx]
  constructor
  · rintro ((⟨⟨u, y⟩, z⟩ | u) | ⟨u, y⟩)
    · exact Or.inl ⟨u, z⟩
    · exact Or.inr u
    · exact Or.inl ⟨u, fun e' => y (by rw [e']; exact g.2)⟩
  · rintro (⟨u, y⟩ | u)
    · by_cases z : T.of e.a = q
      · exact Or.inl (Or.inl ⟨⟨u, z⟩, y⟩)
      · exact Or.inr ⟨u, z⟩
    · exact Or.inl (Or.inr u)
theorem lineOf_self {a : Nat} (h : a % 16 = 0) : lineOf a = a := by unfold lineOf; omega
theorem Stc.no {T : CS} (h : Stc T) (a : Nat) : No (T.set (T.of a)) a ↔ ∀ e, T.L e → e.a ≠ lineOf a := by
  have hq : T.of a < T.n := T.of_lt a h.n
  constructor
  · intro hn e he q
    refine no_mem hn e ((h.L_of hq e).2 ⟨he, ?_⟩) q
    rw [q, of_lineOf]
  · intro hn
    exact no_of fun e he => hn e ((h.L_of hq e).1 he).1
theorem Stc.has {T : CS} (h : Stc T) (a : Nat) {i : Nat} (hA : At (T.set (T.of a)) a i) : T.L ((T.set (T.of a)).getD i l0) ∧ ((T.set (T.of a)).getD i l0).a = lineOf a :=
  ⟨((h.L_of (T.of_lt a h.n) _).1 (at_mem hA).1).1, (at_mem hA).2⟩
theorem Stc.find {T : CS} (h : Stc T) (a : Nat) {e : Ln} (he : T.L e) (hea : e.a = lineOf a) : ∃ i, At (T.set (T.of a)) a i ∧ (T.set (T.of a)).getD i l0 = e := by
  rcases at_or_no (T.set (T.of a)) a with ⟨i, hi⟩ | hn
  · obtain ⟨u, v⟩ := h.has a hi
    exact ⟨i, hi, h.uni u he (by rw [v, hea])⟩
  · exact absurd hea ((h.no a).1 hn e he)
/-- a line's state -/
theorem Stc.st_is {T : CS} (h : Stc T) (a : Nat) {e : Ln} (he : T.L e) (hea : e.a = lineOf a) : T.st a = e.s := by
  obtain ⟨i, hi, rfl⟩ := h.find a he hea
  exact CS.st_at hi
theorem Stc.st_zero {T : CS} (h : Stc T) (a : Nat) (hn : ∀ e, T.L e → e.a ≠ lineOf a) : T.st a = 0 := CS.st_no ((h.no a).2 hn)
theorem Stc.st_some {T : CS} (h : Stc T) (a : Nat) (hs : T.st a ≠ 0) : ∃ i, At (T.set (T.of a)) a i ∧ T.L ((T.set (T.of a)).getD i l0) ∧ ((T.set (T.of a)).getD i l0).a = lineOf a ∧ T.st a = ((T.set (T.of a)).getD i l0).s := by
  rcases at_or_no (T.set (T.of a)) a with ⟨i, hi⟩ | hn
  · exact ⟨i, hi, (h.has a hi).1, (h.has a hi).2, CS.st_at hi⟩
  · exact absurd (CS.st_no hn) hs
theorem Stc.fill {T : CS} (h : Stc T) (a s : Nat) (b : Nat → Nat) (h16 : a % 16 = 0) (hN : No (T.set (T.of a)) a) : (Stc (T.fill a s b) ∧ ∀ e, (T.fill a s b).L e ↔ ((T.L e ∧ (T.full a = true → e.a ≠ (T.left a).a)) ∨ e = ⟨a, s, b⟩)) ∧ (T.full a = true → T.L (T.left a)) := by
  have hq : T.of a < T.n := T.of_lt a h.n
  have hno : ∀ e ∈ T.set (T.of a), e.a ≠ a := fun e he => by rw [← lineOf_self h16]; exact no_mem hN e he
  have hk : ∀ e, e ∈ T.kept a ↔ (e ∈ T.set (T.of a) ∧ (T.full a = true → e.a ≠ (T.left a).a)) := by
    intro e
    unfold CS.kept CS.left
    cases hf : T.full a
    · simp
    · have hlen : 0 < (T.set (T.of a)).length := by
        have := h.ways
        unfold CS.full at hf
        have := of_decide_eq_true hf
        omega
      simp only [if_pos]
      rw [rest_iff (h.one _ hq) hlen e]
      simp
  have hap : Apart (T.kept a) := by
    unfold CS.kept
    cases hf : T.full a
    · simpa using h.one _ hq
    · have hlen : 0 < (T.set (T.of a)).length := by
        have := h.ways
        unfold CS.full at hf
        have := of_decide_eq_true hf
        omega
      simpa using (apart_rest _ 0 hlen (h.one _ hq)).1
  refine ⟨?_, fun hf => ?_⟩
  · obtain ⟨x, y⟩ := h.put (T.of a) hq (T.kept a ++ [⟨a, s, b⟩]) (fun e he => by
      rcases List.mem_append.1 he with he | he
      · exact h.at' _ hq e ((hk e).1 he).1
      · rw [List.mem_singleton.1 he]
        exact ⟨rfl, h16⟩) (List.pairwise_append.2 ⟨hap, List.pairwise_singleton _ _, fun e he z hz => by
        rw [List.mem_singleton.1 hz]
        exact hno e ((hk e).1 he).1⟩)
    refine ⟨x, fun e => (y e).trans ?_⟩
    rw [List.mem_append, hk e, List.mem_singleton, h.L_of hq]
    constructor
    · rintro ((⟨⟨u, v⟩, z⟩ | u) | ⟨u, v⟩)
      · exact Or.inl ⟨u, z⟩
      · exact Or.inr u
      · refine Or.inl ⟨u, fun hf e' => v ?_⟩
        have hlen : 0 < (T.set (T.of a)).length := by
          have := h.ways
          unfold CS.full at hf
          have := of_decide_eq_true hf
          omega
        rw [e']
        unfold CS.left
        rw [if_pos hf]
        exact (h.at' _ hq _ (getD_mem _ 0 hlen)).1
    · rintro (⟨u, v⟩ | u)
      · by_cases z : T.of e.a = T.of a
        · exact Or.inl (Or.inl ⟨⟨u, z⟩, v⟩)
        · exact Or.inr ⟨u, z⟩
      · exact Or.inl (Or.inr u)
  · have hlen : 0 < (T.set (T.of a)).length := by
      have := h.ways
      have h2 := hf
      unfold CS.full at h2
      have := of_decide_eq_true h2
      omega
    unfold CS.left
    rw [if_pos hf]
    exact ((h.L_of hq _).1 (getD_mem _ 0 hlen)).1
end Go.Proofs.Ytbbaopldebdoiaa
