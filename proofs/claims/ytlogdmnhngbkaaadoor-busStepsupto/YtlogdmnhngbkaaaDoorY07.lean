import Derived.Test.YtlogdmnhngbkaaaDoorY05
import Derived.Test.YtlogdmnhngbkaaaDoorY06
/-
  CACHE's LAW CacheMemory: what lasts, in plain numbers.
-/
namespace Go.Proofs.YtlogdmnhngbkaaaDoor
open Go Go.RowKit
theorem cut_at (l : List Ln) (k : Nat) (h : k < l.length) : l = l.take k ++ l.getD k l0 :: l.drop (k + 1) := by
  have e : l.drop k = l.getD k l0 :: l.drop (k + 1) := by
    rw [List.drop_eq_getElem_cons h, List.getD_eq_getElem?_getD, List.getElem?_eq_getElem h]
    rfl
  rw [← e, List.take_append_drop]
theorem getD_mem (l : List Ln) (k : Nat) (h : k < l.length) : l.getD k l0 ∈ l := by
  rw [List.getD_eq_getElem?_getD, List.getElem?_eq_getElem h]
  exact List.getElem_mem h
theorem mem_rest (l : List Ln) (k : Nat) (e : Ln) (h : e ∈ rest l k) : e ∈ l := by
  rcases List.mem_append.1 h with h | h
  · exact List.mem_of_mem_take h
  · exact List.mem_of_mem_drop h
theorem mem_split (l : List Ln) (k : Nat) (e : Ln) (hk : k < l.length) (h : e ∈ l) : e ∈ rest l k ∨ e = l.getD k l0 := by
  rw [cut_at l k hk] at h
  rcases List.mem_append.1 h with h | h
  · exact Or.inl (List.mem_append.2 (Or.inl h))
  · rcases List.mem_cons.1 h with h | h
    · exact Or.inr h
    · exact Or.inl (List.mem_append.2 (Or.inr h))
abbrev Apart (l : List Ln) : Prop := l.Pairwise (fun x y => x.a ≠ y.a)
theorem apart_rest (l : List Ln) (k : Nat) (hk : k < l.length) (h : Apart l) : Apart (rest l k) ∧ ∀ e ∈ rest l k, e.a ≠ (l.getD k l0).a := by
  have h2 : Apart (l.take k ++ l.getD k l0 :: l.drop (k + 1)) := by rw [← cut_at l k hk]; exact h
  obtain ⟨a1, a2, a3⟩ := List.pairwise_append.1 h2
  obtain ⟨b1, b2⟩ := List.pairwise_cons.1 a2
  refine ⟨List.pairwise_append.2 ⟨a1, b2, fun x hx y hy => a3 x hx y (List.mem_cons_of_mem _ hy)⟩, fun e he => ?_⟩
  rcases List.mem_append.1 he with he | he
  · exact a3 e he _ List.mem_cons_self
  · exact (b1 e he).symm
theorem at_mem {l : List Ln} {a i : Nat} (h : At l a i) : l.getD i l0 ∈ l ∧ (l.getD i l0).a = lineOf a := ⟨getD_mem l i h.1, h.2.1⟩
theorem no_mem {l : List Ln} {a : Nat} (h : No l a) : ∀ e ∈ l, e.a ≠ lineOf a := by
  intro e he
  obtain ⟨j, hj, rfl⟩ := List.getElem_of_mem he
  have := h j hj
  rwa [List.getD_eq_getElem?_getD, List.getElem?_eq_getElem hj] at this
theorem no_of {l : List Ln} {a : Nat} (h : ∀ e ∈ l, e.a ≠ lineOf a) : No l a := fun j hj => h _ (getD_mem l j hj)
/-- memory behind a cache: what it should read as (f), what is written (m) -/
structure Inv (S : CS) (f m : Nat → Nat) : Prop where
  n : 1 ≤ S.n
  ways : 1 ≤ S.ways
  line : ∀ i, i < S.n → ∀ e ∈ S.set i, e.a % 16 = 0 ∧ e.a < 1024 ∧ S.of e.a = i ∧ (e.s = 2 ∨ e.s = 3) ∧ (∀ t, t < 16 → e.b t = f (e.a + t)) ∧ (e.s = 2 → ∀ t, t < 16 → m (e.a + t) = f (e.a + t))
  one : ∀ i, i < S.n → Apart (S.set i)
  out : ∀ x, x < 1024 → (∀ e ∈ S.set (S.of x), e.a ≠ lineOf x) → m x = f x
  fb : ∀ x, f x < 256
  mb : ∀ x, m x < 256
theorem of_line (S : CS) (x a : Nat) (h : lineOf x = lineOf a) : S.of x = S.of a := by
  unfold lineOf at h
  unfold CS.of
  have : x / 16 = a / 16 := by omega
  rw [this]
theorem of_lineOf (S : CS) (a : Nat) : S.of (lineOf a) = S.of a := of_line S _ _ (by unfold lineOf; omega)
theorem Inv.perm {S : CS} {f m : Nat → Nat} (h : Inv S f m) (i : Nat) (l : List Ln) (hl : ∀ e, e ∈ l ↔ e ∈ S.set i) (hp : Apart l) : Inv (S.put i l) f m := by
  have mem : ∀ j e, e ∈ (S.put i l).set j ↔ e ∈ S.set j := by
    intro j e
    show e ∈ upd S.set i l j ↔ _
    by_cases q : j = i
    · subst q
      rw [upd_same]
      exact hl e
    · rw [upd_other _ _ _ _ q]
  refine ⟨h.n, h.ways, fun j hj e he => h.line j hj e ((mem j e).1 he), fun j hj => ?_, fun x hx hn => h.out x hx (fun e he => hn e ((mem _ e).2 he)), h.fb, h.mb⟩
  show Apart (upd S.set i l j)
  by_cases q : j = i
  · subst q
    rw [upd_same]
    exact hp
  · rw [upd_other _ _ _ _ q]
    exact h.one j hj
theorem Inv.used {S : CS} {f m : Nat → Nat} (h : Inv S f m) (i k : Nat) (hi : i < S.n) (hk : k < (S.set i).length) : Inv (S.used i k) f m := by
  obtain ⟨a1, a2⟩ := apart_rest _ k hk (h.one i hi)
  refine h.perm i _ (fun e => ⟨fun he => ?_, fun he => ?_⟩) (List.pairwise_append.2 ⟨a1, List.pairwise_singleton _ _, fun x hx y hy => ?_⟩)
  · rcases List.mem_append.1 he with he | he
    · exact mem_rest _ _ _ he
    · rw [List.mem_singleton.1 he]
      exact getD_mem _ _ hk
  · rcases mem_split _ k e hk he with he | he
    · exact List.mem_append.2 (Or.inl he)
    · exact List.mem_append.2 (Or.inr (by rw [he]; exact List.mem_singleton.2 rfl))
  · rw [List.mem_singleton.1 hy]
    exact a2 x hx
theorem putN_a (e : Ln) (q d : Nat) : ∀ z, (e.putN q d z).a = e.a ∧ (e.putN q d z).s = e.s
  | 0 => ⟨rfl, rfl⟩
  | z + 1 => putN_a e q d z
theorem putN_b (e : Ln) (q d : Nat) : ∀ z t, (e.putN q d z).b t = if q ≤ t ∧ t < q + z then d / 256 ^ (t - q) % 256 else e.b t
  | 0, t => by rw [if_neg (by omega)]; rfl
  | z + 1, t => by
    show upd (e.putN q d z).b (q + z) (d / 256 ^ z % 256) t = _
    by_cases h : t = q + z
    · subst h
      rw [upd_same, if_pos (by omega), Nat.add_sub_cancel_left]
    · rw [upd_other _ _ _ _ h, putN_b e q d z t]
      by_cases h2 : q ≤ t ∧ t < q + z
      · rw [if_pos h2, if_pos (by omega)]
      · rw [if_neg h2, if_neg (by omega)]
def written (f : Nat → Nat) (a z d : Nat) : Nat → Nat := fun x => if a ≤ x ∧ x < a + z then d / 256 ^ (x - a) % 256 else f x
theorem Inv.wrote {S : CS} {f m : Nat → Nat} (h : Inv S f m) (a z d k : Nat) (hz : a % 16 + z ≤ 16) (hA : At (S.set (S.of a)) a k) : Inv (S.wrote (S.of a) k (a % 16) d z) (written f a z d) m := by
  obtain ⟨r, hr⟩ : ∃ r, S.of a = r := ⟨_, rfl⟩
  have hO := S.of_lt a h.n
  obtain ⟨m1, m2⟩ := at_mem hA
  rw [hr] at hA m1 m2 hO ⊢
  obtain ⟨a1, a2⟩ := apart_rest _ k hA.1 (h.one r hO)
  obtain ⟨L, hL⟩ : ∃ L, (S.set r).getD k l0 = L := ⟨_, rfl⟩
  rw [hL] at m1 m2 a2
  have hset : (S.wrote r k (a % 16) d z).set = upd S.set r (rest (S.set r) k ++ [L.wr (a % 16) d z]) := by
    show upd S.set r (rest (S.set r) k ++ [((S.set r).getD k l0).wr (a % 16) d z]) = _
    rw [hL]
  have wa : (L.wr (a % 16) d z).a = lineOf a ∧ (L.wr (a % 16) d z).s = 3 := by
    obtain ⟨p1, p2⟩ := putN_a (L.setS 3) (a % 16) d z
    exact ⟨p1.trans m2, p2⟩
  have same : ∀ x, lineOf x ≠ lineOf a → written f a z d x = f x := by
    intro x hx
    unfold written
    rw [if_neg]
    intro q
    apply hx
    unfold lineOf
    omega
  have other : ∀ e : Ln, e.a % 16 = 0 → e.a ≠ lineOf a → ∀ t, t < 16 → written f a z d (e.a + t) = f (e.a + t) := by
    intro e he hne t ht
    refine same _ (fun q => hne ?_)
    rw [← q]
    unfold lineOf
    omega
  have old : ∀ i, i < S.n → ∀ e ∈ S.set i, e.a ≠ lineOf a → e.a % 16 = 0 ∧ e.a < 1024 ∧ S.of e.a = i ∧ (e.s = 2 ∨ e.s = 3) ∧ (∀ t, t < 16 → e.b t = written f a z d (e.a + t)) ∧ (e.s = 2 → ∀ t, t < 16 → m (e.a + t) = written f a z d (e.a + t)) := by
    intro i hi e he hne
    obtain ⟨b1, b2, b3, b4, b5, b6⟩ := h.line i hi e he
    exact ⟨b1, b2, b3, b4, fun t ht => by rw [other e b1 hne t ht]; exact b5 t ht, fun hs t ht => by rw [other e b1 hne t ht]; exact b6 hs t ht⟩
  obtain ⟨c1, c2, c3, -, c5, -⟩ := h.line r hO L m1
  refine ⟨h.n, h.ways, fun i hi e he => ?_, fun i hi => ?_, fun x hx hn => ?_, fun x => ?_, h.mb⟩
  · rw [hset] at he
    by_cases q : i = r
    · subst q
      rw [upd_same] at he
      rcases List.mem_append.1 he with he | he
      · exact old i hi e (mem_rest _ _ _ he) (fun e2 => a2 e he (e2.trans m2.symm))
      · obtain rfl := List.mem_singleton.1 he
        refine ⟨by rw [wa.1, ← m2]; exact c1, by rw [wa.1, ← m2]; exact c2, ?_, Or.inr wa.2, fun t ht => ?_, fun hs => ?_⟩
        · rw [wa.1, ← m2]
          exact c3
        · rw [wa.1]
          show ((L.setS 3).putN (a % 16) d z).b t = _
          rw [putN_b]
          unfold written
          by_cases q : a % 16 ≤ t ∧ t < a % 16 + z
          · have e1 : lineOf a + t - a = t - a % 16 := by unfold lineOf; omega
            rw [if_pos q, if_pos (by unfold lineOf; omega), e1]
          · rw [if_neg q, if_neg (by unfold lineOf; omega), ← m2]
            exact c5 t ht
        · rw [wa.2] at hs
          omega
    · rw [upd_other _ _ _ _ q] at he
      refine old i hi e he (fun e2 => q ?_)
      have := (h.line i hi e he).2.2.1
      rw [← this, e2, of_lineOf, hr]
  · show Apart ((S.wrote r k (a % 16) d z).set i)
    rw [hset]
    by_cases q : i = r
    · subst q
      rw [upd_same]
      refine List.pairwise_append.2 ⟨a1, List.pairwise_singleton _ _, fun x hx y hy => ?_⟩
      rw [List.mem_singleton.1 hy, wa.1, ← m2]
      exact a2 x hx
    · rw [upd_other _ _ _ _ q]
      exact h.one i hi
  · have hn' : ∀ e ∈ upd S.set r (rest (S.set r) k ++ [L.wr (a % 16) d z]) (S.of x), e.a ≠ lineOf x := by
      rw [← hset]
      exact hn
    have hne : lineOf x ≠ lineOf a := by
      intro q
      have e1 : S.of x = r := (of_line S _ _ q).trans hr
      rw [e1, upd_same] at hn'
      exact hn' _ (List.mem_append.2 (Or.inr (List.mem_singleton.2 rfl))) (wa.1.trans q.symm)
    rw [same x hne]
    refine h.out x hx (fun e he => ?_)
    by_cases q : S.of x = r
    · rw [q] at he
      rw [q, upd_same] at hn'
      rcases mem_split _ k e hA.1 he with he | he
      · exact hn' e (List.mem_append.2 (Or.inl he))
      · rw [he, hL, m2]
        exact fun e => hne e.symm
    · rw [upd_other _ _ _ _ q] at hn'
      exact hn' e he
  · unfold written
    split
    · omega
    · exact h.fb x
def back (m : Nat → Nat) (e : Ln) : Nat → Nat := fun x => if e.s = 3 ∧ e.a ≤ x ∧ x < e.a + 16 then e.b (x - e.a) else m x
theorem Inv.fill {S : CS} {f m : Nat → Nat} (h : Inv S f m) (a : Nat) (h16 : a % 16 = 0) (ha : a < 1024) (hN : No (S.set (S.of a)) a) : Inv (S.fill a 2 (fun t => m (a + t))) f (back m (S.left a)) ∧ (S.full a = true → S.left a ∈ S.set (S.of a)) ∧ (S.full a = false → S.left a = l0) := by
  have hla : lineOf a = a := by unfold lineOf; omega
  have hno := no_mem hN
  rw [hla] at hno
  obtain ⟨r, hr⟩ : ∃ r, S.of a = r := ⟨_, rfl⟩
  have hO := S.of_lt a h.n
  have hlen : S.full a = true → 0 < (S.set (S.of a)).length := by
    intro q
    have : (S.set (S.of a)).length = S.ways := by simpa [CS.full] using q
    have := h.ways
    omega
  have l1 : S.full a = true → S.left a = (S.set (S.of a)).getD 0 l0 := fun q => by simp [CS.left, q]
  have l2 : S.full a = false → S.left a = l0 := fun q => by simp [CS.left, q]
  have lm : S.full a = true → S.left a ∈ S.set (S.of a) := fun q => by rw [l1 q]; exact getD_mem _ _ (hlen q)
  refine ⟨?_, lm, l2⟩
  have km : ∀ e ∈ S.kept a, e ∈ S.set (S.of a) := by
    intro e he
    unfold CS.kept at he
    by_cases q : S.full a = true
    · rw [if_pos q] at he
      exact mem_rest _ _ _ he
    · rw [if_neg q] at he
      exact he
  have ka : Apart (S.kept a) := by
    unfold CS.kept
    by_cases q : S.full a = true
    · rw [if_pos q]
      exact (apart_rest _ 0 (hlen q) (h.one _ hO)).1
    · rw [if_neg q]
      exact h.one _ hO
  have left3 : (S.left a).s = 3 → S.left a ∈ S.set (S.of a) := by
    intro q
    by_cases q2 : S.full a = true
    · exact lm q2
    · rw [l2 (by simpa using q2)] at q
      exact absurd q (by decide)
  have either : ∀ x, back m (S.left a) x = m x ∨ back m (S.left a) x = f x := by
    intro x
    unfold back
    by_cases q : (S.left a).s = 3 ∧ (S.left a).a ≤ x ∧ x < (S.left a).a + 16
    · rw [if_pos q]
      right
      have := (h.line _ hO _ (left3 q.1)).2.2.2.2.1 (x - (S.left a).a) (by omega)
      rw [this]
      congr 1
      omega
    · rw [if_neg q]
      exact Or.inl rfl
  have good : ∀ x, m x = f x → back m (S.left a) x = f x := fun x q => (either x).elim (fun e => e.trans q) id
  have fresh : ∀ t, t < 16 → m (a + t) = f (a + t) := by
    intro t ht
    have e1 : lineOf (a + t) = a := by unfold lineOf; omega
    have e2 : S.of (a + t) = S.of a := of_line S _ _ (by rw [e1, hla])
    exact h.out _ (by omega) (by rw [e1, e2]; exact hno)
  have hset : (S.fill a 2 (fun t => m (a + t))).set = upd S.set r (S.kept a ++ [⟨a, 2, fun t => m (a + t)⟩]) := by
    show upd S.set (S.of a) _ = _
    rw [hr]
  have old : ∀ i, i < S.n → ∀ e ∈ S.set i, e.a % 16 = 0 ∧ e.a < 1024 ∧ S.of e.a = i ∧ (e.s = 2 ∨ e.s = 3) ∧ (∀ t, t < 16 → e.b t = f (e.a + t)) ∧ (e.s = 2 → ∀ t, t < 16 → back m (S.left a) (e.a + t) = f (e.a + t)) := by
    intro i hi e he
    obtain ⟨b1, b2, b3, b4, b5, b6⟩ := h.line i hi e he
    exact ⟨b1, b2, b3, b4, b5, fun hs t ht => good _ (b6 hs t ht)⟩
  rw [hr] at hO km hno lm left3 hlen l1
  refine ⟨h.n, h.ways, fun i hi e he => ?_, fun i hi => ?_, fun x hx hn => ?_, h.fb, fun x => ?_⟩
  · rw [hset] at he
    by_cases q : i = r
    · subst q
      rw [upd_same] at he
      rcases List.mem_append.1 he with he | he
      · exact old i hi e (km e he)
      · obtain rfl := List.mem_singleton.1 he
        exact ⟨h16, ha, hr, Or.inl rfl, fresh, fun _ t ht => good _ (fresh t ht)⟩
    · rw [upd_other _ _ _ _ q] at he
      exact old i hi e he
  · show Apart ((S.fill a 2 (fun t => m (a + t))).set i)
    rw [hset]
    by_cases q : i = r
    · subst q
      rw [upd_same]
      refine List.pairwise_append.2 ⟨ka, List.pairwise_singleton _ _, fun x hx y hy => ?_⟩
      rw [List.mem_singleton.1 hy]
      exact hno x (km x hx)
    · rw [upd_other _ _ _ _ q]
      exact h.one i hi
  · have hn' : ∀ e ∈ upd S.set r (S.kept a ++ [⟨a, 2, fun t => m (a + t)⟩]) (S.of x), e.a ≠ lineOf x := by
      rw [← hset]
      exact hn
    by_cases q : S.of x = r
    · rw [q, upd_same] at hn'
      by_cases q2 : ∀ e ∈ S.set r, e.a ≠ lineOf x
      · exact good x (h.out x hx (by rw [q]; exact q2))
      · obtain ⟨e, he1, he2⟩ : ∃ e, e ∈ S.set r ∧ e.a = lineOf x := by
          apply Classical.byContradiction
          intro q3
          exact q2 (fun e he e2 => q3 ⟨e, he, e2⟩)
        have hk : e ∉ S.kept a := fun he => hn' e (List.mem_append.2 (Or.inl he)) he2
        have hfu : S.full a = true := by
          by_cases q3 : S.full a = true
          · exact q3
          · exact absurd (by unfold CS.kept; rw [if_neg q3, hr]; exact he1) hk
        have hel : e = S.left a := by
          rcases mem_split _ 0 e (hlen hfu) he1 with q4 | q4
          · exact absurd (by unfold CS.kept; rw [if_pos hfu, hr]; exact q4) hk
          · rw [l1 hfu]
            exact q4
        subst hel
        obtain ⟨b1, b2, b3, b4, b5, b6⟩ := h.line r hO _ he1
        have hxr : (S.left a).a ≤ x ∧ x < (S.left a).a + 16 := by rw [he2]; unfold lineOf; omega
        rcases b4 with b4 | b4
        · have := b6 b4 (x - (S.left a).a) (by omega)
          rw [show (S.left a).a + (x - (S.left a).a) = x by omega] at this
          exact good x this
        · unfold back
          rw [if_pos ⟨b4, hxr⟩, b5 _ (by omega)]
          congr 1
          omega
    · rw [upd_other _ _ _ _ q] at hn'
      exact good x (h.out x hx hn')
  · rcases either x with q | q
    · rw [q]
      exact h.mb x
    · rw [q]
      exact h.fb x
theorem filled_at (S : CS) (a x s : Nat) (b : Nat → Nat) (hx : lineOf x = a) (hN : No (S.set (S.of a)) a) (h16 : a % 16 = 0) : At ((S.fill a s b).set ((S.fill a s b).of x)) x (S.kept a).length := by
  have hla : lineOf a = a := by unfold lineOf; omega
  have e1 : (S.fill a s b).of x = S.of a := of_line S _ _ (by rw [hx, hla])
  have e2 : (S.fill a s b).set (S.of a) = S.kept a ++ [⟨a, s, b⟩] := upd_same _ _ _
  rw [e1, e2]
  refine ⟨by simp, ?_, fun j hj => ?_⟩
  · simp [List.getD_eq_getElem?_getD, hx]
  · have hm : (S.kept a ++ [Ln.mk a s b]).getD j l0 = (S.kept a).getD j l0 := by
      simp only [List.getD_eq_getElem?_getD]
      rw [List.getElem?_append_left hj]
    rw [hm, hx]
    have he := getD_mem _ j hj
    have : (S.kept a).getD j l0 ∈ S.set (S.of a) := by
      unfold CS.kept at he ⊢
      by_cases q : S.full a = true
      · rw [if_pos q] at he ⊢
        exact mem_rest _ _ _ he
      · rw [if_neg q] at he ⊢
        exact he
    have := no_mem hN _ this
    rwa [hla] at this
theorem read_is {S : CS} {f m : Nat → Nat} (h : Inv S f m) (a z k : Nat) (hz : a % 16 + z ≤ 16) (hA : At (S.set (S.of a)) a k) : leN (fun t => ((S.set (S.of a)).getD k l0).b (a % 16 + t)) z = leN (fun t => f (a + t)) z := by
  obtain ⟨m1, m2⟩ := at_mem hA
  refine leN_congr _ _ z (fun t ht => ?_)
  rw [(h.line _ (S.of_lt a h.n) _ m1).2.2.2.2.1 _ (by omega), m2]
  congr 1
  unfold lineOf
  omega
end Go.Proofs.YtlogdmnhngbkaaaDoor
/-
  THE ANSWER's CACHE: a line is laid behind the others.
-/
namespace Go.Proofs.YtlogdmnhngbkaaaDoor
open Go Go.RowKit
theorem rpush (B p n ways xb m cap : Nat) (R : List Ln) (e : Ln) (qa : Option Addr) (Y : World) (cs : List Value) (k : RC Y B p (.slice qa m cap) n ways R) (hm : R.length = m) (hx : Y.rangeAt xb 0 cs) (lxb : xb < Y.heap.size) (n1 : xb ≠ p) (n2 : (Value.slice qa m cap).ownBlock ≠ some xb) (hroom : m < 64) :
    ∃ g' cap' w1, (Builtin.append_ #[100, 100] 100 #[.slice qa m cap, .slice (some ⟨Y.heap.size, 0, none⟩) 1 1]).run Tryd.prog (Y.drew.alloc (.cells e.rv.toArray 104)) = .ok (.slice (some ⟨g', 0, none⟩) (m + 1) cap') w1 ∧
      (Y.drew.alloc (.cells e.rv.toArray 104)).cell? ⟨p, 2, none⟩ = some (.slice qa m cap) ∧ w1.cell? ⟨p, 2, none⟩ = some (.slice qa m cap) ∧ w1.frozen? ⟨p, 2, none⟩ = false ∧ p < w1.heap.size ∧
      (Y.drew.alloc (.cells e.rv.toArray 104)).rangeAt xb 0 cs ∧ w1.rangeAt xb 0 cs ∧ (w1.setCell ⟨p, 2, none⟩ (.slice (some ⟨g', 0, none⟩) (m + 1) cap')).rangeAt xb 0 cs ∧
      RC (w1.setCell ⟨p, 2, none⟩ (.slice (some ⟨g', 0, none⟩) (m + 1) cap')) B p (.slice (some ⟨g', 0, none⟩) (m + 1) cap') n ways (R ++ [e]) ∧
      Turned (fun q => q = p ∨ (Value.slice qa m cap).ownBlock = some q) Y (w1.setCell ⟨p, 2, none⟩ (.slice (some ⟨g', 0, none⟩) (m + 1) cap')) ∧
      ((Value.slice qa m cap).ownBlock = some g' ∨ Y.heap.size ≤ g') := by
  obtain ⟨A, hA⟩ : ∃ A, Y.drew.alloc (.cells e.rv.toArray 104) = A := ⟨_, rfl⟩
  have tA : Turned (fun _ => False) Y A := by rw [← hA]; exact ((Turned.refl _ Y).drew).alloc _
  have sA : A.heap.size = Y.heap.size + 1 := by rw [← hA]; simp
  have lA := own_turned k.l tA (fun _ _ q => q)
  have hp := k.c.here
  have hlo := k.lo
  have hsm := k.small
  obtain ⟨-, -, -, c2, cf⟩ := k.cells
  rw [hA]
  obtain ⟨q, cap', w1, hrun, r1, t1, b1⟩ := rapp B A (.slice qa m cap) R [e] ⟨Y.heap.size, 0, none⟩ 1 lA (fun j u hj => by
    rw [flatR_one] at hj
    rw [Addr.add_mid, Nat.zero_add, ← hA]
    have e2 := World.cell?_alloc_new Y.drew e.rv.toArray 104 j
    refine e2.trans ?_
    rw [← hj]
    simp) (by simp; omega) (by omega)
  simp only [List.length_singleton, hm] at hrun r1 b1
  obtain ⟨g', cap2, hv⟩ := own_succ r1
  cases hv
  have T1 : Turned (fun x => (Value.slice qa m cap).ownBlock = some x) Y w1 := (tA.mono (fun _ q => q.elim)).trans t1
  have np : ¬ (Value.slice qa m cap).ownBlock = some p := k.vp
  have own_lt : ∀ x, (Value.slice qa m cap).ownBlock = some x → x < Y.heap.size := fun x hx => (own_base k.l x hx).2
  have hg' : (Value.slice qa m cap).ownBlock = some g' ∨ Y.heap.size ≤ g' := by
    rcases b1 with q | q
    · left
      rw [← q]
      rfl
    · right
      have : g' = A.heap.size := Option.some.inj q
      omega
  obtain ⟨Z, hZ⟩ : ∃ Z, w1.setCell ⟨p, 2, none⟩ (.slice (some ⟨g', 0, none⟩) (m + 1) cap') = Z := ⟨_, rfl⟩
  have TZ : Turned (fun q => q = p ∨ (Value.slice qa m cap).ownBlock = some q) Y Z := by
    rw [← hZ]
    exact (T1.mono (R := fun q => q = p ∨ (Value.slice qa m cap).ownBlock = some q) (fun _ q => Or.inr q)).set (b := p) (Or.inl rfl) _ _
  have hgp : g' ≠ p := by
    rcases hg' with q | q
    · exact fun e => np (by rw [← e]; exact q)
    · omega
  refine ⟨g', cap', w1, hrun, tA.to_cell hp (fun q => q) c2, T1.to_cell hp np c2, (World.frozen?_of_block (T1.block p hp np)).trans (cf 2), Nat.lt_of_lt_of_le hp T1.size, range_turned hx tA lxb (fun q => q), range_turned hx T1 lxb n2, ?_⟩
  rw [hZ]
  refine ⟨range_turned hx TZ lxb (fun q => q.elim n1 n2), ⟨?_, ?_, ?_, by simp [hm]; omega, hlo⟩, TZ, hg'⟩
  · rw [← hZ]
    refine ((T1.cells k.c np).set 2 (by omega) _).ext fun o ho => ?_
    match o, ho with
    | 0, _ => rfl
    | 1, _ => rfl
    | 2, _ => rfl
  · rw [← hZ]
    simp only [List.length_append, List.length_singleton, hm]
    exact own_turned r1 ((Turned.refl (fun x => x = p) w1).set (b := p) rfl _ _) (fun x q e => by simp [Value.ownBlock] at q; omega)
  · intro q
    simp [Value.ownBlock] at q
    exact hgp q
/-- a cell of a range is written -/
theorem range_set {w : World} {b o : Nat} {cs : List Value} (h : w.rangeAt b o cs) (j : Nat) (u : Value) : (w.setCell ⟨b, o + j, none⟩ u).rangeAt b o (cs.set j u) := by
  intro i v hv
  have hi : i < (cs.set j u).length := (List.getElem?_eq_some_iff.1 hv).1
  rw [List.length_set] at hi
  by_cases e : j = i
  · subst e
    rw [List.getElem?_set_self hi] at hv
    rw [← hv]
    exact World.cell?_setCell_same _ _ _ (h j _ (List.getElem?_eq_getElem hi))
  · rw [List.getElem?_set_ne e] at hv
    rw [World.cell?_setCell_other _ _ _ _ (by intro q; exact e (by have := congrArg Addr.off q; simp at this; omega))]
    exact h i v hv
theorem rv_setB (e : Ln) (q v : Nat) (h : q < 16) : e.rv.set (2 + q) (.int .u8 v) = (e.setB q v).rv := by
  have := vs_setB e q v h
  have h1 : ∀ x : Ln, x.rv = .int .i64 x.a :: x.vs.tail := fun _ => rfl
  rw [h1, h1, ← this, show 2 + q = (1 + q) + 1 by omega, List.set_cons_succ]
  show _ :: (e.vs.tail.set (1 + q) _) = _ :: (e.vs.set (1 + q + 1) _).tail
  cases hv : e.vs with
  | nil => have := e.len; rw [hv] at this; simp at this
  | cons a t => rfl
theorem rv_setS (e : Ln) (s : Nat) : e.rv.set 1 (.int .i64 s) = (e.setS s).rv := rfl
theorem RC.open {w : World} {B p : Nat} {v : Value} {n ways : Nat} {R : List Ln} (k : RC w B p v n ways R) : ∃ qa m cap, v = .slice qa m cap ∧ R.length = m ∧ m ≤ 64 ∧ m ≤ cap ∧ cap ≤ 9223372036854775807 := by
  obtain ⟨q, cap, hv, hcap, -⟩ := own_rlines k.l
  have h := hcap.2
  unfold maxLen at h
  exact ⟨q, _, cap, hv, rfl, k.small.1, hcap.1, by omega⟩
end Go.Proofs.YtlogdmnhngbkaaaDoor
