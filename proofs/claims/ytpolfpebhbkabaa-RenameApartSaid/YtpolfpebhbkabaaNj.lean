/-
  RENAME's LAW RenameBack: what was taken, one behind the other, in a row.
-/
import Derived.Test.YtpolfpebhbkabaaNh
import Derived.Laws.AppendOwn
namespace Go.Proofs.Ytpolfpebhbkabaa
open Go Go.RowKit
/-- the tables s 0, s 1, .. s m, each made of the one ahead by a Take -/
structure Chain (S : NT) (n m : Nat) (s : Nat → NT) (R X : Nat → Nat) : Prop where
  zero : s 0 = S
  step : ∀ i, i < m → (1 ≤ R i ∧ R i < 32) ∧ ∃ l, (s i).free = X i :: l ∧ s (i + 1) = (s i).take (R i) (X i) l
  inv : ∀ i, i ≤ m → ∃ H, Inv (s i) H n
def trip (s : Nat → NT) (R X : Nat → Nat) (i : Nat) : List Value := [.int .i64 (R i), .int .i64 (X i), .int .i64 ((s i).name (R i))]
def trips (s : Nat → NT) (R X : Nat → Nat) (m : Nat) : List Value := (List.range m).flatMap (trip s R X)
theorem flatMap_congr {α β : Type} (f g : α → List β) : ∀ l : List α, (∀ a ∈ l, f a = g a) → l.flatMap f = l.flatMap g
  | [], _ => rfl
  | a :: l, h => by
    rw [List.flatMap_cons, List.flatMap_cons, h a (by simp), flatMap_congr f g l (fun b hb => h b (by simp [hb]))]
theorem chain_more {S : NT} {n m : Nat} {s : Nat → NT} {R X : Nat → Nat} (c : Chain S n m s R X) {x r : Nat} {l : List Nat} (hf : (s m).free = x :: l) (hr : 1 ≤ r ∧ r < 32) : ∃ s' R' X', Chain S n (m + 1) s' R' X' ∧ s' (m + 1) = (s m).take r x l ∧ trips s' R' X' (m + 1) = trips s R X m ++ [.int .i64 r, .int .i64 x, .int .i64 ((s m).name r)] := by
  refine ⟨upd s (m + 1) ((s m).take r x l), upd R m r, upd X m x, ⟨?_, fun i hi => ?_, fun i hi => ?_⟩, upd_same _ _ _, ?_⟩
  · rw [upd_other _ _ _ _ (by omega)]; exact c.zero
  · by_cases e : i = m
    · subst e
      rw [upd_same, upd_other _ _ _ _ (by omega), upd_same, upd_same]
      exact ⟨hr, l, hf, rfl⟩
    · rw [upd_other _ _ _ _ e, upd_other _ _ _ _ (by omega), upd_other _ _ _ _ e, upd_other _ _ _ _ (by omega)]
      exact c.step i (by omega)
  · by_cases e : i = m + 1
    · subst e
      rw [upd_same]
      obtain ⟨H, hH⟩ := c.inv m (Nat.le_refl _)
      exact ⟨(s m).name r :: H, hH.take hf hr rfl (fun y => count_cons' _ _ _)⟩
    · rw [upd_other _ _ _ _ e]
      exact c.inv i (by omega)
  · unfold trips
    rw [List.range_succ, List.flatMap_append]
    have e1 : (List.range m).flatMap (trip (upd s (m + 1) ((s m).take r x l)) (upd R m r) (upd X m x)) = (List.range m).flatMap (trip s R X) := by
      refine flatMap_congr _ _ _ fun a ha => ?_
      have ha2 : a < m := List.mem_range.1 ha
      unfold trip
      rw [upd_other _ _ _ _ (by omega), upd_other _ _ _ _ (by omega), upd_other _ _ _ _ (by omega)]
    rw [e1]
    have e2 : ([m] : List Nat).flatMap (trip (upd s (m + 1) ((s m).take r x l)) (upd R m r) (upd X m x)) = [.int .i64 r, .int .i64 x, .int .i64 ((s m).name r)] := by
      rw [List.flatMap_cons, List.flatMap_nil, List.append_nil]
      unfold trip
      rw [upd_same, upd_same, upd_other _ _ _ _ (by omega)]
    rw [e2]
theorem chain_back {S : NT} {n m : Nat} {s : Nat → NT} {R X : Nat → Nat} (c : Chain S n m s R X) (i : Nat) (hi : i < m) : (1 ≤ R i ∧ R i < 32) ∧ (1 ≤ (s i).name (R i) ∧ (s i).name (R i) < n) ∧ (s (i + 1)).held ((s i).name (R i)) = true ∧ (s (i + 1)).name (R i) = X i ∧ (s (i + 1)).undo (R i) ((s i).name (R i)) = s i ∧ (n ≤ 128 → (s (i + 1)).free.length < 128) := by
  obtain ⟨hr, l, hf, hs⟩ := c.step i hi
  obtain ⟨H, hH⟩ := c.inv i (by omega)
  obtain ⟨H2, hH2⟩ := c.inv (i + 1) (by omega)
  refine ⟨hr, ⟨hH.name_pos _ hr.2 hr.1, hH.name_lt _ hr.2⟩, ?_, ?_, ?_, fun hn => hH2.room hn⟩
  · rw [hs]; exact upd_same _ _ _
  · rw [hs]; exact upd_same _ _ _
  · rw [hs]; exact undo_take _ H n _ _ _ hH hf hr.2
theorem own_turned {Q : Nat → Prop} {x y : World} {base : Nat} {e : TypeId} {size : Nat} {v : Value} {n : Nat} {xs : List Value} (h : x.ownsRow base e size v n xs) (c : Turned Q x y) (hq : ∀ k, Q k → k < base) : y.ownsRow base e size v n xs := by
  obtain ⟨h1, h2⟩ := h
  refine ⟨h1, ?_⟩
  rcases h2 with h2 | ⟨g, cap, cur, a1, a2, a3, a4⟩
  · exact Or.inl h2
  · refine Or.inr ⟨g, cap, cur, a1, a2, ?_, a4⟩
    have hg : g < x.heap.size := by
      rcases Nat.lt_or_ge g x.heap.size with q | q
      · exact q
      · rw [Array.getElem?_eq_none q] at a3
        exact absurd a3 (by simp)
    rw [c.block g hg (fun q => by have := hq g q; omega)]
    exact a3
theorem own_block {x : World} {base : Nat} {e : TypeId} {size : Nat} {v : Value} {n : Nat} {xs : List Value} (h : x.ownsRow base e size v n xs) : ∀ k, v.ownBlock = some k → base ≤ k := by
  obtain ⟨h1, h2⟩ := h
  intro k hk
  rcases h2 with ⟨rfl, _⟩ | ⟨g, cap, cur, rfl, a2, a3, a4⟩
  · exact absurd hk (by simp [Value.ownBlock])
  · simp [Value.ownBlock] at hk
    omega
theorem trips_at (s : Nat → NT) (R X : Nat → Nat) : ∀ (m i : Nat), i < m → (trips s R X m)[i * 3]? = some (.int .i64 (R i)) ∧ (trips s R X m)[i * 3 + 1]? = some (.int .i64 (X i)) ∧ (trips s R X m)[i * 3 + 2]? = some (.int .i64 ((s i).name (R i)))
  | 0, i, h => absurd h (by omega)
  | m + 1, i, h => by
    have hl : ∀ k, (trips s R X k).length = k * 3 := by
      intro k
      induction k with
      | zero => rfl
      | succ k ih =>
        unfold trips at ih ⊢
        rw [List.range_succ, List.flatMap_append, List.length_append, ih]
        show k * 3 + 3 = _
        omega
    have e : trips s R X (m + 1) = trips s R X m ++ trip s R X m := by
      unfold trips
      rw [List.range_succ, List.flatMap_append, List.flatMap_cons, List.flatMap_nil, List.append_nil]
    rw [e]
    by_cases q : i = m
    · subst q
      have h0 := hl i
      rw [List.getElem?_append_right (by omega), List.getElem?_append_right (by omega), List.getElem?_append_right (by omega), h0]
      have e0 : i * 3 - i * 3 = 0 := by omega
      have e1 : i * 3 + 1 - i * 3 = 1 := by omega
      have e2 : i * 3 + 2 - i * 3 = 2 := by omega
      rw [e0, e1, e2]
      exact ⟨rfl, rfl, rfl⟩
    · have h0 := hl m
      rw [List.getElem?_append_left (by omega), List.getElem?_append_left (by omega), List.getElem?_append_left (by omega)]
      exact trips_at s R X m i (by omega)
theorem own_trips {x : World} {base : Nat} {e : TypeId} {v : Value} {m : Nat} {s : Nat → NT} {R X : Nat → Nat} (h : x.ownsRow base e 3 v m (trips s R X m)) : ∃ q cap, v = .slice q m cap ∧ ∀ i, i < m → ∃ g, q = some ⟨g, 0, none⟩ ∧ base ≤ g ∧ g < x.heap.size ∧ x.cell? ⟨g, i * 3, none⟩ = some (.int .i64 (R i)) ∧ x.cell? ⟨g, i * 3 + 1, none⟩ = some (.int .i64 (X i)) ∧ x.cell? ⟨g, i * 3 + 2, none⟩ = some (.int .i64 ((s i).name (R i))) := by
  obtain ⟨h1, h2⟩ := h
  rcases h2 with ⟨rfl, rfl⟩ | ⟨g, cap, cur, rfl, a2, a3, a4, a5, a6, a7⟩
  · exact ⟨none, 0, rfl, fun i hi => absurd hi (by omega)⟩
  · refine ⟨_, _, rfl, fun i hi => ⟨g, rfl, a2, ?_, ?_⟩⟩
    · rcases Nat.lt_or_ge g x.heap.size with q | q
      · exact q
      · rw [Array.getElem?_eq_none q] at a3
        exact absurd a3 (by simp)
    · have c : ∀ o, o < m * 3 → x.cell? ⟨g, o, none⟩ = (trips s R X m)[o]? := by
        intro o ho
        rw [← a7, List.getElem?_take, if_pos ho]
        simp [World.cell?, a3]
      obtain ⟨t0, t1, t2⟩ := trips_at s R X m i hi
      exact ⟨(c _ (by omega)).trans t0, (c _ (by omega)).trans t1, (c _ (by omega)).trans t2⟩
end Go.Proofs.Ytpolfpebhbkabaa
