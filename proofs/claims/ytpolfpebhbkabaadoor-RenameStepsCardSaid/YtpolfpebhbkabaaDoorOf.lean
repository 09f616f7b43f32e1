/-
  RENAME's LAW RenameSteps: what was taken, in a row of threes; both tables side by side.
-/
import Derived.Test.YtpolfpebhbkabaaDoorOe
namespace Go.Proofs.YtpolfpebhbkabaaDoor
open Go Go.RowKit
def flat (F : Nat → Int) (k : Nat) : List Value := (List.range k).map fun j => Value.int .i64 (F j)
theorem flat_at (F : Nat → Int) (k j : Nat) (h : j < k) : (flat F k)[j]? = some (.int .i64 (F j)) := by
  unfold flat
  rw [List.getElem?_map, List.getElem?_range h]
  rfl
theorem flat_more (F : Nat → Int) (m : Nat) (a b c : Int) : ∃ G, flat F (m * 3) ++ [.int .i64 a, .int .i64 b, .int .i64 c] = flat G ((m + 1) * 3) := by
  refine ⟨upd (upd (upd F (m * 3) a) (m * 3 + 1) b) (m * 3 + 2) c, ?_⟩
  unfold flat
  rw [show (m + 1) * 3 = m * 3 + 1 + 1 + 1 by omega, List.range_succ, List.range_succ, List.range_succ]
  simp only [List.map_append, List.map_cons, List.map_nil, List.append_assoc, List.cons_append, List.nil_append]
  have e1 : (List.range (m * 3)).map (fun j => Value.int .i64 (upd (upd (upd F (m * 3) a) (m * 3 + 1) b) (m * 3 + 2) c j)) = (List.range (m * 3)).map (fun j => Value.int .i64 (F j)) := by
    refine List.map_congr_left fun j hj => ?_
    have hj2 := List.mem_range.1 hj
    rw [upd_other _ _ _ _ (by omega), upd_other _ _ _ _ (by omega), upd_other _ _ _ _ (by omega)]
  rw [e1, upd_other _ _ _ _ (by omega : m * 3 ≠ m * 3 + 2), upd_other _ _ _ _ (by omega : m * 3 ≠ m * 3 + 1), upd_same, upd_other _ _ _ _ (by omega : m * 3 + 1 ≠ m * 3 + 2), upd_same, upd_same]
theorem own_less {x : World} {B : Nat} {e : TypeId} {q : Option Addr} {m cap : Nat} {F : Nat → Int} (h : x.ownsRow B e 3 (.slice q (m + 1) cap) (m + 1) (flat F ((m + 1) * 3))) : x.ownsRow B e 3 (.slice q m cap) m (flat F (m * 3)) := by
  obtain ⟨h1, h2⟩ := h
  refine ⟨by simp [flat], ?_⟩
  rcases h2 with ⟨_, h3⟩ | ⟨g, cap', cur, hv, a2, a3, a4, a5, a6, a7⟩
  · omega
  · cases hv
    refine Or.inr ⟨g, _, cur, rfl, a2, a3, by omega, a5, a6, ?_⟩
    have e1 : cur.toList.take (m * 3) = (cur.toList.take ((m + 1) * 3)).take (m * 3) := by
      rw [List.take_take, Nat.min_eq_left (by omega)]
    rw [e1, a7]
    unfold flat
    rw [← List.map_take, List.take_range, Nat.min_eq_left (by omega)]
theorem own_flat {x : World} {B : Nat} {e : TypeId} {v : Value} {m : Nat} {F : Nat → Int} (h : x.ownsRow B e 3 v m (flat F (m * 3))) : ∃ q cap, v = .slice q m cap ∧ (m ≤ cap ∧ cap ≤ 9223372036854775807) ∧ ∀ i, i < m → ∃ g, q = some ⟨g, 0, none⟩ ∧ B ≤ g ∧ g < x.heap.size ∧ x.cell? ⟨g, i * 3, none⟩ = some (.int .i64 (F (i * 3))) ∧ x.cell? ⟨g, i * 3 + 1, none⟩ = some (.int .i64 (F (i * 3 + 1))) ∧ x.cell? ⟨g, i * 3 + 2, none⟩ = some (.int .i64 (F (i * 3 + 2))) := by
  obtain ⟨h1, h2⟩ := h
  rcases h2 with ⟨rfl, rfl⟩ | ⟨g, cap, cur, rfl, a2, a3, a4, a5, a6, a7⟩
  · exact ⟨none, 0, rfl, ⟨by omega, by omega⟩, fun i hi => absurd hi (by omega)⟩
  · refine ⟨_, _, rfl, ⟨a4, by unfold maxLen at a5; omega⟩, fun i hi => ⟨g, rfl, a2, ?_, ?_⟩⟩
    · rcases Nat.lt_or_ge g x.heap.size with q | q
      · exact q
      · rw [Array.getElem?_eq_none q] at a3
        exact absurd a3 (by simp)
    · have c : ∀ o, o < m * 3 → x.cell? ⟨g, o, none⟩ = some (.int .i64 (F o)) := by
        intro o ho
        have q : x.cell? ⟨g, o, none⟩ = (flat F (m * 3))[o]? := by
          rw [← a7, List.getElem?_take, if_pos ho]
          simp [World.cell?, a3]
        rw [q, flat_at F _ _ ho]
      exact ⟨c _ (by omega), c _ (by omega), c _ (by omega)⟩
theorem own_turned {Q : Nat → Prop} {x y : World} {base : Nat} {e : TypeId} {size : Nat} {v : Value} {n : Nat} {xs : List Value} (h : x.ownsRow base e size v n xs) (c : Turned Q x y) (hq : ∀ k, v.ownBlock = some k → ¬ Q k) : y.ownsRow base e size v n xs := by
  obtain ⟨h1, h2⟩ := h
  refine ⟨h1, ?_⟩
  rcases h2 with h2 | ⟨g, cap, cur, a1, a2, a3, a4⟩
  · exact Or.inl h2
  · refine Or.inr ⟨g, cap, cur, a1, a2, ?_, a4⟩
    have hg : g < x.heap.size := by
      rcases Nat.lt_or_ge g x.heap.size with q | q
      · exact q
      · rw [Array.getElem?_eq_none q] at a3
        exact absurd a3 (by simp)
    rw [c.block g hg (hq g (by rw [a1]; rfl))]
    exact a3
theorem own_base {x : World} {base : Nat} {e : TypeId} {size : Nat} {v : Value} {n : Nat} {xs : List Value} (h : x.ownsRow base e size v n xs) : ∀ k, v.ownBlock = some k → base ≤ k ∧ k < x.heap.size := by
  obtain ⟨h1, h2⟩ := h
  intro k hk
  rcases h2 with ⟨rfl, _⟩ | ⟨g, cap, cur, rfl, a2, a3, a4⟩
  · exact absurd hk (by simp [Value.ownBlock])
  · simp [Value.ownBlock] at hk
    subst hk
    refine ⟨a2, ?_⟩
    rcases Nat.lt_or_ge g x.heap.size with q | q
    · exact q
    · rw [Array.getElem?_eq_none q] at a3
      exact absurd a3 (by simp)
/-- the answer's table, its row's block known where there is one -/
structure RT (w : World) (b : Nat) (g : Option Nat) (n : Nat) (name : Nat → Nat) (free : List Nat) : Prop where
  rows : ∃ ao cap g0, CellsAt 34 w b (encR name n (.slice ao free.length cap)) ∧ OwnG w g0 ao cap free ∧ g = ao.map (fun a => a.block)
  ne : g ≠ some b
theorem RT.to {w : World} {b : Nat} {g : Option Nat} {n : Nat} {name : Nat → Nat} {free : List Nat} (h : RT w b g n name free) : ∃ g0, RTab w b g0 n name free ∧ ((g = some g0 ∧ g0 < w.heap.size) ∨ (g = none ∧ g0 = w.heap.size)) := by
  obtain ⟨⟨ao, cap, g0, hc, ho, hg⟩, ne⟩ := h
  cases ao with
  | none =>
    have h1 := ho.none rfl
    have h2 := ho.le
    refine ⟨w.heap.size, ⟨⟨none, cap, hc, ⟨ho.le, ho.max, ho.none, fun a q => by cases q⟩⟩, by have := hc.here; omega⟩, Or.inr ⟨hg, rfl⟩⟩
  | some a =>
    obtain ⟨off, rfl, k1, _⟩ := ho.at' a rfl
    have hg2 : g = some g0 := hg
    exact ⟨g0, ⟨⟨_, cap, hc, ho⟩, fun q => ne (by rw [hg2, q])⟩, Or.inl ⟨hg2, k1⟩⟩
theorem RT.of {w w' : World} {b g0 g' : Nat} {g : Option Nat} {n : Nat} {name : Nat → Nat} {free : List Nat} (h : RTab w' b g' n name free) (hg : (g = some g0 ∧ g0 < w.heap.size) ∨ (g = none ∧ g0 = w.heap.size)) (hh : g' = g0 ∨ w.heap.size ≤ g') : ∃ q, RT w' b q n name free ∧ ∀ k, q = some k → (g = some k ∨ w.heap.size ≤ k) ∧ k < w'.heap.size := by
  obtain ⟨⟨ao, cap, hc, ho⟩, ne⟩ := h
  cases ao with
  | none => exact ⟨none, ⟨⟨none, cap, g', hc, ho, rfl⟩, by simp⟩, fun k hk => by cases hk⟩
  | some a =>
    obtain ⟨off, rfl, k1, _⟩ := ho.at' a rfl
    refine ⟨some g', ⟨⟨_, cap, g', hc, ho, rfl⟩, fun q => ne (Option.some.inj q).symm⟩, fun k hk => ?_⟩
    obtain rfl := Option.some.inj hk
    refine ⟨?_, k1⟩
    rcases hg with ⟨rfl, h2⟩ | ⟨rfl, h2⟩
    · rcases hh with h3 | h3
      · left; rw [h3]
      · right; exact h3
    · right; omega
theorem turned_opt {x y : World} {b g0 : Nat} {g : Option Nat} (h : Turned (fun k => k = b ∨ k = g0) x y) (hg : (g = some g0 ∧ g0 < x.heap.size) ∨ (g = none ∧ g0 = x.heap.size)) : Turned (fun k => k = b ∨ g = some k) x y := by
  refine ⟨h.os, h.tape, h.output, h.size, fun k hk hq => h.block k hk fun q => hq ?_⟩
  rcases q with q | q
  · exact Or.inl q
  · rcases hg with ⟨rfl, h2⟩ | ⟨rfl, h2⟩
    · right; rw [q]
    · omega
theorem RT.turned {Q : Nat → Prop} {w w' : World} {b : Nat} {g : Option Nat} {n : Nat} {name : Nat → Nat} {free : List Nat} (t : RT w b g n name free) (k : Turned Q w w') (hb : ¬ Q b) (hg : ∀ j, g = some j → ¬ Q j) : RT w' b g n name free := by
  obtain ⟨⟨ao, cap, g0, hc, ho, hq⟩, ne⟩ := t
  refine ⟨⟨ao, cap, g0, k.cells hc hb, ?_, hq⟩, ne⟩
  cases ao with
  | none => exact ⟨ho.le, ho.max, ho.none, fun a q => by cases q⟩
  | some a =>
    obtain ⟨off, rfl, k1, _⟩ := ho.at' a rfl
    exact ho.turned k (hg g0 hq)
theorem rt_take (b : Nat) (g : Option Nat) (n : Nat) (name : Nat → Nat) (x : Nat) (l : List Nat) (r : Nat) (w : World) (t : RT w b g n name (x :: l)) (hr : 1 ≤ r ∧ r < 32) (hl : l.length ≤ 1000) : Calls Tryd.prog 26 #[.pointer (some ⟨b, 0, none⟩), .int .i64 r] w fun e w' => e = .returned (.tuple #[.int .i64 x, .int .i64 (name r), .int .i64 0]) ∧ (∃ g', RT w' b g' n (upd name r x) l ∧ ∀ k, g' = some k → (g = some k ∨ w.heap.size ≤ k) ∧ k < w'.heap.size) ∧ Turned (fun k => k = b ∨ g = some k) w w' := by
  obtain ⟨g0, h1, h2⟩ := t.to
  refine (rtake_good b g0 n name x l r w h1 hr hl).mono ?_
  rintro e w' ⟨rfl, ⟨g', h3, h4⟩, h5⟩
  exact ⟨rfl, RT.of h3 h2 (Or.inr h4), h5.mono fun _ => Or.inl⟩
theorem rt_rel (b : Nat) (g : Option Nat) (n : Nat) (name : Nat → Nat) (free : List Nat) (x : Nat) (w : World) (t : RT w b g n name free) (hx : 1 ≤ x ∧ x < n) (hl : free.length ≤ 1000) (hf : free.count x = 0) (hm : cnt name x 32 = 0) : Calls Tryd.prog 30 #[.pointer (some ⟨b, 0, none⟩), .int .i64 x] w fun e w' => e = .returned (.int .i64 0) ∧ (∃ g', RT w' b g' n name (free ++ [x]) ∧ ∀ k, g' = some k → (g = some k ∨ w.heap.size ≤ k) ∧ k < w'.heap.size) ∧ Turned (fun k => k = b ∨ g = some k) w w' := by
  obtain ⟨g0, h1, h2⟩ := t.to
  refine (rrel_good b g0 n name free x w h1 hx hl hf hm).mono ?_
  rintro e w' ⟨rfl, ⟨g', h3, h4⟩, h5⟩
  exact ⟨rfl, RT.of h3 h2 h4, turned_opt h5 h2⟩
theorem rt_undo (b : Nat) (g : Option Nat) (n : Nat) (name : Nat → Nat) (free : List Nat) (r : Nat) (old : Nat) (w : World) (t : RT w b g n name free) (hr : 1 ≤ r ∧ r < 32) (hx : 1 ≤ old ∧ old < n) (hl : free.length ≤ 1000) (hf : free.count old = 0) (hm : cnt name old 32 = 0) : Calls Tryd.prog 28 #[.pointer (some ⟨b, 0, none⟩), .int .i64 r, .int .i64 (name r), .int .i64 old] w fun e w' => e = .returned (.int .i64 0) ∧ (∃ g', RT w' b g' n (upd name r old) (name r :: free) ∧ ∀ k, g' = some k → (g = some k ∨ w.heap.size ≤ k) ∧ k < w'.heap.size) ∧ Turned (fun k => k = b ∨ g = some k) w w' := by
  obtain ⟨g0, h1, h2⟩ := t.to
  refine (rundo_good b g0 n name free r old w h1 hr hx hl hf hm).mono ?_
  rintro e w' ⟨rfl, ⟨g', h3, h4⟩, h5⟩
  exact ⟨rfl, RT.of h3 h2 (Or.inr h4), h5.mono fun _ => Or.inl⟩
/-- both tables in the world wr, w being that of the call: the program's at p (held: h), the answer's at b (free: g), the row of what was taken lv; q: the step's own block -/
structure St (w wr : World) (p h b : Nat) (g : Option Nat) (n : Nat) (S T : NT) (lv : Value) (m : Nat) (F : Nat → Int) : Prop where
  t : Tab wr p h n S
  u : RT wr b g n T.name T.free
  l : wr.ownsRow w.heap.size 78 3 lv m (flat F (m * 3))
  gr : Below w.heap.size w wr
  lo : w.heap.size ≤ p ∧ w.heap.size ≤ h ∧ w.heap.size ≤ b ∧ ∀ k, g = some k → w.heap.size ≤ k
  hi : p < wr.heap.size ∧ h < wr.heap.size ∧ b < wr.heap.size ∧ ∀ k, g = some k → k < wr.heap.size
  ne : p ≠ b ∧ h ≠ b ∧ ∀ k, g = some k → p ≠ k ∧ h ≠ k
  nl : ∀ k, lv.ownBlock = some k → k ≠ p ∧ k ≠ h ∧ k ≠ b ∧ g ≠ some k
theorem St.onT {w x y : World} {p h b : Nat} {g : Option Nat} {n : Nat} {S T U : NT} {lv : Value} {m : Nat} {F : Nat → Int} (k : St w x p h b g n S T lv m F) (c : Turned (fun k => k = p ∨ k = h) x y) (t : Tab y p h n U) : St w y p h b g n U T lv m F := by
  obtain ⟨a1, a2, a3, a4, a5, a6, a7, a8⟩ := k
  have z := c.size
  refine ⟨t, a2.turned c (by omega) (fun j hj => by have := a7.2.2 j hj; omega), own_turned a3 c (fun k hk => by have := a8 k hk; omega), a4.trans (c.below a4.size (by rintro k (e | e) <;> omega)), a5, ⟨by omega, by omega, by omega, fun k hk => by have := a6.2.2.2 k hk; omega⟩, a7, a8⟩
theorem St.onU {w x y : World} {p h b : Nat} {g g' : Option Nat} {n : Nat} {S T U : NT} {lv : Value} {m : Nat} {F : Nat → Int} (k : St w x p h b g n S T lv m F) (c : Turned (fun k => k = b ∨ g = some k) x y) (u : RT y b g' n U.name U.free) (hg : ∀ k, g' = some k → (g = some k ∨ x.heap.size ≤ k) ∧ k < y.heap.size) : St w y p h b g' n S U lv m F := by
  obtain ⟨a1, a2, a3, a4, a5, a6, a7, a8⟩ := k
  have z := c.size
  have z2 := a4.size
  have a9 := own_base a3
  refine ⟨a1.turned c ?_ ?_, u, own_turned a3 c (fun k hk => ?_), a4.trans (c.below a4.size ?_), ⟨a5.1, a5.2.1, a5.2.2.1, fun k hk => ?_⟩, ⟨by omega, by omega, by omega, fun k hk => (hg k hk).2⟩, ⟨a7.1, a7.2.1, fun k hk => ?_⟩, fun k hk => ?_⟩
  · rintro (e | e)
    · omega
    · exact (a7.2.2 p e).1 rfl
  · rintro (e | e)
    · omega
    · exact (a7.2.2 h e).2 rfl
  · have q := a8 k hk
    rintro (e | e)
    · omega
    · exact q.2.2.2 e
  · rintro k (e | e)
    · omega
    · exact a5.2.2.2 k e
  · rcases (hg k hk).1 with e | e
    · exact a5.2.2.2 k e
    · omega
  · rcases (hg k hk).1 with e | e
    · exact a7.2.2 k e
    · omega
  · have q := a8 k hk
    refine ⟨q.1, q.2.1, q.2.2.1, fun e => ?_⟩
    rcases (hg k e).1 with e2 | e2
    · exact q.2.2.2 e2
    · have := (a9 k hk).2; omega
theorem St.below {w x y : World} {p h b : Nat} {g : Option Nat} {n : Nat} {S T : NT} {lv : Value} {m : Nat} {F : Nat → Int} (k : St w x p h b g n S T lv m F) (c : Below x.heap.size x y) : St w y p h b g n S T lv m F := by
  obtain ⟨a1, a2, a3, a4, a5, a6, a7, a8⟩ := k
  have z := c.size
  exact ⟨a1.below c, a2.turned (Turned.of_below (Q := fun _ => False) c) (fun q => q) (fun _ _ q => q), own_turned a3 (Turned.of_below (Q := fun _ => False) c) (fun _ _ q => q), a4.trans (c.mono a4.size), a5, ⟨by omega, by omega, by omega, fun k hk => by have := a6.2.2.2 k hk; omega⟩, a7, a8⟩
/-- the row of what was taken, turned or laid anew -/
theorem St.onL {w x y : World} {p h b : Nat} {g : Option Nat} {n : Nat} {S T : NT} {lv lv' : Value} {m m' : Nat} {F F' : Nat → Int} (k : St w x p h b g n S T lv m F) (c : Turned (fun k => lv.ownBlock = some k) x y) (l : y.ownsRow w.heap.size 78 3 lv' m' (flat F' (m' * 3))) (hl : ∀ k, lv'.ownBlock = some k → lv.ownBlock = some k ∨ x.heap.size ≤ k) : St w y p h b g n S T lv' m' F' := by
  obtain ⟨a1, a2, a3, a4, a5, a6, a7, a8⟩ := k
  have z := c.size
  have a9 := own_base a3
  refine ⟨a1.turned c (fun q => (a8 p q).1 rfl) (fun q => (a8 h q).2.1 rfl), a2.turned c (fun q => (a8 b q).2.2.1 rfl) (fun j hj q => (a8 j q).2.2.2 hj), l, a4.trans (c.below a4.size (fun k q => (a9 k q).1)), a5, ⟨by omega, by omega, by omega, fun k hk => by have := a6.2.2.2 k hk; omega⟩, a7, fun k hk => ?_⟩
  rcases hl k hk with e | e
  · exact a8 k e
  · refine ⟨by omega, by omega, by omega, fun q => ?_⟩
    have := a6.2.2.2 k q
    omega
end Go.Proofs.YtpolfpebhbkabaaDoor
