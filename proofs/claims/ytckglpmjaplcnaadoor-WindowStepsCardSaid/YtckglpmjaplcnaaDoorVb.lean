/-
  THE WINDOW IN MEMORY: a row of instructions, five numbers each; by register whether its value is still to come.
-/
import Derived.Test.YtckglpmjaplcnaaDoorVa
import Derived.ArgAppend
import Derived.OwnWalk
import Derived.Laws.AppendOwn
import Derived.Laws.AppendOwnNone
namespace Go.Proofs.YtckglpmjaplcnaaDoor
open Go Go.RowKit
structure Ent where
  num : Int
  cls : Int
  s1 : Int
  s2 : Int
  st : Int
def e0 : Ent := ⟨0, 0, 0, 0, 0⟩
def Ent.vs (e : Ent) : List Value := [.int .i64 e.num, .int .i64 e.cls, .int .i64 e.s1, .int .i64 e.s2, .int .i64 e.st]
def flatE : List Ent → List Value
  | [] => []
  | e :: l => e.vs ++ flatE l
theorem flatE_len : ∀ l : List Ent, (flatE l).length = l.length * 5
  | [] => rfl
  | e :: l => by simp only [flatE, List.length_append, flatE_len l, List.length_cons, Ent.vs, List.length_nil]; omega
theorem flatE_app : ∀ l k : List Ent, flatE (l ++ k) = flatE l ++ flatE k
  | [], k => rfl
  | e :: l, k => by simp only [flatE, List.cons_append, flatE_app l k, List.append_assoc]
theorem flatE_one (e : Ent) : flatE [e] = e.vs := by simp [flatE]
theorem flatE_at : ∀ (l : List Ent) (i j : Nat), i < l.length → j < 5 → (flatE l)[i * 5 + j]? = (l.getD i e0).vs[j]?
  | [], i, j, h, _ => by simp at h
  | e :: l, 0, j, _, hj => by
    simp only [flatE, Nat.zero_mul, Nat.zero_add, List.getD_cons_zero]
    exact List.getElem?_append_left (by simp [Ent.vs]; omega)
  | e :: l, i + 1, j, h, hj => by
    simp only [flatE, List.getD_cons_succ]
    rw [List.getElem?_append_right (by simp [Ent.vs]; omega)]
    have e1 : (i + 1) * 5 + j - e.vs.length = i * 5 + j := by simp [Ent.vs]; omega
    rw [e1]
    exact flatE_at l i j (by simp at h; omega) hj
theorem flatE_take : ∀ (l : List Ent) (k : Nat), (flatE l).take (k * 5) = flatE (l.take k)
  | [], k => by simp [flatE]
  | e :: l, 0 => by simp [flatE]
  | e :: l, k + 1 => by
    simp only [flatE, List.take_succ_cons]
    have e1 : (k + 1) * 5 = e.vs.length + k * 5 := by simp [Ent.vs]; omega
    rw [e1, List.take_length_add_append, flatE_take l k]
theorem own_turned {Q : Nat → Prop} {x y : World} {base : Nat} {e : TypeId} {size : Nat} {v : Value} {n : Nat} {xs : List Value} (h : x.ownsRow base e size v n xs) (c : Turned Q x y) (hq : ∀ k, v.ownBlock = some k → ¬ Q k) : y.ownsRow base e size v n xs := by
  obtain ⟨h1, h2⟩ := h
  refine ⟨h1, ?_⟩
  rcases h2 with h2 | ⟨g, cap, cur, a1, a2, a3, a4⟩
  · exact Or.inl h2
  · refine Or.inr ⟨g, cap, cur, a1, a2, ?_, a4⟩
    have hg : g < x.heap.size := by
      rcases Nat.lt_or_ge g x.heap.size with q | q
      · exact q
      · rw [Array.getElem?_eq_none q] at a3
        exact absurd a3 (by simp)
    rw [c.block g hg (hq g (by rw [a1]; rfl))]
    exact a3
theorem own_base {x : World} {base : Nat} {e : TypeId} {size : Nat} {v : Value} {n : Nat} {xs : List Value} (h : x.ownsRow base e size v n xs) : ∀ k, v.ownBlock = some k → base ≤ k ∧ k < x.heap.size := by
  obtain ⟨h1, h2⟩ := h
  intro k hk
  rcases h2 with ⟨rfl, _⟩ | ⟨g, cap, cur, rfl, a2, a3, a4⟩
  · exact absurd hk (by simp [Value.ownBlock])
  · simp [Value.ownBlock] at hk
    subst hk
    refine ⟨a2, ?_⟩
    rcases Nat.lt_or_ge g x.heap.size with q | q
    · exact q
    · rw [Array.getElem?_eq_none q] at a3
      exact absurd a3 (by simp)
theorem turned_grown {x y : World} {row : Option Nat} (h : x.grownBy y row) : Turned (fun k => row = some k) x y := ⟨h.os, h.tape, h.output, h.size, fun k hk hq => h.block k hk (fun e => hq e.symm)⟩
/-- a row of instructions, seen by its places -/
theorem own_ents {x : World} {B : Nat} {e : TypeId} {v : Value} {l : List Ent} (h : x.ownsRow B e 5 v l.length (flatE l)) : ∃ q cap, v = .slice q l.length cap ∧ (l.length ≤ cap ∧ cap ≤ maxLen) ∧ (∀ i, i < l.length → ∃ g, q = some ⟨g, 0, none⟩ ∧ B ≤ g ∧ g < x.heap.size ∧ x.cell? ⟨g, i * 5, none⟩ = some (.int .i64 (l.getD i e0).num) ∧ x.cell? ⟨g, i * 5 + 1, none⟩ = some (.int .i64 (l.getD i e0).cls) ∧ x.cell? ⟨g, i * 5 + 2, none⟩ = some (.int .i64 (l.getD i e0).s1) ∧ x.cell? ⟨g, i * 5 + 3, none⟩ = some (.int .i64 (l.getD i e0).s2) ∧ x.cell? ⟨g, i * 5 + 4, none⟩ = some (.int .i64 (l.getD i e0).st) ∧ x.frozen? ⟨g, i * 5 + 4, none⟩ = false) := by
  have h0 := h
  obtain ⟨h1, h2⟩ := h
  rcases h2 with ⟨hv, hn⟩ | ⟨g, cap, cur, rfl, b2, b3, b4, b5, b6, b7⟩
  · refine ⟨none, 0, by rw [hv, hn], ⟨by omega, by unfold maxLen; omega⟩, fun i hi => by omega⟩
  · refine ⟨_, cap, rfl, ⟨b4, b5⟩, fun i hi => ⟨g, rfl, b2, (own_base h0 g rfl).2, ?_⟩⟩
    have c : ∀ j, j < 5 → ∀ u, (l.getD i e0).vs[j]? = some u → x.cell? ⟨g, i * 5 + j, none⟩ = some u := by
      intro j hj u hu
      have q := World.ownsRow.cells h0 rfl (i * 5 + j) u ((flatE_at l i j hi hj).trans hu)
      rwa [Addr.add_lit, Nat.zero_add] at q
    exact ⟨c 0 (by omega) _ rfl, c 1 (by omega) _ rfl, c 2 (by omega) _ rfl, c 3 (by omega) _ rfl, c 4 (by omega) _ rfl, by simp [World.frozen?, b3]⟩
theorem own_cut {x : World} {B : Nat} {e : TypeId} {q : Option Addr} {m cap : Nat} {l : List Ent} (h : x.ownsRow B e 5 (.slice q l.length cap) l.length (flatE l)) (hm : m ≤ l.length) : x.ownsRow B e 5 (.slice q m cap) m (flatE (l.take m)) := by
  obtain ⟨h1, h2⟩ := h
  have hl : (l.take m).length = m := by rw [List.length_take]; omega
  refine ⟨by rw [flatE_len, hl], ?_⟩
  rcases h2 with ⟨h3, h4⟩ | ⟨g, cap', cur, hv, a2, a3, a4, a5, a6, a7⟩
  · simp only [Value.slice.injEq] at h3
    obtain ⟨rfl, h5, rfl⟩ := h3
    exact Or.inl ⟨by rw [show m = 0 by omega], by omega⟩
  · cases hv
    refine Or.inr ⟨g, _, cur, rfl, a2, a3, by omega, a5, a6, ?_⟩
    have e1 : cur.toList.take (m * 5) = (cur.toList.take (l.length * 5)).take (m * 5) := by
      rw [List.take_take, Nat.min_eq_left (by omega)]
    rw [e1, a7, flatE_take]
theorem append_ents {P : Program} (w : World) {ops : Array Oper} {rest : List Oper} {o : Oper} {a : Act} {Q : Exit → Act → World → Prop} (hgd : o.guard = none) (s x : Operand) (t : TypeId)
    (ho : o.op = .call { callee := .builtin .append, args := #[s, x], argTypes := #[t, t] }) (e : TypeId) (i : TypeInfo) (ht : P.underlying t = some (.slice e)) (hi : P.info? e = some i) (hz : i.zero = some (.agg #[.int .i64 0, .int .i64 0, .int .i64 0, .int .i64 0, .int .i64 0])) (hsize : i.size = 5) (hby : i.bytes = 40)
    (base : Nat) (lv : Value) (l : List Ent) (hs : a.eval s = lv) (h : w.ownsRow base e 5 lv l.length (flatE l)) (ad : Addr) (c : Nat) (y : Ent) (hx : a.eval x = .slice (some ad) 1 c) (hy : ∀ j u, y.vs[j]? = some u → w.cell? (ad.add j) = some u)
    (hl : l.length ≤ 1000000) (hB : base ≤ w.heap.size)
    (hK : ∀ v' w', w'.ownsRow base e 5 v' (l.length + 1) (flatE (l ++ [y])) → Turned (fun k => lv.ownBlock = some k) w w' → (∀ k, v'.ownBlock = some k → lv.ownBlock = some k ∨ w.heap.size ≤ k) → wpList P ops Q rest (a.put o.dst v') w') : wpList P ops Q (o :: rest) a w := by
  have hG : flatE l ++ y.vs = flatE (l ++ [y]) := by rw [flatE_app, flatE_one]
  have hone : ∀ u ∈ y.vs, u.oneCell' = true := by
    intro u hu
    simp [Ent.vs] at hu
    rcases hu with rfl | rfl | rfl | rfl | rfl <;> rfl
  have hfl := flatE_len l
  have hmx : l.length + 1 ≤ maxLen := by unfold maxLen; omega
  have fin : ∀ v' w', w'.ownsRow w.heap.size e 5 v' (l.length + 1) (flatE l ++ y.vs) → w.grownBy w' none → wpList P ops Q rest (a.put o.dst v') w' := by
    intro v' w' hown hgrow
    rw [hG] at hown
    refine hK v' w' ?_ ((turned_grown hgrow).mono fun k q => by cases q) (fun k hk => Or.inr (own_base hown k hk).1)
    obtain ⟨b1, b2⟩ := hown
    exact ⟨b1, b2.imp id fun ⟨g, cap, cur, c1, c2, c3⟩ => ⟨g, cap, cur, c1, Nat.le_trans hB c2, c3⟩⟩
  have h0 := h
  obtain ⟨h1, h2⟩ := h
  rcases h2 with ⟨rfl, hn⟩ | ⟨g, cap, cur, rfl, b2, b3, b4, b5, b6, b7⟩
  · obtain rfl : l = [] := List.eq_nil_of_length_eq_zero hn
    exact wpList_append_grows w hgd s x t ho e i _ 5 40 ht hi hz hsize hby rfl (by decide) none 0 0 (flatE []) hs (fun _ => ⟨rfl, rfl⟩) (by simp [flatE]) (fun b hb => by cases hb) ad 1 c y.vs hx rfl hy hone (by omega) hmx (by simp) fin
  · by_cases hr : l.length + 1 ≤ cap
    · refine wpList_append_fits w hgd s x t ho base e i 5 ht hi hsize g l.length cap (flatE l) hs h0 ad 1 c y.vs hx rfl hy hone hr (fun w' hown hgrow => ?_)
      rw [hG] at hown
      exact hK _ w' hown (turned_grown hgrow) (fun k hk => Or.inl hk)
    · refine wpList_append_grows w hgd s x t ho e i _ 5 40 ht hi hz hsize hby rfl (by decide) (some ⟨g, 0, none⟩) l.length cap (flatE l) hs (fun q => by cases q) hfl (fun b hb j u hj => ?_) ad 1 c y.vs hx rfl hy hone (by omega) hmx (by omega) fin
      obtain rfl := Option.some.inj hb
      exact World.ownsRow.cells h0 rfl j u hj
/-- one cell of a row is written -/
theorem own_set {x : World} {B : Nat} {e : TypeId} {g n cap : Nat} {xs : List Value} {size : Nat} (h : x.ownsRow B e size (.slice (some ⟨g, 0, none⟩) n cap) n xs) (i : Nat) (u : Value) : (x.setCell ⟨g, i, none⟩ u).ownsRow B e size (.slice (some ⟨g, 0, none⟩) n cap) n (xs.set i u) := by
  obtain ⟨h1, h2⟩ := h
  refine ⟨by simp [h1], ?_⟩
  rcases h2 with ⟨h3, _⟩ | ⟨g', cap', cur, hv, a2, a3, a4, a5, a6, a7⟩
  · cases h3
  · cases hv
    obtain ⟨hlt, hk⟩ := Array.getElem?_eq_some_iff.1 a3
    refine Or.inr ⟨g, cap, cur.setIfInBounds i u, rfl, a2, ?_, a4, a5, by simpa using a6, ?_⟩
    · show (x.heap.modify g _)[g]? = _
      rw [Array.getElem?_eq_getElem (by rw [Array.size_modify]; exact hlt), Array.getElem_modify_self, hk]
      rfl
    · rw [Array.toList_setIfInBounds, ← a7, List.take_set]
theorem flatE_set : ∀ (l : List Ent) (i : Nat) (s : Int), i < l.length → (flatE l).set (i * 5 + 4) (.int .i64 s) = flatE (l.set i { l.getD i e0 with st := s })
  | [], i, s, h => by simp at h
  | e :: l, 0, s, _ => by
    simp only [flatE, List.set_cons_zero, List.getD_cons_zero]
    rfl
  | e :: l, i + 1, s, h => by
    simp only [flatE, List.set_cons_succ, List.getD_cons_succ]
    rw [← flatE_set l i s (by simp at h; omega)]
    rw [List.set_append]
    have e1 : ¬ (i + 1) * 5 + 4 < e.vs.length := by simp [Ent.vs]; omega
    rw [if_neg e1]
    have e2 : (i + 1) * 5 + 4 - e.vs.length = i * 5 + 4 := by simp [Ent.vs]; omega
    rw [e2]
structure WS where
  size : Nat
  next : Nat
  on : List Ent
  nr : Nat
  ab : Nat → Bool
def wv (s n : Nat) (v : Value) (h c nr : Nat) : Nat → Value
  | 0 => .int .i64 s
  | 1 => .int .i64 n
  | 2 => v
  | _ => .slice (some ⟨h, 0, none⟩) nr c
/-- the window at p: its row is v, its registers' row is in h -/
structure Win (x : World) (B p h c : Nat) (v : Value) (S : WS) : Prop where
  c : CellsAt 4 x p (wv S.size S.next v h c S.nr)
  l : x.ownsRow B 76 5 v S.on.length (flatE S.on)
  a : CellsAt S.nr x h (fun o => .bool (S.ab o))
  ne : p ≠ h
  vp : v.ownBlock ≠ some p
  vh : v.ownBlock ≠ some h
  small : S.on.length ≤ 64 ∧ S.nr ≤ 128 ∧ S.next ≤ 1000000 ∧ S.size ≤ 64
  lo : B ≤ p ∧ B ≤ h
  fit : ∀ i, i < S.on.length → (S.on.getD i e0).s1 < S.nr ∧ (S.on.getD i e0).s2 < S.nr
theorem Win.turned {Q : Nat → Prop} {x y : World} {B p h c : Nat} {v : Value} {S : WS} (k : Win x B p h c v S) (t : Turned Q x y) (hp : ¬ Q p) (hh : ¬ Q h) (hv : ∀ j, v.ownBlock = some j → ¬ Q j) : Win y B p h c v S :=
  ⟨t.cells k.c hp, own_turned k.l t hv, t.cells k.a hh, k.ne, k.vp, k.vh, k.small, k.lo, k.fit⟩
theorem Win.below {x y : World} {B p h c : Nat} {v : Value} {S : WS} (k : Win x B p h c v S) (t : Below x.heap.size x y) : Win y B p h c v S :=
  k.turned (Q := fun _ => False) ⟨t.os, t.tape, t.output, t.size, fun i hi _ => t.block i hi⟩ (fun q => q) (fun q => q) (fun _ _ q => q)
theorem Win.row {x : World} {B p h c : Nat} {v : Value} {S : WS} (k : Win x B p h c v S) : ∃ q cap, v = .slice q S.on.length cap := by
  obtain ⟨q, cap, h1, _⟩ := own_ents k.l
  exact ⟨q, cap, h1⟩
end Go.Proofs.YtckglpmjaplcnaaDoor
