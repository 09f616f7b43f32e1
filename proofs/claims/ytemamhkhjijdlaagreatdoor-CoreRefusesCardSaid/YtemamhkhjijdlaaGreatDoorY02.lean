import Derived.Test.YtemamhkhjijdlaaGreatDoorY00
import Derived.ArgAppend
import Derived.OwnWalk
import Derived.Laws.AppendOwn
import Derived.Laws.AppendOwnNone
import Derived.Deep.MidRow
import Derived.BigQuiet
import Derived.Deep.RegionHeld3
import Derived.Laws.BitsAllLaws
import Derived.Deep.WholeRow
import Derived.Deep.RegionHeldLaw
import Derived.Maps.AppendAt
/-
  LINES IN MEMORY: rows of lines of eighteen cells.
-/
namespace Go.Proofs.YtemamhkhjijdlaaGreatDoor
open Go Go.RowKit
structure Ln where
  a : Nat
  s : Nat
  b : Nat → Nat
def l0 : Ln := ⟨0, 0, fun _ => 0⟩
def bvs (b : Nat → Nat) : List Value := (List.range 16).map fun j => .int .u8 (b j)
def Ln.vs (e : Ln) : List Value := .int .u32 e.a :: .int .i64 e.s :: bvs e.b
theorem bvs_len (b : Nat → Nat) : (bvs b).length = 16 := by simp [bvs]
theorem Ln.len (e : Ln) : e.vs.length = 18 := by simp [Ln.vs, bvs_len]
theorem bvs_at (b : Nat → Nat) (j : Nat) (h : j < 16) : (bvs b)[j]? = some (.int .u8 (b j)) := by simp [bvs, h]
theorem Ln.at2 (e : Ln) (j : Nat) (h : j < 16) : e.vs[2 + j]? = some (.int .u8 (e.b j)) := by
  rw [Nat.add_comm]
  exact bvs_at e.b j h
theorem bvs_one (b : Nat → Nat) : ∀ u ∈ bvs b, u.oneCell' = true := by
  intro u hu
  simp only [bvs, List.mem_map] at hu
  obtain ⟨j, -, rfl⟩ := hu
  rfl
theorem Ln.one (e : Ln) : ∀ u ∈ e.vs, u.oneCell' = true := by
  intro u hu
  simp only [Ln.vs, List.mem_cons] at hu
  rcases hu with rfl | rfl | hu
  · rfl
  · rfl
  · exact bvs_one _ u hu
def flatL : List Ln → List Value
  | [] => []
  | e :: l => e.vs ++ flatL l
theorem flatL_at : ∀ (l : List Ln) (i j : Nat), i < l.length → j < 18 → (flatL l)[i * 18 + j]? = (l.getD i l0).vs[j]?
  | [], i, j, h, _ => by simp at h
  | e :: l, 0, j, _, hj => by
    simp only [flatL, Nat.zero_mul, Nat.zero_add, List.getD_cons_zero]
    exact List.getElem?_append_left (by rw [Ln.len]; omega)
  | e :: l, i + 1, j, h, hj => by
    simp only [flatL, List.getD_cons_succ]
    rw [List.getElem?_append_right (by rw [Ln.len]; omega)]
    have e1 : (i + 1) * 18 + j - e.vs.length = i * 18 + j := by rw [Ln.len]; omega
    rw [e1]
    exact flatL_at l i j (by simp at h; omega) hj
theorem own_turned_bus {Q : Nat → Prop} {x y : World} {base : Nat} {e : TypeId} {size : Nat} {v : Value} {n : Nat} {xs : List Value} (h : x.ownsRow base e size v n xs) (c : Turned Q x y) (hq : ∀ k, v.ownBlock = some k → ¬ Q k) : y.ownsRow base e size v n xs := by
  obtain ⟨h1, h2⟩ := h
  refine ⟨h1, ?_⟩
  rcases h2 with h2 | ⟨g, cap, cur, a1, a2, a3, a4⟩
  · exact Or.inl h2
  · refine Or.inr ⟨g, cap, cur, a1, a2, ?_, a4⟩
    have hg : g < x.heap.size := by
      rcases Nat.lt_or_ge g x.heap.size with q | q
      · exact q
      · rw [Array.getElem?_eq_none q] at a3
        exact absurd a3 (by simp)
    rw [c.block g hg (hq g (by rw [a1]; rfl))]
    exact a3
theorem own_base_bus {x : World} {base : Nat} {e : TypeId} {size : Nat} {v : Value} {n : Nat} {xs : List Value} (h : x.ownsRow base e size v n xs) : ∀ k, v.ownBlock = some k → base ≤ k ∧ k < x.heap.size := by
  obtain ⟨h1, h2⟩ := h
  intro k hk
  rcases h2 with ⟨rfl, _⟩ | ⟨g, cap, cur, rfl, a2, a3, a4⟩
  · exact absurd hk (by simp [Value.ownBlock])
  · simp [Value.ownBlock] at hk
    subst hk
    refine ⟨a2, ?_⟩
    rcases Nat.lt_or_ge g x.heap.size with q | q
    · exact q
    · rw [Array.getElem?_eq_none q] at a3
      exact absurd a3 (by simp)
theorem turned_grown_bus {x y : World} {row : Option Nat} (h : x.grownBy y row) : Turned (fun k => row = some k) x y := ⟨h.os, h.tape, h.output, h.size, fun k hk hq => h.block k hk (fun e => hq e.symm)⟩
/-- one cell of a row is written -/
theorem own_set_bus {x : World} {B : Nat} {e : TypeId} {g n cap : Nat} {xs : List Value} {size : Nat} (h : x.ownsRow B e size (.slice (some ⟨g, 0, none⟩) n cap) n xs) (i : Nat) (u : Value) : (x.setCell ⟨g, i, none⟩ u).ownsRow B e size (.slice (some ⟨g, 0, none⟩) n cap) n (xs.set i u) := by
  obtain ⟨h1, h2⟩ := h
  refine ⟨by simp [h1], ?_⟩
  rcases h2 with ⟨h3, _⟩ | ⟨g', cap', cur, hv, a2, a3, a4, a5, a6, a7⟩
  · cases h3
  · cases hv
    obtain ⟨hlt, hk⟩ := Array.getElem?_eq_some_iff.1 a3
    refine Or.inr ⟨g, cap, cur.setIfInBounds i u, rfl, a2, ?_, a4, a5, by simpa using a6, ?_⟩
    · show (x.heap.modify g _)[g]? = _
      rw [Array.getElem?_eq_getElem (by rw [Array.size_modify]; exact hlt), Array.getElem_modify_self, hk]
      rfl
    · rw [Array.toList_setIfInBounds, ← a7, List.take_set]
theorem turned_setCells_bus {g : Nat} : ∀ (us : List Value) (i : Nat) (x : World), Turned (fun k => k = g) x (x.setCells g i us)
  | [], _, x => Turned.refl _ x
  | u :: us, i, x => ((Turned.refl (fun k => k = g) x).set (b := g) rfl i u).trans (turned_setCells_bus us (i + 1) _)
/-- a row of lines, seen by its places -/
theorem own_lines {x : World} {B : Nat} {e : TypeId} {v : Value} {l : List Ln} (h : x.ownsRow B e 18 v l.length (flatL l)) : ∃ q cap, v = .slice q l.length cap ∧ (l.length ≤ cap ∧ cap ≤ maxLen) ∧ (∀ i, i < l.length → ∃ g, q = some ⟨g, 0, none⟩ ∧ B ≤ g ∧ g < x.heap.size ∧ x.rangeAt g (i * 18) (l.getD i l0).vs ∧ x.there g (i * 18) 18 ∧ x.cell? ⟨g, i * 18, none⟩ = some (.int .u32 (l.getD i l0).a) ∧ x.cell? ⟨g, i * 18 + 1, none⟩ = some (.int .i64 (l.getD i l0).s) ∧ ∀ o, x.frozen? ⟨g, o, none⟩ = false) := by
  have h0 := h
  obtain ⟨h1, h2⟩ := h
  rcases h2 with ⟨hv, hn⟩ | ⟨g, cap, cur, rfl, b2, b3, b4, b5, b6, b7⟩
  · refine ⟨none, 0, by rw [hv, hn], ⟨by omega, by unfold maxLen; omega⟩, fun i hi => by omega⟩
  · refine ⟨_, cap, rfl, ⟨b4, b5⟩, fun i hi => ⟨g, rfl, b2, (own_base_bus h0 g rfl).2, ?_⟩⟩
    have c : ∀ j, j < 18 → ∀ u, (l.getD i l0).vs[j]? = some u → x.cell? ⟨g, i * 18 + j, none⟩ = some u := by
      intro j hj u hu
      have q := World.ownsRow.cells h0 rfl (i * 18 + j) u ((flatL_at l i j hi hj).trans hu)
      rwa [Addr.add_lit, Nat.zero_add] at q
    have hf : ∀ o, x.frozen? ⟨g, o, none⟩ = false := fun o => by simp [World.frozen?, b3]
    refine ⟨fun j v hv => ?_, fun j hj => ⟨?_, hf _⟩, c 0 (by omega) _ rfl, c 1 (by omega) _ rfl, hf⟩
    · have hj : j < (l.getD i l0).vs.length := (List.getElem?_eq_some_iff.1 hv).1
      rw [Ln.len] at hj
      exact c j hj v hv
    · rw [c j hj _ (List.getElem?_eq_getElem (by rw [Ln.len]; exact hj))]
      rfl
/-- bytes and states, written one by one -/
def Ln.setB (e : Ln) (q v : Nat) : Ln := { e with b := upd e.b q v }
def Ln.setS (e : Ln) (s : Nat) : Ln := { e with s := s }
theorem below_drewN_bus (w : World) (n : Nat) : Below w.heap.size w (w.drewN n) := ⟨rfl, rfl, rfl, Nat.le_refl _, fun _ _ => rfl⟩
end Go.Proofs.YtemamhkhjijdlaaGreatDoor
/-
  A CACHE IN MEMORY; setOf, find, State.
-/
namespace Go.Proofs.YtemamhkhjijdlaaGreatDoor
open Go Go.RowKit
structure CS where
  ways : Nat
  n : Nat
  set : Nat → List Ln
def CS.put (S : CS) (i : Nat) (l : List Ln) : CS := { S with set := upd S.set i l }
def cv (ways h n c : Nat) : Nat → Value
  | 0 => .int .i64 ways
  | _ => .slice (some ⟨h, 0, none⟩) n c
/-- the cache at p: its sets' rows are V, and stand in h -/
structure Ch (x : World) (B p h d : Nat) (V : Nat → Value) (S : CS) : Prop where
  c : CellsAt 2 x p (cv S.ways h S.n d)
  v : CellsAt S.n x h V
  l : ∀ i, i < S.n → x.ownsRow B 210 18 (V i) (S.set i).length (flatL (S.set i))
  ne : p ≠ h
  vp : ∀ i, i < S.n → (V i).ownBlock ≠ some p
  vh : ∀ i, i < S.n → (V i).ownBlock ≠ some h
  vv : ∀ i j k, i < S.n → j < S.n → i ≠ j → (V i).ownBlock = some k → (V j).ownBlock ≠ some k
  few : ∀ i, i < S.n → (S.set i).length ≤ S.ways
  small : S.ways ≤ 4 ∧ 1 ≤ S.ways ∧ 1 ≤ S.n ∧ S.n ≤ 16 ∧ S.n ≤ d ∧ d ≤ 16
  lo : B ≤ p ∧ B ≤ h
theorem Ch.turned {Q : Nat → Prop} {x y : World} {B p h c : Nat} {V : Nat → Value} {S : CS} (k : Ch x B p h c V S) (t : Turned Q x y) (hp : ¬ Q p) (hh : ¬ Q h) (hv : ∀ i j, i < S.n → (V i).ownBlock = some j → ¬ Q j) : Ch y B p h c V S :=
  ⟨t.cells k.c hp, t.cells k.v hh, fun i hi => own_turned_bus (k.l i hi) t (fun j hj => hv i j hi hj), k.ne, k.vp, k.vh, k.vv, k.few, k.small, k.lo⟩
theorem Ch.below {x y : World} {B p h c : Nat} {V : Nat → Value} {S : CS} (k : Ch x B p h c V S) (t : Below x.heap.size x y) : Ch y B p h c V S :=
  k.turned (Q := fun _ => False) ⟨t.os, t.tape, t.output, t.size, fun i hi _ => t.block i hi⟩ (fun q => q) (fun q => q) (fun _ _ _ _ q => q)
theorem Ch.drew {x : World} {B p h c : Nat} {V : Nat → Value} {S : CS} (k : Ch x B p h c V S) : Ch x.drew B p h c V S := k.below (Below.refl _ _).drew
theorem Ch.cells {x : World} {B p h c : Nat} {V : Nat → Value} {S : CS} (k : Ch x B p h c V S) : p < x.heap.size ∧ x.cell? ⟨p, 0, none⟩ = some (.int .i64 S.ways) ∧ x.cell? ⟨p, 1, none⟩ = some (.slice (some ⟨h, 0, none⟩) S.n c) :=
  ⟨k.c.here, k.c.cell 0 (by omega), k.c.cell 1 (by omega)⟩
/-- a set's row has turned -/
theorem Ch.row {x y : World} {B p h c : Nat} {V : Nat → Value} {S : CS} (k : Ch x B p h c V S) (i : Nat) (hi : i < S.n) (m : List Ln) (t : Turned (fun k => (V i).ownBlock = some k) x y) (r : y.ownsRow B 210 18 (V i) m.length (flatL m)) (hm : m.length ≤ S.ways) : Ch y B p h c V (S.put i m) := by
  refine ⟨t.cells k.c (k.vp i hi), t.cells k.v (k.vh i hi), fun j hj => ?_, k.ne, k.vp, k.vh, k.vv, fun j hj => ?_, k.small, k.lo⟩
  · show y.ownsRow B _ 18 (V j) (upd S.set i m j).length (flatL (upd S.set i m j))
    by_cases e : j = i
    · subst e
      rw [upd_same]
      exact r
    · rw [upd_other _ _ _ _ e]
      exact own_turned_bus (k.l j hj) t (fun q hq hq' => k.vv j i q hj hi e hq hq')
  · show (upd S.set i m j).length ≤ S.ways
    by_cases e : j = i
    · subst e
      rw [upd_same]
      exact hm
    · rw [upd_other _ _ _ _ e]
      exact k.few j hj
/-- the set to which an address belongs -/
def CS.of (S : CS) (a : Nat) : Nat := a / 16 % S.n
theorem CS.of_lt (S : CS) (a : Nat) (h : 1 ≤ S.n) : S.of a < S.n := Nat.mod_lt _ h
def lineOf (a : Nat) : Nat := a - a % 16
/-- where a line is: nothing ahead of it has its address -/
def At (l : List Ln) (a i : Nat) : Prop := i < l.length ∧ (l.getD i l0).a = lineOf a ∧ ∀ j, j < i → (l.getD j l0).a ≠ lineOf a
def No (l : List Ln) (a : Nat) : Prop := ∀ j, j < l.length → (l.getD j l0).a ≠ lineOf a
theorem at_or_no (l : List Ln) (a : Nat) : (∃ i, At l a i) ∨ No l a := by
  by_cases h : ∃ j, j < l.length ∧ (l.getD j l0).a = lineOf a
  · left
    obtain ⟨j, hj⟩ := h
    induction j using Nat.strongRecOn with
    | ind j ih =>
      by_cases q : ∃ i, i < j ∧ (l.getD i l0).a = lineOf a
      · obtain ⟨i, h1, h2⟩ := q
        exact ih i h1 ⟨by omega, h2⟩
      · exact ⟨j, hj.1, hj.2, fun i hi e => q ⟨i, hi, e⟩⟩
  · right
    exact fun j hj e => h ⟨j, hj, e⟩
theorem at_inj {l : List Ln} {a i j : Nat} (x : At l a i) (y : At l a j) : i = j := by
  obtain ⟨a1, a2, a3⟩ := x
  obtain ⟨b1, b2, b3⟩ := y
  rcases Nat.lt_trichotomy i j with q | q | q
  · exact absurd a2 (b3 i q)
  · exact q
  · exact absurd b2 (a3 j q)
theorem Ch.four {x : World} {B p h c : Nat} {V : Nat → Value} {S : CS} (k : Ch x B p h c V S) (i : Nat) (hi : i < S.n) : (S.set i).length ≤ 4 := Nat.le_trans (k.few i hi) k.small.1
end Go.Proofs.YtemamhkhjijdlaaGreatDoor
/-
  CACHE: State, isLine, mayStand, part, number, put.
-/
namespace Go.Proofs.YtemamhkhjijdlaaGreatDoor
open Go Go.RowKit
end Go.Proofs.YtemamhkhjijdlaaGreatDoor
/-
  CACHE: number, put: bytes as numbers, the low one first.
-/
namespace Go.Proofs.YtemamhkhjijdlaaGreatDoor
open Go Go.RowKit
def Ln.putN (e : Ln) (q d : Nat) : Nat → Ln
  | 0 => e
  | j + 1 => (e.putN q d j).setB (q + j) (d / 256 ^ j % 256)
end Go.Proofs.YtemamhkhjijdlaaGreatDoor
/-
  CACHE: use, takeOut.
-/
namespace Go.Proofs.YtemamhkhjijdlaaGreatDoor
open Go Go.RowKit
/-- the row without one -/
def rest (l : List Ln) (k : Nat) : List Ln := l.take k ++ l.drop (k + 1)
def zl : Array Value := #[.int .u32 0, .int .i64 0, .int .u8 0, .int .u8 0, .int .u8 0, .int .u8 0, .int .u8 0, .int .u8 0, .int .u8 0, .int .u8 0, .int .u8 0, .int .u8 0, .int .u8 0, .int .u8 0, .int .u8 0, .int .u8 0, .int .u8 0, .int .u8 0]
end Go.Proofs.YtemamhkhjijdlaaGreatDoor
/-
  CACHE: takeOut.
-/
namespace Go.Proofs.YtemamhkhjijdlaaGreatDoor
open Go Go.RowKit
/-- the blocks that are a cache's -/
def mine (p h n : Nat) (V : Nat → Value) (q : Nat) : Prop := q = p ∨ q = h ∨ ∃ i, i < n ∧ (V i).ownBlock = some q
end Go.Proofs.YtemamhkhjijdlaaGreatDoor
/-
  CACHE: Read, Write.
-/
namespace Go.Proofs.YtemamhkhjijdlaaGreatDoor
open Go Go.RowKit
/-- the set that an address has, opened -/
theorem Ch.open {w : World} {B p h c : Nat} {V : Nat → Value} {S : CS} (k : Ch w B p h c V S) (a i : Nat) (hA : i < (S.set (S.of a)).length) : ∃ g m cap, V (S.of a) = .slice (some ⟨g, 0, none⟩) m cap ∧ (S.set (S.of a)).length = m ∧ i < m ∧ m ≤ 4 ∧ m ≤ cap ∧ cap ≤ 9223372036854775807 ∧ g < w.heap.size ∧ g ≠ p ∧ g ≠ h := by
  have hO := S.of_lt a k.small.2.2.1
  obtain ⟨q, cap, hv, hcap, hel⟩ := own_lines (k.l _ hO)
  obtain ⟨g, rfl, -, hg, -⟩ := hel i hA
  have hb : (V (S.of a)).ownBlock = some g := by rw [hv]; rfl
  refine ⟨g, _, cap, hv, rfl, hA, k.four _ hO, hcap.1, ?_, hg, fun e => k.vp _ hO (by rw [hb, e]), fun e => k.vh _ hO (by rw [hb, e])⟩
  have := hcap.2
  unfold maxLen at this
  omega
def Ln.wr (e : Ln) (q d z : Nat) : Ln := (e.setS 3).putN q d z
def CS.wrote (S : CS) (i k q d z : Nat) : CS := S.put i (rest (S.set i) k ++ [((S.set i).getD k l0).wr q d z])
end Go.Proofs.YtemamhkhjijdlaaGreatDoor
/-
  CACHE: Fill: what it does to memory; takeOut by the cache.
-/
namespace Go.Proofs.YtemamhkhjijdlaaGreatDoor
open Go Go.RowKit
theorem info_parts_bus {P : Program} {t : TypeId} {z : Option Value} {s b : Nat} (h : (P.info? t).map (fun i => (i.zero, i.size, i.bytes)) = some (z, s, b)) : ∃ i, P.info? t = some i ∧ i.zero = z ∧ i.size = s ∧ i.bytes = b := by
  cases q : P.info? t with
  | none => rw [q] at h; simp at h
  | some i =>
    rw [q] at h
    simp at h
    exact ⟨i, rfl, h.1, h.2.1, h.2.2⟩
theorem own_succ {w : World} {base : Nat} {e : TypeId} {size n : Nat} {v : Value} {xs : List Value} (h : w.ownsRow base e size v (n + 1) xs) : ∃ g cap, v = .slice (some ⟨g, 0, none⟩) (n + 1) cap := by
  rcases h.2 with ⟨-, h2⟩ | ⟨g, cap, cur, h1, -⟩
  · omega
  · exact ⟨g, cap, h1⟩
end Go.Proofs.YtemamhkhjijdlaaGreatDoor
