/-
  LOADS AND STORES IN MEMORY: rows of accesses, eight cells each; of each the numbers of where its bytes are of.
-/
import Derived.Test.YthbffonedpeeiaaDoorNa
import Derived.ArgAppend
import Derived.OwnWalk
import Derived.Laws.AppendOwn
import Derived.Laws.AppendOwnNone
import Derived.Deep.MidRow
import Derived.Deep.WholeRow
import Derived.Laws.IdiomCopy
import Derived.Deep.Cut
import Derived.Deep.Draws
import Derived.BigQuiet
import Derived.Deep.RegionHeld3
namespace Go.Proofs.YthbffonedpeeiaaDoor
open Go Go.RowKit
structure Ac where
  n : Int
  st : Bool
  a : Nat
  z : Nat
  d : Nat
  hv : Bool
  rt : Bool
  fr : List Int
  fb : Option Nat
  fc : Nat
def a0 : Ac := ⟨0, false, 0, 0, 0, false, false, [], none, 0⟩
/-- its row of numbers -/
def Ac.v (e : Ac) : Value := .slice (e.fb.map fun b => ⟨b, 0, none⟩) e.fr.length e.fc
def Ac.vs (e : Ac) : List Value := [.int .i64 e.n, .bool e.st, .int .u32 e.a, .int .i64 e.z, .int .u32 e.d, .bool e.hv, .bool e.rt, e.v]
theorem Ac.len (e : Ac) : e.vs.length = 8 := rfl
theorem Ac.sizeA (e : Ac) : e.vs.toArray.size = 8 := rfl
theorem Ac.one (e : Ac) : ∀ u ∈ e.vs, u.oneCell' = true := by
  intro u hu
  simp only [Ac.vs, List.mem_cons, List.not_mem_nil, or_false] at hu
  rcases hu with rfl | rfl | rfl | rfl | rfl | rfl | rfl | rfl <;> rfl
theorem Ac.oneA (e : Ac) : e.vs.toArray.all (·.oneCell') = true := all_oneCell_toArray e.one
theorem Ac.vb (e : Ac) : e.v.ownBlock = e.fb := by
  unfold Ac.v
  cases e.fb <;> rfl
def flatA : List Ac → List Value
  | [] => []
  | e :: l => e.vs ++ flatA l
theorem flatA_len : ∀ l : List Ac, (flatA l).length = l.length * 8
  | [] => rfl
  | e :: l => by simp only [flatA, List.length_append, flatA_len l, List.length_cons, Ac.len]; omega
theorem flatA_app : ∀ l k : List Ac, flatA (l ++ k) = flatA l ++ flatA k
  | [], k => rfl
  | e :: l, k => by simp only [flatA, List.cons_append, flatA_app l k, List.append_assoc]
theorem flatA_one (e : Ac) : flatA [e] = e.vs := by simp [flatA]
theorem flatA_at : ∀ (l : List Ac) (i j : Nat), i < l.length → j < 8 → (flatA l)[i * 8 + j]? = (l.getD i a0).vs[j]?
  | [], i, j, h, _ => by simp at h
  | e :: l, 0, j, _, hj => by
    simp only [flatA, Nat.zero_mul, Nat.zero_add, List.getD_cons_zero]
    exact List.getElem?_append_left (by rw [Ac.len]; omega)
  | e :: l, i + 1, j, h, hj => by
    simp only [flatA, List.getD_cons_succ]
    rw [List.getElem?_append_right (by rw [Ac.len]; omega)]
    have e1 : (i + 1) * 8 + j - e.vs.length = i * 8 + j := by rw [Ac.len]; omega
    rw [e1]
    exact flatA_at l i j (by simp at h; omega) hj
theorem flatA_take : ∀ (l : List Ac) (k : Nat), (flatA l).take (k * 8) = flatA (l.take k)
  | [], k => by simp [flatA]
  | e :: l, 0 => by simp [flatA]
  | e :: l, k + 1 => by
    simp only [flatA, List.take_succ_cons]
    have e1 : (k + 1) * 8 = e.vs.length + k * 8 := by rw [Ac.len]; omega
    rw [e1, List.take_length_add_append, flatA_take l k]
theorem flatA_drop : ∀ (l : List Ac) (k : Nat), (flatA l).drop (k * 8) = flatA (l.drop k)
  | [], k => by simp [flatA]
  | e :: l, 0 => by simp [flatA]
  | e :: l, k + 1 => by
    simp only [flatA, List.drop_succ_cons]
    have e1 : (k + 1) * 8 = e.vs.length + k * 8 := by rw [Ac.len]; omega
    rw [e1, List.drop_length_add_append, flatA_drop l k]
theorem flatA_set : ∀ (l : List Ac) (i j : Nat) (u : Value) (y : Ac), i < l.length → j < 8 → y.vs = (l.getD i a0).vs.set j u → (flatA l).set (i * 8 + j) u = flatA (l.set i y)
  | [], i, j, u, y, h, _, _ => by simp at h
  | e :: l, 0, j, u, y, _, hj, hy => by
    simp only [flatA, List.set_cons_zero, List.getD_cons_zero, Nat.zero_mul, Nat.zero_add] at hy ⊢
    rw [List.set_append, if_pos (by rw [Ac.len]; omega), hy]
  | e :: l, i + 1, j, u, y, h, hj, hy => by
    simp only [flatA, List.set_cons_succ, List.getD_cons_succ] at hy ⊢
    rw [← flatA_set l i j u y (by simp at h; omega) hj hy, List.set_append]
    have e1 : ¬ (i + 1) * 8 + j < e.vs.length := by rw [Ac.len]; omega
    rw [if_neg e1]
    have e2 : (i + 1) * 8 + j - e.vs.length = i * 8 + j := by rw [Ac.len]; omega
    rw [e2]
theorem flatA_one' : ∀ (l : List Ac), ∀ u ∈ flatA l, u.oneCell' = true
  | [], u, h => by simp [flatA] at h
  | e :: l, u, h => by
    simp only [flatA, List.mem_append] at h
    rcases h with h | h
    · exact e.one u h
    · exact flatA_one' l u h
theorem own_turned {Q : Nat → Prop} {x y : World} {base : Nat} {e : TypeId} {size : Nat} {v : Value} {n : Nat} {xs : List Value} (h : x.ownsRow base e size v n xs) (c : Turned Q x y) (hq : ∀ k, v.ownBlock = some k → ¬ Q k) : y.ownsRow base e size v n xs := by
  obtain ⟨h1, h2⟩ := h
  refine ⟨h1, ?_⟩
  rcases h2 with h2 | ⟨g, cap, cur, a1, a2, a3, a4⟩
  · exact Or.inl h2
  · refine Or.inr ⟨g, cap, cur, a1, a2, ?_, a4⟩
    have hg : g < x.heap.size := by
      rcases Nat.lt_or_ge g x.heap.size with q | q
      · exact q
      · rw [Array.getElem?_eq_none q] at a3
        exact absurd a3 (by simp)
    rw [c.block g hg (hq g (by rw [a1]; rfl))]
    exact a3
theorem own_base {x : World} {base : Nat} {e : TypeId} {size : Nat} {v : Value} {n : Nat} {xs : List Value} (h : x.ownsRow base e size v n xs) : ∀ k, v.ownBlock = some k → base ≤ k ∧ k < x.heap.size := by
  obtain ⟨h1, h2⟩ := h
  intro k hk
  rcases h2 with ⟨rfl, _⟩ | ⟨g, cap, cur, rfl, a2, a3, a4⟩
  · exact absurd hk (by simp [Value.ownBlock])
  · simp [Value.ownBlock] at hk
    subst hk
    refine ⟨a2, ?_⟩
    rcases Nat.lt_or_ge g x.heap.size with q | q
    · exact q
    · rw [Array.getElem?_eq_none q] at a3
      exact absurd a3 (by simp)
theorem turned_grown {x y : World} {row : Option Nat} (h : x.grownBy y row) : Turned (fun k => row = some k) x y := ⟨h.os, h.tape, h.output, h.size, fun k hk hq => h.block k hk (fun e => hq e.symm)⟩
theorem range_turned {Q : Nat → Prop} {x y : World} {b o : Nat} {cs : List Value} (h : x.rangeAt b o cs) (t : Turned Q x y) (hb : b < x.heap.size) (hq : ¬ Q b) : y.rangeAt b o cs := fun j v hv => (World.cell?_of_block (t.block b hb hq)).trans (h j v hv)
theorem there_turned {Q : Nat → Prop} {x y : World} {b o n : Nat} (h : x.there b o n) (t : Turned Q x y) (hb : b < x.heap.size) (hq : ¬ Q b) : y.there b o n := fun j hj => ⟨by rw [World.cell?_of_block (t.block b hb hq)]; exact (h j hj).1, by rw [World.frozen?_of_block (t.block b hb hq)]; exact (h j hj).2⟩
theorem info_parts {P : Program} {t : TypeId} {z : Option Value} {s b : Nat} (h : (P.info? t).map (fun i => (i.zero, i.size, i.bytes)) = some (z, s, b)) : ∃ i, P.info? t = some i ∧ i.zero = z ∧ i.size = s ∧ i.bytes = b := by
  cases q : P.info? t with
  | none => rw [q] at h; simp at h
  | some i =>
    rw [q] at h
    simp at h
    exact ⟨i, rfl, h.1, h.2.1, h.2.2⟩
theorem below_drewN (w : World) (n : Nat) : Below w.heap.size w (w.drewN n) := ⟨rfl, rfl, rfl, Nat.le_refl _, fun _ _ => rfl⟩
theorem blk_setCell {x : World} {g : Nat} {e : TypeId} {cur : Array Value} (h : x.heap[g]? = some (.cells cur e (0, 0))) (i : Nat) (u : Value) : (x.setCell ⟨g, i, none⟩ u).heap[g]? = some (.cells (cur.setIfInBounds i u) e (0, 0)) := by
  obtain ⟨hlt, hk⟩ := Array.getElem?_eq_some_iff.1 h
  show (x.heap.modify g _)[g]? = _
  rw [Array.getElem?_eq_getElem (by rw [Array.size_modify]; exact hlt), Array.getElem_modify_self, hk]
  rfl
theorem blk_setCells {g : Nat} {e : TypeId} : ∀ (us : List Value) (i : Nat) (x : World) (cur : Array Value), x.heap[g]? = some (.cells cur e (0, 0)) → ∃ cur', (x.setCells g i us).heap[g]? = some (.cells cur' e (0, 0)) ∧ cur'.size = cur.size
  | [], _, _, cur, h => ⟨cur, h, rfl⟩
  | u :: us, i, x, cur, h => by
    obtain ⟨cur', h1, h2⟩ := blk_setCells us (i + 1) (x.setCell ⟨g, i, none⟩ u) _ (blk_setCell h i u)
    exact ⟨cur', h1, by rw [h2]; simp⟩
theorem turned_setCells {g : Nat} : ∀ (us : List Value) (i : Nat) (x : World), Turned (fun k => k = g) x (x.setCells g i us)
  | [], _, x => Turned.refl _ x
  | u :: us, i, x => ((Turned.refl (fun k => k = g) x).set (b := g) rfl i u).trans (turned_setCells us (i + 1) _)
theorem own_of_cells {x : World} {B g n cap size : Nat} {e : TypeId} {cur : Array Value} {xs : List Value} (h : x.heap[g]? = some (.cells cur e (0, 0))) (hB : B ≤ g) (hn : n ≤ cap) (hm : cap ≤ maxLen) (hs : cur.size = cap * size) (hl : xs.length = n * size) (hc : ∀ j u, xs[j]? = some u → x.cell? ⟨g, j, none⟩ = some u) : x.ownsRow B e size (.slice (some ⟨g, 0, none⟩) n cap) n xs := by
  refine ⟨hl, Or.inr ⟨g, cap, cur, rfl, hB, h, hn, hm, hs, ?_⟩⟩
  have hle : n * size ≤ cur.size := by rw [hs]; exact Nat.mul_le_mul_right _ hn
  apply List.ext_getElem?
  intro j
  rw [List.getElem?_take]
  by_cases hj : j < n * size
  · rw [if_pos hj]
    obtain ⟨u, hu⟩ : ∃ u, xs[j]? = some u := ⟨xs[j]'(by omega), List.getElem?_eq_getElem (by omega)⟩
    have := hc j u hu
    rw [hu]
    simpa [World.cell?, h] using this
  · rw [if_neg hj, List.getElem?_eq_none (by omega)]
/-- one cell of a row is written -/
theorem own_set {x : World} {B : Nat} {e : TypeId} {g n cap : Nat} {xs : List Value} {size : Nat} (h : x.ownsRow B e size (.slice (some ⟨g, 0, none⟩) n cap) n xs) (i : Nat) (u : Value) : (x.setCell ⟨g, i, none⟩ u).ownsRow B e size (.slice (some ⟨g, 0, none⟩) n cap) n (xs.set i u) := by
  obtain ⟨h1, h2⟩ := h
  refine ⟨by simp [h1], ?_⟩
  rcases h2 with ⟨h3, _⟩ | ⟨g', cap', cur, hv, a2, a3, a4, a5, a6, a7⟩
  · cases h3
  · cases hv
    refine Or.inr ⟨g, cap, cur.setIfInBounds i u, rfl, a2, blk_setCell a3 i u, a4, a5, by simpa using a6, ?_⟩
    rw [Array.toList_setIfInBounds, ← a7, List.take_set]
/-- a row, seen by its places -/
theorem own_row {x : World} {B : Nat} {e : TypeId} {v : Value} {l : List Ac} (h : x.ownsRow B e 8 v l.length (flatA l)) : ∃ q cap, v = .slice q l.length cap ∧ (l.length ≤ cap ∧ cap ≤ maxLen) ∧ (∀ i, i < l.length → ∃ g, q = some ⟨g, 0, none⟩ ∧ B ≤ g ∧ g < x.heap.size ∧ x.rangeAt g (i * 8) (l.getD i a0).vs ∧ ∀ o, x.frozen? ⟨g, o, none⟩ = false) := by
  have h0 := h
  obtain ⟨h1, h2⟩ := h
  rcases h2 with ⟨hv, hn⟩ | ⟨g, cap, cur, rfl, b2, b3, b4, b5, b6, b7⟩
  · refine ⟨none, 0, by rw [hv, hn], ⟨by omega, by unfold maxLen; omega⟩, fun i hi => by omega⟩
  · refine ⟨_, cap, rfl, ⟨b4, b5⟩, fun i hi => ⟨g, rfl, b2, (own_base h0 g rfl).2, ?_, fun o => by simp [World.frozen?, b3]⟩⟩
    intro j u hu
    have hj : j < 8 := by
      rcases Nat.lt_or_ge j 8 with q | q
      · exact q
      · rw [List.getElem?_eq_none (by rw [Ac.len]; exact q)] at hu; cases hu
    have q := World.ownsRow.cells h0 rfl (i * 8 + j) u ((flatA_at l i j hi hj).trans hu)
    rwa [Addr.add_lit, Nat.zero_add] at q
theorem row_cells {x : World} {g o : Nat} {e : Ac} (h : x.rangeAt g o e.vs) : x.cell? ⟨g, o, none⟩ = some (.int .i64 e.n) ∧ x.cell? ⟨g, o + 1, none⟩ = some (.bool e.st) ∧ x.cell? ⟨g, o + 2, none⟩ = some (.int .u32 e.a) ∧ x.cell? ⟨g, o + 3, none⟩ = some (.int .i64 e.z) ∧ x.cell? ⟨g, o + 4, none⟩ = some (.int .u32 e.d) ∧ x.cell? ⟨g, o + 5, none⟩ = some (.bool e.hv) ∧ x.cell? ⟨g, o + 6, none⟩ = some (.bool e.rt) ∧ x.cell? ⟨g, o + 7, none⟩ = some e.v :=
  ⟨h 0 _ rfl, h 1 _ rfl, h 2 _ rfl, h 3 _ rfl, h 4 _ rfl, h 5 _ rfl, h 6 _ rfl, h 7 _ rfl⟩
theorem acc_info : (Tryd.prog.info? 86).map (·.size) = some 8 := by kernel_rfl
theorem acc_desc : ∃ d, Tryd.prog.underlying 86 = some d ∧ d.isRow = true := ⟨_, Tryd.underlying86, rfl⟩
theorem range_new (w : World) (e : Ac) (t : TypeId) : (w.alloc (.cells e.vs.toArray t)).rangeAt w.heap.size 0 e.vs := by
  intro j v h
  rw [World.cell?_alloc_new, Nat.zero_add]
  simpa using h
theorem ld_acc {ops : Array Oper} {rest : List Oper} {op : Oper} {a : Act} {w : World} {Q : Exit → Act → World → Prop} (g o : Nat) (e : Ac) (hc : w.rangeAt g o e.vs) (hgd : op.guard = none) (x : Operand) (ho : op.op = .load 86 x) (hx : a.eval x = .pointer (some ⟨g, o, none⟩)) (h : wpList Tryd.prog ops Q rest (a.put op.dst (.agg e.vs.toArray)) w) : wpList Tryd.prog ops Q (op :: rest) a w := by
  obtain ⟨d, h1, h2⟩ := acc_desc
  exact wpList_load_mid hgd _ x ho g o hx e.vs d hc h1 h2 (by rw [acc_info, Ac.len]) h
theorem ld_accG {ops : Array Oper} {rest : List Oper} {op : Oper} {a : Act} {w : World} {Q : Exit → Act → World → Prop} (g o : Nat) (e : Ac) (hc : w.rangeAt g o e.vs) (hw : Region.wanted op (yielded ops a.tmps) = true) (x : Operand) (ho : op.op = .load 86 x) (hx : a.eval x = .pointer (some ⟨g, o, none⟩)) (h : wpList Tryd.prog ops Q rest (a.put op.dst (.agg e.vs.toArray)) w) : wpList Tryd.prog ops Q (op :: rest) a w := by
  obtain ⟨d, h1, h2⟩ := acc_desc
  exact wpList_step fun K hK => by
    rw [if_pos hw]
    exact wp_load_mid _ x ho g o hx e.vs d hc h1 h2 (by rw [acc_info, Ac.len]) (hK _ _ h)
theorem load_acc (w : World) (g o : Nat) (e : Ac) (h : w.rangeAt g o e.vs) : (Instr.loadAt 86 (.pointer (some ⟨g, o, none⟩))).run Tryd.prog w = .ok (.agg e.vs.toArray) w := by
  obtain ⟨d, h1, h2⟩ := acc_desc
  exact run_loadAt_mid w g o _ e.vs d h h1 h2 (by rw [acc_info, Ac.len])
theorem loadv_acc (w : World) (g o : Nat) (e : Ac) (h : w.rangeAt g o e.vs) : (loadVar 86 ⟨g, o, none⟩).run Tryd.prog w = .ok (.agg e.vs.toArray) w := by
  obtain ⟨d, h1, h2⟩ := acc_desc
  exact run_loadVar_mid w g o _ e.vs d h h1 h2 (by rw [acc_info, Ac.len])
theorem st_acc {ops : Array Oper} {rest : List Oper} {op : Oper} {a : Act} {w : World} {Q : Exit → Act → World → Prop} (g o : Nat) (e : Ac) (hc : w.there g o 8) (hgd : op.guard = none) (hds : op.dst = none) (x y : Operand) (ho : op.op = .store 86 x y) (hx : a.eval x = .pointer (some ⟨g, o, none⟩)) (hy : a.eval y = .agg e.vs.toArray) (h : wpList Tryd.prog ops Q rest a (w.setCells g o e.vs)) : wpList Tryd.prog ops Q (op :: rest) a w := by
  refine wpList_store_mid hgd _ x y ho g o e.vs.toArray hx hy (by rw [Ac.sizeA]; exact hc) (by rw [acc_info, Ac.sizeA]) e.oneA ?_
  rw [hds]
  exact h
/-- the queue, plainly -/
structure QS where
  size : Nat
  on : List Ac
def QS.at (S : QS) (i : Nat) : Ac := S.on.getD i a0
def qv (s : Nat) (v : Value) : Nat → Value
  | 0 => .int .i64 s
  | _ => v
/-- what may stand in a queue -/
structure Ac.Fit (e : Ac) : Prop where
  n0 : 0 ≤ e.n
  n1 : e.n ≤ 9223372036854775807
  a : e.a < 4294967296
  d : e.d < 4294967296
  z : e.z = 0 ∨ e.z = 1 ∨ e.z = 2 ∨ e.z = 4
  az : e.a + e.z ≤ 4294967296
  f : e.fr.length ≤ 4
  fa : e.a + e.fr.length ≤ 4294967296
  fz : e.fr.length ≤ e.z
/-- the queue at p: its row is v; of each access its own row of numbers -/
structure Qm (x : World) (B p : Nat) (v : Value) (S : QS) : Prop where
  c : CellsAt 2 x p (qv S.size v)
  l : x.ownsRow B 86 8 v S.on.length (flatA S.on)
  f : ∀ i, i < S.on.length → x.ownsRow B 3 1 (S.at i).v (S.at i).fr.length ((S.at i).fr.map (.int .i64))
  vp : v.ownBlock ≠ some p
  fp : ∀ i, i < S.on.length → (S.at i).fb ≠ some p
  fv : ∀ i, i < S.on.length → ∀ b, (S.at i).fb = some b → v.ownBlock ≠ some b
  ff : ∀ i j, i < S.on.length → j < S.on.length → ∀ b, (S.at i).fb = some b → (S.at j).fb = some b → i = j
  lo : B ≤ p
  small : S.on.length ≤ 32 ∧ S.size ≤ 32
  fit : ∀ i, i < S.on.length → (S.at i).Fit
/-- whose blocks a queue's are -/
def qmine (p : Nat) (v : Value) (S : QS) (j : Nat) : Prop := j = p ∨ v.ownBlock = some j ∨ ∃ i, i < S.on.length ∧ (S.at i).fb = some j
theorem Qm.turned {Q : Nat → Prop} {x y : World} {B p : Nat} {v : Value} {S : QS} (k : Qm x B p v S) (t : Turned Q x y) (h : ∀ j, qmine p v S j → ¬ Q j) : Qm y B p v S :=
  ⟨t.cells k.c (h _ (Or.inl rfl)), own_turned k.l t (fun j e => h j (Or.inr (Or.inl e))), fun i hi => own_turned (k.f i hi) t (fun j e => h j (Or.inr (Or.inr ⟨i, hi, by rw [Ac.vb] at e; exact e⟩))), k.vp, k.fp, k.fv, k.ff, k.lo, k.small, k.fit⟩
theorem Qm.below {x y : World} {B p : Nat} {v : Value} {S : QS} (k : Qm x B p v S) (t : Below x.heap.size x y) : Qm y B p v S :=
  k.turned (Turned.of_below (Q := fun _ => False) t) (fun _ _ q => q)
theorem Qm.low {x : World} {B p : Nat} {v : Value} {S : QS} (k : Qm x B p v S) : ∀ j, qmine p v S j → B ≤ j ∧ j < x.heap.size := by
  rintro j (rfl | h | ⟨i, hi, h⟩)
  · exact ⟨k.lo, k.c.here⟩
  · exact own_base k.l j h
  · exact own_base (k.f i hi) j (by rw [Ac.vb]; exact h)
theorem Qm.cells {x : World} {B p : Nat} {v : Value} {S : QS} (k : Qm x B p v S) : p < x.heap.size ∧ x.cell? ⟨p, 0, none⟩ = some (.int .i64 S.size) ∧ x.cell? ⟨p, 1, none⟩ = some v ∧ x.frozen? ⟨p, 1, none⟩ = false :=
  ⟨k.c.here, k.c.cell 0 (by decide), k.c.cell 1 (by decide), k.c.free 1⟩
end Go.Proofs.YthbffonedpeeiaaDoor
