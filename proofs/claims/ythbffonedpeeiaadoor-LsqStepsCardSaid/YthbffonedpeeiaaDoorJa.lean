/-
  THE ANSWER's QUEUE IN MEMORY: rows of entries, thirteen cells each.
-/
import Derived.Test.YthbffonedpeeiaaDoorMy
namespace Go.Proofs.YthbffonedpeeiaaDoor
open Go Go.RowKit
structure Re where
  n : Int
  st : Bool
  pl : Bool
  a : Nat
  z : Nat
  hv : Bool
  d : Nat
  ld : Bool
  f : Nat → Int
  rt : Bool
def r0 : Re := ⟨0, false, false, 0, 0, false, 0, false, fun _ => 0, false⟩
def Re.vs (e : Re) : List Value := [.int .i64 e.n, .bool e.st, .bool e.pl, .int .i64 e.a, .int .i64 e.z, .bool e.hv, .int .u32 e.d, .bool e.ld, .int .i64 (e.f 0), .int .i64 (e.f 1), .int .i64 (e.f 2), .int .i64 (e.f 3), .bool e.rt]
theorem Re.len (e : Re) : e.vs.length = 13 := rfl
theorem Re.sizeA (e : Re) : e.vs.toArray.size = 13 := rfl
theorem Re.one (e : Re) : ∀ u ∈ e.vs, u.oneCell' = true := by
  intro u hu
  simp only [Re.vs, List.mem_cons, List.not_mem_nil, or_false] at hu
  rcases hu with rfl | rfl | rfl | rfl | rfl | rfl | rfl | rfl | rfl | rfl | rfl | rfl | rfl <;> rfl
theorem Re.oneA (e : Re) : e.vs.toArray.all (·.oneCell') = true := all_oneCell_toArray e.one
def flatR : List Re → List Value
  | [] => []
  | e :: l => e.vs ++ flatR l
theorem flatR_len : ∀ l : List Re, (flatR l).length = l.length * 13
  | [] => rfl
  | e :: l => by simp only [flatR, List.length_append, flatR_len l, List.length_cons, Re.len]; omega
theorem flatR_app : ∀ l k : List Re, flatR (l ++ k) = flatR l ++ flatR k
  | [], k => rfl
  | e :: l, k => by simp only [flatR, List.cons_append, flatR_app l k, List.append_assoc]
theorem flatR_one (e : Re) : flatR [e] = e.vs := by simp [flatR]
theorem flatR_at : ∀ (l : List Re) (i j : Nat), i < l.length → j < 13 → (flatR l)[i * 13 + j]? = (l.getD i r0).vs[j]?
  | [], i, j, h, _ => by simp at h
  | e :: l, 0, j, _, hj => by
    simp only [flatR, Nat.zero_mul, Nat.zero_add, List.getD_cons_zero]
    exact List.getElem?_append_left (by rw [Re.len]; omega)
  | e :: l, i + 1, j, h, hj => by
    simp only [flatR, List.getD_cons_succ]
    rw [List.getElem?_append_right (by rw [Re.len]; omega)]
    have e1 : (i + 1) * 13 + j - e.vs.length = i * 13 + j := by rw [Re.len]; omega
    rw [e1]
    exact flatR_at l i j (by simp at h; omega) hj
theorem flatR_take : ∀ (l : List Re) (k : Nat), (flatR l).take (k * 13) = flatR (l.take k)
  | [], k => by simp [flatR]
  | e :: l, 0 => by simp [flatR]
  | e :: l, k + 1 => by
    simp only [flatR, List.take_succ_cons]
    have e1 : (k + 1) * 13 = e.vs.length + k * 13 := by rw [Re.len]; omega
    rw [e1, List.take_length_add_append, flatR_take l k]
theorem flatR_drop : ∀ (l : List Re) (k : Nat), (flatR l).drop (k * 13) = flatR (l.drop k)
  | [], k => by simp [flatR]
  | e :: l, 0 => by simp [flatR]
  | e :: l, k + 1 => by
    simp only [flatR, List.drop_succ_cons]
    have e1 : (k + 1) * 13 = e.vs.length + k * 13 := by rw [Re.len]; omega
    rw [e1, List.drop_length_add_append, flatR_drop l k]
theorem flatR_set : ∀ (l : List Re) (i j : Nat) (u : Value) (y : Re), i < l.length → j < 13 → y.vs = (l.getD i r0).vs.set j u → (flatR l).set (i * 13 + j) u = flatR (l.set i y)
  | [], i, j, u, y, h, _, _ => by simp at h
  | e :: l, 0, j, u, y, _, hj, hy => by
    simp only [flatR, List.set_cons_zero, List.getD_cons_zero, Nat.zero_mul, Nat.zero_add] at hy ⊢
    rw [List.set_append, if_pos (by rw [Re.len]; omega), hy]
  | e :: l, i + 1, j, u, y, h, hj, hy => by
    simp only [flatR, List.set_cons_succ, List.getD_cons_succ] at hy ⊢
    rw [← flatR_set l i j u y (by simp at h; omega) hj hy, List.set_append]
    have e1 : ¬ (i + 1) * 13 + j < e.vs.length := by rw [Re.len]; omega
    rw [if_neg e1]
    have e2 : (i + 1) * 13 + j - e.vs.length = i * 13 + j := by rw [Re.len]; omega
    rw [e2]
theorem flatR_one' : ∀ (l : List Re), ∀ u ∈ flatR l, u.oneCell' = true
  | [], u, h => by simp [flatR] at h
  | e :: l, u, h => by
    simp only [flatR, List.mem_append] at h
    rcases h with h | h
    · exact e.one u h
    · exact flatR_one' l u h
theorem own_rrow {x : World} {B : Nat} {e : TypeId} {v : Value} {l : List Re} (h : x.ownsRow B e 13 v l.length (flatR l)) : ∃ q cap, v = .slice q l.length cap ∧ (l.length ≤ cap ∧ cap ≤ maxLen) ∧ (∀ i, i < l.length → ∃ g, q = some ⟨g, 0, none⟩ ∧ B ≤ g ∧ g < x.heap.size ∧ x.rangeAt g (i * 13) (l.getD i r0).vs ∧ ∀ o, x.frozen? ⟨g, o, none⟩ = false) := by
  have h0 := h
  obtain ⟨h1, h2⟩ := h
  rcases h2 with ⟨hv, hn⟩ | ⟨g, cap, cur, rfl, b2, b3, b4, b5, b6, b7⟩
  · refine ⟨none, 0, by rw [hv, hn], ⟨by omega, by unfold maxLen; omega⟩, fun i hi => by omega⟩
  · refine ⟨_, cap, rfl, ⟨b4, b5⟩, fun i hi => ⟨g, rfl, b2, (own_base h0 g rfl).2, ?_, fun o => by simp [World.frozen?, b3]⟩⟩
    intro j u hu
    have hj : j < 13 := by
      rcases Nat.lt_or_ge j 13 with q | q
      · exact q
      · rw [List.getElem?_eq_none (by rw [Re.len]; exact q)] at hu; cases hu
    have q := World.ownsRow.cells h0 rfl (i * 13 + j) u ((flatR_at l i j hi hj).trans hu)
    rwa [Addr.add_lit, Nat.zero_add] at q
theorem rrow_cells {x : World} {g o : Nat} {e : Re} (h : x.rangeAt g o e.vs) : x.cell? ⟨g, o, none⟩ = some (.int .i64 e.n) ∧ x.cell? ⟨g, o + 1, none⟩ = some (.bool e.st) ∧ x.cell? ⟨g, o + 2, none⟩ = some (.bool e.pl) ∧ x.cell? ⟨g, o + 3, none⟩ = some (.int .i64 e.a) ∧ x.cell? ⟨g, o + 4, none⟩ = some (.int .i64 e.z) ∧ x.cell? ⟨g, o + 5, none⟩ = some (.bool e.hv) ∧ x.cell? ⟨g, o + 6, none⟩ = some (.int .u32 e.d) ∧ x.cell? ⟨g, o + 7, none⟩ = some (.bool e.ld) ∧ x.cell? ⟨g, o + 12, none⟩ = some (.bool e.rt) :=
  ⟨h 0 _ rfl, h 1 _ rfl, h 2 _ rfl, h 3 _ rfl, h 4 _ rfl, h 5 _ rfl, h 6 _ rfl, h 7 _ rfl, h 12 _ rfl⟩
theorem rrow_from {x : World} {g o : Nat} {e : Re} (h : x.rangeAt g o e.vs) (b : Nat) (hb : b < 4) : x.cell? ⟨g, o + (8 + b), none⟩ = some (.int .i64 (e.f b)) := by
  match b, hb with
  | 0, _ => exact h 8 _ rfl
  | 1, _ => exact h 9 _ rfl
  | 2, _ => exact h 10 _ rfl
  | 3, _ => exact h 11 _ rfl
theorem ent_info : (Tryd.prog.info? 89).map (·.size) = some 13 := by kernel_rfl
theorem ent_desc : ∃ d, Tryd.prog.underlying 89 = some d ∧ d.isRow = true := ⟨_, Tryd.underlying89, rfl⟩
theorem rrange_new (w : World) (e : Re) (t : TypeId) : (w.alloc (.cells e.vs.toArray t)).rangeAt w.heap.size 0 e.vs := by
  intro j v h
  rw [World.cell?_alloc_new, Nat.zero_add]
  simpa using h
theorem rboxed (e : Re) (w : World) (t : TypeId) : ∃ X, w.alloc (.cells e.vs.toArray t) = X ∧ X.rangeAt w.heap.size 0 e.vs ∧ Below w.heap.size w X ∧ X.heap.size = w.heap.size + 1 :=
  ⟨_, rfl, rrange_new w e t, (Below.refl _ _).alloc (Nat.le_refl _) _, by simp⟩
theorem ld_ent {ops : Array Oper} {rest : List Oper} {op : Oper} {a : Act} {w : World} {Q : Exit → Act → World → Prop} (g o : Nat) (e : Re) (hc : w.rangeAt g o e.vs) (hw : Region.wanted op (yielded ops a.tmps) = true) (x : Operand) (ho : op.op = .load 89 x) (hx : a.eval x = .pointer (some ⟨g, o, none⟩)) (h : wpList Tryd.prog ops Q rest (a.put op.dst (.agg e.vs.toArray)) w) : wpList Tryd.prog ops Q (op :: rest) a w := by
  obtain ⟨d, h1, h2⟩ := ent_desc
  exact wpList_step fun K hK => by
    rw [if_pos hw]
    exact wp_load_mid _ x ho g o hx e.vs d hc h1 h2 (by rw [ent_info, Re.len]) (hK _ _ h)
theorem st_ent {ops : Array Oper} {rest : List Oper} {op : Oper} {a : Act} {w : World} {Q : Exit → Act → World → Prop} (e : Re) (c : Array Value) (hc : c.size = 13) (g : Nat) (hg : w.heap.size = g) (hgd : op.guard = none) (hds : op.dst = none) (x y : Operand) (ho : op.op = .store 89 x y) (hx : a.eval x = .pointer (some ⟨g, 0, none⟩)) (hy : a.eval y = .agg e.vs.toArray) (h : wpList Tryd.prog ops Q rest a (w.alloc (.cells e.vs.toArray 89))) : wpList Tryd.prog ops Q (op :: rest) a (w.alloc (.cells c 89)) := by
  subst hg
  refine wpList_plain hgd fun K hK => ?_
  have := run_storeVar_new (P := Tryd.prog) w 89 c e.vs.toArray (by rw [ent_info, Re.sizeA]) (by rw [hc, Re.sizeA]) e.oneA
  unfold Oper.wp execOp
  simp only [ho, hx, hy, Instr.storeAt, Instr.sureAddr, Sem.run_bind, Sem.run_pure, Result.andThen_ok, this]
  have hp : a.put op.dst undef = a := by rw [hds]; rfl
  show K (a.put op.dst undef) _
  rw [hp]
  exact hK _ _ h
def zre : Array Value := #[.int .i64 0, .bool false, .bool false, .int .i64 0, .int .i64 0, .bool false, .int .u32 0, .bool false, .int .i64 0, .int .i64 0, .int .i64 0, .int .i64 0, .bool false]
/-- the answer's queue, plainly -/
structure RS where
  size : Nat
  on : List Re
def RS.at (S : RS) (i : Nat) : Re := S.on.getD i r0
structure Re.Fit (e : Re) : Prop where
  n0 : 0 ≤ e.n
  n1 : e.n ≤ 9223372036854775807
  a : e.a < 4294967296
  z : e.z = 0 ∨ e.z = 1 ∨ e.z = 2 ∨ e.z = 4
  d : e.d < 4294967296
structure Rm (x : World) (B p : Nat) (v : Value) (S : RS) : Prop where
  c : CellsAt 2 x p (qv S.size v)
  l : x.ownsRow B 89 13 v S.on.length (flatR S.on)
  vp : v.ownBlock ≠ some p
  lo : B ≤ p
  small : S.on.length ≤ 32 ∧ S.size ≤ 32
  fit : ∀ i, i < S.on.length → (S.at i).Fit
def rmine (p : Nat) (v : Value) (j : Nat) : Prop := j = p ∨ v.ownBlock = some j
theorem Rm.turned {Q : Nat → Prop} {x y : World} {B p : Nat} {v : Value} {S : RS} (k : Rm x B p v S) (t : Turned Q x y) (h : ∀ j, rmine p v j → ¬ Q j) : Rm y B p v S :=
  ⟨t.cells k.c (h _ (Or.inl rfl)), own_turned k.l t (fun j e => h j (Or.inr e)), k.vp, k.lo, k.small, k.fit⟩
theorem Rm.below {x y : World} {B p : Nat} {v : Value} {S : RS} (k : Rm x B p v S) (t : Below x.heap.size x y) : Rm y B p v S :=
  k.turned (Turned.of_below (Q := fun _ => False) t) (fun _ _ q => q)
theorem Rm.low {x : World} {B p : Nat} {v : Value} {S : RS} (k : Rm x B p v S) : ∀ j, rmine p v j → B ≤ j ∧ j < x.heap.size := by
  rintro j (rfl | h)
  · exact ⟨k.lo, k.c.here⟩
  · exact own_base k.l j h
theorem Rm.cells {x : World} {B p : Nat} {v : Value} {S : RS} (k : Rm x B p v S) : p < x.heap.size ∧ x.cell? ⟨p, 0, none⟩ = some (.int .i64 S.size) ∧ x.cell? ⟨p, 1, none⟩ = some v ∧ x.frozen? ⟨p, 1, none⟩ = false :=
  ⟨k.c.here, k.c.cell 0 (by decide), k.c.cell 1 (by decide), k.c.free 1⟩
theorem Rm.rows {w : World} {B p : Nat} {v : Value} {S : RS} (k : Rm w B p v S) (i : Nat) (hi : i < S.on.length) : ∃ g cap, v = .slice (some ⟨g, 0, none⟩) S.on.length cap ∧ p ≠ g ∧ S.on.length ≤ cap ∧ cap ≤ maxLen ∧ ∀ w2, Below w.heap.size w w2 → w2.cell? ⟨p, 1, none⟩ = some (.slice (some ⟨g, 0, none⟩) S.on.length cap) ∧ w2.rangeAt g (i * 13) (S.at i).vs ∧ (∀ o, w2.frozen? ⟨g, o, none⟩ = false) ∧ g < w2.heap.size := by
  obtain ⟨q, cap, hv, hcap, hel⟩ := own_rrow k.l
  obtain ⟨g, hq, -, hg, hr, hf⟩ := hel i hi
  subst hq
  refine ⟨g, cap, hv, fun e => k.vp (by rw [hv, e]; rfl), hcap.1, hcap.2, fun w2 hb => ?_⟩
  have t := Turned.of_below (Q := fun _ => False) hb
  refine ⟨?_, range_turned hr t hg (fun q => q), fun o => (World.frozen?_of_block (t.block g hg (fun q => q))).trans (hf o), Nat.lt_of_lt_of_le hg hb.size⟩
  have := (k.below hb).cells.2.2.1
  rw [hv] at this
  exact this
/-- a queue has turned into another -/
structure RStep (w w' : World) (B p : Nat) (v : Value) (v' : Value) (S' : RS) : Prop where
  q : Rm w' B p v' S'
  t : Turned (rmine p v) w w'
  o : ∀ j, rmine p v' j → rmine p v j ∨ w.heap.size ≤ j
theorem RStep.same {w w' : World} {B p : Nat} {v : Value} {S : RS} (k : Rm w B p v S) (b : Below w.heap.size w w') : RStep w w' B p v v S :=
  ⟨k.below b, Turned.of_below b, fun _ h => Or.inl h⟩
theorem RStep.trans {w w1 w2 : World} {B p : Nat} {v v1 v2 : Value} {S1 S2 : RS} (h : RStep w w1 B p v v1 S1) (k : RStep w1 w2 B p v1 v2 S2) : RStep w w2 B p v v2 S2 := by
  refine ⟨k.q, ⟨k.t.os.trans h.t.os, k.t.tape.trans h.t.tape, k.t.output.trans h.t.output, Nat.le_trans h.t.size k.t.size, fun i hi hb => ?_⟩, fun j hj => ?_⟩
  · refine (k.t.block i (Nat.lt_of_lt_of_le hi h.t.size) (fun e => ?_)).trans (h.t.block i hi hb)
    rcases h.o i e with q | q
    · exact hb q
    · omega
  · rcases k.o j hj with q | q
    · exact h.o j q
    · exact Or.inr (Nat.le_trans h.t.size q)
def RS.set (S : RS) (i : Nat) (y : Re) : RS := ⟨S.size, S.on.set i y⟩
theorem RS.set_len (S : RS) (i : Nat) (y : Re) : (S.set i y).on.length = S.on.length := by simp [RS.set]
theorem RS.at_set (S : RS) (i : Nat) (y : Re) (h : i < S.on.length) : (S.set i y).at i = y := by
  unfold RS.at RS.set
  simp [List.getD_eq_getElem?_getD, h]
theorem RS.at_set' (S : RS) (i j : Nat) (y : Re) (h : j ≠ i) : (S.set i y).at j = S.at j := by
  unfold RS.at RS.set
  simp [List.getD_eq_getElem?_getD, List.getElem?_set_ne (Ne.symm h)]
theorem RS.set_set (S : RS) (i : Nat) (y z : Re) : (S.set i y).set i z = S.set i z := by
  unfold RS.set
  simp
/-- one cell of an entry is written -/
theorem Rm.set1 {w : World} {B p g cap : Nat} {v : Value} {S : RS} (k : Rm w B p v S) (hv : v = .slice (some ⟨g, 0, none⟩) S.on.length cap) (i : Nat) (hi : i < S.on.length) (j : Nat) (hj : j < 13) (u : Value) (y : Re) (h1 : y.vs = (S.at i).vs.set j u) (hy : y.Fit) : RStep w (w.setCell ⟨g, i * 13 + j, none⟩ u) B p v v (S.set i y) := by
  have t : Turned (fun j => v.ownBlock = some j) w (w.setCell ⟨g, i * 13 + j, none⟩ u) := (Turned.refl _ w).set (b := g) (by rw [hv]; rfl) _ _
  have hl : (S.set i y).on.length = S.on.length := S.set_len i y
  refine ⟨⟨t.cells k.c k.vp, ?_, k.vp, k.lo, by rw [hl]; exact k.small, fun j' hj' => ?_⟩, t.mono (fun j e => Or.inr e), fun j h => Or.inl h⟩
  · have l := k.l
    rw [hv] at l
    have o := own_set l (i * 13 + j) u
    rw [flatR_set S.on i j u y hi hj h1, ← hv] at o
    rw [hl]
    exact o
  · by_cases e : j' = i
    · subst e
      rw [S.at_set j' y hi]
      exact hy
    · rw [S.at_set' i j' y e]
      exact k.fit j' (by omega)
end Go.Proofs.YthbffonedpeeiaaDoor
