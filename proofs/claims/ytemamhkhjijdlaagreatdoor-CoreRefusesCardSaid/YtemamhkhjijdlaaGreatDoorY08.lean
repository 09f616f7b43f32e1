import Derived.Test.YtemamhkhjijdlaaGreatDoorY00
import Derived.ArgAppend
import Derived.OwnWalk
import Derived.Laws.AppendOwn
import Derived.Laws.AppendOwnNone
import Derived.Deep.MidRow
import Derived.Deep.WholeRow
import Derived.Laws.IdiomCopy
import Derived.Deep.Cut
import Derived.Deep.Draws
import Derived.BigQuiet
import Derived.Deep.RegionHeld3
import Derived.Shelf.Abstract
import Derived.Laws.MakeOwn
import Derived.Laws.BitsAllLaws
import Derived.Lib.SliceRun
/-
  LOADS AND STORES IN MEMORY: rows of accesses, eight cells each; of each the numbers of where its bytes are of.
-/
namespace Go.Proofs.YtemamhkhjijdlaaGreatDoor
open Go Go.RowKit
structure Ac where
  n : Int
  st : Bool
  a : Nat
  z : Nat
  d : Nat
  hv : Bool
  rt : Bool
  fr : List Int
  fb : Option Nat
  fc : Nat
def a0 : Ac := ⟨0, false, 0, 0, 0, false, false, [], none, 0⟩
/-- its row of numbers -/
def Ac.v (e : Ac) : Value := .slice (e.fb.map fun b => ⟨b, 0, none⟩) e.fr.length e.fc
def Ac.vs (e : Ac) : List Value := [.int .i64 e.n, .bool e.st, .int .u32 e.a, .int .i64 e.z, .int .u32 e.d, .bool e.hv, .bool e.rt, e.v]
theorem Ac.len (e : Ac) : e.vs.length = 8 := rfl
theorem Ac.one (e : Ac) : ∀ u ∈ e.vs, u.oneCell' = true := by
  intro u hu
  simp only [Ac.vs, List.mem_cons, List.not_mem_nil, or_false] at hu
  rcases hu with rfl | rfl | rfl | rfl | rfl | rfl | rfl | rfl <;> rfl
theorem Ac.vb (e : Ac) : e.v.ownBlock = e.fb := by
  unfold Ac.v
  cases e.fb <;> rfl
def flatA : List Ac → List Value
  | [] => []
  | e :: l => e.vs ++ flatA l
theorem flatA_at : ∀ (l : List Ac) (i j : Nat), i < l.length → j < 8 → (flatA l)[i * 8 + j]? = (l.getD i a0).vs[j]?
  | [], i, j, h, _ => by simp at h
  | e :: l, 0, j, _, hj => by
    simp only [flatA, Nat.zero_mul, Nat.zero_add, List.getD_cons_zero]
    exact List.getElem?_append_left (by rw [Ac.len]; omega)
  | e :: l, i + 1, j, h, hj => by
    simp only [flatA, List.getD_cons_succ]
    rw [List.getElem?_append_right (by rw [Ac.len]; omega)]
    have e1 : (i + 1) * 8 + j - e.vs.length = i * 8 + j := by rw [Ac.len]; omega
    rw [e1]
    exact flatA_at l i j (by simp at h; omega) hj
theorem own_turned_lsq {Q : Nat → Prop} {x y : World} {base : Nat} {e : TypeId} {size : Nat} {v : Value} {n : Nat} {xs : List Value} (h : x.ownsRow base e size v n xs) (c : Turned Q x y) (hq : ∀ k, v.ownBlock = some k → ¬ Q k) : y.ownsRow base e size v n xs := by
  obtain ⟨h1, h2⟩ := h
  refine ⟨h1, ?_⟩
  rcases h2 with h2 | ⟨g, cap, cur, a1, a2, a3, a4⟩
  · exact Or.inl h2
  · refine Or.inr ⟨g, cap, cur, a1, a2, ?_, a4⟩
    have hg : g < x.heap.size := by
      rcases Nat.lt_or_ge g x.heap.size with q | q
      · exact q
      · rw [Array.getElem?_eq_none q] at a3
        exact absurd a3 (by simp)
    rw [c.block g hg (hq g (by rw [a1]; rfl))]
    exact a3
theorem own_base_lsq {x : World} {base : Nat} {e : TypeId} {size : Nat} {v : Value} {n : Nat} {xs : List Value} (h : x.ownsRow base e size v n xs) : ∀ k, v.ownBlock = some k → base ≤ k ∧ k < x.heap.size := by
  obtain ⟨h1, h2⟩ := h
  intro k hk
  rcases h2 with ⟨rfl, _⟩ | ⟨g, cap, cur, rfl, a2, a3, a4⟩
  · exact absurd hk (by simp [Value.ownBlock])
  · simp [Value.ownBlock] at hk
    subst hk
    refine ⟨a2, ?_⟩
    rcases Nat.lt_or_ge g x.heap.size with q | q
    · exact q
    · rw [Array.getElem?_eq_none q] at a3
      exact absurd a3 (by simp)
theorem range_turned_lsq {Q : Nat → Prop} {x y : World} {b o : Nat} {cs : List Value} (h : x.rangeAt b o cs) (t : Turned Q x y) (hb : b < x.heap.size) (hq : ¬ Q b) : y.rangeAt b o cs := fun j v hv => (World.cell?_of_block (t.block b hb hq)).trans (h j v hv)
theorem info_parts_lsq {P : Program} {t : TypeId} {z : Option Value} {s b : Nat} (h : (P.info? t).map (fun i => (i.zero, i.size, i.bytes)) = some (z, s, b)) : ∃ i, P.info? t = some i ∧ i.zero = z ∧ i.size = s ∧ i.bytes = b := by
  cases q : P.info? t with
  | none => rw [q] at h; simp at h
  | some i =>
    rw [q] at h
    simp at h
    exact ⟨i, rfl, h.1, h.2.1, h.2.2⟩
theorem turned_setCells_lsq {g : Nat} : ∀ (us : List Value) (i : Nat) (x : World), Turned (fun k => k = g) x (x.setCells g i us)
  | [], _, x => Turned.refl _ x
  | u :: us, i, x => ((Turned.refl (fun k => k = g) x).set (b := g) rfl i u).trans (turned_setCells_lsq us (i + 1) _)
/-- a row, seen by its places -/
theorem own_row {x : World} {B : Nat} {e : TypeId} {v : Value} {l : List Ac} (h : x.ownsRow B e 8 v l.length (flatA l)) : ∃ q cap, v = .slice q l.length cap ∧ (l.length ≤ cap ∧ cap ≤ maxLen) ∧ (∀ i, i < l.length → ∃ g, q = some ⟨g, 0, none⟩ ∧ B ≤ g ∧ g < x.heap.size ∧ x.rangeAt g (i * 8) (l.getD i a0).vs ∧ ∀ o, x.frozen? ⟨g, o, none⟩ = false) := by
  have h0 := h
  obtain ⟨h1, h2⟩ := h
  rcases h2 with ⟨hv, hn⟩ | ⟨g, cap, cur, rfl, b2, b3, b4, b5, b6, b7⟩
  · refine ⟨none, 0, by rw [hv, hn], ⟨by omega, by unfold maxLen; omega⟩, fun i hi => by omega⟩
  · refine ⟨_, cap, rfl, ⟨b4, b5⟩, fun i hi => ⟨g, rfl, b2, (own_base_lsq h0 g rfl).2, ?_, fun o => by simp [World.frozen?, b3]⟩⟩
    intro j u hu
    have hj : j < 8 := by
      rcases Nat.lt_or_ge j 8 with q | q
      · exact q
      · rw [List.getElem?_eq_none (by rw [Ac.len]; exact q)] at hu; cases hu
    have q := World.ownsRow.cells h0 rfl (i * 8 + j) u ((flatA_at l i j hi hj).trans hu)
    rwa [Addr.add_lit, Nat.zero_add] at q
theorem row_cells {x : World} {g o : Nat} {e : Ac} (h : x.rangeAt g o e.vs) : x.cell? ⟨g, o, none⟩ = some (.int .i64 e.n) ∧ x.cell? ⟨g, o + 1, none⟩ = some (.bool e.st) ∧ x.cell? ⟨g, o + 2, none⟩ = some (.int .u32 e.a) ∧ x.cell? ⟨g, o + 3, none⟩ = some (.int .i64 e.z) ∧ x.cell? ⟨g, o + 4, none⟩ = some (.int .u32 e.d) ∧ x.cell? ⟨g, o + 5, none⟩ = some (.bool e.hv) ∧ x.cell? ⟨g, o + 6, none⟩ = some (.bool e.rt) ∧ x.cell? ⟨g, o + 7, none⟩ = some e.v :=
  ⟨h 0 _ rfl, h 1 _ rfl, h 2 _ rfl, h 3 _ rfl, h 4 _ rfl, h 5 _ rfl, h 6 _ rfl, h 7 _ rfl⟩
theorem acc_info : (Tryz.prog.info? 271).map (·.size) = some 8 := by kernel_rfl
theorem acc_desc : ∃ d, Tryz.prog.underlying 271 = some d ∧ d.isRow = true := ⟨_, Tryz.underlying271, rfl⟩
theorem range_new_lsq (w : World) (e : Ac) (t : TypeId) : (w.alloc (.cells e.vs.toArray t)).rangeAt w.heap.size 0 e.vs := by
  intro j v h
  rw [World.cell?_alloc_new, Nat.zero_add]
  simpa using h
theorem ld_acc {ops : Array Oper} {rest : List Oper} {op : Oper} {a : Act} {w : World} {Q : Exit → Act → World → Prop} (g o : Nat) (e : Ac) (hc : w.rangeAt g o e.vs) (hgd : op.guard = none) (x : Operand) (ho : op.op = .load 271 x) (hx : a.eval x = .pointer (some ⟨g, o, none⟩)) (h : wpList Tryz.prog ops Q rest (a.put op.dst (.agg e.vs.toArray)) w) : wpList Tryz.prog ops Q (op :: rest) a w := by
  obtain ⟨d, h1, h2⟩ := acc_desc
  exact wpList_load_mid hgd _ x ho g o hx e.vs d hc h1 h2 (by rw [acc_info, Ac.len]) h
/-- the queue, plainly -/
structure QS where
  size : Nat
  on : List Ac
def QS.at (S : QS) (i : Nat) : Ac := S.on.getD i a0
def qv (s : Nat) (v : Value) : Nat → Value
  | 0 => .int .i64 s
  | _ => v
/-- what may stand in a queue -/
structure Ac.Fit (e : Ac) : Prop where
  n0 : 0 ≤ e.n
  n1 : e.n ≤ 9223372036854775807
  a : e.a < 4294967296
  d : e.d < 4294967296
  z : e.z = 0 ∨ e.z = 1 ∨ e.z = 2 ∨ e.z = 4
  az : e.a + e.z ≤ 4294967296
  f : e.fr.length ≤ 4
  fa : e.a + e.fr.length ≤ 4294967296
  fz : e.fr.length ≤ e.z
/-- the queue at p: its row is v; of each access its own row of numbers -/
structure Qm (x : World) (B p : Nat) (v : Value) (S : QS) : Prop where
  c : CellsAt 2 x p (qv S.size v)
  l : x.ownsRow B 271 8 v S.on.length (flatA S.on)
  f : ∀ i, i < S.on.length → x.ownsRow B 3 1 (S.at i).v (S.at i).fr.length ((S.at i).fr.map (.int .i64))
  vp : v.ownBlock ≠ some p
  fp : ∀ i, i < S.on.length → (S.at i).fb ≠ some p
  fv : ∀ i, i < S.on.length → ∀ b, (S.at i).fb = some b → v.ownBlock ≠ some b
  ff : ∀ i j, i < S.on.length → j < S.on.length → ∀ b, (S.at i).fb = some b → (S.at j).fb = some b → i = j
  lo : B ≤ p
  small : S.on.length ≤ 32 ∧ S.size ≤ 32
  fit : ∀ i, i < S.on.length → (S.at i).Fit
/-- whose blocks a queue's are -/
def qmine (p : Nat) (v : Value) (S : QS) (j : Nat) : Prop := j = p ∨ v.ownBlock = some j ∨ ∃ i, i < S.on.length ∧ (S.at i).fb = some j
theorem Qm.turned {Q : Nat → Prop} {x y : World} {B p : Nat} {v : Value} {S : QS} (k : Qm x B p v S) (t : Turned Q x y) (h : ∀ j, qmine p v S j → ¬ Q j) : Qm y B p v S :=
  ⟨t.cells k.c (h _ (Or.inl rfl)), own_turned_lsq k.l t (fun j e => h j (Or.inr (Or.inl e))), fun i hi => own_turned_lsq (k.f i hi) t (fun j e => h j (Or.inr (Or.inr ⟨i, hi, by rw [Ac.vb] at e; exact e⟩))), k.vp, k.fp, k.fv, k.ff, k.lo, k.small, k.fit⟩
theorem Qm.below {x y : World} {B p : Nat} {v : Value} {S : QS} (k : Qm x B p v S) (t : Below x.heap.size x y) : Qm y B p v S :=
  k.turned (Turned.of_below (Q := fun _ => False) t) (fun _ _ q => q)
theorem Qm.low {x : World} {B p : Nat} {v : Value} {S : QS} (k : Qm x B p v S) : ∀ j, qmine p v S j → B ≤ j ∧ j < x.heap.size := by
  rintro j (rfl | h | ⟨i, hi, h⟩)
  · exact ⟨k.lo, k.c.here⟩
  · exact own_base_lsq k.l j h
  · exact own_base_lsq (k.f i hi) j (by rw [Ac.vb]; exact h)
theorem Qm.cells {x : World} {B p : Nat} {v : Value} {S : QS} (k : Qm x B p v S) : p < x.heap.size ∧ x.cell? ⟨p, 0, none⟩ = some (.int .i64 S.size) ∧ x.cell? ⟨p, 1, none⟩ = some v ∧ x.frozen? ⟨p, 1, none⟩ = false :=
  ⟨k.c.here, k.c.cell 0 (by decide), k.c.cell 1 (by decide), k.c.free 1⟩
end Go.Proofs.YtemamhkhjijdlaaGreatDoor
/-
  LSQ: what an access tells of itself.
-/
namespace Go.Proofs.YtemamhkhjijdlaaGreatDoor
open Go Go.RowKit
theorem row_cells0 {x : World} {g : Nat} {e : Ac} (h : x.rangeAt g 0 e.vs) : x.cell? ⟨g, 0, none⟩ = some (.int .i64 e.n) ∧ x.cell? ⟨g, 1, none⟩ = some (.bool e.st) ∧ x.cell? ⟨g, 2, none⟩ = some (.int .u32 e.a) ∧ x.cell? ⟨g, 3, none⟩ = some (.int .i64 e.z) ∧ x.cell? ⟨g, 4, none⟩ = some (.int .u32 e.d) ∧ x.cell? ⟨g, 5, none⟩ = some (.bool e.hv) ∧ x.cell? ⟨g, 6, none⟩ = some (.bool e.rt) ∧ x.cell? ⟨g, 7, none⟩ = some e.v :=
  ⟨h 0 _ rfl, h 1 _ rfl, h 2 _ rfl, h 3 _ rfl, h 4 _ rfl, h 5 _ rfl, h 6 _ rfl, h 7 _ rfl⟩
/-- a boxed access -/
theorem boxed (e : Ac) (w : World) (t : TypeId) : ∃ X, w.alloc (.cells e.vs.toArray t) = X ∧ X.rangeAt w.heap.size 0 e.vs ∧ Below w.heap.size w X ∧ X.heap.size = w.heap.size + 1 :=
  ⟨_, rfl, range_new_lsq w e t, (Below.refl _ _).alloc (Nat.le_refl _) _, by simp⟩
def Ac.placed (e : Ac) : Bool := decide (0 < e.z)
def Ac.loaded (e : Ac) : Bool := decide (0 < e.fr.length)
def Ac.done (e : Ac) : Bool := if e.st then e.placed && e.hv else e.loaded
def Ac.cov (e : Ac) (y : Nat) : Bool := decide (e.a ≤ y ∧ y < e.a + e.z)
def Ac.line (e : Ac) (y : Nat) : Bool := decide (e.a / 16 = y / 16)
end Go.Proofs.YtemamhkhjijdlaaGreatDoor
/-
  LSQ: which are wanted.
-/
namespace Go.Proofs.YtemamhkhjijdlaaGreatDoor
open Go Go.RowKit
theorem squashW (e : Ac) (b : Nat) (af : Int) (w : World) (q : w.cell? ⟨b, 0, none⟩ = some (.int .i64 af)) : Calls Tryz.prog 243 #[.agg e.vs.toArray, .pointer (some ⟨b, 0, none⟩)] w fun r w' => r = .returned (.bool (decide (af < e.n) && !e.rt)) ∧ Below w.heap.size w w' := by
  obtain ⟨X, hX, r1, hb, hs⟩ := boxed e w 271
  obtain ⟨c0, c1, c2, c3, c4, c5, c6, c7⟩ := row_cells0 r1
  have q2 := (hb.cell (p := ⟨b, 0, none⟩) (cell_here q)).trans q
  have HX := Hid.in hX
  have HB := Hid.in hb
  obtain ⟨n1, hn1⟩ : ∃ n1, e.n = n1 := ⟨_, rfl⟩
  rw [hn1] at c0 ⊢
  clear r1 hX hb c1 c2 c3 c4 c5 c7 q hn1
  by_cases h : af < n1
  · rw [decide_eq_true h]
    go_enter Tryz.func243, Tryz.ntmps243
    go_upto_region 1 with fail
    rw [HX.out]
    go_wp2
    go_ret
    exact ⟨by simp, HB.out⟩
  · rw [decide_eq_false h]
    go_enter Tryz.func243, Tryz.ntmps243
    go_upto_region 1 with fail
    rw [HX.out]
    go_wp2
    go_ret
    exact ⟨by simp, HB.out⟩
end Go.Proofs.YtemamhkhjijdlaaGreatDoor
/-
  LSQ: which are wanted, of stores.
-/
namespace Go.Proofs.YtemamhkhjijdlaaGreatDoor
open Go Go.RowKit
/-- the numbers of where an access's bytes are of, in memory -/
def FrAt (w : World) (e : Ac) : Prop := ∀ i, i < e.fr.length → ∃ g, e.fb = some g ∧ g < w.heap.size ∧ w.cell? ⟨g, i, none⟩ = some (.int .i64 (e.fr.getD i 0))
theorem FrAt.at {w : World} {e : Ac} (h : FrAt w e) {q : Option Addr} (hq : e.fb.map (fun b => (⟨b, 0, none⟩ : Addr)) = q) : ∀ i, i < e.fr.length → ∃ g, q = some ⟨g, 0, none⟩ ∧ g < w.heap.size ∧ w.cell? ⟨g, i, none⟩ = some (.int .i64 (e.fr.getD i 0)) := fun i hi => by
  obtain ⟨g, h1, h2, h3⟩ := h i hi
  exact ⟨g, by rw [← hq, h1]; rfl, h2, h3⟩
theorem FrAt.below {w y : World} {e : Ac} (h : FrAt w e) (b : Below w.heap.size w y) : FrAt y e := fun i hi => by
  obtain ⟨g, h1, h2, h3⟩ := h i hi
  exact ⟨g, h1, Nat.lt_of_lt_of_le h2 b.size, (b.cell (p := ⟨g, i, none⟩) h2).trans h3⟩
theorem Qm.fr {x : World} {B p : Nat} {v : Value} {S : QS} (k : Qm x B p v S) (i : Nat) (hi : i < S.on.length) : FrAt x (S.at i) := fun j hj => by
  have h := k.f i hi
  rcases h.2 with ⟨h1, h2⟩ | ⟨g, cap, cur, h1, h2, h3, h4⟩
  · omega
  · have hb : (S.at i).fb = some g := by rw [← Ac.vb, h1]; rfl
    refine ⟨g, hb, (own_base_lsq h g (by rw [Ac.vb]; exact hb)).2, ?_⟩
    have q := World.ownsRow.cells h (by rw [Ac.vb]; exact hb) j (.int .i64 ((S.at i).fr.getD j 0)) (by
      rw [List.getElem?_map, List.getElem?_eq_getElem hj]
      simp [List.getD_eq_getElem?_getD, List.getElem?_eq_getElem hj])
    rwa [Addr.add_lit, Nat.zero_add] at q
def Ac.early1 (e s : Ac) (i : Nat) : Bool := decide (e.fr.getD i 0 < s.n) && s.cov (e.a + i)
/-- has e a byte that s writes, but not of it or of a younger one? -/
def Ac.early (e s : Ac) : Bool := (List.range e.fr.length).any (e.early1 s)
end Go.Proofs.YtemamhkhjijdlaaGreatDoor
/-
  LSQ: looking for the first one.
-/
namespace Go.Proofs.YtemamhkhjijdlaaGreatDoor
open Go Go.RowKit
/-- the first place at which f holds; -1: there is none -/
def First (f : Nat → Bool) (n : Nat) (r : Int) : Prop := (∃ i : Nat, i < n ∧ f i = true ∧ (∀ j, j < i → f j = false) ∧ r = i) ∨ (∀ j, j < n → f j = false) ∧ r = -1
set_option maxRecDepth 100000 in
set_option maxHeartbeats 1000000 in
theorem index_any_lsq (B : Nat) (v : Value) (l : List Ac) (F : Nat) (cap0 : Array Value) (f : Nat → Bool) (w : World) (hE : ∀ args w, (callFunc F args).run Tryz.prog w = .ok (.enter F args) w) (k : w.ownsRow B 271 8 v l.length (flatA l)) (hl : l.length ≤ 32)
    (hf : ∀ i, i < l.length → ∀ y, Below w.heap.size w y → Calls Tryz.prog F (#[.agg (l.getD i a0).vs.toArray] ++ cap0) y fun e z => e = .returned (.bool (f i)) ∧ Below y.heap.size y z) :
    Calls Tryz.prog 183 #[v, .func (.func F) #[] cap0] w fun e w' => ∃ r, e = .returned (.int .i64 r) ∧ First f l.length r ∧ Below w.heap.size w w' := by
  obtain ⟨q, cap, rfl, hcap, hel⟩ := own_row k
  obtain ⟨m, hm⟩ : ∃ m, l.length = m := ⟨_, rfl⟩
  have HE := Hid.in hel
  have HM := Hid.in hm
  have HF := Hid.in hf
  rw [hm] at hl ⊢
  clear hel k hcap hm hf
  go_enter Tryz.func183, Tryz.ntmps183
  go_wp2
  go_loopw [8] (fun u wr => ∃ i : Nat, u = .int .i64 i ∧ i ≤ m ∧ (∀ j, j < i → f j = false) ∧ Below w.heap.size w wr) (fun v _ => 33 - (intOf v).toNat)
  case atStart => exact ⟨0, rfl, by omega, fun j hj => by omega, Below.refl _ _⟩
  case round =>
    obtain ⟨i, rfl, hi, hno, hbw⟩ := hrel
    have HN := Hid.in hno
    have HBW := Hid.in hbw
    clear hno
    by_cases him : i < m
    · obtain ⟨g, rfl, -, hg, hr, -⟩ := HE.out i (by rw [HM.out]; exact him)
      have HC := Hid.in (HF.out i (by rw [HM.out]; exact him) wr hbw)
      have HR := range_turned_lsq hr (Turned.of_below (Q := fun _ => False) hbw) hg (fun q => q)
      generalize l.getD i a0 = ei at HC HR
      have HR := Hid.in HR
      clear hr hbw
      obtain ⟨fi, hfi⟩ : ∃ fi, f i = fi := ⟨_, rfl⟩
      have HFI := Hid.in hfi
      clear hfi
      have hmul : (i : Int) * 8 = ((i * 8 : Nat) : Int) := by omega
      cases fi
      · go_wp2_with (first
          | (refine ld_acc g (i * 8) ei HR.out rfl _ rfl rfl ?_)
          | (refine HC.out.mono ?_; rintro e w2 ⟨rfl, hb2⟩; rw [HFI.out]; have HB2 := Hid.in hb2; clear hb2))
        go_roundw
        case rel =>
          refine ⟨i + 1, by simp, by omega, fun j hj => ?_, HBW.out.trans (HB2.out.mono HBW.out.size)⟩
          rcases Nat.lt_or_ge j i with q | q
          · exact HN.out j q
          · obtain rfl : j = i := by omega
            exact HFI.out
        case measure =>
          simp [intOf]
          omega
      · go_wp2_with (first
          | (refine ld_acc g (i * 8) ei HR.out rfl _ rfl rfl ?_)
          | (refine HC.out.mono ?_; rintro e w2 ⟨rfl, hb2⟩; rw [HFI.out]; have HB2 := Hid.in hb2; clear hb2))
        go_ret
        exact ⟨_, rfl, Or.inl ⟨i, him, HFI.out, HN.out, rfl⟩, HBW.out.trans (HB2.out.mono HBW.out.size)⟩
    · obtain rfl : i = m := by omega
      go_wp2
      go_ret
      exact ⟨_, rfl, Or.inr ⟨HN.out, rfl⟩, HBW.out⟩
/-- the last place at which f holds; -1: there is none -/
def Last (f : Nat → Bool) (n : Nat) (r : Int) : Prop := (∃ i : Nat, i < n ∧ f i = true ∧ (∀ j, i < j → j < n → f j = false) ∧ r = i) ∨ (∀ j, j < n → f j = false) ∧ r = -1
end Go.Proofs.YtemamhkhjijdlaaGreatDoor
/-
  LSQ: rows of numbers that are looked through.
-/
namespace Go.Proofs.YtemamhkhjijdlaaGreatDoor
open Go Go.RowKit
/-- a row of numbers in memory -/
def Nums (w : World) (q : Option Addr) (l : List Int) : Prop := ∀ i, i < l.length → ∃ g, q = some ⟨g, 0, none⟩ ∧ g < w.heap.size ∧ w.cell? ⟨g, i, none⟩ = some (.int .i64 (l.getD i 0))
theorem Nums.below {w y : World} {q : Option Addr} {l : List Int} (h : Nums w q l) (b : Below w.heap.size w y) : Nums y q l := fun i hi => by
  obtain ⟨g, h1, h2, h3⟩ := h i hi
  exact ⟨g, h1, Nat.lt_of_lt_of_le h2 b.size, (b.cell (p := ⟨g, i, none⟩) h2).trans h3⟩
end Go.Proofs.YtemamhkhjijdlaaGreatDoor
/-
  LSQ: which are wanted, by their bytes.
-/
namespace Go.Proofs.YtemamhkhjijdlaaGreatDoor
open Go Go.RowKit
/-- does a byte of it come of memory? -/
def Ac.mem (e : Ac) : Bool := (List.range e.fr.length).any fun i => decide ((-1 : Int) = e.fr.getD i 0)
end Go.Proofs.YtemamhkhjijdlaaGreatDoor
/-
  LSQ: the queue looked through.
-/
namespace Go.Proofs.YtemamhkhjijdlaaGreatDoor
open Go Go.RowKit
/-- a boxed number -/
theorem boxed1 (u : Value) (w : World) (t : TypeId) : ∃ X, w.alloc (.cells #[u] t) = X ∧ X.cell? ⟨w.heap.size, 0, none⟩ = some u ∧ Below w.heap.size w X ∧ X.heap.size = w.heap.size + 1 :=
  ⟨_, rfl, World.cell?_alloc_new _ _ _ _, (Below.refl _ _).alloc (Nat.le_refl _) _, by simp⟩
def QS.plc (S : QS) (num : Int) (i : Nat) : Bool := decide ((S.at i).n = num) && !(S.at i).st && (S.at i).placed
def QS.went (S : QS) (s : Ac) (i : Nat) : Bool := decide (s.n < (S.at i).n) && (S.at i).early s
def QS.src (S : QS) (num : Int) (y : Nat) (i : Nat) : Bool := (S.at i).st && decide ((S.at i).n < num) && (S.at i).cov y
/-- the number of what was found -/
def QS.num (S : QS) (r : Int) : Int := if r = -1 then -1 else (S.at r.toNat).n
theorem First.range {f : Nat → Bool} {n : Nat} {r : Int} (h : First f n r) : r = -1 ∨ (0 ≤ r ∧ r < n) := by
  rcases h with ⟨i, hi, -, -, rfl⟩ | ⟨-, rfl⟩
  · exact Or.inr ⟨by omega, by omega⟩
  · exact Or.inl rfl
theorem Last.range {f : Nat → Bool} {n : Nat} {r : Int} (h : Last f n r) : r = -1 ∨ (0 ≤ r ∧ r < n) := by
  rcases h with ⟨i, hi, -, -, rfl⟩ | ⟨-, rfl⟩
  · exact Or.inr ⟨by omega, by omega⟩
  · exact Or.inl rfl
end Go.Proofs.YtemamhkhjijdlaaGreatDoor
/-
  LSQ: where a load's bytes come of.
-/
namespace Go.Proofs.YtemamhkhjijdlaaGreatDoor
open Go Go.RowKit
def lastI (f : Nat → Bool) : Nat → Int
  | 0 => -1
  | n + 1 => if f n then n else lastI f n
theorem Last.is {f : Nat → Bool} {r : Int} : ∀ {n : Nat}, Last f n r → r = lastI f n
  | 0, h => by
    rcases h with ⟨i, hi, -⟩ | ⟨-, h⟩
    · omega
    · exact h
  | n + 1, h => by
    unfold lastI
    rcases h with ⟨i, hi, h1, h2, rfl⟩ | ⟨h1, rfl⟩
    · by_cases e : i = n
      · subst e
        rw [if_pos h1]
      · rw [if_neg (by rw [h2 n (by omega) (by omega)]; simp)]
        exact Last.is (Or.inl ⟨i, by omega, h1, fun j a b => h2 j a (by omega), rfl⟩)
    · rw [if_neg (by rw [h1 n (by omega)]; simp)]
      exact Last.is (Or.inr ⟨fun j hj => h1 j (by omega), rfl⟩)
/-- the place of the store that a byte comes of; -1: memory -/
def QS.of (S : QS) (num : Int) (y : Nat) : Int := lastI (S.src num y) S.on.length
end Go.Proofs.YtemamhkhjijdlaaGreatDoor
/-
  LSQ: bytes put together.
-/
namespace Go.Proofs.YtemamhkhjijdlaaGreatDoor
open Go Go.RowKit
end Go.Proofs.YtemamhkhjijdlaaGreatDoor
/-
  LSQ: what turns a queue; New, Enter.
-/
namespace Go.Proofs.YtemamhkhjijdlaaGreatDoor
open Go Go.RowKit
/-- a queue has turned into another -/
structure Step (w w' : World) (B p : Nat) (v : Value) (S : QS) (v' : Value) (S' : QS) : Prop where
  q : Qm w' B p v' S'
  t : Turned (qmine p v S) w w'
  o : ∀ j, qmine p v' S' j → qmine p v S j ∨ w.heap.size ≤ j
theorem QS.at_push (S : QS) (y : Ac) (i : Nat) (h : i < S.on.length) : QS.at ⟨S.size, S.on ++ [y]⟩ i = S.at i := by
  unfold QS.at
  simp [List.getD_eq_getElem?_getD, List.getElem?_append_left h]
theorem QS.at_last (S : QS) (y : Ac) : QS.at ⟨S.size, S.on ++ [y]⟩ S.on.length = y := by
  unfold QS.at
  simp [List.getD_eq_getElem?_getD]
theorem Qm.push {w w' : World} {B p : Nat} {v v' : Value} {S : QS} {y : Ac} (k : Qm w B p v S) (hy : y.Fit) (hfr : y.fr = []) (hfb : y.fb = none) (hfc : y.fc = 0) (own : w'.ownsRow B 271 8 v' (S.on.length + 1) (flatA (S.on ++ [y]))) (t : Turned (fun j => v.ownBlock = some j) w w') (hv' : ∀ j, v'.ownBlock = some j → v.ownBlock = some j ∨ w.heap.size ≤ j) (hroom : S.on.length < 32) : Step w (w'.setCell ⟨p, 1, none⟩ v') B p v S v' ⟨S.size, S.on ++ [y]⟩ := by
  have hp := k.c.here
  have hvp := k.vp
  have t1 : Turned (fun j => j = p) w' (w'.setCell ⟨p, 1, none⟩ v') := (Turned.refl (fun j => j = p) w').set (b := p) rfl 1 v'
  have hlen : (S.on ++ [y]).length = S.on.length + 1 := by simp
  have nvp : v'.ownBlock ≠ some p := fun e => (hv' p e).elim hvp (fun h => by omega)
  have atl : ∀ i, i < (S.on ++ [y]).length → (i < S.on.length ∧ QS.at ⟨S.size, S.on ++ [y]⟩ i = S.at i) ∨ (i = S.on.length ∧ QS.at ⟨S.size, S.on ++ [y]⟩ i = y) := by
    intro i hi
    rcases Nat.lt_or_ge i S.on.length with q | q
    · exact Or.inl ⟨q, S.at_push y i q⟩
    · obtain rfl : i = S.on.length := by omega
      exact Or.inr ⟨rfl, S.at_last y⟩
  have hown : ∀ i, i < S.on.length → ∀ b, (S.at i).fb = some b → B ≤ b ∧ b < w.heap.size := fun i hi b hb => own_base_lsq (k.f i hi) b (by rw [Ac.vb]; exact hb)
  refine ⟨⟨?_, ?_, ?_, nvp, ?_, ?_, ?_, k.lo, ?_, ?_⟩, ?_, ?_⟩
  · refine ((t.cells k.c hvp).set 1 (by decide) v').ext (fun o ho => ?_)
    match o, ho with
    | 0, _ => rfl
    | 1, _ => rfl
  · have := own_turned_lsq own t1 (fun j hj e => nvp (by rw [hj, e]))
    rw [← hlen] at this
    exact this
  · intro i hi
    rcases atl i hi with ⟨h1, h2⟩ | ⟨h1, h2⟩
    · rw [h2]
      refine own_turned_lsq (own_turned_lsq (k.f i h1) t (fun j hj e => ?_)) t1 (fun j hj e => ?_)
      · rw [Ac.vb] at hj
        exact k.fv i h1 j hj e
      · rw [Ac.vb] at hj
        exact k.fp i h1 (by rw [hj, e])
    · rw [h2]
      refine ⟨by rw [hfr]; rfl, Or.inl ⟨by unfold Ac.v; rw [hfb, hfr, hfc]; rfl, by rw [hfr]; rfl⟩⟩
  · intro i hi
    rcases atl i hi with ⟨h1, h2⟩ | ⟨h1, h2⟩
    · rw [h2]; exact k.fp i h1
    · rw [h2, hfb]; simp
  · intro i hi b hb
    rcases atl i hi with ⟨h1, h2⟩ | ⟨h1, h2⟩
    · rw [h2] at hb
      intro e
      rcases hv' b e with q | q
      · exact k.fv i h1 b hb q
      · have := (hown i h1 b hb).2
        omega
    · rw [h2, hfb] at hb; cases hb
  · intro i j hi hj b hbi hbj
    rcases atl i hi with ⟨h1, h2⟩ | ⟨h1, h2⟩
    · rcases atl j hj with ⟨h3, h4⟩ | ⟨h3, h4⟩
      · rw [h2] at hbi
        rw [h4] at hbj
        exact k.ff i j h1 h3 b hbi hbj
      · rw [h4, hfb] at hbj; cases hbj
    · rw [h2, hfb] at hbi; cases hbi
  · have := k.small
    show (S.on ++ [y]).length ≤ 32 ∧ S.size ≤ 32
    omega
  · intro i hi
    rcases atl i hi with ⟨h1, h2⟩ | ⟨h1, h2⟩
    · rw [h2]; exact k.fit i h1
    · rw [h2]; exact hy
  · exact (t.mono (fun j e => Or.inr (Or.inl e))).trans (t1.mono (fun j e => Or.inl e))
  · rintro j (rfl | h | ⟨i, hi, h⟩)
    · exact Or.inl (Or.inl rfl)
    · exact (hv' j h).imp (fun e => Or.inr (Or.inl e)) id
    · rcases atl i hi with ⟨h1, h2⟩ | ⟨h1, h2⟩
      · rw [h2] at h
        exact Or.inl (Or.inr (Or.inr ⟨i, h1, h⟩))
      · rw [h2, hfb] at h; cases h
theorem Step.same {w w' : World} {B p : Nat} {v : Value} {S : QS} (k : Qm w B p v S) (b : Below w.heap.size w w') : Step w w' B p v S v S :=
  ⟨k.below b, Turned.of_below b, fun _ h => Or.inl h⟩
theorem new_bad_lsq (n : Int) (w : World) (hn : ¬ (1 ≤ n ∧ n ≤ 32)) : Calls Tryz.prog 37 #[.int .i64 n] w fun e w' => e = .returned (.tuple #[.pointer none, errV 2]) ∧ w' = w := by
  by_cases h : n < 1
  · go_enter Tryz.func37, Tryz.ntmps37
    go_wp2
    refine bodyPost_ret (results_tmp2 Tryz.results37 _ _ _) rfl ?_
    exact ⟨rfl, rfl⟩
  · have h2 : 32 < n := by omega
    go_enter Tryz.func37, Tryz.ntmps37
    go_wp2
    refine bodyPost_ret (results_tmp2 Tryz.results37 _ _ _) rfl ?_
    exact ⟨rfl, rfl⟩
theorem new_good_lsq (B n : Nat) (w : World) (hB : B ≤ w.heap.size) (hn : 1 ≤ n ∧ n ≤ 32) : Calls Tryz.prog 37 #[.int .i64 n] w fun e w' => e = .returned (.tuple #[.pointer (some ⟨w.heap.size, 0, none⟩), .nilIface]) ∧ Qm w' B w.heap.size (.slice none 0 0) ⟨n, []⟩ ∧ Below w.heap.size w w' := by
  have h1 : ¬ (n : Int) < 1 := by omega
  have h2 : ¬ (32 : Int) < n := by omega
  go_enter Tryz.func37, Tryz.ntmps37
  go_wp2
  refine bodyPost_ret (results_tmp2 Tryz.results37 _ _ _) rfl ?_
  refine ⟨rfl, ⟨?_, ⟨rfl, Or.inl ⟨rfl, rfl⟩⟩, fun i hi => absurd hi (by simp), by simp [Value.ownBlock], fun i hi => absurd hi (by simp), fun i hi => absurd hi (by simp), fun i j hi => absurd hi (by simp), hB, ⟨by simp, hn.2⟩, fun i hi => absurd hi (by simp)⟩, (Below.refl _ _).alloc (Nat.le_refl _) _⟩
  exact cells_new w (fun i hi => by
    match i, hi with
    | 0, _ => rfl
    | 1, _ => rfl)
end Go.Proofs.YtemamhkhjijdlaaGreatDoor
/-
  LSQ: one access turned; Value, Address.
-/
namespace Go.Proofs.YtemamhkhjijdlaaGreatDoor
open Go Go.RowKit
def QS.set (S : QS) (i : Nat) (y : Ac) : QS := ⟨S.size, S.on.set i y⟩
theorem QS.set_len (S : QS) (i : Nat) (y : Ac) : (S.set i y).on.length = S.on.length := by simp [QS.set]
theorem QS.at_set (S : QS) (i : Nat) (y : Ac) (h : i < S.on.length) : (S.set i y).at i = y := by
  unfold QS.at QS.set
  simp [List.getD_eq_getElem?_getD, h]
theorem QS.at_set' (S : QS) (i j : Nat) (y : Ac) (h : j ≠ i) : (S.set i y).at j = S.at j := by
  unfold QS.at QS.set
  simp [List.getD_eq_getElem?_getD, List.getElem?_set_ne (Ne.symm h)]
theorem Qm.upd {w w' : World} {B p : Nat} {v : Value} {S : QS} {y : Ac} (k : Qm w B p v S) (i : Nat) (hi : i < S.on.length) (hy : y.Fit) (hfr : y.fr = (S.at i).fr) (hfb : y.fb = (S.at i).fb) (hfc : y.fc = (S.at i).fc) (own : w'.ownsRow B 271 8 v S.on.length (flatA (S.on.set i y))) (t : Turned (fun j => v.ownBlock = some j) w w') : Step w w' B p v S v (S.set i y) := by
  have hvy : y.v = (S.at i).v := by unfold Ac.v; rw [hfr, hfb, hfc]
  have atl : ∀ j, j < (S.set i y).on.length → ((S.set i y).at j).fb = (S.at j).fb ∧ ((S.set i y).at j).v = (S.at j).v ∧ ((S.set i y).at j).fr = (S.at j).fr := by
    intro j hj
    by_cases e : j = i
    · subst e
      rw [S.at_set j y hi]
      exact ⟨hfb, hvy, hfr⟩
    · rw [S.at_set' i j y e]
      exact ⟨rfl, rfl, rfl⟩
  have hl : (S.set i y).on.length = S.on.length := S.set_len i y
  refine ⟨⟨t.cells k.c k.vp, ?_, fun j hj => ?_, k.vp, fun j hj => ?_, fun j hj b hb => ?_, fun j j' hj hj' b hb hb' => ?_, k.lo, by rw [hl]; exact k.small, fun j hj => ?_⟩, t.mono (fun j e => Or.inr (Or.inl e)), ?_⟩
  · rw [hl]; exact own
  · obtain ⟨-, h2, h3⟩ := atl j hj
    rw [h2, h3]
    exact own_turned_lsq (k.f j (by omega)) t (fun b hb e => k.fv j (by omega) b (by rw [Ac.vb] at hb; exact hb) e)
  · rw [(atl j hj).1]; exact k.fp j (by omega)
  · rw [(atl j hj).1] at hb; exact k.fv j (by omega) b hb
  · rw [(atl j hj).1] at hb
    rw [(atl j' hj').1] at hb'
    exact k.ff j j' (by omega) (by omega) b hb hb'
  · by_cases e : j = i
    · subst e
      rw [S.at_set j y hi]
      exact hy
    · rw [S.at_set' i j y e]
      exact k.fit j (by omega)
  · rintro j (rfl | h | ⟨i', hi', h⟩)
    · exact Or.inl (Or.inl rfl)
    · exact Or.inl (Or.inr (Or.inl h))
    · rw [(atl i' hi').1] at h
      exact Or.inl (Or.inr (Or.inr ⟨i', by omega, h⟩))
theorem Step.trans {w w1 w2 : World} {B p : Nat} {v v1 v2 : Value} {S S1 S2 : QS} (h : Step w w1 B p v S v1 S1) (k : Step w1 w2 B p v1 S1 v2 S2) : Step w w2 B p v S v2 S2 := by
  refine ⟨k.q, ⟨k.t.os.trans h.t.os, k.t.tape.trans h.t.tape, k.t.output.trans h.t.output, Nat.le_trans h.t.size k.t.size, fun i hi hb => ?_⟩, fun j hj => ?_⟩
  · refine (k.t.block i (Nat.lt_of_lt_of_le hi h.t.size) (fun e => ?_)).trans (h.t.block i hi hb)
    rcases h.o i e with q | q
    · exact hb q
    · omega
  · rcases k.o j hj with q | q
    · exact h.o j q
    · exact Or.inr (Nat.le_trans h.t.size q)
theorem First.some {f : Nat → Bool} {n : Nat} {r : Int} (h : First f n r) (hr : r ≠ -1) : ∃ i : Nat, i < n ∧ f i = true ∧ r = i := by
  rcases h with ⟨i, hi, h1, -, rfl⟩ | ⟨-, rfl⟩
  · exact ⟨i, hi, h1, rfl⟩
  · exact absurd rfl hr
theorem First.uniq {f : Nat → Bool} {n : Nat} {r s : Int} (h : First f n r) (k : First f n s) : r = s := by
  rcases h with ⟨i, hi, h1, h2, rfl⟩ | ⟨h1, rfl⟩
  · rcases k with ⟨j, hj, k1, k2, rfl⟩ | ⟨k1, rfl⟩
    · rcases Nat.lt_trichotomy i j with q | q | q
      · rw [k2 i q] at h1; cases h1
      · rw [q]
      · rw [h2 j q] at k1; cases k1
    · rw [k1 i hi] at h1; cases h1
  · rcases k with ⟨j, hj, k1, k2, rfl⟩ | ⟨k1, rfl⟩
    · rw [h1 j hj] at k1; cases k1
    · rfl
/-- a row's cells, behind a call -/
theorem Qm.row {x : World} {B p : Nat} {v : Value} {S : QS} (k : Qm x B p v S) (i : Nat) (hi : i < S.on.length) : ∃ g cap, v = .slice (some ⟨g, 0, none⟩) S.on.length cap ∧ g < x.heap.size ∧ x.rangeAt g (i * 8) (S.at i).vs ∧ (∀ o, x.frozen? ⟨g, o, none⟩ = false) ∧ S.on.length ≤ cap ∧ cap ≤ maxLen := by
  obtain ⟨q, cap, rfl, hcap, hel⟩ := own_row k.l
  obtain ⟨g, rfl, -, hg, hr, hf⟩ := hel i hi
  exact ⟨g, cap, rfl, hg, hr, hf, hcap⟩
end Go.Proofs.YtemamhkhjijdlaaGreatDoor
/-
  LSQ: one access less.
-/
namespace Go.Proofs.YtemamhkhjijdlaaGreatDoor
open Go Go.RowKit
def z8 : List Value := [.int .i64 0, .bool false, .int .u32 0, .int .i64 0, .int .u32 0, .bool false, .bool false, .slice none 0 0]
end Go.Proofs.YtemamhkhjijdlaaGreatDoor
/-
  LSQ: Squash.
-/
namespace Go.Proofs.YtemamhkhjijdlaaGreatDoor
open Go Go.RowKit
set_option maxRecDepth 100000 in
set_option maxHeartbeats 2000000 in
theorem deleteF_none (B : Nat) (v : Value) (l : List Ac) (F : Nat) (cap0 : Array Value) (f : Nat → Bool) (w : World) (hE : ∀ args w, (callFunc F args).run Tryz.prog w = .ok (.enter F args) w) (k : w.ownsRow B 271 8 v l.length (flatA l)) (hl : l.length ≤ 32)
    (hf : ∀ i, i < l.length → ∀ y, Below w.heap.size w y → Calls Tryz.prog F (#[.agg (l.getD i a0).vs.toArray] ++ cap0) y fun e z => e = .returned (.bool (f i)) ∧ Below y.heap.size y z) (hn : ∀ i, i < l.length → f i = false) :
    Calls Tryz.prog 242 #[v, .func (.func F) #[] cap0] w fun e w' => e = .returned v ∧ Below w.heap.size w w' := by
  have HC := Hid.in (index_any_lsq B v l F cap0 f w hE k hl hf)
  have HN : Hid (First f l.length (-1)) := Or.inr ⟨hn, rfl⟩
  clear hE k hf hn
  go_enter Tryz.func242, Tryz.ntmps242
  go_wp2_with (first | (refine HC.out.mono ?_; rintro e w2 ⟨r, rfl, h1, h2⟩; obtain rfl := h1.uniq HN.out; have H2 := Hid.in h2; clear h1 h2))
  go_ret
  exact ⟨rfl, H2.out⟩
end Go.Proofs.YtemamhkhjijdlaaGreatDoor
/-
  LSQ: Squash.
-/
namespace Go.Proofs.YtemamhkhjijdlaaGreatDoor
open Go Go.RowKit
theorem Qm.part {w w' : World} {B p : Nat} {v v' : Value} {S S' : QS} (k : Qm w B p v S) (hsz : S'.size = S.size) (f : Nat → Nat) (hf : ∀ j, j < S'.on.length → f j < S.on.length ∧ S'.at j = S.at (f j)) (hinj : ∀ a b, a < S'.on.length → b < S'.on.length → f a = f b → a = b) (own : w'.ownsRow B 271 8 v' S'.on.length (flatA S'.on)) (hle : S'.on.length ≤ S.on.length) (hv : v'.ownBlock = v.ownBlock) (t : Turned (fun j => v.ownBlock = some j) w w') : Step w (w'.setCell ⟨p, 1, none⟩ v') B p v S v' S' := by
  have t1 : Turned (fun j => j = p) w' (w'.setCell ⟨p, 1, none⟩ v') := (Turned.refl (fun j => j = p) w').set (b := p) rfl 1 v'
  have hvp := k.vp
  refine ⟨⟨?_, ?_, fun j hj => ?_, by rw [hv]; exact hvp, fun j hj => ?_, fun j hj b hb => ?_, fun j j' hj hj' b hb hb' => ?_, k.lo, by rw [hsz]; exact ⟨Nat.le_trans hle k.small.1, k.small.2⟩, fun j hj => ?_⟩, ?_, ?_⟩
  · refine ((t.cells k.c hvp).set 1 (by decide) v').ext (fun o ho => ?_)
    match o, ho with
    | 0, _ => rw [hsz]; rfl
    | 1, _ => rfl
  · exact own_turned_lsq own t1 (fun j hj e => hvp (by rw [← hv, hj, e]))
  · obtain ⟨h1, h2⟩ := hf j hj
    rw [h2]
    refine own_turned_lsq (own_turned_lsq (k.f _ h1) t (fun b hb e => ?_)) t1 (fun b hb e => ?_)
    · rw [Ac.vb] at hb
      exact k.fv _ h1 b hb e
    · rw [Ac.vb] at hb
      exact k.fp _ h1 (by rw [hb, e])
  · obtain ⟨h1, h2⟩ := hf j hj
    rw [h2]; exact k.fp _ h1
  · obtain ⟨h1, h2⟩ := hf j hj
    rw [h2] at hb
    rw [hv]
    exact k.fv _ h1 b hb
  · obtain ⟨h1, h2⟩ := hf j hj
    obtain ⟨h3, h4⟩ := hf j' hj'
    rw [h2] at hb
    rw [h4] at hb'
    exact hinj j j' hj hj' (k.ff _ _ h1 h3 b hb hb')
  · obtain ⟨h1, h2⟩ := hf j hj
    rw [h2]; exact k.fit _ h1
  · exact (t.mono (fun j e => Or.inr (Or.inl e))).trans (t1.mono (fun j e => Or.inl e))
  · rintro j (rfl | h | ⟨i, hi, h⟩)
    · exact Or.inl (Or.inl rfl)
    · exact Or.inl (Or.inr (Or.inl (by rw [← hv]; exact h)))
    · obtain ⟨h1, h2⟩ := hf i hi
      rw [h2] at h
      exact Or.inl (Or.inr (Or.inr ⟨_, h1, h⟩))
def QS.squ (S : QS) (af : Int) (i : Nat) : Bool := decide (af < (S.at i).n) && !(S.at i).rt
def QS.cut (S : QS) (i : Nat) : QS := ⟨S.size, S.on.take i⟩
set_option maxRecDepth 100000 in
set_option maxHeartbeats 2000000 in
theorem squash_none_lsq (B p : Nat) (v : Value) (S : QS) (af : Int) (i : Nat) (w : World) (k : Qm w B p v S) (h1 : ∀ j, j < i → S.squ af j = false) (hil : i = S.on.length) : Calls Tryz.prog 187 #[.pointer (some ⟨p, 0, none⟩), .int .i64 af] w fun e w' => e = .returned (.tuple #[]) ∧ ∃ v', Step w w' B p v S v' (S.cut i) := by
  obtain ⟨X, hX, q, hb, hs⟩ := boxed1 (.int .i64 af) w 3
  have kX := k.below hb
  have hE : ∀ args w, (callFunc 243 args).run Tryz.prog w = .ok (.enter 243 args) w := fun args w => enters_of Tryz.func243 (by kernel_rfl) rfl args w
  have hcl : ∀ i, i < S.on.length → ∀ y, Below X.heap.size X y → Calls Tryz.prog 243 (#[.agg (S.on.getD i a0).vs.toArray] ++ #[.pointer (some ⟨w.heap.size, 0, none⟩)]) y fun e z => e = .returned (.bool (S.squ af i)) ∧ Below y.heap.size y z := fun i hi y hy => squashW (S.at i) w.heap.size af y ((hy.cell (p := ⟨w.heap.size, 0, none⟩) (cell_here q)).trans q)
  have hs32 := k.small.1
  obtain ⟨hp, -, c1, f1⟩ := kX.cells
  have HX := Hid.in hX
  have HB := Hid.in hb
  have HK := Hid.in k
  have HKX := Hid.in kX
  have hd := deleteF_none B v S.on 243 #[.pointer (some ⟨w.heap.size, 0, none⟩)] (S.squ af) X hE kX.l hs32 hcl (fun j hj => h1 j (by omega))
  obtain ⟨qq, cap, hv, -, -⟩ := own_row kX.l
  have HV := Hid.in hv
  rw [hv] at c1 hd
  have HD := Hid.in hd
  clear k kX hX hb q hE hcl h1 hv hd
  go_enter Tryz.func187, Tryz.ntmps187
  go_upto_region 1 with fail
  rw [HX.out]
  go_wp2_with (first
    | (refine HD.out.mono ?_
       rintro e w2 ⟨rfl, hb2⟩
       have k2 := HKX.out.below hb2
       have c2 := k2.cells.2.2.1
       have f2 := k2.cells.2.2.2
       have HB2 := Hid.in hb2
       clear hb2 k2))
  refine bodyPost_end (results_none Tryz.results187 _ _ _) rfl ⟨rfl, v, ?_⟩
  have k2 := HKX.out.below HB2.out
  have hcut : S.cut i = S := by
    unfold QS.cut
    rw [hil, List.take_length]
  rw [hcut, ← HV.out]
  exact (Step.same HK.out (below2 HB.out HB2.out)).trans (k2.part rfl id (fun j hj => ⟨hj, rfl⟩) (fun a b _ _ h => h) k2.l (Nat.le_refl _) rfl (Turned.refl _ _))
end Go.Proofs.YtemamhkhjijdlaaGreatDoor
