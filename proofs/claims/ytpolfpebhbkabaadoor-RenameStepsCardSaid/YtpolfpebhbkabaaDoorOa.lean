/-
  THE ANSWER's TABLE OF NAMES IN MEMORY: its row of free names, lengthened and laid anew.
-/
import Derived.Test.YtpolfpebhbkabaaDoorNg
import Derived.ArgAppend
import Derived.OwnWalk
import Derived.Laws.AppendOwn
import Derived.Laws.AppendOwnNone
namespace Go.Proofs.YtpolfpebhbkabaaDoor
open Go Go.RowKit
/-- a row of names in the block g: the slice (ao, l.length, cap) -/
structure OwnG (x : World) (g : Nat) (ao : Option Addr) (cap : Nat) (l : List Nat) : Prop where
  le : l.length ≤ cap
  max : cap ≤ maxLen
  none : ao = none → cap = 0
  at' : ∀ a, ao = some a → ∃ off, a = ⟨g, off, Option.none⟩ ∧ g < x.heap.size ∧ (∀ j, j < cap → (x.cell? ⟨g, off + j, Option.none⟩).isSome = true) ∧ (∀ j, j < l.length → x.cell? ⟨g, off + j, Option.none⟩ = some (.int .i64 (l.getD j 0))) ∧ (∀ o, x.frozen? ⟨g, o, Option.none⟩ = false)
theorem OwnG.nil (x : World) (g : Nat) : OwnG x g Option.none 0 [] := ⟨Nat.le_refl _, by unfold maxLen; omega, fun _ => rfl, fun a h => by cases h⟩
theorem OwnG.turned {Q : Nat → Prop} {x y : World} {g : Nat} {ao : Option Addr} {cap : Nat} {l : List Nat} (h : OwnG x g ao cap l) (c : Turned Q x y) (hq : ¬ Q g) : OwnG y g ao cap l := by
  obtain ⟨h2, h3, h4, h5⟩ := h
  refine ⟨h2, h3, h4, fun a ha => ?_⟩
  obtain ⟨off, a1, a3, a4, a5, a6⟩ := h5 a ha
  have hb := c.block g a3 hq
  refine ⟨off, a1, Nat.lt_of_lt_of_le a3 c.size, fun j hj => ?_, fun j hj => ?_, fun o => ?_⟩
  · rw [World.cell?_of_block (w := x) hb]; exact a4 j hj
  · rw [World.cell?_of_block (w := x) hb]; exact a5 j hj
  · rw [World.frozen?_of_block (w := x) hb]; exact a6 o
theorem OwnG.alloc {x : World} {g : Nat} {ao : Option Addr} {cap : Nat} {l : List Nat} (h : OwnG x g ao cap l) (o : Obj) : OwnG (x.alloc o) g ao cap l :=
  h.turned (Q := fun _ => False) ((Turned.refl _ x).alloc o) (fun q => q.elim)
theorem turned_of {B : Nat} {x y : World} (h : Below B x y) : Turned (fun k => B ≤ k) x y := ⟨h.os, h.tape, h.output, h.size, fun k _ hk => h.block k (by omega)⟩
theorem size_set (w : World) (a : Addr) (v : Value) : (w.setCell a v).heap.size = w.heap.size := by simp [World.setCell]
def numsV (l : List Nat) : List Value := l.map fun k : Nat => Value.int .i64 (k : Int)
theorem ownG_of {x : World} {B : Nat} {e : TypeId} {v : Value} {l : List Nat} (h : x.ownsRow B e 1 v l.length (numsV l)) : ∃ g ao cap, v = .slice ao l.length cap ∧ OwnG x g ao cap l ∧ B ≤ g := by
  obtain ⟨h1, h2⟩ := h
  rcases h2 with ⟨h3, h4⟩ | ⟨g, cap, cur, rfl, a2, a3, a4, a5, a6, a7⟩
  · obtain rfl : l = [] := List.eq_nil_of_length_eq_zero h4
    exact ⟨B, Option.none, 0, h3, OwnG.nil x B, Nat.le_refl _⟩
  · refine ⟨g, some ⟨g, 0, Option.none⟩, cap, rfl, ⟨a4, a5, fun q => by simp at q, fun a ha => ?_⟩, a2⟩
    obtain rfl := Option.some.inj ha
    refine ⟨0, rfl, ?_, fun j hj => ?_, fun j hj => ?_, fun o => ?_⟩
    · rcases Nat.lt_or_ge g x.heap.size with q | q
      · exact q
      · rw [Array.getElem?_eq_none q] at a3
        exact absurd a3 (by simp)
    · simp only [World.cell?, a3, Nat.zero_add]
      rw [Array.getElem?_eq_getElem (by omega)]
      rfl
    · have c : cur[j]? = some (.int .i64 (l.getD j 0)) := by
        have q := congrArg (·[j]?) a7
        simp only [List.getElem?_take, Nat.mul_one, hj, if_true, numsV, List.getElem?_map] at q
        rw [List.getElem?_eq_getElem hj] at q
        rw [← Array.getElem?_toList, q, List.getD_eq_getElem?_getD, List.getElem?_eq_getElem hj]
        rfl
      simpa [World.cell?, a3] using c
    · simp [World.frozen?, a3]
theorem getD_append_left' (l : List Nat) (y j : Nat) (h : j < l.length) : (l ++ [y]).getD j 0 = l.getD j 0 := by
  simp only [List.getD_eq_getElem?_getD]
  rw [List.getElem?_append_left h]
theorem getD_append_last' (l : List Nat) (y : Nat) : (l ++ [y]).getD l.length 0 = y := by
  simp [List.getD_eq_getElem?_getD]
theorem OwnG.cells {x : World} {g cap : Nat} {a : Addr} {l : List Nat} (h : OwnG x g (some a) cap l) : ∀ j u, (numsV l)[j]? = some u → x.cell? (a.add j) = some u := by
  intro j u hj
  unfold numsV at hj
  rw [List.getElem?_map] at hj
  have hjl : j < l.length := by
    rcases Nat.lt_or_ge j l.length with q | q
    · exact q
    · rw [List.getElem?_eq_none q] at hj; simp at hj
  obtain ⟨off, rfl, a3, a4, a5, a6⟩ := h.at' a rfl
  rw [Addr.add_lit, a5 j hjl]
  rw [List.getElem?_eq_getElem hjl] at hj
  simp only [Option.map_some, Option.some.injEq] at hj
  rw [List.getD_eq_getElem?_getD, List.getElem?_eq_getElem hjl, ← hj]
  rfl
theorem nums_one (l : List Nat) : ∀ u ∈ numsV l, u.oneCell' = true := by
  intro u hu
  obtain ⟨k, _, rfl⟩ := List.mem_map.1 hu
  rfl
theorem append_ownG {P : Program} (w : World) {ops : Array Oper} {rest : List Oper} {o : Oper} {a : Act} {Q : Exit → Act → World → Prop} (hgd : o.guard = none) (s x : Operand) (t : TypeId)
    (ho : o.op = .call { callee := .builtin .append, args := #[s, x], argTypes := #[t, t] }) (e : TypeId) (i : TypeInfo) (ht : P.underlying t = some (.slice e)) (hi : P.info? e = some i) (hz : i.zero = some (.int .i64 0)) (hsize : i.size = 1) (hby : i.bytes = 8)
    (g : Nat) (ao : Option Addr) (cap : Nat) (l : List Nat) (hs : a.eval s = .slice ao l.length cap) (h : OwnG w g ao cap l) (ad : Addr) (c y : Nat) (hx : a.eval x = .slice (some ad) 1 c) (hy : w.cell? ad = some (.int .i64 y)) (hsp : ad.spot = Option.none)
    (hl : l.length ≤ 1000000)
    (hK : ∀ w' g' ao' cap', OwnG w' g' ao' cap' (l ++ [y]) → Turned (fun k => k = g) w w' → (g' = g ∨ w.heap.size ≤ g') → wpList P ops Q rest (a.put o.dst (.slice ao' (l.length + 1) cap')) w') : wpList P ops Q (o :: rest) a w := by
  have hnews : ∀ j u, ([.int .i64 y] : List Value)[j]? = some u → w.cell? (ad.add j) = some u := by
    intro j u hj
    match j, hj with
    | 0, hj =>
      simp at hj
      subst hj
      have : ad.add 0 = ad := by
        obtain ⟨b, f, sp⟩ := ad
        simp only at hsp
        subst hsp
        simp [Addr.add]
      rw [this]
      exact hy
  have hone : ∀ u ∈ ([.int .i64 y] : List Value), u.oneCell' = true := by
    intro u hu
    simp at hu
    subst hu
    rfl
  have hm : l.length + 1 ≤ maxLen := by unfold maxLen; omega
  have holds : ∀ b, ao = some b → ∀ j u, (numsV l)[j]? = some u → w.cell? (b.add j) = some u := fun b hb => by subst hb; exact h.cells
  by_cases hr : l.length + 1 ≤ cap
  · obtain ⟨ad0, hao⟩ : ∃ ad0, ao = some ad0 := by
      cases ao with
      | none => have := h.none rfl; omega
      | some q => exact ⟨q, rfl⟩
    obtain ⟨h2, h3, h4, h5⟩ := h
    obtain ⟨off, rfl, a3, a4, a5, a6⟩ := h5 ad0 hao
    subst hao
    refine wpList_append_arg w hgd s x t ho e i (.int .i64 0) 1 8 ht hi hz hsize hby rfl (by decide) g off l.length cap (numsV l) hs (by simp [numsV]) (fun j u hj => by have := holds _ rfl j u hj; rw [Addr.add_lit] at this; exact this) ad 1 c [.int .i64 y] hx rfl hnews hone (fun _ j hj => ?_) hm (by omega) (fun _ => ?_) (fun q => absurd q (by omega))
    · simp only [List.length_cons, List.length_nil] at hj
      obtain rfl : j = 0 := by omega
      exact ⟨by rw [Nat.mul_one, Nat.add_zero]; exact a4 _ (by omega), a6 _⟩
    · have hw : w.setCells g (off + l.length * 1) [.int .i64 y] = w.setCell ⟨g, off + l.length, Option.none⟩ (.int .i64 y) := by
        rw [Nat.mul_one]; rfl
      rw [hw]
      have hT : Turned (fun k => k = g) w (w.setCell ⟨g, off + l.length, Option.none⟩ (.int .i64 y)) := (Turned.refl (fun k => k = g) w).set (b := g) rfl _ _
      refine hK _ g (some ⟨g, off, Option.none⟩) cap ⟨by simp; omega, h3, fun q => by simp at q, fun a' ha' => ?_⟩ hT (Or.inl rfl)
      obtain rfl := Option.some.inj ha'
      refine ⟨off, rfl, Nat.lt_of_lt_of_le a3 hT.size, fun j hj => ?_, fun j hj => ?_, fun o => ?_⟩
      · by_cases q : j = l.length
        · subst q
          obtain ⟨u, hu⟩ := Option.isSome_iff_exists.1 (a4 l.length (by omega))
          rw [World.cell?_setCell_same _ _ _ hu]
          rfl
        · rw [World.cell?_setCell_other _ _ _ _ (by intro e; have := congrArg Addr.off e; simp at this; omega)]
          exact a4 j hj
      · simp only [List.length_append, List.length_cons, List.length_nil] at hj
        by_cases q : j = l.length
        · subst q
          obtain ⟨u, hu⟩ := Option.isSome_iff_exists.1 (a4 l.length (by omega))
          rw [World.cell?_setCell_same _ _ _ hu, getD_append_last']
        · rw [World.cell?_setCell_other _ _ _ _ (by intro e; have := congrArg Addr.off e; simp at this; omega), getD_append_left' _ _ _ (by omega)]
          exact a5 j (by omega)
      · rw [World.frozen?_setCell]; exact a6 o
  · refine wpList_append_grows w hgd s x t ho e i (.int .i64 0) 1 8 ht hi hz hsize hby rfl (by decide) ao l.length cap (numsV l) hs (fun q => ⟨by have := h.none q; have := h.le; omega, h.none q⟩) (by simp [numsV]) holds ad 1 c [.int .i64 y] hx rfl hnews hone (by omega) hm (by omega) (fun v' w' hown hgrow => ?_)
    have e1 : numsV l ++ [Value.int .i64 (y : Int)] = numsV (l ++ [y]) := by simp [numsV]
    rw [e1] at hown
    have e2 : l.length + 1 = (l ++ [y]).length := by simp
    rw [e2] at hown
    obtain ⟨g', ao', cap', rfl, hO, hg'⟩ := ownG_of hown
    have hb : Below w.heap.size w w' := (Below.refl _ w).grown hgrow (Nat.le_refl _) (fun _ q => by cases q)
    have e3 : (l ++ [y]).length = l.length + 1 := by simp
    rw [e3]
    exact hK w' g' ao' cap' hO (Turned.of_below hb) (Or.inr hg')
/-- a row behind another that the call has just made: both in the block ⟨B ..⟩ or newer -/
theorem append_ownR {P : Program} (w : World) {ops : Array Oper} {rest : List Oper} {o : Oper} {a : Act} {Q : Exit → Act → World → Prop} (hgd : o.guard = none) (s x : Operand) (t : TypeId)
    (ho : o.op = .call { callee := .builtin .append, args := #[s, x], argTypes := #[t, t] }) (e : TypeId) (i : TypeInfo) (ht : P.underlying t = some (.slice e)) (hi : P.info? e = some i) (hz : i.zero = some (.int .i64 0)) (hsize : i.size = 1) (hby : i.bytes = 8)
    (B : Nat) (v : Value) (k l : List Nat) (hs : a.eval s = v) (h : w.ownsRow B e 1 v k.length (numsV k)) (ad : Addr) (c : Nat) (hx : a.eval x = .slice (some ad) l.length c) (hy : ∀ j u, (numsV l)[j]? = some u → w.cell? (ad.add j) = some u)
    (hl : k.length + l.length ≤ 1000000) (hB : B ≤ w.heap.size) (hv : ∀ q, v.ownBlock = some q → B ≤ q)
    (hK : ∀ w' g' ao' cap', OwnG w' g' ao' cap' (k ++ l) → Below B w w' → B ≤ g' → wpList P ops Q rest (a.put o.dst (.slice ao' (k.length + l.length) cap')) w') : wpList P ops Q (o :: rest) a w := by
  refine wpList_append_own w hgd s x t ho B e i (.int .i64 0) 1 8 ht hi hz hsize hby rfl (by decide) v k.length (numsV k) hs h ad l.length c (numsV l) hx (by simp [numsV]) hy (nums_one l) (by unfold maxLen; omega) (by omega) hB (fun v' w' hown hgrow _ => ?_)
  have e1 : numsV k ++ numsV l = numsV (k ++ l) := by simp [numsV]
  rw [e1] at hown
  have e2 : k.length + l.length = (k ++ l).length := by simp
  rw [e2] at hown
  obtain ⟨g', ao', cap', rfl, hO, hg'⟩ := ownG_of hown
  have hb : Below B w w' := (Below.refl _ w).grown hgrow hB hv
  rw [← e2]
  exact hK w' g' ao' cap' hO hb hg'
end Go.Proofs.YtpolfpebhbkabaaDoor
