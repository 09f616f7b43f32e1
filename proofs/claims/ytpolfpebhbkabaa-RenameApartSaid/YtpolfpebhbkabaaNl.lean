/-
  A ROW OF NAMES THAT THE CALL OWNS, CUT AT ITS HEAD AND LENGTHENED AT ITS END.
-/
import Derived.Test.YtpolfpebhbkabaaNj
import Derived.ArgAppend
import Derived.OwnWalk
namespace Go.Proofs.Ytpolfpebhbkabaa
open Go Go.RowKit
structure Own1 (x : World) (B : Nat) (v : Value) (ao : Option Addr) (cap : Nat) (l : List Nat) : Prop where
  val : v = .slice ao l.length cap
  le : l.length ≤ cap
  max : cap ≤ maxLen
  none : ao = none → cap = 0
  at' : 0 < cap → ∃ g off, ao = some ⟨g, off, Option.none⟩ ∧ B ≤ g ∧ g < x.heap.size ∧ (∀ j, j < cap → (x.cell? ⟨g, off + j, Option.none⟩).isSome = true) ∧ (∀ j, j < l.length → x.cell? ⟨g, off + j, Option.none⟩ = some (.int .i64 (l.getD j 0))) ∧ (∀ o, x.frozen? ⟨g, o, Option.none⟩ = false)
theorem Own1.nil (x : World) (B : Nat) : Own1 x B (.slice Option.none 0 0) Option.none 0 [] := ⟨rfl, Nat.le_refl _, by unfold maxLen; omega, fun _ => rfl, fun h => absurd h (by omega)⟩
theorem Own1.turned {Q : Nat → Prop} {x y : World} {B : Nat} {v : Value} {ao : Option Addr} {cap : Nat} {l : List Nat} (h : Own1 x B v ao cap l) (c : Turned Q x y) (hq : ∀ k, Q k → k < B) : Own1 y B v ao cap l := by
  obtain ⟨h1, h2, h3, h4, h5⟩ := h
  refine ⟨h1, h2, h3, h4, fun hc => ?_⟩
  obtain ⟨g, off, a1, a2, a3, a4, a5, a6⟩ := h5 hc
  have hb := c.block g a3 (fun q => by have := hq g q; omega)
  refine ⟨g, off, a1, a2, Nat.lt_of_lt_of_le a3 c.size, fun j hj => ?_, fun j hj => ?_, fun o => ?_⟩
  · rw [World.cell?_of_block (w := x) hb]; exact a4 j hj
  · rw [World.cell?_of_block (w := x) hb]; exact a5 j hj
  · rw [World.frozen?_of_block (w := x) hb]; exact a6 o
theorem Own1.alloc {x : World} {B : Nat} {v : Value} {ao : Option Addr} {cap : Nat} {l : List Nat} (h : Own1 x B v ao cap l) (o : Obj) : Own1 (x.alloc o) B v ao cap l :=
  h.turned (Q := fun _ => False) ((Turned.refl _ x).alloc o) (fun _ q => q.elim)
theorem Own1.cut {x : World} {B y cap : Nat} {v : Value} {ao : Option Addr} {l : List Nat} (h : Own1 x B v ao cap (y :: l)) {ao' : Option Addr} (ha : ∀ g off, ao = some ⟨g, off, Option.none⟩ → 0 < cap - 1 → ao' = some ⟨g, off + 1, Option.none⟩) (hn : ao' = Option.none → cap - 1 = 0) : Own1 x B (.slice ao' l.length (cap - 1)) ao' (cap - 1) l := by
  obtain ⟨h1, h2, h3, h4, h5⟩ := h
  simp only [List.length_cons] at h2
  refine ⟨rfl, by omega, by omega, hn, fun hc => ?_⟩
  obtain ⟨g, off, a1, a2, a3, a4, a5, a6⟩ := h5 (by omega)
  refine ⟨g, off + 1, ha g off a1 hc, a2, a3, fun j hj => ?_, fun j hj => ?_, a6⟩
  · rw [Nat.add_assoc, Nat.add_comm 1 j]; exact a4 (j + 1) (by omega)
  · rw [Nat.add_assoc, Nat.add_comm 1 j]; exact a5 (j + 1) (by simp only [List.length_cons]; omega)
theorem own1_of {x : World} {B : Nat} {e : TypeId} {v : Value} {l : List Nat} (hp : 0 < l.length) (h : x.ownsRow B e 1 v l.length (l.map fun k : Nat => Value.int .i64 (k : Int))) : ∃ ao cap, Own1 x B v ao cap l := by
  obtain ⟨h1, h2⟩ := h
  rcases h2 with ⟨_, h3⟩ | ⟨g, cap, cur, rfl, a2, a3, a4, a5, a6, a7⟩
  · omega
  · refine ⟨some ⟨g, 0, Option.none⟩, cap, rfl, a4, a5, fun q => by simp at q, fun hc => ⟨g, 0, rfl, a2, ?_, fun j hj => ?_, fun j hj => ?_, fun o => ?_⟩⟩
    · rcases Nat.lt_or_ge g x.heap.size with q | q
      · exact q
      · rw [Array.getElem?_eq_none q] at a3
        exact absurd a3 (by simp)
    · simp only [World.cell?, a3, Nat.zero_add]
      rw [Array.getElem?_eq_getElem (by omega)]
      rfl
    · have c : cur[j]? = some (.int .i64 (l.getD j 0)) := by
        have q := congrArg (·[j]?) a7
        simp only [List.getElem?_take, Nat.mul_one, hj, if_true, List.getElem?_map] at q
        rw [List.getElem?_eq_getElem hj] at q
        rw [← Array.getElem?_toList, q, List.getD_eq_getElem?_getD, List.getElem?_eq_getElem hj]
        rfl
      simpa [World.cell?, a3] using c
    · simp [World.frozen?, a3]
theorem getD_append_left' (l : List Nat) (y j : Nat) (h : j < l.length) : (l ++ [y]).getD j 0 = l.getD j 0 := by
  simp only [List.getD_eq_getElem?_getD]
  rw [List.getElem?_append_left h]
theorem getD_append_last' (l : List Nat) (y : Nat) : (l ++ [y]).getD l.length 0 = y := by
  simp [List.getD_eq_getElem?_getD]
theorem append_own1 {P : Program} (w : World) {ops : Array Oper} {rest : List Oper} {o : Oper} {a : Act} {Q : Exit → Act → World → Prop} (hgd : o.guard = none) (s x : Operand) (t : TypeId)
    (ho : o.op = .call { callee := .builtin .append, args := #[s, x], argTypes := #[t, t] }) (e : TypeId) (i : TypeInfo) (ht : P.underlying t = some (.slice e)) (hi : P.info? e = some i) (hz : i.zero = some (.int .i64 0)) (hsize : i.size = 1) (hby : i.bytes = 8)
    (B : Nat) (v : Value) (ao : Option Addr) (cap : Nat) (l : List Nat) (hs : a.eval s = v) (h : Own1 w B v ao cap l) (ad : Addr) (c y : Nat) (hx : a.eval x = .slice (some ad) 1 c) (hy : w.cell? ad = some (.int .i64 y)) (hsp : ad.spot = Option.none)
    (hl : l.length ≤ 1000000) (hB : B ≤ w.heap.size)
    (hK : ∀ v' w' ao' cap', Own1 w' B v' ao' cap' (l ++ [y]) → Below B w w' → wpList P ops Q rest (a.put o.dst v') w') : wpList P ops Q (o :: rest) a w := by
  have hnews : ∀ j u, ([.int .i64 y] : List Value)[j]? = some u → w.cell? (ad.add j) = some u := by
    intro j u hj
    match j, hj with
    | 0, hj =>
      simp at hj
      subst hj
      have : ad.add 0 = ad := by
        obtain ⟨b, f, sp⟩ := ad
        simp only at hsp
        subst hsp
        simp [Addr.add]
      rw [this]
      exact hy
  have hone : ∀ u ∈ ([.int .i64 y] : List Value), u.oneCell' = true := by
    intro u hu
    simp at hu
    subst hu
    rfl
  have hm : l.length + 1 ≤ maxLen := by unfold maxLen; omega
  obtain ⟨h1, h2, h3, h4, h5⟩ := h
  subst h1
  have holds : ∀ b, ao = some b → ∀ j u, (l.map fun k : Nat => Value.int .i64 (k : Int))[j]? = some u → w.cell? (b.add j) = some u := by
    intro b hb j u hj
    rw [List.getElem?_map] at hj
    have hjl : j < l.length := by
      rcases Nat.lt_or_ge j l.length with q | q
      · exact q
      · rw [List.getElem?_eq_none q] at hj; simp at hj
    obtain ⟨g, off, a1, a2, a3, a4, a5, a6⟩ := h5 (by omega)
    rw [hb] at a1
    obtain rfl := Option.some.inj a1
    rw [Addr.add_lit, a5 j hjl]
    rw [List.getElem?_eq_getElem hjl] at hj
    simp only [Option.map_some, Option.some.injEq] at hj
    rw [List.getD_eq_getElem?_getD, List.getElem?_eq_getElem hjl, ← hj]
    rfl
  by_cases hr : l.length + 1 ≤ cap
  · obtain ⟨g, off, rfl, a2, a3, a4, a5, a6⟩ := h5 (by omega)
    refine wpList_append_arg w hgd s x t ho e i (.int .i64 0) 1 8 ht hi hz hsize hby rfl (by decide) g off l.length cap (l.map fun k : Nat => Value.int .i64 (k : Int)) hs (by simp) (fun j u hj => by have := holds _ rfl j u hj; rw [Addr.add_lit] at this; exact this) ad 1 c [.int .i64 y] hx rfl hnews hone (fun _ j hj => ?_) hm (by omega) (fun _ => ?_) (fun q => absurd q (by omega))
    · simp only [List.length_cons, List.length_nil] at hj
      obtain rfl : j = 0 := by omega
      exact ⟨by rw [Nat.mul_one, Nat.add_zero]; exact a4 _ (by omega), a6 _⟩
    · have hw : w.setCells g (off + l.length * 1) [.int .i64 y] = w.setCell ⟨g, off + l.length, Option.none⟩ (.int .i64 y) := by
        rw [Nat.mul_one]; rfl
      rw [hw]
      have hT : Turned (fun k => k = g) w (w.setCell ⟨g, off + l.length, Option.none⟩ (.int .i64 y)) := (Turned.refl (fun k => k = g) w).set (b := g) rfl _ _
      refine hK _ _ (some ⟨g, off, Option.none⟩) cap ⟨by simp, by simp; omega, h3, fun q => by simp at q, fun _ => ⟨g, off, rfl, a2, Nat.lt_of_lt_of_le a3 hT.size, fun j hj => ?_, fun j hj => ?_, fun o => ?_⟩⟩ (hT.below hB (by rintro k rfl; exact a2))
      · by_cases q : j = l.length
        · subst q
          obtain ⟨u, hu⟩ := Option.isSome_iff_exists.1 (a4 l.length (by omega))
          rw [World.cell?_setCell_same _ _ _ hu]
          rfl
        · rw [World.cell?_setCell_other _ _ _ _ (by intro e; have := congrArg Addr.off e; simp at this; omega)]
          exact a4 j hj
      · simp only [List.length_append, List.length_cons, List.length_nil] at hj
        by_cases q : j = l.length
        · subst q
          obtain ⟨u, hu⟩ := Option.isSome_iff_exists.1 (a4 l.length (by omega))
          rw [World.cell?_setCell_same _ _ _ hu, getD_append_last']
        · rw [World.cell?_setCell_other _ _ _ _ (by intro e; have := congrArg Addr.off e; simp at this; omega), getD_append_left' _ _ _ (by omega)]
          exact a5 j (by omega)
      · rw [World.frozen?_setCell]; exact a6 o
  · refine wpList_append_grows w hgd s x t ho e i (.int .i64 0) 1 8 ht hi hz hsize hby rfl (by decide) ao l.length cap (l.map fun k : Nat => Value.int .i64 (k : Int)) hs (fun q => ⟨by have := h4 q; omega, h4 q⟩) (by simp) holds ad 1 c [.int .i64 y] hx rfl hnews hone (by omega) hm (by omega) (fun v' w' hown hgrow => ?_)
    have e1 : (l.map fun k : Nat => Value.int .i64 (k : Int)) ++ [Value.int .i64 (y : Int)] = (l ++ [y]).map fun k : Nat => Value.int .i64 (k : Int) := by simp
    rw [e1] at hown
    have e2 : l.length + 1 = (l ++ [y]).length := by simp
    rw [e2] at hown
    obtain ⟨ao', cap', ho'⟩ := own1_of (by simp) hown
    have hb : Below B w w' := (Below.refl B w).grown hgrow hB (fun _ q => by cases q)
    obtain ⟨k1, k2, k3, k4, k5⟩ := ho'
    refine hK v' w' ao' cap' ⟨k1, k2, k3, k4, fun hc => ?_⟩ hb
    obtain ⟨g, off, b1, b2, b3⟩ := k5 hc
    exact ⟨g, off, b1, Nat.le_trans hB b2, b3⟩
end Go.Proofs.Ytpolfpebhbkabaa
