/-
  THE ANSWER's CACHE: a line is laid behind the others.
-/
import Derived.Test.YtljmmepjknfmcaaDoorBc
import Derived.Test.YtljmmepjknfmcaaDoorCl
namespace Go.Proofs.YtljmmepjknfmcaaDoor
open Go Go.RowKit
theorem rpush (B p n ways xb m cap : Nat) (R : List Ln) (e : Ln) (qa : Option Addr) (Y : World) (cs : List Value) (k : RC Y B p (.slice qa m cap) n ways R) (hm : R.length = m) (hx : Y.rangeAt xb 0 cs) (lxb : xb < Y.heap.size) (n1 : xb ≠ p) (n2 : (Value.slice qa m cap).ownBlock ≠ some xb) (hroom : m < 64) :
    ∃ g' cap' w1, (Builtin.append_ #[65, 65] 65 #[.slice qa m cap, .slice (some ⟨Y.heap.size, 0, none⟩) 1 1]).run Tryd.prog (Y.drew.alloc (.cells e.rv.toArray 52)) = .ok (.slice (some ⟨g', 0, none⟩) (m + 1) cap') w1 ∧
      (Y.drew.alloc (.cells e.rv.toArray 52)).cell? ⟨p, 2, none⟩ = some (.slice qa m cap) ∧ w1.cell? ⟨p, 2, none⟩ = some (.slice qa m cap) ∧ w1.frozen? ⟨p, 2, none⟩ = false ∧ p < w1.heap.size ∧
      (Y.drew.alloc (.cells e.rv.toArray 52)).rangeAt xb 0 cs ∧ w1.rangeAt xb 0 cs ∧ (w1.setCell ⟨p, 2, none⟩ (.slice (some ⟨g', 0, none⟩) (m + 1) cap')).rangeAt xb 0 cs ∧
      RC (w1.setCell ⟨p, 2, none⟩ (.slice (some ⟨g', 0, none⟩) (m + 1) cap')) B p (.slice (some ⟨g', 0, none⟩) (m + 1) cap') n ways (R ++ [e]) ∧
      Turned (fun q => q = p ∨ (Value.slice qa m cap).ownBlock = some q) Y (w1.setCell ⟨p, 2, none⟩ (.slice (some ⟨g', 0, none⟩) (m + 1) cap')) ∧
      ((Value.slice qa m cap).ownBlock = some g' ∨ Y.heap.size ≤ g') := by
  obtain ⟨A, hA⟩ : ∃ A, Y.drew.alloc (.cells e.rv.toArray 52) = A := ⟨_, rfl⟩
  have tA : Turned (fun _ => False) Y A := by rw [← hA]; exact ((Turned.refl _ Y).drew).alloc _
  have sA : A.heap.size = Y.heap.size + 1 := by rw [← hA]; simp
  have lA := own_turned k.l tA (fun _ _ q => q)
  have hp := k.c.here
  have hlo := k.lo
  have hsm := k.small
  obtain ⟨-, -, -, c2, cf⟩ := k.cells
  rw [hA]
  obtain ⟨q, cap', w1, hrun, r1, t1, b1⟩ := rapp B A (.slice qa m cap) R [e] ⟨Y.heap.size, 0, none⟩ 1 lA (fun j u hj => by
    rw [flatR_one] at hj
    rw [Addr.add_mid, Nat.zero_add, ← hA]
    have e2 := World.cell?_alloc_new Y.drew e.rv.toArray 52 j
    refine e2.trans ?_
    rw [← hj]
    simp) (by simp; omega) (by omega)
  simp only [List.length_singleton, hm] at hrun r1 b1
  obtain ⟨g', cap2, hv⟩ := own_succ r1
  cases hv
  have T1 : Turned (fun x => (Value.slice qa m cap).ownBlock = some x) Y w1 := (tA.mono (fun _ q => q.elim)).trans t1
  have np : ¬ (Value.slice qa m cap).ownBlock = some p := k.vp
  have own_lt : ∀ x, (Value.slice qa m cap).ownBlock = some x → x < Y.heap.size := fun x hx => (own_base k.l x hx).2
  have hg' : (Value.slice qa m cap).ownBlock = some g' ∨ Y.heap.size ≤ g' := by
    rcases b1 with q | q
    · left
      rw [← q]
      rfl
    · right
      have : g' = A.heap.size := Option.some.inj q
      omega
  obtain ⟨Z, hZ⟩ : ∃ Z, w1.setCell ⟨p, 2, none⟩ (.slice (some ⟨g', 0, none⟩) (m + 1) cap') = Z := ⟨_, rfl⟩
  have TZ : Turned (fun q => q = p ∨ (Value.slice qa m cap).ownBlock = some q) Y Z := by
    rw [← hZ]
    exact (T1.mono (R := fun q => q = p ∨ (Value.slice qa m cap).ownBlock = some q) (fun _ q => Or.inr q)).set (b := p) (Or.inl rfl) _ _
  have hgp : g' ≠ p := by
    rcases hg' with q | q
    · exact fun e => np (by rw [← e]; exact q)
    · omega
  refine ⟨g', cap', w1, hrun, tA.to_cell hp (fun q => q) c2, T1.to_cell hp np c2, (World.frozen?_of_block (T1.block p hp np)).trans (cf 2), Nat.lt_of_lt_of_le hp T1.size, range_turned hx tA lxb (fun q => q), range_turned hx T1 lxb n2, ?_⟩
  rw [hZ]
  refine ⟨range_turned hx TZ lxb (fun q => q.elim n1 n2), ⟨?_, ?_, ?_, by simp [hm]; omega, hlo⟩, TZ, hg'⟩
  · rw [← hZ]
    refine ((T1.cells k.c np).set 2 (by omega) _).ext fun o ho => ?_
    match o, ho with
    | 0, _ => rfl
    | 1, _ => rfl
    | 2, _ => rfl
  · rw [← hZ]
    simp only [List.length_append, List.length_singleton, hm]
    exact own_turned r1 ((Turned.refl (fun x => x = p) w1).set (b := p) rfl _ _) (fun x q e => by simp [Value.ownBlock] at q; omega)
  · intro q
    simp [Value.ownBlock] at q
    exact hgp q
/-- a cell of a range is written -/
theorem range_set {w : World} {b o : Nat} {cs : List Value} (h : w.rangeAt b o cs) (j : Nat) (u : Value) : (w.setCell ⟨b, o + j, none⟩ u).rangeAt b o (cs.set j u) := by
  intro i v hv
  have hi : i < (cs.set j u).length := (List.getElem?_eq_some_iff.1 hv).1
  rw [List.length_set] at hi
  by_cases e : j = i
  · subst e
    rw [List.getElem?_set_self hi] at hv
    rw [← hv]
    exact World.cell?_setCell_same _ _ _ (h j _ (List.getElem?_eq_getElem hi))
  · rw [List.getElem?_set_ne e] at hv
    rw [World.cell?_setCell_other _ _ _ _ (by intro q; exact e (by have := congrArg Addr.off q; simp at this; omega))]
    exact h i v hv
theorem rv_setB (e : Ln) (q v : Nat) (h : q < 16) : e.rv.set (2 + q) (.int .u8 v) = (e.setB q v).rv := by
  have := vs_setB e q v h
  have h1 : ∀ x : Ln, x.rv = .int .i64 x.a :: x.vs.tail := fun _ => rfl
  rw [h1, h1, ← this, show 2 + q = (1 + q) + 1 by omega, List.set_cons_succ]
  show _ :: (e.vs.tail.set (1 + q) _) = _ :: (e.vs.set (1 + q + 1) _).tail
  cases hv : e.vs with
  | nil => have := e.len; rw [hv] at this; simp at this
  | cons a t => rfl
theorem rv_setS (e : Ln) (s : Nat) : e.rv.set 1 (.int .i64 s) = (e.setS s).rv := rfl
theorem RC.open {w : World} {B p : Nat} {v : Value} {n ways : Nat} {R : List Ln} (k : RC w B p v n ways R) : ∃ qa m cap, v = .slice qa m cap ∧ R.length = m ∧ m ≤ 64 ∧ m ≤ cap ∧ cap ≤ 9223372036854775807 := by
  obtain ⟨q, cap, hv, hcap, -⟩ := own_rlines k.l
  have h := hcap.2
  unfold maxLen at h
  exact ⟨q, _, cap, hv, rfl, k.small.1, hcap.1, by omega⟩
end Go.Proofs.YtljmmepjknfmcaaDoor
