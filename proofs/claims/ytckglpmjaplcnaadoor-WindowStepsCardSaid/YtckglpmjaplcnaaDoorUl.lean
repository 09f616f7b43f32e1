/-
  WINDOW's LAW WindowSteps: all of its memory.
-/
import Derived.Test.YtckglpmjaplcnaaDoorUk
namespace Go.Proofs.YtckglpmjaplcnaaDoor
open Go Go.RowKit
def Tri (p h : Nat) (v : Value) (k : Nat) : Prop := k = p ∨ k = h ∨ v.ownBlock = some k
/-- a pair of lists that read alike -/
def Pair (x : World) (e : Value × Value) : Prop := ∃ n F, Row x e.1 n F ∧ Row x e.2 n F
structure Wl (w x : World) (cc p h q r : Nat) (v rv hv : Value) (S T : WS) (E : List (Value × Value)) : Prop where
  win : Win x w.heap.size p h cc v S
  ans : RWin x w.heap.size q r cc rv T
  hs : x.ownsRow w.heap.size 52 2 hv E.length (flatP E)
  gr : Below w.heap.size w x
  ab : ∀ k, Tri p h v k → ¬ Tri q r rv k
  ah : ∀ k, Tri p h v k → hv.ownBlock ≠ some k
  bh : ∀ k, Tri q r rv k → hv.ownBlock ≠ some k
  el : ∀ e ∈ E, Pair x e ∧ ∀ u, u = e.1 ∨ u = e.2 → ∀ k, u.ownBlock = some k → k < x.heap.size ∧ ¬ Tri p h v k ∧ ¬ Tri q r rv k ∧ hv.ownBlock ≠ some k
variable {w x y : World} {cc p h q r : Nat} {v v' rv rv' hv : Value} {S S' T T' : WS} {E : List (Value × Value)}
theorem Wl.triP (k : Wl w x cc p h q r v rv hv S T E) : ∀ j, Tri p h v j → w.heap.size ≤ j ∧ j < x.heap.size := by
  intro j hj
  rcases hj with e | e | e
  · have := k.win.lo; have := k.win.c.here; omega
  · have := k.win.lo; have := k.win.a.here; omega
  · exact own_base k.win.l j e
theorem Wl.triR (k : Wl w x cc p h q r v rv hv S T E) : ∀ j, Tri q r rv j → w.heap.size ≤ j ∧ j < x.heap.size := by
  intro j hj
  rcases hj with e | e | e
  · have := k.ans.lo; have := k.ans.c.here; omega
  · have := k.ans.lo; have := k.ans.a.here; omega
  · exact own_base k.ans.l j e
theorem Pair.turned {Q : Nat → Prop} {e : Value × Value} (h : Pair x e) (t : Turned Q x y) (h1 : ∀ u, u = e.1 ∨ u = e.2 → ∀ k, u.ownBlock = some k → ¬ Q k) : Pair y e := by
  obtain ⟨n, F, a, b⟩ := h
  exact ⟨n, F, a.turned t (h1 _ (Or.inl rfl)), b.turned t (h1 _ (Or.inr rfl))⟩
theorem Wl.onP (k : Wl w x cc p h q r v rv hv S T E) (t : Turned (Tri p h v) x y) (kw : Win y w.heap.size p h cc v' S') (hb : v'.ownBlock = v.ownBlock ∨ ∀ j, v'.ownBlock = some j → x.heap.size ≤ j) : Wl w y cc p h q r v' rv hv S' T E := by
  have tri : ∀ j, Tri p h v' j → Tri p h v j ∨ x.heap.size ≤ j := by
    intro j hj
    rcases hj with e | e | e
    · exact Or.inl (Or.inl e)
    · exact Or.inl (Or.inr (Or.inl e))
    · rcases hb with b | b
      · exact Or.inl (Or.inr (Or.inr (by rw [← b]; exact e)))
      · exact Or.inr (b j e)
  have hh : ∀ j, hv.ownBlock = some j → j < x.heap.size := fun j hj => (own_base k.hs j hj).2
  refine ⟨kw, k.ans.turned t (fun q => k.ab _ q (Or.inl rfl)) (fun q => k.ab _ q (Or.inr (Or.inl rfl))) (fun j hj q => k.ab _ q (Or.inr (Or.inr hj))), own_turned k.hs t (fun j hj q => k.ah j q hj), k.gr.trans (t.below k.gr.size (fun j hj => (k.triP j hj).1)), fun j hj q => ?_, fun j hj q => ?_, k.bh, fun e he => ?_⟩
  · rcases tri j hj with a | a
    · exact k.ab j a q
    · have := (k.triR j q).2; omega
  · rcases tri j hj with a | a
    · exact k.ah j a q
    · have := hh j q; omega
  · obtain ⟨a1, a2⟩ := k.el e he
    refine ⟨a1.turned t (fun u hu j hj => (a2 u hu j hj).2.1), fun u hu j hj => ?_⟩
    obtain ⟨b1, b2, b3, b4⟩ := a2 u hu j hj
    refine ⟨Nat.lt_of_lt_of_le b1 t.size, fun q => ?_, b3, b4⟩
    rcases tri j q with a | a
    · exact b2 a
    · omega
theorem Wl.onR (k : Wl w x cc p h q r v rv hv S T E) (t : Turned (Tri q r rv) x y) (kw : RWin y w.heap.size q r cc rv' T') (hb : rv'.ownBlock = rv.ownBlock ∨ ∀ j, rv'.ownBlock = some j → x.heap.size ≤ j) : Wl w y cc p h q r v rv' hv S T' E := by
  have tri : ∀ j, Tri q r rv' j → Tri q r rv j ∨ x.heap.size ≤ j := by
    intro j hj
    rcases hj with e | e | e
    · exact Or.inl (Or.inl e)
    · exact Or.inl (Or.inr (Or.inl e))
    · rcases hb with b | b
      · exact Or.inl (Or.inr (Or.inr (by rw [← b]; exact e)))
      · exact Or.inr (b j e)
  have hh : ∀ j, hv.ownBlock = some j → j < x.heap.size := fun j hj => (own_base k.hs j hj).2
  refine ⟨k.win.turned t (fun q => k.ab _ (Or.inl rfl) q) (fun q => k.ab _ (Or.inr (Or.inl rfl)) q) (fun j hj q => k.ab _ (Or.inr (Or.inr hj)) q), kw, own_turned k.hs t (fun j hj q => k.bh j q hj), k.gr.trans (t.below k.gr.size (fun j hj => (k.triR j hj).1)), fun j hj q => ?_, k.ah, fun j hj q => ?_, fun e he => ?_⟩
  · rcases tri j q with a | a
    · exact k.ab j hj a
    · have := (k.triP j hj).2; omega
  · rcases tri j hj with a | a
    · exact k.bh j a q
    · have := hh j q; omega
  · obtain ⟨a1, a2⟩ := k.el e he
    refine ⟨a1.turned t (fun u hu j hj => (a2 u hu j hj).2.2.1), fun u hu j hj => ?_⟩
    obtain ⟨b1, b2, b3, b4⟩ := a2 u hu j hj
    refine ⟨Nat.lt_of_lt_of_le b1 t.size, b2, fun q => ?_, b4⟩
    rcases tri j q with a | a
    · exact b3 a
    · omega
theorem Wl.other {Q : Nat → Prop} (k : Wl w x cc p h q r v rv hv S T E) (t : Turned Q x y) (hq : ∀ j, Q j → x.heap.size ≤ j) : Wl w y cc p h q r v rv hv S T E := by
  have hw := k.gr.size
  refine ⟨k.win.turned t (fun a => by have := hq _ a; have := k.win.c.here; omega) (fun a => by have := hq _ a; have := k.win.a.here; omega) (fun j hj a => by have := hq _ a; have := (own_base k.win.l j hj).2; omega), k.ans.turned t (fun a => by have := hq _ a; have := k.ans.c.here; omega) (fun a => by have := hq _ a; have := k.ans.a.here; omega) (fun j hj a => by have := hq _ a; have := (own_base k.ans.l j hj).2; omega), own_turned k.hs t (fun j hj a => by have := hq _ a; have := (own_base k.hs j hj).2; omega), k.gr.trans (t.below hw (fun j hj => by have := hq j hj; omega)), k.ab, k.ah, k.bh, fun e he => ?_⟩
  obtain ⟨a1, a2⟩ := k.el e he
  refine ⟨a1.turned t (fun u hu j hj a => by have := hq _ a; have := (a2 u hu j hj).1; omega), fun u hu j hj => ?_⟩
  obtain ⟨b1, b2, b3, b4⟩ := a2 u hu j hj
  exact ⟨Nat.lt_of_lt_of_le b1 t.size, b2, b3, b4⟩
theorem Wl.below (k : Wl w x cc p h q r v rv hv S T E) (t : Below x.heap.size x y) : Wl w y cc p h q r v rv hv S T E :=
  k.other (Q := fun _ => False) (Turned.of_below t) (fun _ a => a.elim)
/-- a list that nobody has -/
def Free (B : Nat) (x : World) (p h q r : Nat) (v rv hv : Value) (E : List (Value × Value)) (lv : Value) : Prop := ∀ k, lv.ownBlock = some k → (B ≤ k ∧ k < x.heap.size) ∧ ¬ Tri p h v k ∧ ¬ Tri q r rv k ∧ hv.ownBlock ≠ some k ∧ ∀ e ∈ E, e.1.ownBlock ≠ some k ∧ e.2.ownBlock ≠ some k
theorem Wl.onH (k : Wl w x cc p h q r v rv hv S T E) {lv av gv bv : Value} {g cap n m : Nat} {F G : Nat → Int} (hf : Free w.heap.size x p h q r v rv hv E lv) (h5 : y.ownsRow w.heap.size 52 2 (.slice (some ⟨g, 0, none⟩) (E.length + 2) cap) (E.length + 2) (flatP (E ++ [(lv, av), (gv, bv)]))) (r1 : Row y lv n F) (r2 : Row y av n F) (r3 : Row y gv m G) (r4 : Row y bv m G) (t : Turned (fun k => lv.ownBlock = some k ∨ hv.ownBlock = some k) x y) (b5 : hv.ownBlock = some g ∨ x.heap.size ≤ g) (b6 : lv.ownBlock ≠ some g) (b7 : ∀ u, u = av ∨ u = gv ∨ u = bv → ∀ k, u.ownBlock = some k → (lv.ownBlock = some k ∨ x.heap.size ≤ k) ∧ k ≠ g ∧ k < y.heap.size) : Wl w y cc p h q r v rv (.slice (some ⟨g, 0, none⟩) (E.length + 2) cap) S T (E ++ [(lv, av), (gv, bv)]) := by
  have tp : ∀ j, Tri p h v j → ¬ (lv.ownBlock = some j ∨ hv.ownBlock = some j) := by
    intro j hj a
    rcases a with a | a
    · exact (hf j a).2.1 hj
    · exact k.ah j hj a
  have tr : ∀ j, Tri q r rv j → ¬ (lv.ownBlock = some j ∨ hv.ownBlock = some j) := by
    intro j hj a
    rcases a with a | a
    · exact (hf j a).2.2.1 hj
    · exact k.bh j hj a
  have hg : ∀ j, j < x.heap.size → hv.ownBlock ≠ some j → (Value.slice (some ⟨g, 0, none⟩) (E.length + 2) cap).ownBlock ≠ some j := by
    intro j hj hne a
    simp [Value.ownBlock] at a
    subst a
    rcases b5 with b | b
    · exact hne b
    · omega
  have e1 : (E ++ [(lv, av), (gv, bv)]).length = E.length + 2 := by simp
  refine ⟨k.win.turned t (tp p (Or.inl rfl)) (tp h (Or.inr (Or.inl rfl))) (fun j hj => tp j (Or.inr (Or.inr hj))), k.ans.turned t (tr q (Or.inl rfl)) (tr r (Or.inr (Or.inl rfl))) (fun j hj => tr j (Or.inr (Or.inr hj))), by rw [e1]; exact h5, k.gr.trans (t.below k.gr.size (fun j hj => ?_)), k.ab, fun j hj => hg j (k.triP j hj).2 (k.ah j hj), fun j hj => hg j (k.triR j hj).2 (k.bh j hj), fun e he => ?_⟩
  · rcases hj with a | a
    · exact (hf j a).1.1
    · exact (own_base k.hs j a).1
  · rw [List.mem_append] at he
    rcases he with he | he
    · obtain ⟨a1, a2⟩ := k.el e he
      have hno : ∀ u, u = e.1 ∨ u = e.2 → ∀ j, u.ownBlock = some j → ¬ (lv.ownBlock = some j ∨ hv.ownBlock = some j) := by
        intro u hu j hj q
        rcases q with q | q
        · have := (hf j q).2.2.2.2 e he
          rcases hu with rfl | rfl
          · exact this.1 hj
          · exact this.2 hj
        · exact (a2 u hu j hj).2.2.2 q
      refine ⟨a1.turned t hno, fun u hu j hj => ?_⟩
      obtain ⟨c1, c2, c3, c4⟩ := a2 u hu j hj
      exact ⟨Nat.lt_of_lt_of_le c1 t.size, c2, c3, hg j c1 c4⟩
    · have hlv : ∀ j, lv.ownBlock = some j → j < y.heap.size ∧ ¬ Tri p h v j ∧ ¬ Tri q r rv j ∧ (Value.slice (some ⟨g, 0, none⟩) (E.length + 2) cap).ownBlock ≠ some j := by
        intro j hj
        obtain ⟨c1, c2, c3, c4, -⟩ := hf j hj
        exact ⟨Nat.lt_of_lt_of_le c1.2 t.size, c2, c3, hg j c1.2 c4⟩
      have hnew : ∀ u, u = av ∨ u = gv ∨ u = bv → ∀ j, u.ownBlock = some j → j < y.heap.size ∧ ¬ Tri p h v j ∧ ¬ Tri q r rv j ∧ (Value.slice (some ⟨g, 0, none⟩) (E.length + 2) cap).ownBlock ≠ some j := by
        intro u hu j hj
        obtain ⟨c1, c2, c3⟩ := b7 u hu j hj
        rcases c1 with c1 | c1
        · exact hlv j c1
        · refine ⟨c3, fun q => ?_, fun q => ?_, fun q => ?_⟩
          · have := (k.triP j q).2; omega
          · have := (k.triR j q).2; omega
          · simp [Value.ownBlock] at q; omega
      simp only [List.mem_cons, List.not_mem_nil, or_false] at he
      rcases he with rfl | rfl
      · refine ⟨⟨n, F, r1, r2⟩, fun u hu j hj => ?_⟩
        rcases hu with rfl | rfl
        · exact hlv j hj
        · exact hnew _ (Or.inl rfl) j hj
      · refine ⟨⟨m, G, r3, r4⟩, fun u hu j hj => ?_⟩
        rcases hu with rfl | rfl
        · exact hnew _ (Or.inr (Or.inl rfl)) j hj
        · exact hnew _ (Or.inr (Or.inr rfl)) j hj
end Go.Proofs.YtckglpmjaplcnaaDoor
