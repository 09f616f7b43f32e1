/-
  LSQ: a number more of where bytes are of.
-/
import Derived.Test.YthbffonedpeeiaaDoorMo
import Derived.Maps.AppendAt
namespace Go.Proofs.YthbffonedpeeiaaDoor
open Go Go.RowKit
def intsV (l : List Int) : List Value := l.map (.int .i64)
theorem app_int (B : Nat) (x : World) (v : Value) (l : List Int) (ad : Addr) (c : Nat) (u : Int) (h : x.ownsRow B 3 1 v l.length (l.map (.int .i64))) (hu : x.cell? (ad.add 0) = some (.int .i64 u)) (hl : l.length ≤ 1000) (hB : B ≤ x.heap.size) : ∃ q cap y, (Builtin.append_ #[63, 63] 63 #[v, .slice (some ad) 1 c]).run Tryd.prog x = .ok (.slice q (l.length + 1) cap) y ∧ y.ownsRow B 3 1 (.slice q (l.length + 1) cap) (l.length + 1) ((l ++ [u]).map (.int .i64)) ∧ Turned (fun j => v.ownBlock = some j) x y ∧ ((Value.slice q (l.length + 1) cap).ownBlock = v.ownBlock ∨ (Value.slice q (l.length + 1) cap).ownBlock = some x.heap.size) := by
  obtain ⟨i0, hi0, hz0, hz1, hz2⟩ := info_parts (show (Tryd.prog.info? 3).map (fun i => (i.zero, i.size, i.bytes)) = some (some (.int .i64 0), 1, 8) by kernel_rfl)
  obtain ⟨v', w1, hrun, r1, r2, r3, r4⟩ := run_append_own_at (P := Tryd.prog) (w := x) B 63 63 3 i0 (.int .i64 0) 1 8 Tryd.underlying63 hi0 hz0 hz1 hz2 rfl (by decide) v l.length _ h ad 1 c [.int .i64 u] rfl (fun j y hj => by
    match j, hj with
    | 0, hj => rw [← Option.some.inj hj]; exact hu) (by simp [Value.oneCell']) (by unfold maxLen; omega) (by omega) hB
  obtain ⟨q, cap, hv⟩ := own_slice r1
  subst hv
  refine ⟨q, cap, w1, hrun, ?_, turned_grown r2, r4⟩
  rw [List.map_append]
  exact r1
theorem own_fbc {x : World} {B : Nat} {e : TypeId} {q : Option Addr} {n cap : Nat} {xs : List Value} (h : x.ownsRow B e 1 (.slice q n cap) n xs) : q = ((Value.slice q n cap).ownBlock).map fun b => (⟨b, 0, none⟩ : Addr) := by
  rcases h.2 with ⟨hv, hn⟩ | ⟨g, cap', cur, hv, -⟩
  · cases hv; rfl
  · cases hv; rfl
/-- one number more -/
def Ac.more (e : Ac) (u : Int) (fb : Option Nat) (fc : Nat) : Ac := { e with fr := e.fr ++ [u], fb := fb, fc := fc }
theorem Qm.grow {w X Y : World} {B p g cap cap' : Nat} {v : Value} {S : QS} {q' : Option Addr} (k : Qm w B p v S) (hv : v = .slice (some ⟨g, 0, none⟩) S.on.length cap) (i : Nat) (hi : i < S.on.length) (u : Int) (bX : Below w.heap.size w X)
    (own : Y.ownsRow B 3 1 (.slice q' ((S.at i).fr.length + 1) cap') ((S.at i).fr.length + 1) (((S.at i).fr ++ [u]).map (.int .i64))) (t : Turned (fun j => (S.at i).v.ownBlock = some j) X Y) (hob : (Value.slice q' ((S.at i).fr.length + 1) cap').ownBlock = (S.at i).v.ownBlock ∨ (Value.slice q' ((S.at i).fr.length + 1) cap').ownBlock = some X.heap.size) (hz : (S.at i).fr.length < (S.at i).z) :
    Step w (Y.setCell ⟨g, i * 8 + 7, none⟩ (.slice q' ((S.at i).fr.length + 1) cap')) B p v S v (S.set i ((S.at i).more u (Value.slice q' ((S.at i).fr.length + 1) cap').ownBlock cap')) := by
  have kX := k.below bX
  rw [Ac.vb] at t hob
  obtain ⟨nv, hnv⟩ : ∃ nv, Value.slice q' ((S.at i).fr.length + 1) cap' = nv := ⟨_, rfl⟩
  have hyv : ((S.at i).more u nv.ownBlock cap').v = nv := by
    unfold Ac.more Ac.v
    show Value.slice (nv.ownBlock.map _) ((S.at i).fr ++ [u]).length cap' = nv
    have := own_fbc own
    rw [hnv] at this
    rw [← this, ← hnv]
    simp
  rw [hnv] at own hob ⊢
  have hgb : v.ownBlock = some g := by rw [hv]; rfl
  have hlow := kX.low
  have hgX : g < X.heap.size := (hlow g (Or.inr (Or.inl hgb))).2
  have hpX : p < X.heap.size := (hlow p (Or.inl rfl)).2
  have hfbX : ∀ j, j < S.on.length → ∀ b, (S.at j).fb = some b → b < X.heap.size := fun j hj b hb => (hlow b (Or.inr (Or.inr ⟨j, hj, hb⟩))).2
  have hng : ¬ (S.at i).fb = some g := fun e => kX.fv i hi g e hgb
  have hnvg : nv.ownBlock ≠ some g := fun e => by
    rcases hob with q | q
    · exact hng (by rw [← q]; exact e)
    · rw [q] at e
      have := Option.some.inj e
      omega
  have hnvp : nv.ownBlock ≠ some p := fun e => by
    rcases hob with q | q
    · exact kX.fp i hi (by rw [← q]; exact e)
    · rw [q] at e
      have := Option.some.inj e
      omega
  have hpg : p ≠ g := fun e => kX.vp (by rw [hgb, e])
  have t1 : Turned (fun j => j = g) Y (Y.setCell ⟨g, i * 8 + 7, none⟩ nv) := (Turned.refl (fun j => j = g) Y).set (b := g) rfl _ _
  have l1 := own_turned kX.l t (fun j hj e => by rw [hgb] at hj; cases hj; exact hng e)
  rw [hv] at l1
  have l2 := own_cell l1 i 7 nv ((S.at i).more u nv.ownBlock cap') hi (by decide) (by
    show [_, _, _, _, _, _, _, _] = List.set [_, _, _, _, _, _, _, _] 7 nv
    simp only [List.set_cons_succ, List.set_cons_zero]
    rw [hyv]
    rfl)
  rw [← hv] at l2
  have hl : (S.set i ((S.at i).more u nv.ownBlock cap')).on.length = S.on.length := S.set_len i _
  have hnew : ∀ j, j < S.on.length → j ≠ i → ∀ b, (S.at j).fb = some b → nv.ownBlock ≠ some b := fun j hj hne b hb e => by
    rcases hob with q | q
    · exact hne (kX.ff j i hj hi b hb (by rw [← q]; exact e))
    · rw [q] at e
      have := Option.some.inj e
      have := hfbX j hj b hb
      omega
  have f := k.fit i hi
  refine ⟨⟨t1.cells (t.cells kX.c (kX.fp i hi)) hpg, by rw [hl]; exact l2, fun j hj => ?_, k.vp, fun j hj => ?_, fun j hj b hb => ?_, fun j j' hj hj' b hb hb' => ?_, k.lo, by rw [hl]; exact k.small, fun j hj => ?_⟩, ?_, ?_⟩
  · by_cases e : j = i
    · subst e
      rw [S.at_set j _ hi, hyv]
      have := own_turned own t1 (fun b hb e => hnvg (by rw [hb, e]))
      show World.ownsRow _ B 3 1 nv ((S.at j).fr ++ [u]).length _
      rw [List.length_append]
      exact this
    · rw [S.at_set' i j _ e]
      refine own_turned (own_turned (kX.f j (by omega)) t (fun b hb e2 => ?_)) t1 (fun b hb e2 => ?_)
      · rw [Ac.vb] at hb
        exact e (kX.ff j i (by omega) hi b hb e2)
      · rw [Ac.vb] at hb
        exact kX.fv j (by omega) b hb (by rw [hgb, e2])
  · by_cases e : j = i
    · subst e
      rw [S.at_set j _ hi]
      exact hnvp
    · rw [S.at_set' i j _ e]
      exact k.fp j (by omega)
  · by_cases e : j = i
    · subst e
      rw [S.at_set j _ hi] at hb
      intro e2
      rw [hgb] at e2
      cases e2
      exact hnvg hb
    · rw [S.at_set' i j _ e] at hb
      exact k.fv j (by omega) b hb
  · by_cases e : j = i
    · subst e
      by_cases e' : j' = j
      · exact e'.symm
      · rw [S.at_set j _ hi] at hb
        rw [S.at_set' j j' _ e'] at hb'
        exact absurd hb (hnew j' (by omega) e' b hb')
    · rw [S.at_set' i j _ e] at hb
      by_cases e' : j' = i
      · subst e'
        rw [S.at_set j' _ hi] at hb'
        exact absurd hb' (hnew j (by omega) e b hb)
      · rw [S.at_set' i j' _ e'] at hb'
        exact k.ff j j' (by omega) (by omega) b hb hb'
  · by_cases e : j = i
    · subst e
      rw [S.at_set j _ hi]
      have hz4 := f.z
      have haz := f.az
      have hlen : ((S.at j).fr ++ [u]).length = (S.at j).fr.length + 1 := by simp
      refine ⟨f.n0, f.n1, f.a, f.d, f.z, f.az, ?_, ?_, ?_⟩
      · show ((S.at j).fr ++ [u]).length ≤ 4
        omega
      · show (S.at j).a + ((S.at j).fr ++ [u]).length ≤ 4294967296
        omega
      · show ((S.at j).fr ++ [u]).length ≤ (S.at j).z
        omega
    · rw [S.at_set' i j _ e]
      exact k.fit j (by omega)
  · exact ((Turned.of_below bX).trans (t.mono (fun j e => Or.inr (Or.inr ⟨i, hi, e⟩)))).trans (t1.mono (fun j e => Or.inr (Or.inl (by rw [hgb, e]))))
  · rintro j (rfl | h | ⟨j', hj', h⟩)
    · exact Or.inl (Or.inl rfl)
    · exact Or.inl (Or.inr (Or.inl h))
    · by_cases e : j' = i
      · subst e
        rw [S.at_set j' _ hi] at h
        rcases hob with q | q
        · exact Or.inl (Or.inr (Or.inr ⟨j', hi, by rw [← q]; exact h⟩))
        · rw [show ((S.at j').more u nv.ownBlock cap').fb = nv.ownBlock from rfl, q] at h
          have := Option.some.inj h
          have := bX.size
          exact Or.inr (by omega)
      · rw [S.at_set' i j' _ e] at h
        exact Or.inl (Or.inr (Or.inr ⟨j', by omega, h⟩))
end Go.Proofs.YthbffonedpeeiaaDoor
