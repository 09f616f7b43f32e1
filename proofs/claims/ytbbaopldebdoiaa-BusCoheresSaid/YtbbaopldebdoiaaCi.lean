/-
  CACHE: Fill: what it does to memory; takeOut by the cache.
-/
import Derived.Test.YtbbaopldebdoiaaCg
import Derived.Deep.RegionHeldLaw
import Derived.Maps.AppendAt
namespace Go.Proofs.Ytbbaopldebdoiaa
open Go Go.RowKit
theorem info_parts {P : Program} {t : TypeId} {z : Option Value} {s b : Nat} (h : (P.info? t).map (fun i => (i.zero, i.size, i.bytes)) = some (z, s, b)) : ∃ i, P.info? t = some i ∧ i.zero = z ∧ i.size = s ∧ i.bytes = b := by
  cases q : P.info? t with
  | none => rw [q] at h; simp at h
  | some i =>
    rw [q] at h
    simp at h
    exact ⟨i, rfl, h.1, h.2.1, h.2.2⟩
theorem own_succ {w : World} {base : Nat} {e : TypeId} {size n : Nat} {v : Value} {xs : List Value} (h : w.ownsRow base e size v (n + 1) xs) : ∃ g cap, v = .slice (some ⟨g, 0, none⟩) (n + 1) cap := by
  rcases h.2 with ⟨-, h2⟩ | ⟨g, cap, cur, h1, -⟩
  · omega
  · exact ⟨g, cap, h1⟩
theorem range_turned {Q : Nat → Prop} {x y : World} {b o : Nat} {cs : List Value} (h : x.rangeAt b o cs) (t : Turned Q x y) (hb : b < x.heap.size) (hq : ¬ Q b) : y.rangeAt b o cs := fun j v hv => (World.cell?_of_block (t.block b hb hq)).trans (h j v hv)
theorem there_turned {Q : Nat → Prop} {x y : World} {b o n : Nat} (h : x.there b o n) (t : Turned Q x y) (hb : b < x.heap.size) (hq : ¬ Q b) : y.there b o n := fun j hj => ⟨by rw [World.cell?_of_block (t.block b hb hq)]; exact (h j hj).1, by rw [World.frozen?_of_block (t.block b hb hq)]; exact (h j hj).2⟩
theorem takeOut_ch (B p h c : Nat) (V : Nat → Value) (S : CS) (i k : Nat) (w : World) (K : Ch w B p h c V S) (hi : i < S.n) (hk : k < (S.set i).length) : Calls Try.prog 42 #[.pointer (some ⟨h, i, none⟩), .int .i64 k] w fun e w' => e = .returned (.agg ((S.set i).getD k l0).vs.toArray) ∧ ∃ v', Ch w' B p h c (upd V i v') (S.put i (rest (S.set i) k)) ∧ v'.ownBlock = (V i).ownBlock ∧ Turned (fun q => (V i).ownBlock = some q ∨ q = h) w w' := by
  obtain ⟨q, cap, hv, hcap, hel⟩ := own_lines (K.l i hi)
  obtain ⟨g, rfl, -⟩ := hel k hk
  have hb : (V i).ownBlock = some g := by rw [hv]; rfl
  have hne : h ≠ g := fun e => K.vh i hi (by rw [hb, e])
  have hl := K.l i hi
  rw [hv] at hl
  refine (takeOut_mem B g h i k cap (S.set i) w hl (by rw [← hv]; exact K.v.cell i hi) (K.v.free i) hne hk (K.four i hi)).mono ?_
  rintro e w' ⟨rfl, h1, ⟨_, -, h2⟩, h3⟩
  refine ⟨rfl, .slice (some ⟨g, 0, none⟩) ((S.set i).length - 1) cap, ?_, by rw [hb]; rfl, h2.mono (fun q e => e.elim (fun e => Or.inl (by rw [hb, e])) Or.inr)⟩
  have hrl := rest_len _ _ hk
  refine K.rowTo2 i hi _ _ (h2.mono (fun q e => e.elim (fun e => Or.inl (by rw [hb, e])) Or.inr)) (h3 _ _ K.v hi) ?_ ?_ (fun q e => Or.inl (by rw [hb]; exact e))
  · rw [hrl]
    exact h1
  · have := K.few i hi
    omega
theorem fill_mem (B p h c : Nat) (V : Nat → Value) (S : CS) (r bx rv lv m cap : Nat) (b : Nat → Nat) (e left : Ln) (qa : Option Addr) (Y : World) (k : Ch Y B p h c V S) (hr : r < S.n) (hv : V r = .slice qa m cap) (hm : (S.set r).length = m) (hroom : m < S.ways)
    (hbx : Y.rangeAt bx 0 (bvs b)) (hlv : Y.rangeAt lv 0 left.vs) (hrv : Y.there rv 0 18) (lbx : bx < Y.heap.size) (llv : lv < Y.heap.size) (lrv : rv < Y.heap.size) (nlr : lv ≠ rv)
    (nbx : ¬ mine p h S.n V bx) (nlv : ¬ mine p h S.n V lv) (nrv : ¬ mine p h S.n V rv) :
    ∃ g' cap' w1, (Builtin.append_ #[81, 81] 81 #[.slice qa m cap, .slice (some ⟨Y.heap.size, 0, none⟩) 1 1]).run Try.prog (Y.drew.alloc (.cells e.vs.toArray 86)) = .ok (.slice (some ⟨g', 0, none⟩) (m + 1) cap') w1 ∧
      (Y.drew.alloc (.cells e.vs.toArray 86)).cell? ⟨h, r, none⟩ = some (.slice qa m cap) ∧ w1.cell? ⟨h, r, none⟩ = some (.slice qa m cap) ∧ w1.frozen? ⟨h, r, none⟩ = false ∧ h < w1.heap.size ∧
      (Y.drew.alloc (.cells e.vs.toArray 86)).rangeAt bx 0 (bvs b) ∧ w1.rangeAt bx 0 (bvs b) ∧ (w1.setCell ⟨h, r, none⟩ (.slice (some ⟨g', 0, none⟩) (m + 1) cap')).rangeAt bx 0 (bvs b) ∧
      (w1.setCell ⟨h, r, none⟩ (.slice (some ⟨g', 0, none⟩) (m + 1) cap')).rangeAt lv 0 left.vs ∧ (w1.setCell ⟨h, r, none⟩ (.slice (some ⟨g', 0, none⟩) (m + 1) cap')).there rv 0 18 ∧
      ((w1.setCell ⟨h, r, none⟩ (.slice (some ⟨g', 0, none⟩) (m + 1) cap')).setCells rv 0 left.vs).rangeAt rv 0 left.vs ∧
      Ch ((w1.setCell ⟨h, r, none⟩ (.slice (some ⟨g', 0, none⟩) (m + 1) cap')).setCells rv 0 left.vs) B p h c (upd V r (.slice (some ⟨g', 0, none⟩) (m + 1) cap')) (S.put r (S.set r ++ [e])) ∧
      Turned (fun x => (V r).ownBlock = some x ∨ x = h ∨ x = rv) Y ((w1.setCell ⟨h, r, none⟩ (.slice (some ⟨g', 0, none⟩) (m + 1) cap')).setCells rv 0 left.vs) ∧
      ((V r).ownBlock = some g' ∨ Y.heap.size ≤ g') := by
  obtain ⟨i0, hi0, hz0, hz1, hz2⟩ := info_parts (show (Try.prog.info? 86).map (fun i => (i.zero, i.size, i.bytes)) = some (some (.agg zl), 18, 32) by kernel_rfl)
  have hl := k.rowm r hr _ hv m hm
  have hh := k.v.here
  have h4 := k.small.1
  obtain ⟨A, hA⟩ : ∃ A, Y.drew.alloc (.cells e.vs.toArray 86) = A := ⟨_, rfl⟩
  have tA : Turned (fun _ => False) Y A := by rw [← hA]; exact ((Turned.refl _ Y).drew).alloc _
  have sA : A.heap.size = Y.heap.size + 1 := by rw [← hA]; simp
  have lA := own_turned hl tA (fun _ _ q => q)
  rw [hA]
  obtain ⟨v', w1, hrun, r1, r2, r3, r4⟩ := run_append_own_at (P := Try.prog) (w := A) B 81 81 86 i0 (.agg zl) 18 32 Try.underlying81 hi0 hz0 hz1 hz2 rfl (by decide) (.slice qa m cap) m (flatL (S.set r)) lA ⟨Y.heap.size, 0, none⟩ 1 1 e.vs (by rw [Ln.len]) (fun j u hj => by
      rw [Addr.add_mid, Nat.zero_add, ← hA]
      have e2 := World.cell?_alloc_new Y.drew e.vs.toArray 86 j
      refine e2.trans ?_
      rw [← hj]
      simp) e.one (by unfold maxLen; omega) (by omega) (by have := k.lo; omega)
  obtain ⟨g', cap', rfl⟩ := own_succ r1
  have e3 : flatL (S.set r) ++ e.vs = flatL (S.set r ++ [e]) := by rw [flatL_app, flatL_one]
  rw [e3] at r1
  have t1 := turned_grown r2
  have hvb : ∀ x, (Value.slice qa m cap).ownBlock = some x → (V r).ownBlock = some x := fun x hx => by rw [hv]; exact hx
  have T1 : Turned (fun x => (V r).ownBlock = some x) Y w1 := (tA.mono (fun _ q => q.elim)).trans (t1.mono hvb)
  have nh : ¬ (V r).ownBlock = some h := k.vh r hr
  have c1 : Y.cell? ⟨h, r, none⟩ = some (.slice qa m cap) := by rw [← hv]; exact k.v.cell r hr
  have own_lt : ∀ x, (V r).ownBlock = some x → x < Y.heap.size := fun x hx => (own_base (k.l r hr) x hx).2
  have hg' : (V r).ownBlock = some g' ∨ Y.heap.size ≤ g' := by
    rcases r4 with q | q
    · exact Or.inl (hvb g' (by rw [← q]; rfl))
    · right
      simp [Value.ownBlock] at q
      omega
  obtain ⟨Z, hZ⟩ : ∃ Z, w1.setCell ⟨h, r, none⟩ (.slice (some ⟨g', 0, none⟩) (m + 1) cap') = Z := ⟨_, rfl⟩
  have TZ : Turned (fun x => (V r).ownBlock = some x ∨ x = h) Y Z := by
    rw [← hZ]
    exact (T1.mono (R := fun x => (V r).ownBlock = some x ∨ x = h) (fun _ q => Or.inl q)).set (b := h) (Or.inr rfl) _ _
  have sub : ∀ x, ((V r).ownBlock = some x ∨ x = h) → mine p h S.n V x := fun x q => q.elim (fun q => Or.inr (Or.inr ⟨r, hr, q⟩)) (fun q => Or.inr (Or.inl q))
  have zbx := range_turned hbx TZ lbx (fun q => nbx (sub _ q))
  have zlv := range_turned hlv TZ llv (fun q => nlv (sub _ q))
  have zrv := there_turned hrv TZ lrv (fun q => nrv (sub _ q))
  have tF := turned_setCells (g := rv) left.vs 0 Z
  have hgh : g' ≠ h := by
    rcases hg' with q | q
    · exact fun e => nh (by rw [← e]; exact q)
    · omega
  refine ⟨g', cap', w1, hrun, tA.to_cell hh (fun q => q) c1, T1.to_cell hh nh c1, (World.frozen?_of_block (T1.block h hh nh)).trans (k.v.free r), Nat.lt_of_lt_of_le hh T1.size, range_turned hbx tA lbx (fun q => q), range_turned hbx T1 lbx (fun q => nbx (sub _ (Or.inl q))), ?_⟩
  rw [hZ]
  refine ⟨zbx, zlv, zrv, World.rangeAt_setCells_same _ _ _ _ (by rw [Ln.len]; exact zrv), ?_, ?_, hg'⟩
  · have kZ : Ch Z B p h c (upd V r (.slice (some ⟨g', 0, none⟩) (m + 1) cap')) (S.put r (S.set r ++ [e])) := by
      have el : (S.set r ++ [e]).length = m + 1 := by simp [hm]
      refine k.rowTo2 r hr _ _ TZ ?_ ?_ (by rw [el]; omega) (fun x q => ?_)
      · rw [← hZ]
        exact (T1.cells k.v nh).set r hr _
      · rw [el, ← hZ]
        exact own_turned r1 ((Turned.refl (fun x => x = h) w1).set (b := h) rfl _ _) (fun x q e => by simp [Value.ownBlock] at q; omega)
      · simp [Value.ownBlock] at q
        rw [← q]
        exact hg'
    refine kZ.turned tF (fun e => nrv (Or.inl e.symm)) (fun e => nrv (Or.inr (Or.inl e.symm))) (fun i j hi hj e => ?_)
    subst e
    by_cases q : i = r
    · subst q
      rw [upd_same] at hj
      simp [Value.ownBlock] at hj
      rcases hg' with q | q
      · exact nrv (Or.inr (Or.inr ⟨i, hi, by rw [← hj]; exact q⟩))
      · omega
    · rw [upd_other _ _ _ _ q] at hj
      exact nrv (Or.inr (Or.inr ⟨i, hi, hj⟩))
  · exact (TZ.mono (fun x q => q.elim Or.inl (fun q => Or.inr (Or.inl q)))).trans (tF.mono (fun x q => Or.inr (Or.inr q)))
end Go.Proofs.Ytbbaopldebdoiaa
