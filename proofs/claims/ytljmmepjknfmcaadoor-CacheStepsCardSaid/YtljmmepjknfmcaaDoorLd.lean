/-
  CACHE's LAW CacheSteps: each step, as two calls.
-/
import Derived.Test.YtljmmepjknfmcaaDoorLb
import Derived.Test.YtljmmepjknfmcaaDoorLc
namespace Go.Proofs.YtljmmepjknfmcaaDoor
open Go Go.RowKit
/-- all its memory: the program's cache, the answer's -/
structure Lz (w0 x : World) (p h c q : Nat) (V : Nat → Value) (rv : Value) (S : CS) (R : List Ln) : Prop where
  ch : Ch x w0.heap.size p h c V S
  rc : RC x w0.heap.size q rv S.n S.ways R
  nq : ¬ mine p h S.n V q
  nv : ∀ j, rv.ownBlock = some j → ¬ mine p h S.n V j
  low : Below w0.heap.size w0 x
section
variable {w0 x y : World} {p h c q : Nat} {V V' : Nat → Value} {rv rv' : Value} {S S' : CS} {R R' : List Ln}
theorem Lz.mineLo (k : Lz w0 x p h c q V rv S R) (j : Nat) (hj : mine p h S.n V j) : w0.heap.size ≤ j ∧ j < x.heap.size := by
  rcases hj with rfl | rfl | ⟨i, hi, hb⟩
  · exact ⟨k.ch.lo.1, k.ch.c.here⟩
  · exact ⟨k.ch.lo.2, k.ch.v.here⟩
  · exact own_base (k.ch.l i hi) j hb
theorem Lz.rvLo (k : Lz w0 x p h c q V rv S R) (j : Nat) (hj : rv.ownBlock = some j) : w0.heap.size ≤ j ∧ j < x.heap.size := own_base k.rc.l j hj
theorem Lz.below (k : Lz w0 x p h c q V rv S R) (t : Below x.heap.size x y) : Lz w0 y p h c q V rv S R :=
  ⟨k.ch.below t, k.rc.below t, k.nq, k.nv, k.low.trans (t.mono k.low.size)⟩
theorem Lz.onP (k : Lz w0 x p h c q V rv S R) (ch : Ch y w0.heap.size p h c V' S') (hn : S'.n = S.n ∧ S'.ways = S.ways) (t : Turned (mine p h S.n V) x y) (hV : ∀ j, mine p h S'.n V' j → mine p h S.n V j ∨ x.heap.size ≤ j) : Lz w0 y p h c q V' rv S' R := by
  have hq := k.rc.c.here
  refine ⟨ch, ?_, fun e => (hV q e).elim k.nq (by omega), fun j hj e => (hV j e).elim (k.nv j hj) (by have := (k.rvLo j hj).2; omega), k.low.trans (t.below k.low.size (fun j hj => (k.mineLo j hj).1))⟩
  rw [hn.1, hn.2]
  exact k.rc.turned t k.nq (fun j hj => k.nv j hj)
theorem Lz.onR (k : Lz w0 x p h c q V rv S R) (rc : RC y w0.heap.size q rv' S.n S.ways R') (t : Turned (fun j => j = q ∨ rv.ownBlock = some j) x y) (hv : ∀ j, rv'.ownBlock = some j → rv.ownBlock = some j ∨ x.heap.size ≤ j) : Lz w0 y p h c q V rv' S R' := by
  have nm : ∀ j, mine p h S.n V j → ¬ (j = q ∨ rv.ownBlock = some j) := fun j hj e => e.elim (fun e => k.nq (e ▸ hj)) (fun e => k.nv j e hj)
  refine ⟨k.ch.turned t (nm p (Or.inl rfl)) (nm h (Or.inr (Or.inl rfl))) (fun i j hi hj => nm j (Or.inr (Or.inr ⟨i, hi, hj⟩))), rc, k.nq, fun j hj e => (hv j hj).elim (fun q => k.nv j q e) (fun q => by have := (k.mineLo j e).2; omega), k.low.trans (t.below k.low.size (fun j hj => ?_))⟩
  rcases hj with hj | hj
  · rw [hj]; exact k.rc.lo
  · exact (k.rvLo j hj).1
end
def Both (w0 : World) (p h c q : Nat) (S S' : CS) (R R' : List Ln) (x : World) (rv : Value) (V : Nat → Value) (fp : FuncId) (ap : Array Value) (ep : Ending) (fr : FuncId) (ar : Array Value) (er : Ending) : Prop :=
  Calls Tryd.prog fp ap x (fun e y => e = ep ∧ Turned (mine p h S.n V) x y ∧ ∃ V', Lz w0 y p h c q V' rv S' R ∧ ∀ j, mine p h S'.n V' j → mine p h S.n V j ∨ x.heap.size ≤ j) ∧ ∀ y V', Lz w0 y p h c q V' rv S' R → Calls Tryd.prog fr ar y (fun e z => e = er ∧ Turned (fun j => j = q ∨ rv.ownBlock = some j) y z ∧ ∃ rv', Lz w0 z p h c q V' rv' S' R' ∧ ∀ j, rv'.ownBlock = some j → rv.ownBlock = some j ∨ y.heap.size ≤ j)
section
variable {w0 x : World} {p h c q : Nat} {V : Nat → Value} {rv : Value} {S S' : CS} {R R' : List Ln} {fp fr : FuncId} {ap ar : Array Value} {ep er : Ending}
theorem Both.bad (k : Lz w0 x p h c q V rv S R) (hp : Calls Tryd.prog fp ap x fun e y => e = ep ∧ Below x.heap.size x y) (hr : ∀ y, RC y w0.heap.size q rv S.n S.ways R → Calls Tryd.prog fr ar y fun e z => e = er ∧ Below y.heap.size y z) : Both w0 p h c q S S R R x rv V fp ap ep fr ar er :=
  ⟨hp.mono fun _ _ a => ⟨a.1, (Turned.of_below a.2), V, k.below a.2, fun _ q => Or.inl q⟩, fun y _ k' => (hr y k'.rc).mono fun _ _ a => ⟨a.1, (Turned.of_below a.2), rv, k'.below a.2, fun _ q => Or.inl q⟩⟩
theorem Both.good (k : Lz w0 x p h c q V rv S R) (hn : S'.n = S.n ∧ S'.ways = S.ways) (hp : Calls Tryd.prog fp ap x fun e y => e = ep ∧ ∃ V', Ch y w0.heap.size p h c V' S' ∧ (∀ j, mine p h S'.n V' j → mine p h S.n V j ∨ x.heap.size ≤ j) ∧ Turned (mine p h S.n V) x y) (hr : ∀ y, RC y w0.heap.size q rv S.n S.ways R → Calls Tryd.prog fr ar y fun e z => e = er ∧ ∃ rv', RC z w0.heap.size q rv' S.n S.ways R' ∧ (∀ j, rv'.ownBlock = some j → rv.ownBlock = some j ∨ y.heap.size ≤ j) ∧ Turned (fun j => j = q ∨ rv.ownBlock = some j) y z) : Both w0 p h c q S S' R R' x rv V fp ap ep fr ar er := by
  refine ⟨hp.mono fun _ _ a => ?_, fun y V' k' => (hr y (by have := k'.rc; rw [hn.1, hn.2] at this; exact this)).mono fun _ _ a => ?_⟩
  · obtain ⟨a1, V', a2, a3, a4⟩ := a
    exact ⟨a1, a4, V', k.onP a2 hn a4 a3, a3⟩
  · obtain ⟨a1, v', a2, a3, a4⟩ := a
    exact ⟨a1, a4, v', k'.onR (by rw [hn.1, hn.2]; exact a2) a4 a3, a3⟩
theorem mine_same {p h n : Nat} {V : Nat → Value} {x : World} : ∀ j, mine p h n V j → mine p h n V j ∨ x.heap.size ≤ j := fun _ h => Or.inl h
theorem both_state (k : Lz w0 x p h c q V rv S R) (H : Same S R) (a : Nat) (ha : a < 4294967296) : ∃ s : Nat, Both w0 p h c q S S R R x rv V 7 #[.pointer (some ⟨p, 0, none⟩), .int .u32 a] (.returned (.int .i64 s)) 8 #[.pointer (some ⟨q, 0, none⟩), .int .i64 a] (.returned (.int .i64 s)) := by
  rcases at_or_no R a with ⟨j, hj⟩ | hj
  · rcases at_or_no (S.set (S.of a)) a with ⟨i, hi⟩ | hi
    · obtain ⟨X, e, Y, -, -, h3, h4, -⟩ := H.at hi hj
      refine ⟨e.s, Both.bad k ?_ fun y hy => ?_⟩
      · have := state_at _ p h c V S a i x k.ch ha hi
        rw [h4] at this
        exact this
      · have := rstate_at _ q rv S.n S.ways R a j y hy ha hj
        rw [h3] at this
        exact this.mono fun _ _ a => ⟨a.1, by rw [a.2]; exact Below.refl _ _⟩
    · exact absurd hj.2.1 ((H.no a).1 hi j hj.1)
  · refine ⟨0, Both.bad k (state_no _ p h c V S a x k.ch ha ((H.no a).2 hj)) fun y hy => ?_⟩
    exact (rstate_no _ q rv S.n S.ways R a y hy ha hj).mono fun _ _ a => ⟨a.1, by rw [a.2]; exact Below.refl _ _⟩
theorem both_read (k : Lz w0 x p h c q V rv S R) (H : Same S R) (a : Nat) (z : Int) (ha : a < 4294967296) : ∃ (S' : CS) (R' : List Ln) (v : Nat) (ok : Bool), Same S' R' ∧ Both w0 p h c q S S' R R' x rv V 9 #[.pointer (some ⟨p, 0, none⟩), .int .u32 a, .int .i64 z] (.returned (.tuple #[.int .u32 v, .bool ok])) 10 #[.pointer (some ⟨q, 0, none⟩), .int .i64 a, .int .i64 z] (.returned (.tuple #[.int .u32 v, .bool ok])) := by
  have bad : No R a ∨ fits a z = false → ∃ (S' : CS) (R' : List Ln) (v : Nat) (ok : Bool), Same S' R' ∧ Both w0 p h c q S S' R R' x rv V 9 #[.pointer (some ⟨p, 0, none⟩), .int .u32 a, .int .i64 z] (.returned (.tuple #[.int .u32 v, .bool ok])) 10 #[.pointer (some ⟨q, 0, none⟩), .int .i64 a, .int .i64 z] (.returned (.tuple #[.int .u32 v, .bool ok])) := fun hno =>
    ⟨S, R, 0, false, H, Both.bad k (read_no _ p h c V S a z x k.ch ha (hno.imp (H.no a).2 id)) fun y hy => (rread_no _ q rv S.n S.ways R a z y hy ha hno).mono fun _ _ a => ⟨a.1, by rw [a.2]; exact Below.refl _ _⟩⟩
  rcases at_or_no R a with ⟨j, hj⟩ | hj
  · cases hf : fits a z
    · exact bad (Or.inr hf)
    · rcases at_or_no (S.set (S.of a)) a with ⟨i, hi⟩ | hi
      · obtain ⟨zn, rfl⟩ : ∃ zn : Nat, z = zn := by
          simp only [fits, Bool.or_eq_true, decide_eq_true_eq] at hf
          exact ⟨z.toNat, by omega⟩
        obtain ⟨X, e, Y, h1, h2, h3, h4, h5, h6, h7, h8⟩ := H.at hi hj
        have hem := H.line e (by rw [h1]; simp)
        refine ⟨_, _, leN (fun t => e.b (a % 16 + t)) zn, true, H.behind hi hj e h5 hem.2.2.1 hem.2.2.2, Both.good k ⟨rfl, rfl⟩ ?_ fun y hy => ?_⟩
        · have := read_at _ p h c V S a zn i x k.ch ha hi hf (by rw [h4]; exact hem.2.2.2)
          unfold CS.used at this
          rw [h4] at this
          exact this.mono fun _ _ b => ⟨b.1, V, b.2.1, mine_same, b.2.2⟩
        · have := rread_at _ q rv S.n S.ways R a zn j y hy ha hj hf (by rw [h3]; exact hem.2.2.2)
          rw [h3] at this
          refine this.mono fun _ _ b => ?_
          obtain ⟨b1, v', b2, b3, b4⟩ := b
          exact ⟨b1, v', b2, fun j hj => Or.inr (b3 j hj), b4.mono (fun _ e => Or.inl e)⟩
      · exact absurd hj.2.1 ((H.no a).1 hi j hj.1)
  · exact bad (Or.inl hj)
theorem both_write (k : Lz w0 x p h c q V rv S R) (H : Same S R) (a : Nat) (z : Int) (d : Nat) (ha : a < 4294967296) (hd : d < 4294967296) : ∃ (S' : CS) (R' : List Ln) (ok : Bool), Same S' R' ∧ Both w0 p h c q S S' R R' x rv V 11 #[.pointer (some ⟨p, 0, none⟩), .int .u32 a, .int .i64 z, .int .u32 d] (.returned (.bool ok)) 12 #[.pointer (some ⟨q, 0, none⟩), .int .i64 a, .int .i64 z, .int .u32 d] (.returned (.bool ok)) := by
  have bad : (No (S.set (S.of a)) a ∨ fits a z = false ∨ ∃ i, At (S.set (S.of a)) a i ∧ ((S.set (S.of a)).getD i l0).s = 1) → (No R a ∨ fits a z = false ∨ ∃ i, At R a i ∧ (R.getD i l0).s < 2) → ∃ (S' : CS) (R' : List Ln) (ok : Bool), Same S' R' ∧ Both w0 p h c q S S' R R' x rv V 11 #[.pointer (some ⟨p, 0, none⟩), .int .u32 a, .int .i64 z, .int .u32 d] (.returned (.bool ok)) 12 #[.pointer (some ⟨q, 0, none⟩), .int .i64 a, .int .i64 z, .int .u32 d] (.returned (.bool ok)) := fun h1 h2 =>
    ⟨S, R, false, H, Both.bad k (write_no _ p h c V S a z d x k.ch ha h1) fun y hy => (rwrite_no _ q rv S.n S.ways R a z d y hy ha h2).mono fun _ _ a => ⟨a.1, by rw [a.2]; exact Below.refl _ _⟩⟩
  rcases at_or_no R a with ⟨j, hj⟩ | hj
  · cases hf : fits a z
    · exact bad (Or.inr (Or.inl hf)) (Or.inr (Or.inl hf))
    · rcases at_or_no (S.set (S.of a)) a with ⟨i, hi⟩ | hi
      · obtain ⟨zn, rfl⟩ : ∃ zn : Nat, z = zn := by
          simp only [fits, Bool.or_eq_true, decide_eq_true_eq] at hf
          exact ⟨z.toNat, by omega⟩
        obtain ⟨X, e, Y, h1, h2, h3, h4, h5, h6, h7, h8⟩ := H.at hi hj
        have hem := H.line e (by rw [h1]; simp)
        by_cases hs : e.s = 1
        · exact bad (Or.inr (Or.inr ⟨i, hi, by rw [h4]; exact hs⟩)) (Or.inr (Or.inr ⟨j, hj, by rw [h3]; omega⟩))
        · have wa : (e.wr (a % 16) d zn).a = lineOf a ∧ (e.wr (a % 16) d zn).s = 3 := by
            obtain ⟨p1, p2⟩ := putN_a (e.setS 3) (a % 16) d zn
            exact ⟨p1.trans h5, p2⟩
          refine ⟨_, _, true, H.behind hi hj (e.wr (a % 16) d zn) wa.1 (Or.inr (Or.inr wa.2)) (fun t ht => ?_), Both.good k ⟨rfl, rfl⟩ ?_ fun y hy => ?_⟩
          · show ((e.setS 3).putN (a % 16) d zn).b t < 256
            rw [putN_b]
            split
            · omega
            · exact hem.2.2.2 t ht
          · have := write_at _ p h c V S a zn d i x k.ch ha hd hi hf (by rw [h4]; exact hs)
            unfold CS.wrote at this
            rw [h4] at this
            exact this.mono fun _ _ b => ⟨b.1, V, b.2.1, mine_same, b.2.2⟩
          · have := rwrite_at _ q rv S.n S.ways R a zn d j y hy ha hj hf (by rw [h3]; omega)
            rw [h3] at this
            refine this.mono fun _ _ b => ?_
            obtain ⟨b1, v', b2, b3, b4⟩ := b
            exact ⟨b1, v', b2, fun j hj => Or.inr (b3 j hj), b4.mono (fun _ e => Or.inl e)⟩
      · exact absurd hj.2.1 ((H.no a).1 hi j hj.1)
  · exact bad (Or.inl ((H.no a).2 hj)) (Or.inl hj)
theorem fill_any (B p h c : Nat) (V : Nat → Value) (S : CS) (a s : Nat) (b : Nat → Nat) (w : World) (k : Ch w B p h c V S) (ha : a < 4294967296) (h16 : a % 16 = 0) (hs : 1 ≤ s ∧ s ≤ 3) (hN : No (S.set (S.of a)) a) : Calls Tryd.prog 13 #[.pointer (some ⟨p, 0, none⟩), .int .u32 a, .agg (bvs b).toArray, .int .i64 s] w fun e w' => e = .returned (.tuple #[.agg (S.left a).vs.toArray, .bool (S.full a), .nilIface]) ∧ ∃ v', Ch w' B p h c (upd V (S.of a) v') (S.fill a s b) ∧ (∀ j, v'.ownBlock = some j → (V (S.of a)).ownBlock = some j ∨ w.heap.size ≤ j) ∧ Turned (mine p h S.n V) w w' := by
  by_cases q : S.full a = true
  · exact fill_full B p h c V S a s b w k ha h16 hs hN q
  · exact fill_room B p h c V S a s b w k ha h16 hs hN (by simpa using q)
theorem both_fill (k : Lz w0 x p h c q V rv S R) (H : Same S R) (a : Nat) (st : Int) (b : Nat → Nat) (ha : a < 4294967296) (hb : ∀ t, b t < 256) : ∃ (S' : CS) (R' : List Ln) (E : Ln) (fl : Bool) (er : Int), Same S' R' ∧ E.a < 4294967296 ∧ (∀ t, t < 16 → E.b t < 256) ∧ (fl = true ↔ E.s ≠ 0) ∧ Both w0 p h c q S S' R R' x rv V 13 #[.pointer (some ⟨p, 0, none⟩), .int .u32 a, .agg (bvs b).toArray, .int .i64 st] (.returned (.tuple #[.agg E.vs.toArray, .bool fl, errOf er])) 15 #[.pointer (some ⟨q, 0, none⟩), .int .i64 a, .agg (bvs b).toArray, .int .i64 st] (.returned (.tuple #[.agg E.rv.toArray, .int .i64 er])) := by
  have bad : ∀ er : Int, er ≠ 0 → ((er = 3 ∧ (a % 16 ≠ 0 ∨ st < 1 ∨ 3 < st)) ∨ (er = 7 ∧ a % 16 = 0 ∧ 1 ≤ st ∧ st ≤ 3 ∧ ∃ i, At (S.set (S.of a)) a i)) → ((er = 3 ∧ (a % 16 ≠ 0 ∨ st < 1 ∨ 3 < st)) ∨ (er = 7 ∧ a % 16 = 0 ∧ 1 ≤ st ∧ st ≤ 3 ∧ ∃ i, At R a i)) → ∃ (S' : CS) (R' : List Ln) (E : Ln) (fl : Bool) (er : Int), Same S' R' ∧ E.a < 4294967296 ∧ (∀ t, t < 16 → E.b t < 256) ∧ (fl = true ↔ E.s ≠ 0) ∧ Both w0 p h c q S S' R R' x rv V 13 #[.pointer (some ⟨p, 0, none⟩), .int .u32 a, .agg (bvs b).toArray, .int .i64 st] (.returned (.tuple #[.agg E.vs.toArray, .bool fl, errOf er])) 15 #[.pointer (some ⟨q, 0, none⟩), .int .i64 a, .agg (bvs b).toArray, .int .i64 st] (.returned (.tuple #[.agg E.rv.toArray, .int .i64 er])) := fun er h0 h1 h2 =>
    ⟨S, R, l0, false, er, H, by decide, fun t _ => (by decide : (0 : Nat) < 256), Iff.intro (fun q => absurd q (by decide)) (fun q => absurd rfl q), Both.bad k (by rw [errOf_ne h0]; exact fill_bad _ p h c V S a st b x k.ch ha er h1) fun y hy => rfill_bad _ q rv S.n S.ways R a st b y hy ha er h2⟩
  by_cases hr : a % 16 ≠ 0 ∨ st < 1 ∨ 3 < st
  · exact bad 3 (by decide) (Or.inl ⟨rfl, hr⟩) (Or.inl ⟨rfl, hr⟩)
  · have h16 : a % 16 = 0 := by omega
    obtain ⟨s, rfl⟩ : ∃ s : Nat, st = s := ⟨st.toNat, by omega⟩
    rcases at_or_no R a with ⟨j, hj⟩ | hj
    · rcases at_or_no (S.set (S.of a)) a with ⟨i, hi⟩ | hi
      · exact bad 7 (by decide) (Or.inr ⟨rfl, h16, by omega, by omega, i, hi⟩) (Or.inr ⟨rfl, h16, by omega, by omega, j, hj⟩)
      · exact absurd hj.2.1 ((H.no a).1 hi j hj.1)
    · obtain ⟨kept, h1, h2, h3, h4, h5, h6⟩ := H.fill a s b h16 ha (by omega) (fun t _ => hb t)
      refine ⟨S.fill a s b, kept ++ [⟨a, s, b⟩], S.left a, S.full a, 0, h3, h5, h6, h4, Both.good k ⟨rfl, rfl⟩ ?_ fun y hy => ?_⟩
      · refine (fill_any _ p h c V S a s b x k.ch ha h16 (by omega) ((H.no a).2 hj)).mono fun _ _ d => ?_
        obtain ⟨d1, v', d2, d3, d4⟩ := d
        refine ⟨d1, _, d2, fun j hj => ?_, d4⟩
        rcases hj with hj | hj | ⟨i, hi, hb2⟩
        · exact Or.inl (Or.inl hj)
        · exact Or.inl (Or.inr (Or.inl hj))
        · by_cases e : i = S.of a
          · rw [e, upd_same] at hb2
            exact (d3 j hb2).imp (fun q1 => Or.inr (Or.inr ⟨_, S.of_lt a H.n.1, q1⟩)) id
          · rw [upd_other _ _ _ _ e] at hb2
            exact Or.inl (Or.inr (Or.inr ⟨i, hi, hb2⟩))
      · refine (rfill_good _ q rv S.n S.ways R a s b y hy ha h16 (by omega) hj (fun j => ?_) (S.of a) rfl (S.left a) kept h1 h2).mono fun _ _ d => ?_
        · rcases Nat.lt_or_ge j R.length with q1 | q1
          · exact (H.line _ (getD_mem _ _ q1)).2.1
          · rw [List.getD_eq_getElem?_getD, List.getElem?_eq_none q1]
            decide
        · exact d
theorem both_lower (k : Lz w0 x p h c q V rv S R) (H : Same S R) (a : Nat) (st : Int) (ha : a < 4294967296) : ∃ (S' : CS) (R' : List Ln) (E : Ln) (er : Int), Same S' R' ∧ E.a < 4294967296 ∧ (∀ t, t < 16 → E.b t < 256) ∧ Both w0 p h c q S S' R R' x rv V 17 #[.pointer (some ⟨p, 0, none⟩), .int .u32 a, .int .i64 st] (.returned (.tuple #[.agg E.vs.toArray, errOf er])) 18 #[.pointer (some ⟨q, 0, none⟩), .int .i64 a, .int .i64 st] (.returned (.tuple #[.agg E.rv.toArray, .int .i64 er])) := by
  by_cases hr : a % 16 ≠ 0 ∨ st < 0 ∨ 2 < st
  · exact ⟨S, R, l0, 3, H, by decide, fun t _ => (by decide : (0 : Nat) < 256), Both.bad k (by rw [errOf_ne (by decide)]; exact lower_bad _ p h c V S a st x k.ch ha 3 (Or.inl ⟨rfl, hr⟩)) fun y hy => rlower_range _ q rv S.n S.ways R a st y hy ha hr⟩
  · have h16 : a % 16 = 0 := by omega
    obtain ⟨s, rfl⟩ : ∃ s : Nat, st = s := ⟨st.toNat, by omega⟩
    rcases at_or_no R a with ⟨j, hj⟩ | hj
    · rcases at_or_no (S.set (S.of a)) a with ⟨i, hi⟩ | hi
      · obtain ⟨X, e, Y, h1, h2, h3, h4, h5, h6, h7, h8⟩ := H.at hi hj
        have hem := H.line e (by rw [h1]; simp)
        by_cases hle : e.s ≤ s
        · exact ⟨S, R, l0, 7, H, by decide, fun t _ => (by decide : (0 : Nat) < 256), Both.bad k (by rw [errOf_ne (by decide)]; exact lower_bad _ p h c V S a s x k.ch ha 7 (Or.inr ⟨rfl, h16, by omega, by omega, Or.inr ⟨i, hi, by rw [h4]; omega⟩⟩)) fun y hy => rlower_state _ q rv S.n S.ways R a s y hy ha h16 (by omega) (Or.inr ⟨j, hj, by rw [h3]; exact hle⟩)⟩
        · have hS : Same (S.put (S.of a) (if s = 0 then rest (S.set (S.of a)) i else (S.set (S.of a)).set i (((S.set (S.of a)).getD i l0).setS s))) (if s = 0 then rest R j else R.set j ((R.getD j l0).setS s)) := by
            by_cases h0 : s = 0
            · rw [if_pos h0, if_pos h0]
              exact H.gone hi hj
            · rw [if_neg h0, if_neg h0]
              exact H.state hi hj s (by omega)
          refine ⟨_, _, e, 0, hS, hem.2.1, hem.2.2.2, Both.good k ⟨rfl, rfl⟩ ?_ fun y hy => ?_⟩
          · have := lower_good _ p h c V S a s i x k.ch ha h16 (by omega) hi (by rw [h4]; omega)
            refine this.mono fun _ _ d => ?_
            obtain ⟨d1, V', d2, d3, d4⟩ := d
            refine ⟨by rw [d1, h4]; rfl, V', d2, fun j hj => ?_, d4⟩
            rcases hj with hj | hj | ⟨i, hi, hb2⟩
            · exact Or.inl (Or.inl hj)
            · exact Or.inl (Or.inr (Or.inl hj))
            · exact Or.inl (Or.inr (Or.inr ⟨i, hi, d3 i j hi hb2⟩))
          · have := rlower_good _ q rv S.n S.ways R a s j y hy ha h16 (by omega) hj (by rw [h3]; omega)
            refine this.mono fun _ _ d => ?_
            obtain ⟨d1, v', d2, d3, d4⟩ := d
            exact ⟨by rw [d1, h3], v', d2, d3, d4⟩
      · exact absurd hj.2.1 ((H.no a).1 hi j hj.1)
    · exact ⟨S, R, l0, 7, H, by decide, fun t _ => (by decide : (0 : Nat) < 256), Both.bad k (by rw [errOf_ne (by decide)]; exact lower_bad _ p h c V S a s x k.ch ha 7 (Or.inr ⟨rfl, h16, by omega, by omega, Or.inl ((H.no a).2 hj)⟩)) fun y hy => rlower_state _ q rv S.n S.ways R a s y hy ha h16 (by omega) (Or.inl hj)⟩
end
end Go.Proofs.YtljmmepjknfmcaaDoor
