import Derived.Test.YtlogdmnhngbkaaaDoorY05
import Derived.Deep.Cut
/-
  THE ANSWER's CACHE: out.
-/
namespace Go.Proofs.YtlogdmnhngbkaaaDoor
open Go Go.RowKit
theorem Turned.to_p {x y : World} {p N : Nat} (t : Turned (fun j => N ≤ j ∨ j = p) x y) (_hp : p < x.heap.size) (hN : x.heap.size ≤ N) : Turned (fun q => q = p) x y :=
  ⟨t.os, t.tape, t.output, t.size, fun k hk hq => t.block k hk (fun e => e.elim (by omega) hq)⟩
theorem rinfo : ∃ i, Tryd.prog.info? 104 = some i ∧ i.zero = some (.agg zr) ∧ i.size = 18 ∧ i.bytes = 32 := info_parts (show (Tryd.prog.info? 104).map (fun i => (i.zero, i.size, i.bytes)) = some (some (.agg zr), 18, 32) by kernel_rfl)
/-- lines are appended to a row that the call owns -/
theorem rapp (B : Nat) (x : World) (v : Value) (l news : List Ln) (ad : Addr) (c : Nat) (h : x.ownsRow B 104 18 v l.length (flatR l)) (hn : ∀ j u, (flatR news)[j]? = some u → x.cell? (ad.add j) = some u) (hl : l.length + news.length ≤ 1000) (hB : B ≤ x.heap.size) : ∃ q cap y, (Builtin.append_ #[100, 100] 100 #[v, .slice (some ad) news.length c]).run Tryd.prog x = .ok (.slice q (l.length + news.length) cap) y ∧ y.ownsRow B 104 18 (.slice q (l.length + news.length) cap) (l.length + news.length) (flatR (l ++ news)) ∧ Turned (fun j => v.ownBlock = some j) x y ∧ ((Value.slice q (l.length + news.length) cap).ownBlock = v.ownBlock ∨ (Value.slice q (l.length + news.length) cap).ownBlock = some x.heap.size) := by
  obtain ⟨i0, hi0, hz0, hz1, hz2⟩ := rinfo
  obtain ⟨v', w1, hrun, r1, r2, r3, r4⟩ := run_append_own_at (P := Tryd.prog) (w := x) B 100 100 104 i0 (.agg zr) 18 32 Tryd.underlying100 hi0 hz0 hz1 hz2 rfl (by decide) v l.length (flatR l) h ad news.length c (flatR news) (flatR_len news) hn (flatR_ones news) (by unfold maxLen; omega) (by omega) hB
  rw [← flatR_app] at r1
  have el : (l ++ news).length = l.length + news.length := by simp
  obtain ⟨q, cap, hv, -, -⟩ := own_rlines (l := l ++ news) (by rw [el]; exact r1)
  rw [el] at hv
  subst hv
  exact ⟨q, cap, w1, hrun, r1, turned_grown r2, r4⟩
set_option maxRecDepth 100000 in
set_option maxHeartbeats 2000000 in
theorem rout_any (B p : Nat) (v : Value) (n ways : Nat) (R : List Ln) (i : Nat) (w : World) (k : RC w B p v n ways R) (hi : i < R.length) : Calls Tryd.prog 62 #[.pointer (some ⟨p, 0, none⟩), .int .i64 i] w fun e w' => e = .returned (.agg (R.getD i l0).rv.toArray) ∧ ∃ v', RC w' B p v' n ways (rest R i) ∧ (∀ q, v'.ownBlock = some q → w.heap.size ≤ q) ∧ Turned (fun q => q = p) w w' := by
  obtain ⟨hp, -, -, c2, cf⟩ := k.cells
  obtain ⟨q, cap, hv, hcap, hel⟩ := own_rlines k.l
  obtain ⟨g, rfl, -, hg, hrg, -⟩ := hel i hi
  have h64 := k.small.1
  have hlo := k.lo
  have hl := k.l
  have hgp : g ≠ p := fun e => k.vp (by rw [hv, ← e]; rfl)
  obtain ⟨e, he⟩ : ∃ e, R.getD i l0 = e := ⟨_, rfl⟩
  rw [he] at hrg ⊢
  rw [hv] at c2 hl
  obtain ⟨W0, hW0⟩ : ∃ W0, w.alloc (.cells #[.int .i64 0, .int .i64 0, .int .u8 0, .int .u8 0, .int .u8 0, .int .u8 0, .int .u8 0, .int .u8 0, .int .u8 0, .int .u8 0, .int .u8 0, .int .u8 0, .int .u8 0, .int .u8 0, .int .u8 0, .int .u8 0, .int .u8 0, .int .u8 0] 104) = W0 := ⟨_, rfl⟩
  obtain ⟨W1, hW1⟩ : ∃ W1, W0.alloc (.cells e.rv.toArray 104) = W1 := ⟨_, rfl⟩
  have s0 : W0.heap.size = w.heap.size + 1 := by rw [← hW0]; simp
  have s1 : W1.heap.size = w.heap.size + 2 := by rw [← hW1]; simp [s0]
  have t1 : Turned (fun _ => False) w W1 := by rw [← hW1, ← hW0]; exact ((Turned.refl _ _).alloc _).alloc _
  have o1 := own_turned hl t1 (fun _ _ q => q)
  have src : ∀ (x : World), x.ownsRow B 104 18 (.slice (some ⟨g, 0, none⟩) R.length cap) R.length (flatR R) → ∀ d j u, (flatR (R.drop d))[j]? = some u → x.cell? ⟨g, d * 18 + j, none⟩ = some u := by
    intro x hx d j u hj
    have q := World.ownsRow.cells hx rfl (d * 18 + j) u (by rw [← List.getElem?_drop, flatR_drop]; exact hj)
    rwa [Addr.add_mid, Nat.zero_add] at q
  have lt : (R.take i).length = i := by rw [List.length_take]; omega
  obtain ⟨q1, cap1, w2, hrun1, r1, t2, b1⟩ := rapp B W1 (.slice none 0 0) [] (R.take i) ⟨g, 0, none⟩ cap (World.ownsRow_nil _ _ _ _) (fun j u hj => by
    rw [Addr.add_mid]
    refine src W1 o1 0 j u ?_
    rw [List.drop_zero]
    have hlen : j < (flatR (R.take i)).length := (List.getElem?_eq_some_iff.1 hj).1
    rw [flatR_len, lt] at hlen
    rw [← flatR_take, List.getElem?_take_of_lt hlen] at hj
    exact hj) (by rw [lt]; simp; omega) (by omega)
  have t2' : Turned (fun _ => False) W1 w2 := t2.mono (fun j e => by simp [Value.ownBlock] at e)
  have ll : (R.drop (i + 1)).length = R.length - (i + 1) := by simp
  have o2 := own_turned o1 t2' (fun _ _ q => q)
  have A2 : ∀ ad c, (i + 1 < R.length → ad = ⟨g, (i + 1) * 18, none⟩) → ∃ q cap y, (Builtin.append_ #[100, 100] 100 #[.slice q1 i cap1, .slice (some ad) (R.length - (i + 1)) c]).run Tryd.prog w2 = .ok (.slice q (R.length - 1) cap) y ∧ y.ownsRow B 104 18 (.slice q (R.length - 1) cap) (R.length - 1) (flatR (rest R i)) ∧ Turned (fun j => W1.heap.size ≤ j) w2 y ∧ (∀ j, (Value.slice q (R.length - 1) cap).ownBlock = some j → W1.heap.size ≤ j) := by
    intro ad c had
    simp only [List.length_nil, Nat.zero_add, lt, List.nil_append] at r1 b1
    obtain ⟨q2, cap2, y, hr, r2, t3, b2⟩ := rapp B w2 (.slice q1 i cap1) (R.take i) (R.drop (i + 1)) ad c (by rw [lt]; exact r1) (fun j u hj => by
      have hlt : i + 1 < R.length := by
        rcases Nat.lt_or_ge (i + 1) R.length with q | q
        · exact q
        · rw [List.drop_eq_nil_of_le q] at hj
          simp [flatR] at hj
      rw [had hlt, Addr.add_mid]
      exact src w2 o2 (i + 1) j u hj) (by rw [lt, ll]; omega) (Nat.le_trans (by omega) t2.size)
    have le : (R.take i).length + (R.drop (i + 1)).length = R.length - 1 := by rw [lt, ll]; omega
    rw [le] at hr r2 b2
    rw [ll] at hr
    have hb1 : ∀ j, (Value.slice q1 i cap1).ownBlock = some j → W1.heap.size ≤ j := by
      intro j hj
      rcases b1 with q | q
      · rw [q] at hj; simp [Value.ownBlock] at hj
      · rw [q] at hj
        have := Option.some.inj hj
        omega
    refine ⟨q2, cap2, y, hr, r2, t3.mono hb1, fun j hj => ?_⟩
    rcases b2 with q | q
    · exact hb1 j (by rw [← q]; exact hj)
    · rw [q] at hj
      have := Option.some.inj hj
      have := t2.size
      omega
  simp only [List.length_nil, Nat.zero_add, lt] at hrun1
  have HA2 := Hid.in A2
  have rr2 : w2.rangeAt (w.heap.size + 1) 0 e.rv := by
    have : W1.rangeAt (w.heap.size + 1) 0 e.rv := by rw [← hW1, ← s0]; exact rrange_new W0 e _
    exact range_turned this t2' (by omega) (fun q => q)
  have th2 : w2.there w.heap.size 0 18 := by
    have h0 : W0.there w.heap.size 0 18 := by
      rw [← hW0]
      intro j hj
      refine ⟨?_, World.frozen?_alloc_at _ _ _ _ rfl⟩
      rw [World.cell?_alloc_new, Nat.zero_add, Array.getElem?_eq_getElem (by show j < 18; exact hj)]
      rfl
    have h1 : W1.there w.heap.size 0 18 := by rw [← hW1]; exact World.there_alloc h0 _
    exact there_turned h1 t2' (by omega) (fun q => q)
  have T12 : Turned (fun _ => False) w w2 := t1.trans t2'
  have c2w : w2.cell? ⟨p, 2, none⟩ = some (.slice (some ⟨g, 0, none⟩) R.length cap) := T12.to_cell hp (fun q => q) c2
  have s2 := t2.size
  obtain ⟨m, hm⟩ : ∃ m, R.length = m := ⟨_, rfl⟩
  have HFIN : Hid (∀ (q2 : Option Addr) (cap2 : Nat) (y : World), y.ownsRow B 104 18 (.slice q2 (m - 1) cap2) (m - 1) (flatR (rest R i)) → Turned (fun j => W1.heap.size ≤ j) w2 y → (∀ j, (Value.slice q2 (m - 1) cap2).ownBlock = some j → W1.heap.size ≤ j) → (y.setCell ⟨p, 2, none⟩ (.slice q2 (m - 1) cap2)).rangeAt (w.heap.size + 1) 0 e.rv ∧ (y.setCell ⟨p, 2, none⟩ (.slice q2 (m - 1) cap2)).there w.heap.size 0 18 ∧ ((y.setCell ⟨p, 2, none⟩ (.slice q2 (m - 1) cap2)).setCells w.heap.size 0 e.rv).rangeAt w.heap.size 0 e.rv ∧ RC ((y.setCell ⟨p, 2, none⟩ (.slice q2 (m - 1) cap2)).setCells w.heap.size 0 e.rv) B p (.slice q2 (m - 1) cap2) n ways (rest R i) ∧ Turned (fun q => q = p) w ((y.setCell ⟨p, 2, none⟩ (.slice q2 (m - 1) cap2)).setCells w.heap.size 0 e.rv)) := by
    intro q2 cap2 y hy ty hb
    have Ty : Turned (fun j => W1.heap.size ≤ j) w y := (T12.mono (fun _ q => q.elim)).trans ty
    have Tz : Turned (fun j => W1.heap.size ≤ j ∨ j = p) w (y.setCell ⟨p, 2, none⟩ (.slice q2 (m - 1) cap2)) := (Ty.mono (R := fun j => W1.heap.size ≤ j ∨ j = p) (fun _ q => Or.inl q)).set (b := p) (Or.inr rfl) _ _
    have Tyz : Turned (fun j => W1.heap.size ≤ j ∨ j = p) w2 (y.setCell ⟨p, 2, none⟩ (.slice q2 (m - 1) cap2)) := (ty.mono (R := fun j => W1.heap.size ≤ j ∨ j = p) (fun _ q => Or.inl q)).set (b := p) (Or.inr rfl) _ _
    have a1 := range_turned rr2 Tyz (by omega) (by omega)
    have a2 := there_turned th2 Tyz (by omega) (by omega)
    have tf := turned_setCells (g := w.heap.size) e.rv 0 (y.setCell ⟨p, 2, none⟩ (.slice q2 (m - 1) cap2))
    have hrl := rest_len R i hi
    refine ⟨a1, a2, World.rangeAt_setCells_same _ _ _ _ (by rw [Ln.rlen]; exact a2), ⟨tf.cells ?_ (by omega), ?_, fun q => by have := hb p q; omega, by rw [hrl]; have := k.small; omega, hlo⟩, ?_⟩
    · have cc := (Ty.cells k.c (by omega)).set 2 (by omega) (.slice q2 (m - 1) cap2)
      refine cc.ext fun o ho => ?_
      match o, ho with
      | 0, _ => rfl
      | 1, _ => rfl
      | 2, _ => rfl
    · rw [hrl, hm]
      exact own_turned (own_turned hy ((Turned.refl (fun q => q = p) y).set (b := p) rfl _ _) (fun j hj e => by have := hb j hj; omega)) tf (fun j hj e => by have := hb j hj; omega)
    · exact (Tz.trans2'' (Q := fun j => W1.heap.size ≤ j ∨ j = p) tf (fun j e => Or.inr (by omega))).to_p hp (by omega)
  have HR := Hid.in hrg
  have HW0 := Hid.in hW0
  have HW1 := Hid.in hW1
  have hR0 : Hid (W0.rangeAt g (i * 18) e.rv) := by show W0.rangeAt _ _ _; rw [← hW0]; exact World.rangeAt_alloc hrg _
  have cw0 : w.cell? ⟨p, 2, none⟩ = some (.slice (some ⟨g, 0, none⟩) m cap) := by rw [← hm]; exact c2
  have cw1 : W1.cell? ⟨p, 2, none⟩ = some (.slice (some ⟨g, 0, none⟩) m cap) := by rw [← hm]; exact t1.to_cell hp (fun q => q) c2
  have hp1 : p < W1.heap.size := by omega
  have hp2 : p < w2.heap.size := by omega
  have hg1 : g < W1.heap.size := by omega
  obtain ⟨hc1, hc2⟩ := hcap
  unfold maxLen at hc2
  have HMM := Hid.in hm
  have HS := Hid.in (And.intro s0 s1)
  have HPF : Hid (∀ y : World, Turned (fun j => W1.heap.size ≤ j) w2 y → y.cell? ⟨p, 2, none⟩ = some (.slice (some ⟨g, 0, none⟩) m cap) ∧ y.frozen? ⟨p, 2, none⟩ = false ∧ p < y.heap.size) := by
    intro y ty
    refine ⟨?_, ?_, Nat.lt_of_lt_of_le hp2 ty.size⟩
    · rw [← hm]
      exact ty.to_cell hp2 (by omega) c2w
    · have f2 : w2.frozen? ⟨p, 2, none⟩ = false := (World.frozen?_of_block (T12.block p hp (fun q => q))).trans (cf 2)
      exact (World.frozen?_of_block (ty.block p hp2 (by omega))).trans f2
  rw [hm] at hc1 c2w hi
  have him1 : i + 1 ≤ m := by omega
  have nci : ¬ cap = i := by omega
  clear k hel hl hrg he hv t1 o1 src lt r1 t2 b1 t2' ll o2 A2 rr2 th2 T12 c2 hm hW0 hW1 cf hgp hlo s0 s1 s2
  go_enter Tryd.func62, Tryd.ntmps62
  have R0 := HR.out
  go_upto_region 2 with (first
    | (refine rld g (i * 18) e (World.rangeAt_alloc R0 _) rfl _ rfl rfl ?_)
    | (refine rstn (w.alloc _) e zr rfl (w.heap.size + 1) (by simp) rfl rfl _ _ rfl rfl rfl ?_))
  rw [HW0.out, HW1.out]
  clear R0
  by_cases hck : cap = i + 1
  · obtain rfl : m = i + 1 := by omega
    subst hck
    obtain ⟨q2, cap2, y, hrun2, y1, y2, y3⟩ := HA2.out ⟨g, 0, none⟩ 0 (fun q => by have := HMM.out; omega)
    rw [HMM.out] at hrun2 y1 y3
    simp only [Nat.add_sub_cancel, Nat.sub_self] at hrun2 y1 y3 HFIN
    obtain ⟨f1, f2, f3, f4, f5⟩ := HFIN.out q2 cap2 y y1 y2 y3
    obtain ⟨z1, z2, z3⟩ := HPF.out y y2
    have HF := Hid.in (And.intro f3 (And.intro f4 f5))
    have HY3 := Hid.in y3
    clear y1 y2 y3 f3 f4 f5
    go_wp2_with (first
      | (at_builtin; refine wpList_append_run rfl rfl rfl rfl hrun2 ?_)
      | (at_builtin; refine wpList_append_run rfl rfl rfl rfl hrun1 ?_)
      | (refine rld (w.heap.size + 1) 0 e f1 rfl _ rfl rfl ?_)
      | (refine rst w.heap.size 0 e f2 rfl rfl _ _ rfl rfl rfl ?_))
    refine bodyPost_ret (results_rline Tryd.results62 _ _ w.heap.size e rfl HF.out.1) rfl ?_
    exact ⟨rfl, _, HF.out.2.1, fun j hj => by have h1 := HY3.out j hj; have h2 := HS.out.2; omega, HF.out.2.2⟩
  · have hck2 : i + 1 < cap := by omega
    obtain ⟨q2, cap2, y, hrun2, y1, y2, y3⟩ := HA2.out ⟨g, (i + 1) * 18, none⟩ (cap - (i + 1)) (fun _ => rfl)
    rw [HMM.out] at hrun2 y1 y3
    obtain ⟨f1, f2, f3, f4, f5⟩ := HFIN.out q2 cap2 y y1 y2 y3
    obtain ⟨z1, z2, z3⟩ := HPF.out y y2
    have HF := Hid.in (And.intro f3 (And.intro f4 f5))
    have HY3 := Hid.in y3
    clear y1 y2 y3 f3 f4 f5
    go_wp2_with (first
      | (at_builtin; refine wpList_append_run rfl rfl rfl rfl hrun2 ?_)
      | (at_builtin; refine wpList_append_run rfl rfl rfl rfl hrun1 ?_)
      | (refine rld (w.heap.size + 1) 0 e f1 rfl _ rfl rfl ?_)
      | (refine rst w.heap.size 0 e f2 rfl rfl _ _ rfl rfl rfl ?_))
    refine bodyPost_ret (results_rline Tryd.results62 _ _ w.heap.size e rfl HF.out.1) rfl ?_
    exact ⟨rfl, _, HF.out.2.1, fun j hj => by have h1 := HY3.out j hj; have h2 := HS.out.2; omega, HF.out.2.2⟩
end Go.Proofs.YtlogdmnhngbkaaaDoor
