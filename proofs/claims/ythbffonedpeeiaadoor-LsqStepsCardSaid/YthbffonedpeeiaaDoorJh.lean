/-
  THE ANSWER: without, Retire.
-/
import Derived.Test.YthbffonedpeeiaaDoorJg
namespace Go.Proofs.YthbffonedpeeiaaDoor
open Go Go.RowKit
theorem append_list {P : Program} {ops : Array Oper} {rest : List Oper} {o : Oper} {a : Act} {w w' : World} {Q : Exit → Act → World → Prop} {s x : Operand} {t : TypeId} {v u v' : Value} (hgd : o.guard = none) (ho : o.op = Op.call { callee := Callee.builtin Builtin.append, args := #[s, x], argTypes := #[t, t] }) (hs : a.eval s = v) (hx : a.eval x = u) (hr : (Builtin.append_ #[t, t] o.type #[v, u]).run P w = .ok v' w') (hK : wpList P ops Q rest (a.put o.dst v') w') : wpList P ops Q (o :: rest) a w :=
  wpList_plain hgd fun _ h => append_op0 ho hs hx hr (h _ _ hK)
theorem rapp (B : Nat) (x : World) (v : Value) (l news : List Re) (ad : Addr) (c : Nat) (h : x.ownsRow B 89 13 v l.length (flatR l)) (hn : ∀ j u, (flatR news)[j]? = some u → x.cell? (ad.add j) = some u) (hl : l.length + news.length ≤ 1000) (hB : B ≤ x.heap.size) : ∃ q cap y, (Builtin.append_ #[82, 82] 82 #[v, .slice (some ad) news.length c]).run Tryd.prog x = .ok (.slice q (l.length + news.length) cap) y ∧ y.ownsRow B 89 13 (.slice q (l.length + news.length) cap) (l.length + news.length) (flatR (l ++ news)) ∧ Turned (fun j => v.ownBlock = some j) x y ∧ ((Value.slice q (l.length + news.length) cap).ownBlock = v.ownBlock ∨ (Value.slice q (l.length + news.length) cap).ownBlock = some x.heap.size) := by
  obtain ⟨i0, hi0, hz0, hz1, hz2⟩ := info_parts (show (Tryd.prog.info? 89).map (fun i => (i.zero, i.size, i.bytes)) = some (some (.agg zre), 13, 88) by kernel_rfl)
  obtain ⟨v', w1, hrun, r1, r2, r3, r4⟩ := run_append_own_at (P := Tryd.prog) (w := x) B 82 82 89 i0 (.agg zre) 13 88 Tryd.underlying82 hi0 hz0 hz1 hz2 rfl (by decide) v l.length (flatR l) h ad news.length c (flatR news) (flatR_len news) hn (flatR_one' news) (by unfold maxLen; omega) (by omega) hB
  rw [← flatR_app] at r1
  obtain ⟨q, cap, hv⟩ := own_slice r1
  subst hv
  exact ⟨q, cap, w1, hrun, r1, turned_grown r2, r4⟩
def RS.del (S : RS) (i : Nat) : RS := ⟨S.size, S.on.eraseIdx i⟩
theorem RS.at_del (S : RS) (i j : Nat) : (S.del i).at j = S.at (skip i j) := by
  unfold RS.at RS.del skip
  rw [List.getD_eq_getElem?_getD, List.getD_eq_getElem?_getD, List.getElem?_eraseIdx]
  split <;> rfl
theorem RS.del_len (S : RS) (i : Nat) (hi : i < S.on.length) : (S.del i).on.length = S.on.length - 1 := List.length_eraseIdx_of_lt hi
set_option maxRecDepth 100000 in
set_option maxHeartbeats 300000 in
theorem rwithout_any (B p : Nat) (v : Value) (S : RS) (i : Nat) (w : World) (k : Rm w B p v S) (hi : i < S.on.length) : Calls Tryd.prog 55 #[.pointer (some ⟨p, 0, none⟩), .int .i64 i] w fun e w' => e = .returned (.tuple #[]) ∧ ∃ v', RStep w w' B p v v' (S.del i) := by
  have hs := k.small.1
  obtain ⟨g, cap, hv, hpg, hc1, hc2, hrow⟩ := k.rows i hi
  obtain ⟨hp, -, c1, f1⟩ := k.cells
  have hlo := k.lo
  have HK := Hid.in k
  have HV := Hid.in hv
  rw [hv] at c1
  have hl := k.l
  rw [hv] at hl
  have hBw : B ≤ w.heap.size := Nat.le_trans hlo (Nat.le_of_lt hp)
  have hgl : g < w.heap.size := (own_base hl g rfl).2
  have src : ∀ (x : World), Turned (fun j => w.heap.size ≤ j) w x → ∀ d j u, (flatR (S.on.drop d))[j]? = some u → x.cell? ⟨g, d * 13 + j, none⟩ = some u := fun x t d j u hj => by
    rw [← flatR_drop, List.getElem?_drop] at hj
    have q := World.ownsRow.cells hl rfl (d * 13 + j) u hj
    rw [Addr.add_lit, Nat.zero_add] at q
    exact t.to_cell hgl (by omega) q
  have lt : (S.on.take i).length = i := by rw [List.length_take]; omega
  have ll : (S.on.drop (i + 1)).length = S.on.length - (i + 1) := by simp
  obtain ⟨q1, cap1, w2, hrun1, r1, t1, b1⟩ := rapp B w (.slice none 0 0) [] (S.on.take i) ⟨g, 0, none⟩ cap (World.ownsRow_nil w B _ 13) (fun j u hj => by
    rw [Addr.add_lit, Nat.zero_add]
    rw [← flatR_take, List.getElem?_take] at hj
    split at hj
    · have := src w (Turned.refl _ w) 0 j u (by simpa using hj)
      simpa using this
    · cases hj) (by simp; omega) hBw
  simp only [List.length_nil, Nat.zero_add, lt, List.nil_append] at hrun1 r1 b1
  have t1' : Turned (fun j => w.heap.size ≤ j) w w2 := t1.mono (fun j e => by simp [Value.ownBlock] at e)
  have hb1 : ∀ j, (Value.slice q1 i cap1).ownBlock = some j → w.heap.size ≤ j := fun j hj => by
    rcases b1 with q | q
    · rw [q] at hj; simp [Value.ownBlock] at hj
    · rw [q] at hj
      have := Option.some.inj hj
      omega
  have A2 : ∀ ad c, (i + 1 < S.on.length → ad = ⟨g, (i + 1) * 13, none⟩) → ∃ q2 cap2 y, (Builtin.append_ #[82, 82] 82 #[.slice q1 i cap1, .slice (some ad) (S.on.length - (i + 1)) c]).run Tryd.prog w2 = .ok (.slice q2 (S.on.length - 1) cap2) y ∧ y.cell? ⟨p, 1, none⟩ = some v ∧ y.frozen? ⟨p, 1, none⟩ = false ∧ RStep w (y.setCell ⟨p, 1, none⟩ (.slice q2 (S.on.length - 1) cap2)) B p v (.slice q2 (S.on.length - 1) cap2) (S.del i) := by
    intro ad c had
    obtain ⟨q2, cap2, y, hr, r2, t3, b2⟩ := rapp B w2 (.slice q1 i cap1) (S.on.take i) (S.on.drop (i + 1)) ad c (by rw [lt]; exact r1) (fun j u hj => by
      have hlt : i + 1 < S.on.length := by
        rcases Nat.lt_or_ge (i + 1) S.on.length with q | q
        · exact q
        · rw [List.drop_eq_nil_of_le q] at hj
          simp [flatR] at hj
      rw [had hlt, Addr.add_lit]
      exact src w2 t1' (i + 1) j u hj) (by rw [lt, ll]; omega) (Nat.le_trans hBw t1.size)
    have le : (S.on.take i).length + (S.on.drop (i + 1)).length = S.on.length - 1 := by rw [lt, ll]; omega
    rw [le] at hr r2 b2
    rw [ll] at hr
    have t3' : Turned (fun j => w.heap.size ≤ j) w2 y := t3.mono hb1
    have tt := t1'.trans t3'
    have hb2 : ∀ j, (Value.slice q2 (S.on.length - 1) cap2).ownBlock = some j → w.heap.size ≤ j := fun j hj => by
      rcases b2 with q | q
      · exact hb1 j (by rw [← q]; exact hj)
      · rw [q] at hj
        have := Option.some.inj hj
        have := t1.size
        omega
    have hdl := S.del_len i hi
    have bb : Below w.heap.size w y := tt.below (Nat.le_refl _) (fun j e => e)
    have kY := HK.out.below bb
    refine ⟨q2, cap2, y, hr, kY.cells.2.2.1, kY.cells.2.2.2, ?_⟩
    refine HK.out.row (w' := y) rfl ?_ (Turned.of_below bb) (fun j hj => Or.inr (hb2 j hj)) (by omega) (fun j hj => ?_)
    · rw [hdl, show (S.del i).on = S.on.take i ++ S.on.drop (i + 1) from List.eraseIdx_eq_take_drop_succ S.on i]
      exact r2
    · rw [S.at_del]
      exact HK.out.fit _ (skip_lt (by omega))
  have HR1 := Hid.in hrun1
  have bb2 : Below w.heap.size w w2 := t1'.below (Nat.le_refl _) (fun j e => e)
  have hp2 : p < w2.heap.size := Nat.lt_of_lt_of_le hp bb2.size
  obtain ⟨m, hm⟩ : ∃ m, S.on.length = m := ⟨_, rfl⟩
  have HM := Hid.in hm
  have HC2 : Hid (w2.cell? ⟨p, 1, none⟩ = some (.slice (some ⟨g, 0, none⟩) m cap)) := by
    have := (HK.out.below bb2).cells.2.2.1
    rw [hv, hm] at this
    exact this
  rw [hm] at c1 hi hs hc1
  unfold maxLen at hc2
  have hadd : IntKind.i64.wrap ((i : Int) + 1) = ((i + 1 : Nat) : Int) := by
    simp only [IntKind.wrap_i64]
    omega
  clear k hl src hrow hrun1 r1 t1 b1 t1' hb1 bb2 hv f1 ll lt
  by_cases hce : cap = i + 1
  · have hmi : m = i + 1 := by omega
    obtain ⟨q2, cap2, y, hr2, cy, fy, hstep⟩ := A2 ⟨g, 0, none⟩ (cap - (i + 1)) (fun h => absurd h (by rw [HM.out]; omega))
    have HR2 := Hid.in hr2
    have HST := Hid.in hstep
    have HY : Hid (y.cell? ⟨p, 1, none⟩ = some (.slice (some ⟨g, 0, none⟩) m cap)) := by rw [← HM.out, ← HV.out]; exact cy
    have HFY := Hid.in fy
    rw [HM.out] at HR2 HST
    have e1 : m - (i + 1) = 0 := by omega
    have e2 : cap - (i + 1) = 0 := by omega
    have e3 : m - 1 = i := by omega
    rw [e1, e2, e3] at HR2
    rw [e3] at HST
    clear A2 hr2 hstep cy fy
    go_enter Tryd.func55, Tryd.ntmps55
    go_upto_region 2 with (first
      | (at_builtin; refine append_list rfl rfl rfl rfl HR1.out ?_))
    have c1' := HC2.out
    clear c1
    go_wp2_with (first
      | (at_builtin; refine append_list rfl rfl rfl rfl HR2.out ?_; have c1'' := HY.out; have f1'' := HFY.out; clear c1'))
    refine bodyPost_end (results_none Tryd.results55 _ _ _) rfl ⟨rfl, _, HST.out⟩
  · have hce2 : i + 1 < cap := by omega
    obtain ⟨q2, cap2, y, hr2, cy, fy, hstep⟩ := A2 ⟨g, (i + 1) * 13, none⟩ (cap - (i + 1)) (fun _ => rfl)
    have HR2 := Hid.in hr2
    have HST := Hid.in hstep
    have HY : Hid (y.cell? ⟨p, 1, none⟩ = some (.slice (some ⟨g, 0, none⟩) m cap)) := by rw [← HM.out, ← HV.out]; exact cy
    have HFY := Hid.in fy
    rw [HM.out] at HR2 HST
    clear A2 hr2 hstep cy fy
    go_enter Tryd.func55, Tryd.ntmps55
    go_upto_region 2 with (first
      | (at_builtin; refine append_list rfl rfl rfl rfl HR1.out ?_))
    have c1' := HC2.out
    clear c1
    go_wp2_with (first
      | (at_builtin; refine append_list rfl rfl rfl rfl HR2.out ?_; have c1'' := HY.out; have f1'' := HFY.out; clear c1'))
    refine bodyPost_end (results_none Tryd.results55 _ _ _) rfl ⟨rfl, _, HST.out⟩
end Go.Proofs.YthbffonedpeeiaaDoor
