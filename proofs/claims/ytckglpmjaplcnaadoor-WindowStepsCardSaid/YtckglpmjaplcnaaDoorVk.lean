/-
  WINDOW: Head, Retire.
-/
import Derived.Test.YtckglpmjaplcnaaDoorVj
import Derived.Laws.IdiomCopy
import Derived.Deep.MidRow
import Derived.Lib.SliceRun
namespace Go.Proofs.YtckglpmjaplcnaaDoor
open Go Go.RowKit
theorem blk_setCell {x : World} {g : Nat} {e : TypeId} {cur : Array Value} (h : x.heap[g]? = some (.cells cur e (0, 0))) (i : Nat) (u : Value) : (x.setCell ⟨g, i, none⟩ u).heap[g]? = some (.cells (cur.setIfInBounds i u) e (0, 0)) := by
  obtain ⟨hlt, hk⟩ := Array.getElem?_eq_some_iff.1 h
  show (x.heap.modify g _)[g]? = _
  rw [Array.getElem?_eq_getElem (by rw [Array.size_modify]; exact hlt), Array.getElem_modify_self, hk]
  rfl
theorem blk_setCells {g : Nat} {e : TypeId} : ∀ (us : List Value) (i : Nat) (x : World) (cur : Array Value), x.heap[g]? = some (.cells cur e (0, 0)) → ∃ cur', (x.setCells g i us).heap[g]? = some (.cells cur' e (0, 0)) ∧ cur'.size = cur.size
  | [], _, _, cur, h => ⟨cur, h, rfl⟩
  | u :: us, i, x, cur, h => by
    obtain ⟨cur', h1, h2⟩ := blk_setCells us (i + 1) (x.setCell ⟨g, i, none⟩ u) _ (blk_setCell h i u)
    exact ⟨cur', h1, by rw [h2]; simp⟩
theorem turned_setCells {g : Nat} : ∀ (us : List Value) (i : Nat) (x : World), Turned (fun k => k = g) x (x.setCells g i us)
  | [], _, x => Turned.refl _ x
  | u :: us, i, x => ((Turned.refl (fun k => k = g) x).set (b := g) rfl i u).trans (turned_setCells us (i + 1) _)
theorem flatE_one' : ∀ (l : List Ent), ∀ u ∈ flatE l, u.oneCell' = true
  | [], u, h => by simp [flatE] at h
  | e :: l, u, h => by
    simp only [flatE, List.mem_append] at h
    rcases h with h | h
    · simp [Ent.vs] at h
      rcases h with rfl | rfl | rfl | rfl | rfl <;> rfl
    · exact flatE_one' l u h
theorem own_of_cells {x : World} {B g n cap size : Nat} {e : TypeId} {cur : Array Value} {xs : List Value} (h : x.heap[g]? = some (.cells cur e (0, 0))) (hB : B ≤ g) (hn : n ≤ cap) (hm : cap ≤ maxLen) (hs : cur.size = cap * size) (hl : xs.length = n * size) (hc : ∀ j u, xs[j]? = some u → x.cell? ⟨g, j, none⟩ = some u) : x.ownsRow B e size (.slice (some ⟨g, 0, none⟩) n cap) n xs := by
  refine ⟨hl, Or.inr ⟨g, cap, cur, rfl, hB, h, hn, hm, hs, ?_⟩⟩
  have hle : n * size ≤ cur.size := by rw [hs]; exact Nat.mul_le_mul_right _ hn
  apply List.ext_getElem?
  intro j
  rw [List.getElem?_take]
  by_cases hj : j < n * size
  · rw [if_pos hj]
    obtain ⟨u, hu⟩ : ∃ u, xs[j]? = some u := ⟨xs[j]'(by omega), List.getElem?_eq_getElem (by omega)⟩
    have := hc j u hu
    rw [hu]
    simpa [World.cell?, h] using this
  · rw [if_neg hj, List.getElem?_eq_none (by omega)]
set_option maxHeartbeats 1000000 in
theorem head_some (B p h c : Nat) (v : Value) (S : WS) (w : World) (k : Win w B p h c v S) (hn : 0 < S.on.length) : Calls Tryd.prog 25 #[.pointer (some ⟨p, 0, none⟩)] w fun e w' => e = .returned (.tuple #[.int .i64 (S.num 0), .bool (S.st 0 == 2), .bool true]) ∧ Below w.heap.size w w' := by
  obtain ⟨hp, -, -, c2, -, -⟩ := k.cells
  obtain ⟨q, cap, rfl, hcap, hel⟩ := own_ents k.l
  obtain ⟨g, rfl, hB, hg, d0, -, -, -, d4, -⟩ := hel 0 hn
  have hs := k.small.1
  unfold WS.num WS.st
  obtain ⟨n0, a0⟩ : ∃ y, (S.on.getD 0 e0).num = y := ⟨_, rfl⟩
  obtain ⟨n4, a4⟩ : ∃ y, (S.on.getD 0 e0).st = y := ⟨_, rfl⟩
  rw [a0] at d0 ⊢
  rw [a4] at d4 ⊢
  simp only [Nat.zero_mul, Nat.zero_add] at d0 d4
  clear k hel a0 a4
  go_enter Tryd.func25, Tryd.ntmps25
  go_wp2
  go_quiet (fail)
  go_wp2
  refine bodyPost_ret (results_tmp3 Tryd.results25 _ _ _) rfl ?_
  exact ⟨rfl, below_drewN w _⟩
set_option maxHeartbeats 1000000 in
theorem head_none (B p h c : Nat) (v : Value) (S : WS) (w : World) (k : Win w B p h c v S) (hn : S.on.length = 0) : Calls Tryd.prog 25 #[.pointer (some ⟨p, 0, none⟩)] w fun e w' => e = .returned (.tuple #[.int .i64 0, .bool false, .bool false]) ∧ w' = w := by
  obtain ⟨hp, -, -, c2, -, -⟩ := k.cells
  obtain ⟨q, cap, rfl, hcap, hel⟩ := own_ents k.l
  rw [hn] at c2
  clear k hel
  go_enter Tryd.func25, Tryd.ntmps25
  go_wp2
  refine bodyPost_ret (results_tmp3 Tryd.results25 _ _ _) rfl ?_
  exact ⟨rfl, rfl⟩
theorem append_op0 {P : Program} {o : Oper} {a : Act} {w w' : World} {K : Act → World → Prop} {Q : Exit → Act → World → Prop} {s x : Operand} {t : TypeId} {v u v' : Value} (ho : o.op = Op.call { callee := Callee.builtin Builtin.append, args := #[s, x], argTypes := #[t, t] }) (hs : a.eval s = v) (hx : a.eval x = u) (hr : (Builtin.append_ #[t, t] o.type #[v, u]).run P w = .ok v' w') (hK : K (a.put o.dst v') w') : o.wp P a w K Q := by
  unfold Oper.wp
  simp [execOp, ho, resolve, invoke, builtin, hs, hx, hr, Result.andThen]
  exact hK
def z5 : List Value := [.int .i64 0, .int .i64 0, .int .i64 0, .int .i64 0, .int .i64 0]
theorem clear_run (w : World) (g o c : Nat) (ty : TypeId) (hc : ∀ j, j < 5 → (w.cell? ⟨g, o + j, none⟩).isSome = true) (hf : ∀ j, j < 5 → w.frozen? ⟨g, o + j, none⟩ = false) : (Builtin.clear_ #[69] ty #[.slice (some ⟨g, o, none⟩) 1 c]).run Tryd.prog w = .ok (.tuple #[]) (w.setCells g o z5) := by
  have hst := run_storeCells_cells (P := Tryd.prog) g o z5 0 w (by simpa [z5] using hc) (by simpa [z5] using hf) (by intro v hv; simp [z5] at hv; subst hv; rfl)
  simp only [Nat.add_zero] at hst
  have hz : (Builtin.zeroCells (Value.cells (.agg #[.int .i64 0, .int .i64 0, .int .i64 0, .int .i64 0, .int .i64 0])) 1).toList = z5 := by kernel_rfl
  simp [Builtin.clear_, run_underlying Tryd.underlying69, hz, hst]
/-- what Delete does to a row -/
theorem delete_mem (B g cap : Nat) (y : Ent) (l : List Ent) (w : World) (hl : w.ownsRow B 76 5 (.slice (some ⟨g, 0, none⟩) (l.length + 1) cap) (l.length + 1) (flatE (y :: l))) :
    l.length + 1 ≤ cap ∧ cap ≤ maxLen ∧ ∃ U V, (∀ ad c, (l ≠ [] → ad = ⟨g, 5, none⟩) → (Builtin.append_ #[69, 69] 69 #[.slice (some ⟨g, 0, none⟩) 0 cap, .slice (some ad) l.length c]).run Tryd.prog w.drew = .ok (.slice (some ⟨g, 0, none⟩) l.length cap) U) ∧
      (Builtin.clear_ #[69] 0 #[.slice (some ⟨g, l.length * 5, none⟩) 1 (cap - l.length)]).run Tryd.prog U = .ok (.tuple #[]) V ∧ V.ownsRow B 76 5 (.slice (some ⟨g, 0, none⟩) l.length cap) l.length (flatE l) ∧ Turned (fun k => k = g) w V := by
  have HL := hl
  obtain ⟨i0, hi0, hz0, hz1, hz2⟩ := info_parts (show (Tryd.prog.info? 76).map (fun i => (i.zero, i.size, i.bytes)) = some (some (.agg #[.int .i64 0, .int .i64 0, .int .i64 0, .int .i64 0, .int .i64 0]), 5, 40) by kernel_rfl)
  have hone : ∀ u ∈ flatE l, u.oneCell' = true := flatE_one' l
  obtain ⟨cur, b2, b3, b4, b5, b6⟩ : ∃ cur, B ≤ g ∧ w.heap[g]? = some (.cells cur 76 (0, 0)) ∧ l.length + 1 ≤ cap ∧ cap ≤ maxLen ∧ cur.size = cap * 5 := by
    rcases hl.2 with ⟨h1, -⟩ | ⟨g', cap', cur, h1, h2, h3, h4, h5, h6, -⟩
    · cases h1
    · simp only [Value.slice.injEq, Option.some.injEq, Addr.mk.injEq] at h1
      obtain ⟨⟨rfl, -, -⟩, -, rfl⟩ := h1
      exact ⟨cur, h2, h3, h4, h5, h6⟩
  have b3' : w.drew.heap[g]? = some (.cells cur 76 (0, 0)) := b3
  have hsome : ∀ j, j < cap * 5 → (w.drew.cell? ⟨g, j, none⟩).isSome = true := by
    intro j hj
    simp only [World.cell?, b3']
    rw [Array.getElem?_eq_getElem (by omega)]
    rfl
  have hfree : ∀ j, w.drew.frozen? ⟨g, j, none⟩ = false := by
    intro j
    simp [World.frozen?, b3']
  have hcells : ∀ j u, (flatE l)[j]? = some u → w.drew.cell? ⟨g, 5 + j, none⟩ = some u := by
    intro j u hu
    have q := World.ownsRow.cells HL rfl (5 + j) u (by
      show (y.vs ++ flatE l)[5 + j]? = some u
      rw [List.getElem?_append_right (by simp [Ent.vs])]
      simpa [Ent.vs] using hu)
    rw [Addr.add_lit, Nat.zero_add] at q
    exact q
  have hfl := flatE_len l
  obtain ⟨U, hU⟩ : ∃ U, w.drew.setCells g 0 (flatE l) = U := ⟨_, rfl⟩
  have hUs : ∀ j, j < cap * 5 → (U.cell? ⟨g, j, none⟩).isSome = true := fun j hj => by rw [← hU]; exact World.isSome_setCells g _ _ _ _ (hsome j hj)
  have hUf : ∀ j, U.frozen? ⟨g, j, none⟩ = false := fun j => by rw [← hU, World.frozen?_setCells]; exact hfree j
  refine ⟨b4, b5, U, U.setCells g (l.length * 5) z5, fun ad c had => ?_, clear_run U g (l.length * 5) (cap - l.length) 0 (fun j hj => hUs _ (by omega)) (fun j _ => hUf _), ?_, ?_⟩
  · have hrun := run_append_room_cells (P := Tryd.prog) (w := w.drew) 69 69 76 i0 Tryd.underlying69 hi0 g 0 0 cap ad l.length c (flatE l) (by rw [hz1]; exact hfl) (fun j u h => by
        rw [had (fun e => by rw [e] at h; simp [flatE] at h), Addr.add_lit]
        exact hcells j u h) hone (by omega) (fun j h => by simpa using hsome j (by omega)) (fun j h => hfree _)
    simp only [Nat.zero_mul, Nat.zero_add] at hrun
    rw [hU] at hrun
    exact hrun
  · obtain ⟨cur1, e1, e2⟩ := blk_setCells (flatE l) 0 w.drew cur b3
    rw [hU] at e1
    obtain ⟨cur2, e3, e4⟩ := blk_setCells z5 (l.length * 5) U cur1 e1
    refine own_of_cells e3 b2 (by omega) b5 (by omega) hfl (fun j u hu => ?_)
    have hj : j < l.length * 5 := by
      rcases Nat.lt_or_ge j (l.length * 5) with q | q
      · exact q
      · rw [List.getElem?_eq_none (by omega)] at hu; cases hu
    rw [World.cell?_setCells_out g _ _ _ _ (fun _ _ => Or.inl hj), ← hU]
    have q := World.cell?_setCells_in g (flatE l) 0 w.drew (fun j hj => by rw [Nat.zero_add]; exact hsome j (by omega)) j (by omega)
    rw [Nat.zero_add] at q
    rw [q, ← hu, List.getElem?_eq_getElem (by omega)]
  · refine Turned.trans (y := U) ?_ (turned_setCells z5 _ _)
    rw [← hU]
    exact ((Turned.refl (fun k => k = g) w).drew).trans (turned_setCells _ _ _)
set_option maxRecDepth 100000 in
set_option maxHeartbeats 1000000 in
theorem delete_any (B g cap : Nat) (y : Ent) (l : List Ent) (w : World) (hl : w.ownsRow B 76 5 (.slice (some ⟨g, 0, none⟩) (l.length + 1) cap) (l.length + 1) (flatE (y :: l))) (h64 : l.length < 64) :
    Calls Tryd.prog 39 #[.slice (some ⟨g, 0, none⟩) (l.length + 1) cap, .int .i64 0, .int .i64 1] w fun e w' => e = .returned (.slice (some ⟨g, 0, none⟩) l.length cap) ∧ w'.ownsRow B 76 5 (.slice (some ⟨g, 0, none⟩) l.length cap) l.length (flatE l) ∧ Turned (fun k => k = g) w w' := by
  obtain ⟨hcap, hmax, U, V, h1, h2, h3⟩ := delete_mem B g cap y l w hl
  obtain ⟨m, hm⟩ : ∃ m, l.length = m := ⟨_, rfl⟩
  rw [hm] at h1 h2 h3 hcap h64 ⊢
  have hnil : m ≠ 0 → l ≠ [] := fun h e => h (by rw [← hm, e]; rfl)
  have hnil2 : l ≠ [] → m ≠ 0 := fun h e => h (List.eq_nil_of_length_eq_zero (by omega))
  have HR : Hid (∀ ad c, (m ≠ 0 → ad = ⟨g, 5, none⟩) → (Builtin.append_ #[69, 69] 69 #[.slice (some ⟨g, 0, none⟩) 0 cap, .slice (some ad) m c]).run Tryd.prog w.drew = .ok (.slice (some ⟨g, 0, none⟩) m cap) U) := fun ad c hh => h1 ad c (fun e => hh (hnil2 e))
  have HC := Hid.in h2
  have HF := Hid.in h3
  unfold maxLen at hmax
  clear hl h1 h2 h3 hm hnil hnil2
  go_enter Tryd.func39, Tryd.ntmps39
  go_wp2
  rename_i Qx Kx hx
  by_cases hc1 : cap = 1
  · obtain rfl : m = 0 := by omega
    subst hc1
    refine wp_region_any (by kernel_rfl) ?_
    change wpAny _ _ _ _ _ _ _ (World.drew _)
    refine wpAny_take (i := 0) (v := .slice (some ⟨g, 0, none⟩) (0 + 1) 1) rfl (by kernel_rfl) (by kernel_rfl) (by kernel_rfl) (fun _ _ _ h => h) (Or.inl ⟨by rfl, fun w => by go_simp⟩) ?_
    refine wpAny_take (i := 1) (v := .int .i64 0) rfl (by kernel_rfl) (by kernel_rfl) (by kernel_rfl) (fun _ _ _ h => h) (Or.inl ⟨by rfl, fun w => by go_simp⟩) ?_
    refine wpAny_take (i := 2) (v := .slice (some ⟨g, 0, none⟩) 0 1) rfl (by kernel_rfl) (by kernel_rfl) (by kernel_rfl) (fun _ _ _ h => h) (Or.inl ⟨by rfl, fun w => by go_simp⟩) ?_
    refine wpAny_take (i := 3) (v := .slice (some ⟨g, 0, none⟩) (0 + 1) 1) rfl (by kernel_rfl) (by kernel_rfl) (by kernel_rfl) (fun _ _ _ h => h) (Or.inl ⟨by rfl, fun w => by go_simp⟩) ?_
    refine wpAny_take (i := 4) (v := .int .i64 1) rfl (by kernel_rfl) (by kernel_rfl) (by kernel_rfl) (fun _ _ _ h => h) (Or.inl ⟨by rfl, fun w => by go_simp⟩) ?_
    refine wpAny_take (i := 5) (v := .slice (some ⟨g, 0, none⟩) 0 0) rfl (by kernel_rfl) (by kernel_rfl) (by kernel_rfl) (fun _ _ _ h => h) (Or.inl ⟨by rfl, fun w => by go_simp⟩) ?_
    have hrun := HR.out ⟨g, 0, none⟩ 0 (fun h => absurd rfl h)
    refine wpAny_ready (rs := [6]) (by kernel_rfl) (by simp) ?_
    refine AllReady.cons rfl (fun K hK => ?_) AllReady.nil
    rw [if_pos (by rfl)]
    refine append_op0 (v := .slice (some ⟨g, 0, none⟩) 0 1) (u := .slice (some ⟨g, 0, none⟩) 0 0) rfl (by kernel_rfl) (by kernel_rfl) hrun (hK _ _ ?_)
    clear hK K
    refine wpAny_ready (rs := [7]) (by kernel_rfl) (by simp) ?_
    refine AllReady.cons rfl (fun K hK => ?_) AllReady.nil
    go_simp
    refine hK _ _ ?_
    clear hK K
    refine wpAny_done (by kernel_rfl) ?_ _
    refine hx _ _ ?_
    clear hx Kx
    have hC := HC.out
    go_wp2
    go_ret
    exact ⟨rfl, HF.out⟩
  · have hcc : 1 < cap := by omega
    refine wp_region_any (by kernel_rfl) ?_
    change wpAny _ _ _ _ _ _ _ (World.drew _)
    refine wpAny_take (i := 0) (v := .slice (some ⟨g, 0, none⟩) (m + 1) cap) rfl (by kernel_rfl) (by kernel_rfl) (by kernel_rfl) (fun _ _ _ h => h) (Or.inl ⟨by rfl, fun w => by go_simp⟩) ?_
    refine wpAny_take (i := 1) (v := .int .i64 0) rfl (by kernel_rfl) (by kernel_rfl) (by kernel_rfl) (fun _ _ _ h => h) (Or.inl ⟨by rfl, fun w => by go_simp⟩) ?_
    refine wpAny_take (i := 2) (v := .slice (some ⟨g, 0, none⟩) 0 cap) rfl (by kernel_rfl) (by kernel_rfl) (by kernel_rfl) (fun _ _ _ h => h) (Or.inl ⟨by rfl, fun w => by go_simp⟩) ?_
    refine wpAny_take (i := 3) (v := .slice (some ⟨g, 0, none⟩) (m + 1) cap) rfl (by kernel_rfl) (by kernel_rfl) (by kernel_rfl) (fun _ _ _ h => h) (Or.inl ⟨by rfl, fun w => by go_simp⟩) ?_
    refine wpAny_take (i := 4) (v := .int .i64 1) rfl (by kernel_rfl) (by kernel_rfl) (by kernel_rfl) (fun _ _ _ h => h) (Or.inl ⟨by rfl, fun w => by go_simp⟩) ?_
    refine wpAny_take (i := 5) (v := .slice (some ⟨g, 5, none⟩) m (cap - 1)) rfl (by kernel_rfl) (by kernel_rfl) (by kernel_rfl) (fun _ _ _ h => h) (Or.inl ⟨by rfl, fun w => by go_simp; intro q; omega⟩) ?_
    have hrun := HR.out ⟨g, 5, none⟩ (cap - 1) (fun _ => rfl)
    refine wpAny_ready (rs := [6]) (by kernel_rfl) (by simp) ?_
    refine AllReady.cons rfl (fun K hK => ?_) AllReady.nil
    rw [if_pos (by rfl)]
    refine append_op0 (v := .slice (some ⟨g, 0, none⟩) 0 cap) (u := .slice (some ⟨g, 5, none⟩) m (cap - 1)) rfl (by kernel_rfl) (by kernel_rfl) hrun (hK _ _ ?_)
    clear hK K
    refine wpAny_ready (rs := [7]) (by kernel_rfl) (by simp) ?_
    refine AllReady.cons rfl (fun K hK => ?_) AllReady.nil
    go_simp
    refine hK _ _ ?_
    clear hK K
    refine wpAny_done (by kernel_rfl) ?_ _
    refine hx _ _ ?_
    clear hx Kx
    have hC := HC.out
    go_wp2
    go_ret
    exact ⟨rfl, HF.out⟩
end Go.Proofs.YtckglpmjaplcnaaDoor
