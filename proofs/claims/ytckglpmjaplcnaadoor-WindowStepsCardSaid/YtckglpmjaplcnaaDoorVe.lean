/-
  WINDOW: where an instruction stands.
-/
import Derived.Test.YtckglpmjaplcnaaDoorVd
namespace Go.Proofs.YtckglpmjaplcnaaDoor
open Go Go.RowKit Go.Shelf
attribute [local go_sem] Oper.semAt_some
def WS.num (S : WS) (j : Nat) : Int := (S.on.getD j e0).num
set_option maxRecDepth 100000 in
set_option maxHeartbeats 1000000 in
theorem place_in (B p h c : Nat) (v : Value) (S : WS) (num : Int) (w : World) (k : Win w B p h c v S) : CallsIn Fence.wide 9 Tryd.prog 36 #[.pointer (some ⟨p, 0, none⟩), .int .i64 num] w fun e w' => ((∃ i, i < S.on.length ∧ S.num i = num ∧ (∀ j, j < i → S.num j ≠ num) ∧ e = .returned (.tuple #[.int .i64 i, .bool true])) ∨ ((∀ j, j < S.on.length → S.num j ≠ num) ∧ e = .returned (.tuple #[.int .i64 0, .bool false]))) ∧ Below w.heap.size w w' := by
  obtain ⟨hp, -, -, c2, -, -⟩ := k.cells
  obtain ⟨q, cap, rfl, hcap, hel⟩ := own_ents k.l
  obtain ⟨hs, -, -, -⟩ := k.small
  obtain ⟨N, hN⟩ : ∃ N, S.on.length = N := ⟨_, rfl⟩
  rw [hN] at c2 hs hcap hel ⊢
  have hel2 : ∀ i, i < N → ∃ g, q = some ⟨g, 0, none⟩ ∧ g < w.heap.size ∧ w.cell? ⟨g, i * 5, none⟩ = some (.int .i64 (S.num i)) := by
    intro i hi
    obtain ⟨g, h1, -, h2, h3, -⟩ := hel i hi
    exact ⟨g, h1, h2, h3⟩
  have HE := Hid.in hel2
  clear k hel hel2 hN
  refine callsIn_of_wp_marks Tryd.func36 rfl trivial ?_ rfl
  simp only [Tryd.ntmps36, List.size_toArray, List.length_cons, List.length_nil, Nat.reduceAdd, Nat.reduceSub, Array.replicate_succ, Array.replicate_zero, List.push_toArray, List.append_toArray, List.nil_append, List.cons_append]
  gi_wp2
  obtain ⟨V, hV⟩ : ∃ V, (((w.alloc (Obj.cells #[Value.pointer (some ⟨p, 0, none⟩)] 23)).alloc (Obj.cells #[Value.int .i64 num] 3)).alloc (Obj.cells #[Value.int .i64 0] 3)).alloc (Obj.cells #[Value.bool false] 4) = V := ⟨_, rfl⟩
  have hVs : V.heap.size = w.heap.size + 4 := by rw [← hV]; simp
  have hVb : Below w.heap.size w V := by
    rw [← hV]
    exact ((((Below.refl _ w).alloc (Nat.le_refl _) _).alloc (by simp) _).alloc (by simp; omega) _).alloc (by simp; omega) _
  have B0 : Boxed V w.heap.size 23 (.pointer (some ⟨p, 0, none⟩)) := by
    rw [← hV]
    exact (((Boxed.new w _ _).alloc _).alloc _).alloc _
  have B1 : Boxed V (w.heap.size + 1) 3 (.int .i64 num) := by
    have := (((Boxed.new (w.alloc (Obj.cells #[Value.pointer (some ⟨p, 0, none⟩)] 23)) 3 (.int .i64 num)).alloc (Obj.cells #[Value.int .i64 0] 3)).alloc (Obj.cells #[Value.bool false] 4))
    rw [World.size_alloc, hV] at this
    exact this
  have B2 : Boxed V (w.heap.size + 1 + 1) 3 (.int .i64 0) := by
    have := ((Boxed.new ((w.alloc (Obj.cells #[Value.pointer (some ⟨p, 0, none⟩)] 23)).alloc (Obj.cells #[Value.int .i64 num] 3)) 3 (.int .i64 0)).alloc (Obj.cells #[Value.bool false] 4))
    rw [World.size_alloc, World.size_alloc, hV] at this
    exact this
  have B3 : Boxed V (w.heap.size + 1 + 1 + 1) 4 (.bool false) := by
    have := Boxed.new (((w.alloc (Obj.cells #[Value.pointer (some ⟨p, 0, none⟩)] 23)).alloc (Obj.cells #[Value.int .i64 num] 3)).alloc (Obj.cells #[Value.int .i64 0] 3)) 4 (.bool false)
    rw [World.size_alloc, World.size_alloc, World.size_alloc, hV] at this
    exact this
  have b0 := B0.cell
  have b1 := B1.cell
  have b2 := B2.cell
  have b3 := B3.cell
  have f2 := B2.frozen
  have f3 := B3.frozen
  clear B0 B1 B2 B3
  have c2' : V.cell? ⟨p, 2, none⟩ = some (.slice q N cap) := (hVb.cell (p := ⟨p, 2, none⟩) hp).trans c2
  rw [hV]
  clear hV
  refine range_bound rfl (enters_of Tryd.func32 (by kernel_rfl) rfl) (oldest_hands (9 - 1) p N cap q V (by omega) hs (by omega) c2') rfl
    (fun i W => Below V.heap.size V W ∧ ∀ j, j < i → S.num j ≠ num)
    (fun c i W => c = .ret ∧ Below w.heap.size w W ∧ S.num i = num ∧ (∀ j, j < i → S.num j ≠ num) ∧ w.heap.size + 1 + 1 + 1 < W.heap.size ∧ W.cell? ⟨w.heap.size + 1 + 1, 0, none⟩ = some (.int .i64 i) ∧ W.cell? ⟨w.heap.size + 1 + 1 + 1, 0, none⟩ = some (.bool true))
    (fun i W W' h t => ⟨h.1.trans (t.below h.1.size (fun k hk => by omega)), h.2⟩)
    (fun c i W W' h t => ⟨h.1, h.2.1.trans (t.below h.2.1.size (fun k hk => by omega)), h.2.2.1, h.2.2.2.1, Nat.lt_of_lt_of_le h.2.2.2.2.1 t.size, t.to_cell (by have := h.2.2.2.2.1; omega) (by omega) h.2.2.2.2.2.1, t.to_cell (by have := h.2.2.2.2.1; omega) (by omega) h.2.2.2.2.2.2⟩)
    ⟨Below.refl _ _, fun j hj => by omega⟩
    (fun i => { tmps := #[.pointer (some ⟨p, 0, none⟩), .int .i64 num, .pointer (some ⟨w.heap.size, 0, none⟩), .pointer (some ⟨w.heap.size + 1, 0, none⟩), .pointer (some ⟨w.heap.size + 1 + 1, 0, none⟩), .pointer (some ⟨w.heap.size + 1 + 1 + 1, 0, none⟩), .int .i64 i, .pointer (some ⟨p, 0, none⟩), .func (.func 32) #[.pointer (some ⟨p, 0, none⟩)] #[], .int .i64 i, undef, undef, undef, undef, undef, undef, undef, undef, undef, undef, undef], defers := [] })
    ?assign ?body ?done ?stop
  case assign =>
    intro l i W K hK
    gi_wp2
    exact hK
  case body =>
    rintro l i W ⟨hB, hno⟩ hi hsz
    obtain ⟨g, rfl, hg, d0⟩ := HE.out i hi
    have d0' : W.cell? ⟨g, i * 5, none⟩ = some (.int .i64 (S.num i)) := (hB.cell (p := ⟨g, i * 5, none⟩) (by simp; omega)).trans ((hVb.cell (p := ⟨g, i * 5, none⟩) hg).trans d0)
    have x0 : W.cell? ⟨w.heap.size, 0, none⟩ = some (.pointer (some ⟨p, 0, none⟩)) := (hB.cell (p := ⟨w.heap.size, 0, none⟩) (by simp; omega)).trans b0
    have x1 : W.cell? ⟨w.heap.size + 1, 0, none⟩ = some (.int .i64 num) := (hB.cell (p := ⟨w.heap.size + 1, 0, none⟩) (by simp; omega)).trans b1
    have x2 : W.cell? ⟨w.heap.size + 1 + 1, 0, none⟩ = some (.int .i64 0) := (hB.cell (p := ⟨w.heap.size + 1 + 1, 0, none⟩) (by simp; omega)).trans b2
    have x3 : W.cell? ⟨w.heap.size + 1 + 1 + 1, 0, none⟩ = some (.bool false) := (hB.cell (p := ⟨w.heap.size + 1 + 1 + 1, 0, none⟩) (by simp; omega)).trans b3
    have y2 : W.frozen? ⟨w.heap.size + 1 + 1, 0, none⟩ = false := (hB.frozen (p := ⟨w.heap.size + 1 + 1, 0, none⟩) (by simp; omega)).trans f2
    have y3 : W.frozen? ⟨w.heap.size + 1 + 1 + 1, 0, none⟩ = false := (hB.frozen (p := ⟨w.heap.size + 1 + 1 + 1, 0, none⟩) (by simp; omega)).trans f3
    have xp : W.cell? ⟨p, 2, none⟩ = some (.slice (some ⟨g, 0, none⟩) N cap) := (hB.cell (p := ⟨p, 2, none⟩) (by simp; omega)).trans c2'
    have hsV := hB.size
    have HB := Hid.in hB
    have HNO := Hid.in hno
    clear hB hno d0 b0 b1 b2 b3 f2 f3 c2' c2 HE
    gi_wp2
    refine quiet_round (by kernel_rfl) (by kernel_rfl) (by kernel_rfl) ?_
    repeat (gi_big_quiet_step (fail))
    refine wpQuietIn_nil ?_
    rintro _ ⟨nq, rfl⟩
    gi_wp2
    · rename_i hq
      have T : Turned (fun k => k = w.heap.size + 1 + 1 ∨ k = w.heap.size + 1 + 1 + 1) W (((W.drewN nq).setCell ⟨w.heap.size + 1 + 1, 0, none⟩ (.int .i64 i)).setCell ⟨w.heap.size + 1 + 1 + 1, 0, none⟩ (.bool true)) := (((Turned.refl _ W).drewN nq).set (b := w.heap.size + 1 + 1) (Or.inl rfl) _ _).set (b := w.heap.size + 1 + 1 + 1) (Or.inr rfl) _ _
      refine ⟨kept_turned T hsz (by omega) (by omega), rfl, (hVb.trans (HB.out.mono hVb.size)).trans (T.below (by omega) (fun k hk => by omega)), eq_of_beq hq, HNO.out, by have := T.size; omega, ?_, ?_⟩
      · rw [World.cell?_setCell_other _ _ _ _ (by intro q; have := congrArg Addr.block q; simp at this)]
        exact World.cell?_setCell_same _ _ _ (by rw [World.cell?_drewN]; exact x2)
      · exact World.cell?_setCell_same _ _ _ (by rw [World.cell?_setCell_other _ _ _ _ (by intro q; have := congrArg Addr.block q; simp at this), World.cell?_drewN]; exact x3)
    · rename_i hq
      have T : Turned (fun _ => False) W (W.drewN nq) := (Turned.refl _ W).drewN nq
      refine ⟨kept_turned T hsz (fun q => q) (fun q => q), HB.out.trans (T.below hsV (fun k hk => hk.elim)), fun j hj => ?_⟩
      by_cases e : j = i
      · subst e
        intro e2
        simp [e2] at hq
      · exact HNO.out j (by omega)
  case done =>
    rintro W ⟨hB, hno⟩ hK
    have x2 : W.cell? ⟨w.heap.size + 1 + 1, 0, none⟩ = some (.int .i64 0) := (hB.cell (p := ⟨w.heap.size + 1 + 1, 0, none⟩) (by simp; omega)).trans b2
    have x3 : W.cell? ⟨w.heap.size + 1 + 1 + 1, 0, none⟩ = some (.bool false) := (hB.cell (p := ⟨w.heap.size + 1 + 1 + 1, 0, none⟩) (by simp; omega)).trans b3
    have y2 : W.frozen? ⟨w.heap.size + 1 + 1, 0, none⟩ = false := (hB.frozen (p := ⟨w.heap.size + 1 + 1, 0, none⟩) (by simp; omega)).trans f2
    have y3 : W.frozen? ⟨w.heap.size + 1 + 1 + 1, 0, none⟩ = false := (hB.frozen (p := ⟨w.heap.size + 1 + 1 + 1, 0, none⟩) (by simp; omega)).trans f3
    have hsz : V.heap.size < W.heap.size := (Array.getElem?_eq_some_iff.1 hK).1
    have HB := Hid.in hB
    have HNO := Hid.in hno
    clear hB hno HE b0 b1 b2 b3 f2 f3 c2' c2
    gi_wp2
    obtain ⟨U, hU⟩ : ∃ U, ((W.setCell ⟨w.heap.size + 1 + 1, 0, none⟩ (.int .i64 0)).setCell ⟨w.heap.size + 1 + 1 + 1, 0, none⟩ (.bool false)) = U := ⟨_, rfl⟩
    have T : Turned (fun k => k = w.heap.size + 1 + 1 ∨ k = w.heap.size + 1 + 1 + 1) W U := by
      rw [← hU]
      exact ((Turned.refl _ W).set (b := w.heap.size + 1 + 1) (Or.inl rfl) _ _).set (b := w.heap.size + 1 + 1 + 1) (Or.inr rfl) _ _
    have hK' : U.heap[V.heap.size]? = some (.deferred (some [])) := (T.block _ hsz (by omega)).trans hK
    have r2 : U.cell? ⟨w.heap.size + 1 + 1, 0, none⟩ = some (.int .i64 0) := by
      rw [← hU, World.cell?_setCell_other _ _ _ _ (by intro q; have := congrArg Addr.block q; simp at this)]
      exact World.cell?_setCell_same _ _ _ x2
    have r3 : U.cell? ⟨w.heap.size + 1 + 1 + 1, 0, none⟩ = some (.bool false) := by
      rw [← hU]
      exact World.cell?_setCell_same _ _ _ (by rw [World.cell?_setCell_other _ _ _ _ (by intro q; have := congrArg Addr.block q; simp at this)]; exact x3)
    rw [hU]
    have hUs := T.size
    have T2 : Turned (fun k => k = V.heap.size ∨ k = V.heap.size + 1) U (U.putObj V.heap.size (.deferred none)) := put_turned _ _ (Or.inl rfl)
    refine ⟨by simp, .inl ⟨_, _, rfl, run_takeDeferred hK', ?_⟩⟩
    have q2 := T2.to_cell (c := w.heap.size + 1 + 1) (by omega) (by omega) r2
    have q3 := T2.to_cell (c := w.heap.size + 1 + 1 + 1) (by omega) (by omega) r3
    refine ⟨.tuple #[.int .i64 0, .bool false], ?_, Or.inr ⟨HNO.out, rfl⟩, ((hVb.trans (HB.out.mono hVb.size)).trans (T.below (by omega) (fun k hk => by omega))).trans (T2.below (by omega) (fun k hk => by omega))⟩
    simp [results, Tryd.f36, go_sem, q2, q3]
  case stop =>
    rintro c i W hi ⟨rfl, hB, hn, hno, hsz, r2, r3⟩ hK
    have hsz2 : V.heap.size < W.heap.size := (Array.getElem?_eq_some_iff.1 hK).1
    have HB := Hid.in hB
    have HNO := Hid.in hno
    clear hB hno HE b0 b1 b2 b3 f2 f3 c2' c2
    gi_wp2
    have T2 : Turned (fun k => k = V.heap.size ∨ k = V.heap.size + 1) W (W.putObj V.heap.size (.deferred none)) := put_turned _ _ (Or.inl rfl)
    refine ⟨by simp, .inl ⟨_, _, rfl, run_takeDeferred hK, ?_⟩⟩
    have q2 := T2.to_cell (c := w.heap.size + 1 + 1) (by omega) (by omega) r2
    have q3 := T2.to_cell (c := w.heap.size + 1 + 1 + 1) (by omega) (by omega) r3
    refine ⟨.tuple #[.int .i64 i, .bool true], ?_, Or.inl ⟨i, hi, hn, HNO.out, rfl⟩, HB.out.trans (T2.below (by omega) (fun k hk => by omega))⟩
    simp [results, Tryd.f36, go_sem, q2, q3]
theorem place_any (B p h c : Nat) (v : Value) (S : WS) (num : Int) (w : World) (k : Win w B p h c v S) : Calls Tryd.prog 36 #[.pointer (some ⟨p, 0, none⟩), .int .i64 num] w fun e w' => ((∃ i, i < S.on.length ∧ S.num i = num ∧ (∀ j, j < i → S.num j ≠ num) ∧ e = .returned (.tuple #[.int .i64 i, .bool true])) ∨ ((∀ j, j < S.on.length → S.num j ≠ num) ∧ e = .returned (.tuple #[.int .i64 0, .bool false]))) ∧ Below w.heap.size w w' :=
  callsIn_wide.1 (place_in B p h c v S num w k)
end Go.Proofs.YtckglpmjaplcnaaDoor
