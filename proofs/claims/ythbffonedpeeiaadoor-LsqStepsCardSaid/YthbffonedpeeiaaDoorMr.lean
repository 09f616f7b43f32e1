/-
  LSQ: one access less.
-/
import Derived.Test.YthbffonedpeeiaaDoorMq
import Derived.Lib.SliceRun
namespace Go.Proofs.YthbffonedpeeiaaDoor
open Go Go.RowKit
def z8 : List Value := [.int .i64 0, .bool false, .int .u32 0, .int .i64 0, .int .u32 0, .bool false, .bool false, .slice none 0 0]
theorem clear_run (w : World) (g o c : Nat) (ty : TypeId) (hc : ∀ j, j < 8 → (w.cell? ⟨g, o + j, none⟩).isSome = true) (hf : ∀ j, j < 8 → w.frozen? ⟨g, o + j, none⟩ = false) : (Builtin.clear_ #[79] ty #[.slice (some ⟨g, o, none⟩) 1 c]).run Tryd.prog w = .ok (.tuple #[]) (w.setCells g o z8) := by
  have hst := run_storeCells_cells (P := Tryd.prog) g o z8 0 w (by simpa [z8] using hc) (by simpa [z8] using hf) (by intro v hv; simp only [z8, List.mem_cons, List.not_mem_nil, or_false] at hv; rcases hv with rfl | rfl | rfl | rfl | rfl | rfl | rfl | rfl <;> rfl)
  simp only [Nat.add_zero] at hst
  have hz : (Builtin.zeroCells (Value.cells (.agg #[.int .i64 0, .bool false, .int .u32 0, .int .i64 0, .int .u32 0, .bool false, .bool false, .slice none 0 0])) 1).toList = z8 := by kernel_rfl
  simp [Builtin.clear_, run_underlying Tryd.underlying79, hz, hst]
theorem erase_len (l : List Ac) (k : Nat) (h : k < l.length) : (l.eraseIdx k).length = l.length - 1 := List.length_eraseIdx_of_lt h
theorem erase_eq (l : List Ac) (k : Nat) : l.eraseIdx k = l.take k ++ l.drop (k + 1) := List.eraseIdx_eq_take_drop_succ l k
set_option maxHeartbeats 1000000 in
/-- what Delete does to a row -/
theorem delete_mem (B g cap k : Nat) (l : List Ac) (w : World) (hk : k < l.length) (hl : w.ownsRow B 86 8 (.slice (some ⟨g, 0, none⟩) l.length cap) l.length (flatA l)) :
    l.length ≤ cap ∧ cap ≤ maxLen ∧ ∃ U V, (∀ ad c, (k + 1 < l.length → ad = ⟨g, (k + 1) * 8, none⟩) → (Builtin.append_ #[79, 79] 79 #[.slice (some ⟨g, 0, none⟩) k cap, .slice (some ad) (l.length - (k + 1)) c]).run Tryd.prog w.drew = .ok (.slice (some ⟨g, 0, none⟩) (l.length - 1) cap) U) ∧
      (Builtin.clear_ #[79] 0 #[.slice (some ⟨g, (l.length - 1) * 8, none⟩) 1 (cap - (l.length - 1))]).run Tryd.prog U = .ok (.tuple #[]) V ∧ V.ownsRow B 86 8 (.slice (some ⟨g, 0, none⟩) (l.length - 1) cap) (l.length - 1) (flatA (l.eraseIdx k)) ∧ Turned (fun k => k = g) w V := by
  have HL := hl
  obtain ⟨i0, hi0, hz0, hz1, hz2⟩ := info_parts (show (Tryd.prog.info? 86).map (fun i => (i.zero, i.size, i.bytes)) = some (some (.agg #[.int .i64 0, .bool false, .int .u32 0, .int .i64 0, .int .u32 0, .bool false, .bool false, .slice none 0 0]), 8, 56) by kernel_rfl)
  obtain ⟨cur, b2, b3, b4, b5, b6⟩ : ∃ cur, B ≤ g ∧ w.heap[g]? = some (.cells cur 86 (0, 0)) ∧ l.length ≤ cap ∧ cap ≤ maxLen ∧ cur.size = cap * 8 := by
    rcases hl.2 with ⟨h1, -⟩ | ⟨g', cap', cur, h1, h2, h3, h4, h5, h6, -⟩
    · cases h1
    · simp only [Value.slice.injEq, Option.some.injEq, Addr.mk.injEq] at h1
      obtain ⟨⟨rfl, -, -⟩, -, rfl⟩ := h1
      exact ⟨cur, h2, h3, h4, h5, h6⟩
  have b3' : w.drew.heap[g]? = some (.cells cur 86 (0, 0)) := b3
  have hsome : ∀ j, j < cap * 8 → (w.drew.cell? ⟨g, j, none⟩).isSome = true := by
    intro j hj
    simp only [World.cell?, b3']
    rw [Array.getElem?_eq_getElem (by omega)]
    rfl
  have hfree : ∀ j, w.drew.frozen? ⟨g, j, none⟩ = false := by
    intro j
    simp [World.frozen?, b3']
  have hcell0 : ∀ j u, (flatA l)[j]? = some u → w.drew.cell? ⟨g, j, none⟩ = some u := by
    intro j u hu
    have q := World.ownsRow.cells HL rfl j u hu
    rw [Addr.add_lit, Nat.zero_add] at q
    exact q
  have hdl : (l.drop (k + 1)).length = l.length - (k + 1) := by simp
  have hcells : ∀ j u, (flatA (l.drop (k + 1)))[j]? = some u → w.drew.cell? ⟨g, (k + 1) * 8 + j, none⟩ = some u := by
    intro j u hu
    rw [← flatA_drop, List.getElem?_drop] at hu
    exact hcell0 _ u hu
  have hfl := flatA_len (l.drop (k + 1))
  rw [hdl] at hfl
  obtain ⟨U, hU⟩ : ∃ U, w.drew.setCells g (k * 8) (flatA (l.drop (k + 1))) = U := ⟨_, rfl⟩
  have hUs : ∀ j, j < cap * 8 → (U.cell? ⟨g, j, none⟩).isSome = true := fun j hj => by rw [← hU]; exact World.isSome_setCells g _ _ _ _ (hsome j hj)
  have hUf : ∀ j, U.frozen? ⟨g, j, none⟩ = false := fun j => by rw [← hU, World.frozen?_setCells]; exact hfree j
  refine ⟨b4, b5, U, U.setCells g ((l.length - 1) * 8) z8, fun ad c had => ?_, clear_run U g ((l.length - 1) * 8) (cap - (l.length - 1)) 0 (fun j hj => hUs _ (by omega)) (fun j _ => hUf _), ?_, ?_⟩
  · have hrun := run_append_room_cells (P := Tryd.prog) (w := w.drew) 79 79 86 i0 Tryd.underlying79 hi0 g 0 k cap ad (l.length - (k + 1)) c (flatA (l.drop (k + 1))) (by rw [hz1]; exact hfl) (fun j u h => by
        rw [had (by
          have : j < (flatA (l.drop (k + 1))).length := by
            rcases Nat.lt_or_ge j (flatA (l.drop (k + 1))).length with q | q
            · exact q
            · rw [List.getElem?_eq_none q] at h; cases h
          omega), Addr.add_lit]
        exact hcells j u h) (flatA_one' _) (by omega) (fun j h => by
          have := hsome (k * 8 + j) (by rw [hfl] at h; omega)
          rw [hz1]
          simpa using this) (fun j h => hfree _)
    rw [hz1] at hrun
    simp only [Nat.zero_add] at hrun
    rw [hU, show k + (l.length - (k + 1)) = l.length - 1 by omega] at hrun
    exact hrun
  · obtain ⟨cur1, e1, e2⟩ := blk_setCells (flatA (l.drop (k + 1))) (k * 8) w.drew cur b3
    rw [hU] at e1
    obtain ⟨cur2, e3, e4⟩ := blk_setCells z8 ((l.length - 1) * 8) U cur1 e1
    have hel := erase_len l k hk
    refine own_of_cells e3 b2 (by omega) b5 (by omega) (by rw [flatA_len, hel]) (fun j u hu => ?_)
    have hj : j < (l.length - 1) * 8 := by
      rcases Nat.lt_or_ge j ((l.length - 1) * 8) with q | q
      · exact q
      · rw [List.getElem?_eq_none (by rw [flatA_len, hel]; exact q)] at hu; cases hu
    rw [World.cell?_setCells_out g _ _ _ _ (fun _ _ => Or.inl hj), ← hU]
    rw [erase_eq, flatA_app] at hu
    have htl : (flatA (l.take k)).length = k * 8 := by rw [flatA_len, List.length_take, Nat.min_eq_left (by omega)]
    rcases Nat.lt_or_ge j (k * 8) with q | q
    · rw [List.getElem?_append_left (by omega)] at hu
      rw [World.cell?_setCells_out g _ _ _ _ (fun _ _ => Or.inl q)]
      rw [← flatA_take, List.getElem?_take, if_pos q] at hu
      exact hcell0 j u hu
    · rw [List.getElem?_append_right (by omega), htl] at hu
      have q2 := World.cell?_setCells_in g (flatA (l.drop (k + 1))) (k * 8) w.drew (fun i hi => hsome _ (by rw [hfl] at hi; omega)) (j - k * 8) (by rw [hfl]; omega)
      rw [show k * 8 + (j - k * 8) = j by omega] at q2
      rw [q2, ← hu, List.getElem?_eq_getElem (by rw [hfl]; omega)]
  · refine Turned.trans (y := U) ?_ (turned_setCells z8 _ _)
    rw [← hU]
    exact ((Turned.refl (fun k => k = g) w).drew).trans (turned_setCells _ _ _)
set_option maxRecDepth 100000 in
set_option maxHeartbeats 1000000 in
theorem delete_any (B g cap k : Nat) (l : List Ac) (w : World) (hk : k < l.length) (hl : w.ownsRow B 86 8 (.slice (some ⟨g, 0, none⟩) l.length cap) l.length (flatA l)) (h32 : l.length ≤ 32) :
    Calls Tryd.prog 53 #[.slice (some ⟨g, 0, none⟩) l.length cap, .int .i64 k, .int .i64 ((k : Int) + 1)] w fun e w' => e = .returned (.slice (some ⟨g, 0, none⟩) (l.length - 1) cap) ∧ w'.ownsRow B 86 8 (.slice (some ⟨g, 0, none⟩) (l.length - 1) cap) (l.length - 1) (flatA (l.eraseIdx k)) ∧ Turned (fun k => k = g) w w' := by
  obtain ⟨hcap, hmax, U, V, h1, h2, h3⟩ := delete_mem B g cap k l w hk hl
  obtain ⟨m, hm⟩ : ∃ m, l.length = m := ⟨_, rfl⟩
  rw [hm] at h1 h2 h3 hcap h32 hk ⊢
  have HR := Hid.in h1
  have HC := Hid.in h2
  have HF := Hid.in h3
  unfold maxLen at hmax
  have hk1 : ((k : Int) == (k : Int) + 1) = false := by
    rw [beq_eq_false_iff_ne]
    omega
  clear hl h1 h2 h3 hm
  go_enter Tryd.func53, Tryd.ntmps53
  go_wp2
  rename_i Qx Kx hx
  by_cases hc1 : cap = k + 1
  · refine wp_region_any (by kernel_rfl) ?_
    change wpAny _ _ _ _ _ _ _ (World.drew _)
    refine wpAny_take (i := 0) (v := .slice (some ⟨g, 0, none⟩) m cap) rfl (by kernel_rfl) (by kernel_rfl) (by kernel_rfl) (fun _ _ _ h => h) (Or.inl ⟨by rfl, fun w => by go_simp⟩) ?_
    refine wpAny_take (i := 1) (v := .int .i64 k) rfl (by kernel_rfl) (by kernel_rfl) (by kernel_rfl) (fun _ _ _ h => h) (Or.inl ⟨by rfl, fun w => by go_simp⟩) ?_
    refine wpAny_take (i := 2) (v := .slice (some ⟨g, 0, none⟩) k cap) rfl (by kernel_rfl) (by kernel_rfl) (by kernel_rfl) (fun _ _ _ h => h) (Or.inl ⟨by rfl, fun w => by go_simp; (try (intro q; omega))⟩) ?_
    refine wpAny_take (i := 3) (v := .slice (some ⟨g, 0, none⟩) m cap) rfl (by kernel_rfl) (by kernel_rfl) (by kernel_rfl) (fun _ _ _ h => h) (Or.inl ⟨by rfl, fun w => by go_simp⟩) ?_
    refine wpAny_take (i := 4) (v := .int .i64 ((k : Int) + 1)) rfl (by kernel_rfl) (by kernel_rfl) (by kernel_rfl) (fun _ _ _ h => h) (Or.inl ⟨by rfl, fun w => by go_simp⟩) ?_
    refine wpAny_take (i := 5) (v := .slice (some ⟨g, 0, none⟩) (m - (k + 1)) (cap - (k + 1))) rfl (by kernel_rfl) (by kernel_rfl) (by kernel_rfl) (fun _ _ _ h => h) (Or.inl ⟨by rfl, fun w => by go_simp; (try (intro q; omega))⟩) ?_
    have hrun := HR.out ⟨g, 0, none⟩ (cap - (k + 1)) (fun h => by omega)
    refine wpAny_ready (rs := [6]) (by kernel_rfl) (by simp) ?_
    refine AllReady.cons rfl (fun K hK => ?_) AllReady.nil
    rw [if_pos (by rfl)]
    refine append_op0 (v := .slice (some ⟨g, 0, none⟩) k cap) (u := .slice (some ⟨g, 0, none⟩) (m - (k + 1)) (cap - (k + 1))) rfl (by kernel_rfl) (by kernel_rfl) hrun (hK _ _ ?_)
    clear hK K
    refine wpAny_ready (rs := [7]) (by kernel_rfl) (by simp) ?_
    refine AllReady.cons rfl (fun K hK => ?_) AllReady.nil
    go_simp
    refine hK _ _ ?_
    clear hK K
    refine wpAny_done (by kernel_rfl) ?_ _
    refine hx _ _ ?_
    clear hx Kx hrun
    have hC := HC.out
    rw [hc1] at hC
    have e1 : m - (m - 1) = 1 := by omega
    go_wp2
    go_ret
    exact ⟨by rw [hc1]; rfl, HF.out⟩
  · have hcc : k + 1 < cap := by omega
    refine wp_region_any (by kernel_rfl) ?_
    change wpAny _ _ _ _ _ _ _ (World.drew _)
    refine wpAny_take (i := 0) (v := .slice (some ⟨g, 0, none⟩) m cap) rfl (by kernel_rfl) (by kernel_rfl) (by kernel_rfl) (fun _ _ _ h => h) (Or.inl ⟨by rfl, fun w => by go_simp⟩) ?_
    refine wpAny_take (i := 1) (v := .int .i64 k) rfl (by kernel_rfl) (by kernel_rfl) (by kernel_rfl) (fun _ _ _ h => h) (Or.inl ⟨by rfl, fun w => by go_simp⟩) ?_
    refine wpAny_take (i := 2) (v := .slice (some ⟨g, 0, none⟩) k cap) rfl (by kernel_rfl) (by kernel_rfl) (by kernel_rfl) (fun _ _ _ h => h) (Or.inl ⟨by rfl, fun w => by go_simp; (try (intro q; omega))⟩) ?_
    refine wpAny_take (i := 3) (v := .slice (some ⟨g, 0, none⟩) m cap) rfl (by kernel_rfl) (by kernel_rfl) (by kernel_rfl) (fun _ _ _ h => h) (Or.inl ⟨by rfl, fun w => by go_simp⟩) ?_
    refine wpAny_take (i := 4) (v := .int .i64 ((k : Int) + 1)) rfl (by kernel_rfl) (by kernel_rfl) (by kernel_rfl) (fun _ _ _ h => h) (Or.inl ⟨by rfl, fun w => by go_simp⟩) ?_
    refine wpAny_take (i := 5) (v := .slice (some ⟨g, (k + 1) * 8, none⟩) (m - (k + 1)) (cap - (k + 1))) rfl (by kernel_rfl) (by kernel_rfl) (by kernel_rfl) (fun _ _ _ h => h) (Or.inl ⟨by rfl, fun w => by go_simp; (try (intro q; omega))⟩) ?_
    have hrun := HR.out ⟨g, (k + 1) * 8, none⟩ (cap - (k + 1)) (fun _ => rfl)
    refine wpAny_ready (rs := [6]) (by kernel_rfl) (by simp) ?_
    refine AllReady.cons rfl (fun K hK => ?_) AllReady.nil
    rw [if_pos (by rfl)]
    refine append_op0 (v := .slice (some ⟨g, 0, none⟩) k cap) (u := .slice (some ⟨g, (k + 1) * 8, none⟩) (m - (k + 1)) (cap - (k + 1))) rfl (by kernel_rfl) (by kernel_rfl) hrun (hK _ _ ?_)
    clear hK K
    refine wpAny_ready (rs := [7]) (by kernel_rfl) (by simp) ?_
    refine AllReady.cons rfl (fun K hK => ?_) AllReady.nil
    go_simp
    refine hK _ _ ?_
    clear hK K
    refine wpAny_done (by kernel_rfl) ?_ _
    refine hx _ _ ?_
    clear hx Kx hrun
    have hC := HC.out
    have e1 : m - (m - 1) = 1 := by omega
    go_wp2
    go_ret
    exact ⟨rfl, HF.out⟩
end Go.Proofs.YthbffonedpeeiaaDoor
