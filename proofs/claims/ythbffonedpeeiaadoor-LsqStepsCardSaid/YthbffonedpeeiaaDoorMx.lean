/-
  LSQ: Squash.
-/
import Derived.Test.YthbffonedpeeiaaDoorMw
namespace Go.Proofs.YthbffonedpeeiaaDoor
open Go Go.RowKit
theorem zero_one (n : Nat) : ∀ v ∈ (Builtin.zeroCells z8.toArray n).toList, v.oneCell' = true := by
  intro v hv
  have h : v ∈ z8 := by
    unfold Builtin.zeroCells at hv
    simp at hv
    obtain ⟨i, hi, rfl⟩ := hv
    have hlt : i % z8.length < z8.length := Nat.mod_lt _ (by decide)
    rw [List.getElem?_eq_getElem hlt]
    exact List.getElem_mem hlt
  simp only [z8, List.mem_cons, List.not_mem_nil, or_false] at h
  rcases h with rfl | rfl | rfl | rfl | rfl | rfl | rfl | rfl <;> rfl
theorem clear_rows (w : World) (g o n c : Nat) (ty : TypeId) (hc : ∀ j, j < n * 8 → (w.cell? ⟨g, o + j, none⟩).isSome = true) (hf : ∀ j, j < n * 8 → w.frozen? ⟨g, o + j, none⟩ = false) : (Builtin.clear_ #[79] ty #[.slice (some ⟨g, o, none⟩) n c]).run Tryd.prog w = .ok (.tuple #[]) (w.setCells g o (Builtin.zeroCells z8.toArray n).toList) := by
  have hlen : (Builtin.zeroCells z8.toArray n).toList.length = n * 8 := by
    rw [Array.length_toList, size_zeroCells]
    rfl
  have hst := run_storeCells_cells (P := Tryd.prog) g o (Builtin.zeroCells z8.toArray n).toList 0 w (by rw [hlen]; simpa using hc) (by rw [hlen]; simpa using hf) (zero_one n)
  simp only [Nat.add_zero] at hst
  have hz : Value.cells (.agg #[.int .i64 0, .bool false, .int .u32 0, .int .i64 0, .int .u32 0, .bool false, .bool false, .slice none 0 0]) = z8.toArray := by kernel_rfl
  cases n with
  | zero =>
    have h0 : (Builtin.zeroCells z8.toArray 0).toList = [] := by
      apply List.eq_nil_of_length_eq_zero
      rw [hlen]
    rw [h0]
    simp [Builtin.clear_, run_underlying Tryd.underlying79]
    rfl
  | succ n => simp [Builtin.clear_, run_underlying Tryd.underlying79, hz, hst]
/-- what is left of a row whose end is cleared -/
theorem clear_own (B g cap i : Nat) (l : List Ac) (w : World) (hi : i ≤ l.length) (hl : w.ownsRow B 86 8 (.slice (some ⟨g, 0, none⟩) l.length cap) l.length (flatA l)) : l.length ≤ cap ∧ cap ≤ maxLen ∧ ∃ V, (Builtin.clear_ #[79] 0 #[.slice (some ⟨g, i * 8, none⟩) (l.length - i) (cap - i)]).run Tryd.prog w = .ok (.tuple #[]) V ∧ V.ownsRow B 86 8 (.slice (some ⟨g, 0, none⟩) i cap) i (flatA (l.take i)) ∧ Turned (fun k => k = g) w V := by
  have HL := hl
  obtain ⟨cur, b2, b3, b4, b5, b6⟩ : ∃ cur, B ≤ g ∧ w.heap[g]? = some (.cells cur 86 (0, 0)) ∧ l.length ≤ cap ∧ cap ≤ maxLen ∧ cur.size = cap * 8 := by
    rcases hl.2 with ⟨h1, -⟩ | ⟨g', cap', cur, h1, h2, h3, h4, h5, h6, -⟩
    · cases h1
    · simp only [Value.slice.injEq, Option.some.injEq, Addr.mk.injEq] at h1
      obtain ⟨⟨rfl, -, -⟩, -, rfl⟩ := h1
      exact ⟨cur, h2, h3, h4, h5, h6⟩
  have hsome : ∀ j, j < cap * 8 → (w.cell? ⟨g, j, none⟩).isSome = true := by
    intro j hj
    simp only [World.cell?, b3]
    rw [Array.getElem?_eq_getElem (by omega)]
    rfl
  refine ⟨b4, b5, _, clear_rows w g (i * 8) (l.length - i) (cap - i) 0 (fun j hj => hsome _ (by omega)) (fun j _ => by simp [World.frozen?, b3]), ?_, turned_setCells _ _ _⟩
  obtain ⟨cur2, e3, e4⟩ := blk_setCells (Builtin.zeroCells z8.toArray (l.length - i)).toList (i * 8) w cur b3
  have htl : (l.take i).length = i := by rw [List.length_take]; omega
  refine own_of_cells e3 b2 (by omega) b5 (by omega) (by rw [flatA_len, htl]) (fun j u hu => ?_)
  have hj : j < i * 8 := by
    rcases Nat.lt_or_ge j (i * 8) with q | q
    · exact q
    · rw [List.getElem?_eq_none (by rw [flatA_len, htl]; exact q)] at hu; cases hu
  rw [World.cell?_setCells_out g _ _ _ _ (fun _ _ => Or.inl hj)]
  rw [← flatA_take, List.getElem?_take, if_pos hj] at hu
  have q := World.ownsRow.cells HL rfl j u hu
  rw [Addr.add_lit, Nat.zero_add] at q
  exact q
set_option maxRecDepth 100000 in
set_option maxHeartbeats 2000000 in
theorem deleteF_none (B : Nat) (v : Value) (l : List Ac) (F : Nat) (cap0 : Array Value) (f : Nat → Bool) (w : World) (hE : ∀ args w, (callFunc F args).run Tryd.prog w = .ok (.enter F args) w) (k : w.ownsRow B 86 8 v l.length (flatA l)) (hl : l.length ≤ 32)
    (hf : ∀ i, i < l.length → ∀ y, Below w.heap.size w y → Calls Tryd.prog F (#[.agg (l.getD i a0).vs.toArray] ++ cap0) y fun e z => e = .returned (.bool (f i)) ∧ Below y.heap.size y z) (hn : ∀ i, i < l.length → f i = false) :
    Calls Tryd.prog 62 #[v, .func (.func F) #[] cap0] w fun e w' => e = .returned v ∧ Below w.heap.size w w' := by
  have HC := Hid.in (index_any B v l F cap0 f w hE k hl hf)
  have HN : Hid (First f l.length (-1)) := Or.inr ⟨hn, rfl⟩
  clear hE k hf hn
  go_enter Tryd.func62, Tryd.ntmps62
  go_wp2_with (first | (refine HC.out.mono ?_; rintro e w2 ⟨r, rfl, h1, h2⟩; obtain rfl := h1.uniq HN.out; have H2 := Hid.in h2; clear h1 h2))
  go_ret
  exact ⟨rfl, H2.out⟩
set_option maxRecDepth 100000 in
set_option maxHeartbeats 2000000 in
theorem deleteF_some (B g cap i : Nat) (l : List Ac) (F : Nat) (cap0 : Array Value) (f : Nat → Bool) (w : World) (hE : ∀ args w, (callFunc F args).run Tryd.prog w = .ok (.enter F args) w) (k : w.ownsRow B 86 8 (.slice (some ⟨g, 0, none⟩) l.length cap) l.length (flatA l)) (hl : l.length ≤ 32)
    (hf : ∀ i, i < l.length → ∀ y, Below w.heap.size w y → Calls Tryd.prog F (#[.agg (l.getD i a0).vs.toArray] ++ cap0) y fun e z => e = .returned (.bool (f i)) ∧ Below y.heap.size y z) (hi : i < l.length) (h1 : ∀ j, j < i → f j = false) (h2 : ∀ j, i ≤ j → j < l.length → f j = true) :
    Calls Tryd.prog 62 #[.slice (some ⟨g, 0, none⟩) l.length cap, .func (.func F) #[] cap0] w fun e w' => e = .returned (.slice (some ⟨g, 0, none⟩) i cap) ∧ w'.ownsRow B 86 8 (.slice (some ⟨g, 0, none⟩) i cap) i (flatA (l.take i)) ∧ Turned (fun k => k = g) w w' := by
  have HC := Hid.in (index_any B _ l F cap0 f w hE k hl hf)
  have HN : Hid (First f l.length i) := Or.inl ⟨i, hi, h2 i (Nat.le_refl _) hi, h1, rfl⟩
  have hb := (clear_own B g cap i l w (by omega) k)
  have hcap := hb.1
  have hmax := hb.2.1
  unfold maxLen at hmax
  obtain ⟨q, cap', hv, -, hel⟩ := own_row k
  cases hv
  have hgl : g < w.heap.size := (own_base k g rfl).2
  have HEL : Hid (∀ j, j < l.length → w.rangeAt g (j * 8) (l.getD j a0).vs) := fun j hj => by
    obtain ⟨g', e1, -, -, h3, -⟩ := hel j hj
    cases e1
    exact h3
  have HK := Hid.in k
  have HF := Hid.in hf
  have H2 := Hid.in h2
  obtain ⟨m, hm⟩ : ∃ m, l.length = m := ⟨_, rfl⟩
  have HM := Hid.in hm
  rw [hm] at hi hl hcap ⊢
  have hne : ((i : Int) == -1) = false := by simp
  clear k hf h1 h2 hb hel hm
  go_enter Tryd.func62, Tryd.ntmps62
  go_wp2_with (first | (rw [← HM.out]; refine HC.out.mono ?_; rintro e w2 ⟨r, rfl, h1, h2⟩; obtain rfl := h1.uniq HN.out; have HW := Hid.in h2; clear h1 h2; rw [HM.out]))
  go_loopw [5, 6] (fun iv u wr => ∃ j : Nat, iv = .int .i64 i ∧ u = .int .i64 j ∧ i < j ∧ j ≤ m ∧ Below w.heap.size w wr) (fun _ v _ => 33 - (intOf v).toNat)
  case atStart => exact ⟨i + 1, rfl, by simp, by omega, by omega, HW.out⟩
  case round =>
    obtain ⟨j, rfl, rfl, hij, hjm, hbw⟩ := hrel
    have HBW := Hid.in hbw
    by_cases hj : j < m
    · have hjl : j < l.length := by rw [HM.out]; exact hj
      have HR := range_turned (HEL.out j hjl) (Turned.of_below (Q := fun _ => False) hbw) hgl (fun q => q)
      have hfj : f j = true := H2.out j (by omega) hjl
      have hcal := HF.out j hjl
      generalize l.getD j a0 = ej at HR hcal
      have HR := Hid.in HR
      have hmul : (j : Int) * 8 = ((j * 8 : Nat) : Int) := by omega
      rw [hfj] at hcal
      have HCAL := Hid.in hcal
      clear hbw hcal hfj
      go_upto_region 8 with (first
        | (refine ld_accG g (j * 8) ej HR.out rfl _ rfl rfl ?_)
        | (refine ld_new ej za rfl wr.heap.size rfl rfl rfl _ _ rfl rfl rfl ?_))
      obtain ⟨Y, hY, rY, bY, hsY⟩ := boxed ej wr 86
      rw [hY]
      have HRY := Hid.in rY
      have HBY := Hid.in (HBW.out.trans (bY.mono HBW.out.size))
      have HCC := Hid.in (HCAL.out Y HBY.out)
      clear hY rY bY
      go_wp2_with (first
        | (refine ld_accG wr.heap.size 0 ej HRY.out rfl _ rfl rfl ?_)
        | (refine HCC.out.mono ?_; rintro e w5 ⟨rfl, hb5⟩; have HB5 := Hid.in hb5; clear hb5))
      go_roundw
      case rel => exact ⟨j + 1, rfl, by simp, by omega, by omega, HBY.out.trans (HB5.out.mono HBY.out.size)⟩
      case measure =>
        simp [intOf]
        omega
    · obtain rfl : j = m := by omega
      have kw := own_turned HK.out (Turned.of_below (Q := fun _ => False) hbw) (fun _ _ q => q)
      obtain ⟨-, -, V, hV1, hV2, hV3⟩ := clear_own B g cap i l wr (by have := HM.out; omega) kw
      rw [HM.out] at hV1
      have HV2 := Hid.in hV2
      have HV3 := Hid.in hV3
      clear hbw kw hV2 hV3
      go_wp2
      go_ret
      exact ⟨rfl, HV2.out, (Turned.of_below HBW.out).trans HV3.out⟩
end Go.Proofs.YthbffonedpeeiaaDoor
