/-
  WINDOW's LAW WindowSteps: own: a list is its caller's.
-/
import Derived.Test.YtckglpmjaplcnaaDoorUj
namespace Go.Proofs.YtckglpmjaplcnaaDoor
open Go Go.RowKit
def flatP (E : List (Value × Value)) : List Value := E.flatMap fun e => [e.1, e.2]
theorem flatP_len (E : List (Value × Value)) : (flatP E).length = E.length * 2 := by
  induction E with
  | nil => rfl
  | cons e l ih => simp only [flatP, List.flatMap_cons, List.length_append, List.length_cons, List.length_nil] at ih ⊢; omega
theorem flatP_app (E K : List (Value × Value)) : flatP (E ++ K) = flatP E ++ flatP K := by simp [flatP]
theorem ints_set (l : List Int) (i : Nat) (z : Int) : (ints l).set i (.int .i64 z) = ints (l.set i z) := by simp [ints, List.map_set]
theorem app_int2 {B : Nat} (x : World) (gv : Value) (G : List Int) (c : Int) (hr : x.ownsRow B 3 1 gv G.length (ints G)) (hl : G.length ≤ 1000000) (hB : B ≤ x.heap.size) : ∃ g cap y, (Builtin.append_ #[48, 48] 48 #[gv, .slice (some ⟨x.heap.size, 0, none⟩) 1 1]).run Tryd.prog (x.alloc (.cells #[.int .i64 c] 3)) = .ok (.slice (some ⟨g, 0, none⟩) (G.length + 1) cap) y ∧ y.ownsRow B 3 1 (.slice (some ⟨g, 0, none⟩) (G.length + 1) cap) (G.length + 1) (ints (G ++ [c])) ∧ ((gv.ownBlock = some g ∧ Turned (fun k => k = g) x y) ∨ (x.heap.size ≤ g ∧ Below x.heap.size x y)) := by
  obtain ⟨g, cap, y, h1, h2, h3, h4⟩ := app_int x gv G c hr hl hB
  obtain ⟨i0, hi0, hz0, hz1, hz2⟩ := info_parts (show (Tryd.prog.info? 3).map (fun i => (i.zero, i.size, i.bytes)) = some (some (.int .i64 0), 1, 8) by kernel_rfl)
  rcases hr.2 with ⟨rfl, hn⟩ | ⟨gg, cc, cur, rfl, b2, b3, b4, b5, b6, b7⟩
  · refine ⟨g, cap, y, h1, h2, Or.inr ⟨?_, ?_⟩⟩
    · rcases h4 with q | q
      · simp [Value.ownBlock] at q
      · exact q
    · exact ⟨h3.os, h3.tape, h3.output, h3.size, fun k hk => h3.block k hk (fun q => by simp [Value.ownBlock] at q)⟩
  · by_cases hf : G.length + 1 ≤ cc
    · have hb : Below x.heap.size x (x.alloc (.cells #[.int .i64 c] 3)) := (Below.refl _ x).alloc (Nat.le_refl _) _
      have hgx : gg < x.heap.size := (Array.getElem?_eq_some_iff.1 b3).1
      have b3' : (x.alloc (.cells #[.int .i64 c] 3)).heap[gg]? = some (.cells cur 3 (0, 0)) := (hb.block gg hgx).trans b3
      have hrun := run_append_room_cells (P := Tryd.prog) (w := x.alloc (.cells #[.int .i64 c] 3)) 48 48 3 i0 Tryd.underlying48 hi0 gg 0 G.length cc ⟨x.heap.size, 0, none⟩ 1 1 [.int .i64 c] (by rw [hz1]; rfl) (cell_one_new _ _ _) (by simp [Value.oneCell']) hf (fun j hj => by
          simp at hj
          subst hj
          rw [hz1]
          simp only [World.cell?, b3', Nat.zero_add, Nat.mul_one, Nat.add_zero]
          rw [Array.getElem?_eq_getElem (by omega)]
          rfl) (fun j hj => by simp [World.frozen?, b3'])
      rw [hrun] at h1
      simp only [Result.ok.injEq, Value.slice.injEq, Option.some.injEq, Addr.mk.injEq] at h1
      obtain ⟨⟨⟨rfl, -, -⟩, -, rfl⟩, rfl⟩ := h1
      refine ⟨gg, cc, _, hrun, h2, Or.inl ⟨rfl, ?_⟩⟩
      exact h3.mono fun k q => by simp [Value.ownBlock] at q; exact q.symm
    · obtain ⟨v', w1, hrun, r1, r2⟩ := run_append_arg_grows (P := Tryd.prog) (w := x.alloc (.cells #[.int .i64 c] 3)) 48 48 3 i0 (.int .i64 0) 1 8 Tryd.underlying48 hi0 hz0 hz1 hz2 rfl (by decide) ⟨gg, 0, none⟩ G.length cc (ints G) (by simp [ints]) (fun j u hj => by
          have q := World.ownsRow.cells (hr.alloc (.cells #[.int .i64 c] 3)) rfl j u hj
          exact q) ⟨x.heap.size, 0, none⟩ 1 1 [.int .i64 c] rfl (cell_one_new _ _ _) (by omega) (by unfold maxLen; omega) (by omega)
      rw [hrun] at h1
      simp only [Result.ok.injEq] at h1
      obtain ⟨rfl, rfl⟩ := h1
      have hg := (own_base r1 g rfl).1
      rw [World.size_alloc] at hg
      refine ⟨g, cap, _, hrun, h2, Or.inr ⟨by omega, ?_⟩⟩
      exact ((Below.refl _ x).alloc (Nat.le_refl _) _).trans (((Below.refl _ _).grown r2 (Nat.le_refl _) (fun _ q => by cases q)).mono (by simp))
theorem app_held {B : Nat} (x : World) (hv : Value) (E : List (Value × Value)) (e1 e2 e3 e4 : Value) (s1 : e1.oneCell' = true) (s2 : e2.oneCell' = true) (s3 : e3.oneCell' = true) (s4 : e4.oneCell' = true) (hr : x.ownsRow B 52 2 hv E.length (flatP E)) (hl : E.length ≤ 1000000) (hB : B ≤ x.heap.size) : ∃ g cap y, (Builtin.append_ #[32, 32] 32 #[hv, .slice (some ⟨x.heap.size, 0, none⟩) 2 2]).run Tryd.prog (x.alloc (.cells #[e1, e2, e3, e4] 52)) = .ok (.slice (some ⟨g, 0, none⟩) (E.length + 2) cap) y ∧ y.ownsRow B 52 2 (.slice (some ⟨g, 0, none⟩) (E.length + 2) cap) (E.length + 2) (flatP (E ++ [(e1, e2), (e3, e4)])) ∧ Turned (fun j => hv.ownBlock = some j) x y ∧ (hv.ownBlock = some g ∨ x.heap.size ≤ g) := by
  obtain ⟨i0, hi0, hz0, hz1, hz2⟩ := info_parts (show (Tryd.prog.info? 52).map (fun i => (i.zero, i.size, i.bytes)) = some (some (.agg #[.slice none 0 0, .slice none 0 0]), 2, 48) by kernel_rfl)
  obtain ⟨v', w1, hrun, r1, r2, r3, r4⟩ := run_append_own_at (P := Tryd.prog) (w := x.alloc (.cells #[e1, e2, e3, e4] 52)) B 32 32 52 i0 (.agg #[.slice none 0 0, .slice none 0 0]) 2 48 Tryd.underlying32 hi0 hz0 hz1 hz2 rfl (by decide) hv E.length (flatP E) (hr.alloc _) ⟨x.heap.size, 0, none⟩ 2 2 [e1, e2, e3, e4] rfl (fun j u hj => by
      rw [Addr.add_lit, Nat.zero_add]
      refine (World.cell?_alloc_new x _ _ j).trans ?_
      rw [← hj]
      simp) (fun u hu => by
      simp at hu
      rcases hu with rfl | rfl | rfl | rfl
      · exact s1
      · exact s2
      · exact s3
      · exact s4) (by unfold maxLen; omega) (by omega) (by simp; omega)
  obtain ⟨g, cap, rfl⟩ := Go.ownsRow_succ (k := E.length + 1) r1
  have e : flatP (E ++ [(e1, e2), (e3, e4)]) = flatP E ++ [e1, e2, e3, e4] := by simp [flatP]
  refine ⟨g, cap, w1, hrun, by rw [e]; exact r1, (((Turned.refl _ x).alloc _).trans (turned_grown r2)), ?_⟩
  rcases r4 with q | q
  · exact Or.inl q.symm
  · right
    simp [Value.ownBlock] at q
    omega
set_option maxRecDepth 100000 in
set_option maxHeartbeats 4000000 in
theorem own_any (B : Nat) (hv lv : Value) (E : List (Value × Value)) (L : List Int) (w : World) (hh : w.ownsRow B 52 2 hv E.length (flatP E)) (hl : w.ownsRow B 3 1 lv L.length (ints L)) (hE : E.length ≤ 9000) (hL : L.length ≤ 64) (hB : B ≤ w.heap.size) (hne : ∀ k, hv.ownBlock = some k → lv.ownBlock ≠ some k) :
    Calls Tryd.prog 15 #[hv, lv] w fun e y => ∃ (g cap : Nat) (av gv bv : Value) (n m : Nat) (F G : Nat → Int), e = .returned (.slice (some ⟨g, 0, none⟩) (E.length + 2) cap) ∧ y.ownsRow B 52 2 (.slice (some ⟨g, 0, none⟩) (E.length + 2) cap) (E.length + 2) (flatP (E ++ [(lv, av), (gv, bv)])) ∧ Row y lv n F ∧ Row y av n F ∧ Row y gv m G ∧ Row y bv m G ∧ Turned (fun k => lv.ownBlock = some k ∨ hv.ownBlock = some k) w y ∧ (hv.ownBlock = some g ∨ w.heap.size ≤ g) ∧ lv.ownBlock ≠ some g ∧ (∀ u, u = av ∨ u = gv ∨ u = bv → ∀ k, u.ownBlock = some k → (lv.ownBlock = some k ∨ w.heap.size ≤ k) ∧ k ≠ g ∧ k < y.heap.size) := by
  obtain ⟨lq, lcap, rfl, hlc, -⟩ := own_ints hl
  obtain ⟨n, hn⟩ : ∃ n, L.length = n := ⟨_, rfl⟩
  rw [hn] at hl hL hlc hne ⊢
  obtain ⟨en, hen⟩ : ∃ en, E.length = en := ⟨_, rfl⟩
  obtain ⟨hq, hcap, hhv⟩ : ∃ hq hcap, hv = .slice hq en hcap := by
    rcases hh.2 with ⟨h1, h2⟩ | ⟨g, cap, cur, h1, -⟩
    · exact ⟨none, 0, by rw [h1, ← hen, h2]⟩
    · exact ⟨_, _, by rw [h1, hen]⟩
  subst hhv
  rw [hen] at hh hE ⊢
  have HH := Hid.in hh
  have HL := Hid.in hl
  have HNE := Hid.in hne
  have HEN := Hid.in hen
  have HN0 := Hid.in hn
  clear hh hl hne hen hn
  go_enter Tryd.func15, Tryd.ntmps15
  go_wp2
  go_loopw [5] (fun kv wr => ∃ (i : Nat) (L' : List Int), kv = .int .i64 i ∧ i ≤ n ∧ L'.length = n ∧ wr.ownsRow B 3 1 (.slice lq n lcap) n (ints L') ∧ Turned (fun k => (Value.slice lq n lcap).ownBlock = some k) w wr) (fun kv _ => n + 1 - (intOf kv).toNat)
  case atStart => exact ⟨0, L, rfl, Nat.zero_le _, HN0.out, HL.out, Turned.refl _ _⟩
  case round =>
    obtain ⟨i, L', rfl, hi, hL', hrow, ht⟩ := hrel
    have HR := Hid.in hrow
    have HT := Hid.in ht
    have HL' := Hid.in hL'
    clear hrow ht hL'
    by_cases hlt : i < n
    · obtain ⟨q2, c2, e1, -, hel⟩ := own_ints (l := L') (by rw [HL'.out]; exact HR.out)
      obtain ⟨g, e2, hg, hc⟩ := hel i (by rw [HL'.out]; exact hlt)
      have e3 : lq = q2 := by simp only [Value.slice.injEq] at e1; exact e1.1
      rw [e2] at e3
      subst e3
      have hfz : wr.frozen? ⟨g, i, none⟩ = false := by
        rcases HR.out.2 with ⟨h1, -⟩ | ⟨g', cap', cur, h1, h2, h3, -⟩
        · cases h1
        · cases h1
          simp [World.frozen?, h3]
      clear hel e1 e2
      go_wp2
      go_roundw
      case rel => exact ⟨i + 1, _, by simp, by omega, (List.length_set).trans HL'.out, by rw [← ints_set]; exact own_set HR.out i _, HT.out.set (b := g) rfl _ _⟩
      case measure => simp [intOf]; omega
    · have hLn := HL'.out
      obtain ⟨F0, hF0⟩ : ∃ F0 : Nat → Int, F0 = fun i => L'.getD i 0 := ⟨_, rfl⟩
      have hrow0 : Row wr (.slice lq n lcap) n F0 := by
        have := row_of (l := L') (by rw [HL'.out]; exact HR.out)
        rw [HL'.out] at this
        rw [hF0]
        exact this
      have HRW := Hid.in hrow0
      have HF0 : Hid (∀ i, L'.getD i 0 = F0 i) := fun i => by rw [hF0]
      have HLQ : Hid (∀ g, (Value.slice lq n lcap).ownBlock = some g → lq = some ⟨g, 0, none⟩ ∧ g < wr.heap.size) := by
        intro g hg
        refine ⟨?_, (own_base HR.out g hg).2⟩
        rcases HR.out.2 with ⟨h1, -⟩ | ⟨g', cap', cur, h1, -⟩
        · simp only [Value.slice.injEq] at h1
          rw [h1.1] at hg
          simp [Value.ownBlock] at hg
        · simp only [Value.slice.injEq] at h1
          rw [h1.1] at hg ⊢
          simp [Value.ownBlock] at hg
          rw [hg]
      have HBW : Hid (B ≤ wr.heap.size) := Nat.le_trans hB HT.out.size
      clear hrow0 hF0 hLn
      obtain ⟨W1, hW1⟩ : ∃ W1 : World, W1 = wr := ⟨wr, rfl⟩
      subst hW1
      go_wp2
      go_loopw [6, 7] (fun gu kv wr2 => ∃ (j : Nat) (gv : Value) (G : List Int), gv = gu ∧ kv = .int .i64 j ∧ j ≤ 70 ∧ G.length = n + j ∧ wr2.ownsRow B 3 1 gv (n + j) (ints G) ∧ Row wr2 (.slice lq n lcap) n F0 ∧ Turned (fun k => (Value.slice lq n lcap).ownBlock = some k) W1 wr2 ∧ (∀ k, gv.ownBlock = some k → ((Value.slice lq n lcap).ownBlock = some k ∧ ∀ i, i < n → G.getD i 0 = F0 i) ∨ W1.heap.size ≤ k)) (fun _ kv _ => 71 - (intOf kv).toNat)
      case atStart => exact ⟨0, _, L', rfl, rfl, by omega, HL'.out, HR.out, HRW.out, Turned.refl _ _, fun k hk => Or.inl ⟨hk, fun i _ => HF0.out i⟩⟩
      case round =>
        obtain ⟨j, gv, G, rfl, rfl, hj, hG, hgrow, hlr, htt, hgk⟩ := hrel
        have HG := Hid.in hgrow
        have HLR := Hid.in hlr
        have HTT := Hid.in htt
        have HGK := Hid.in hgk
        have HGL := Hid.in hG
        have HZZ : Hid (B ≤ wr.heap.size) := Nat.le_trans HBW.out htt.size
        clear hgrow hlr htt hgk hG
        by_cases hlt2 : j < 70
        · obtain ⟨g3, cap3, y, hrun, h3, h4⟩ := app_int2 (B := B) wr gv G (-1000 * (en : Int) - 900 - (j : Int)) (by rw [HGL.out]; exact HG.out) (by have := HGL.out; omega) HZZ.out
          rw [HGL.out] at h3 hrun
          have hREL : Row y (.slice lq n lcap) n F0 ∧ Turned (fun k => (Value.slice lq n lcap).ownBlock = some k) W1 y ∧ (∀ k, (Value.slice (some ⟨g3, 0, none⟩) (n + j + 1) cap3).ownBlock = some k → ((Value.slice lq n lcap).ownBlock = some k ∧ ∀ i, i < n → (G ++ [-1000 * (en : Int) - 900 - (j : Int)]).getD i 0 = F0 i) ∨ W1.heap.size ≤ k) := by
            rcases h4 with ⟨e1, t1⟩ | ⟨e1, t1⟩
            · rcases HGK.out g3 e1 with ⟨e2, e3⟩ | e2
              · have hpre : ∀ i, i < n → (G ++ [-1000 * (en : Int) - 900 - (j : Int)]).getD i 0 = F0 i := by
                  intro i hi
                  rw [← e3 i hi]
                  simp only [List.getD_eq_getElem?_getD]
                  rw [List.getElem?_append_left (by rw [HGL.out]; omega)]
                refine ⟨?_, HTT.out.trans (t1.mono (fun k e => by rw [e]; exact e2)), fun k hk => Or.inl ⟨?_, hpre⟩⟩
                · obtain ⟨e4, e5⟩ := HLQ.out g3 e2
                  have hlen : (G ++ [-1000 * (en : Int) - 900 - (j : Int)]).length = n + j + 1 := by simp [HGL.out]
                  have h3' : y.ownsRow B 3 1 (.slice (some ⟨g3, 0, none⟩) (n + j + 1) cap3) (G ++ [-1000 * (en : Int) - 900 - (j : Int)]).length (ints (G ++ [-1000 * (en : Int) - 900 - (j : Int)])) := by rw [hlen]; exact h3
                  obtain ⟨q5, c5, e6, -, hel⟩ := own_ints h3'
                  refine ⟨lq, lcap, rfl, hlc, fun i hi => ?_⟩
                  obtain ⟨g6, e7, e8, e9⟩ := hel i (by rw [hlen]; omega)
                  have e10 : g6 = g3 := by
                    rw [e7] at e6
                    simp only [Value.slice.injEq, Option.some.injEq, Addr.mk.injEq] at e6
                    exact e6.1.1.symm
                  subst e10
                  exact ⟨g6, 0, e4, e8, by rw [Nat.zero_add, ← hpre i hi]; exact e9⟩
                · simp [Value.ownBlock] at hk
                  rw [← hk]
                  exact e2
              · have hnl : (Value.slice lq n lcap).ownBlock ≠ some g3 := fun q => by
                  have := (HLQ.out g3 q).2
                  omega
                refine ⟨HLR.out.turned t1 (fun k hk e => hnl (by rw [hk, e])), HTT.out.trans2 t1 (fun k e => by omega), fun k hk => Or.inr ?_⟩
                simp [Value.ownBlock] at hk
                omega
            · refine ⟨HLR.out.below t1, HTT.out.trans (Turned.of_below t1), fun k hk => Or.inr ?_⟩
              have := HTT.out.size
              simp [Value.ownBlock] at hk
              omega
          have HREL := Hid.in hREL
          have H3 := Hid.in h3
          clear hREL h3 h4
          go_wp2_with (at_builtin; refine wpList_append_run rfl rfl rfl rfl hrun ?_)
          go_roundw
          case rel => exact ⟨j + 1, _, G ++ [-1000 * (en : Int) - 900 - (j : Int)], rfl, by simp, by omega, by rw [List.length_append, HGL.out]; rfl, H3.out, HREL.out.1, HREL.out.2.1, HREL.out.2.2⟩
          case measure => simp [intOf]; omega
        · obtain ⟨N2, hN2⟩ : ∃ N2, n + j = N2 := ⟨_, rfl⟩
          have hN3 : N2 ≤ 134 := by omega
          obtain ⟨gq, gcap, hgv, -, -⟩ := own_ints (l := G) (by rw [HGL.out]; exact HG.out)
          rw [HGL.out, hN2] at hgv
          subst hgv
          have rG : Row wr (.slice gq N2 gcap) N2 (fun i => G.getD i 0) := by
            have := row_of (l := G) (by rw [HGL.out]; exact HG.out)
            rw [HGL.out, hN2] at this
            exact this
          obtain ⟨r1, y1, c1, rA, b1, s1⟩ := cp_run wr (.slice lq n lcap) n F0 HLR.out
          have rG1 := rG.below b1
          obtain ⟨r2, y2, c2, rB, b2, s2⟩ := cp_run y1 (.slice gq N2 gcap) N2 (fun i => G.getD i 0) rG1
          have hmk1 := make_run (P := Tryd.prog) 48 3 (.int .i64 0) 8 Tryd.underlying48 (by kernel_rfl) rfl n (by omega) (by omega)
          have hmk2 := make_run (P := Tryd.prog) 48 3 (.int .i64 0) 8 Tryd.underlying48 (by kernel_rfl) rfl N2 (by omega) (by omega)
          have tw : Turned (fun k => (Value.slice lq n lcap).ownBlock = some k) w y2 := (((HT.out.trans HTT.out).trans (Turned.of_below b1)).trans (Turned.of_below b2))
          have hh2 : y2.ownsRow B 52 2 (.slice hq en hcap) E.length (flatP E) := by
            rw [HEN.out]
            exact own_turned HH.out tw (fun k hk => HNE.out k hk)
          obtain ⟨g4, cap4, y3, hrun, h5, t5, b5⟩ := app_held (B := B) y2 (.slice hq en hcap) E (.slice lq n lcap) (.slice (some ⟨wr.heap.size, 0, none⟩) n n) (.slice gq N2 gcap) (.slice (some ⟨y1.heap.size, 0, none⟩) N2 N2) rfl rfl rfl rfl hh2 (by rw [HEN.out]; omega) (Nat.le_trans hB tw.size)
          rw [HEN.out] at h5 hrun
          have z1 := HTT.out.size
          have z0 := HT.out.size
          have z2 := b1.size
          have z3 := b2.size
          have z4 := t5.size
          have hwh : ∀ k, (Value.slice hq en hcap).ownBlock = some k → k < w.heap.size := fun k hk => (own_base HH.out k hk).2
          have hwl : ∀ k, (Value.slice lq n lcap).ownBlock = some k → k < w.heap.size := fun k hk => (own_base HL.out k hk).2
          have hgg : ∀ k, (Value.slice gq N2 gcap).ownBlock = some k → ((Value.slice lq n lcap).ownBlock = some k ∨ W1.heap.size ≤ k) ∧ k < wr.heap.size := fun k hk => by
            refine ⟨?_, ?_⟩
            · rcases HGK.out k hk with ⟨q, -⟩ | q
              · exact Or.inl q
              · exact Or.inr q
            · have := HG.out
              exact (own_base this k hk).2
          have FIN : Hid (∃ (g cap : Nat) (av gv bv : Value) (n' m : Nat) (F G : Nat → Int), Ending.returned (.slice (some ⟨g4, 0, none⟩) (en + 2) cap4) = .returned (.slice (some ⟨g, 0, none⟩) (en + 2) cap) ∧ y3.ownsRow B 52 2 (.slice (some ⟨g, 0, none⟩) (en + 2) cap) (en + 2) (flatP (E ++ [(.slice lq n lcap, av), (gv, bv)])) ∧ Row y3 (.slice lq n lcap) n' F ∧ Row y3 av n' F ∧ Row y3 gv m G ∧ Row y3 bv m G ∧ Turned (fun k => (Value.slice lq n lcap).ownBlock = some k ∨ (Value.slice hq en hcap).ownBlock = some k) w y3 ∧ ((Value.slice hq en hcap).ownBlock = some g ∨ w.heap.size ≤ g) ∧ (Value.slice lq n lcap).ownBlock ≠ some g ∧ (∀ u, u = av ∨ u = gv ∨ u = bv → ∀ k, u.ownBlock = some k → ((Value.slice lq n lcap).ownBlock = some k ∨ w.heap.size ≤ k) ∧ k ≠ g ∧ k < y3.heap.size)) := by
            have hg4 : ∀ k, k < y2.heap.size → (Value.slice hq en hcap).ownBlock ≠ some k → k ≠ g4 := by
              intro k hk hne e
              subst e
              rcases b5 with q | q
              · exact hne q
              · omega
            have hhl : ∀ k, (Value.slice lq n lcap).ownBlock = some k → (Value.slice hq en hcap).ownBlock ≠ some k := fun k hk q => HNE.out k q hk
            refine ⟨g4, cap4, _, _, _, n, N2, F0, fun i => G.getD i 0, rfl, h5, ?_, ?_, ?_, ?_, ?_, ?_, ?_, ?_⟩
            · exact ((HLR.out.below b1).below b2).turned t5 (fun k hk => hhl k hk)
            · exact (rA.below b2).turned t5 (fun k hk q => by have := hwh k q; simp [Value.ownBlock] at hk; omega)
            · refine (rG1.below b2).turned t5 (fun k hk q => ?_)
              have h7 := hwh k q
              rcases (hgg k hk).1 with h8 | h8
              · exact hhl k h8 q
              · omega
            · exact rB.turned t5 (fun k hk q => by have := hwh k q; simp [Value.ownBlock] at hk; omega)
            · exact (tw.mono (fun k hk => Or.inl hk)).trans (t5.mono (fun k hk => Or.inr hk))
            · rcases b5 with q | q
              · exact Or.inl q
              · exact Or.inr (by omega)
            · intro q
              have h7 := hwl g4 q
              exact hg4 g4 (by omega) (hhl g4 q) rfl
            · intro u hu k hk
              have hnk : ∀ k, w.heap.size ≤ k → (Value.slice hq en hcap).ownBlock ≠ some k := fun k h7 q => by have := hwh k q; omega
              rcases hu with rfl | rfl | rfl
              · simp [Value.ownBlock] at hk
                subst hk
                exact ⟨Or.inr (by omega), hg4 _ (by omega) (hnk _ (by omega)), by omega⟩
              · have h8 := hgg k hk
                rcases h8.1 with h9 | h9
                · exact ⟨Or.inl h9, hg4 k (by omega) (hhl k h9), by omega⟩
                · exact ⟨Or.inr (by omega), hg4 k (by omega) (hnk k (by omega)), by omega⟩
              · simp [Value.ownBlock] at hk
                subst hk
                exact ⟨Or.inr (by omega), hg4 _ (by omega) (hnk _ (by omega)), by omega⟩
          clear h5 t5 b5 rA rB rG rG1 b1 b2 tw hh2 hwh hwl hgg HH HL HR HT HTT HGK HG HLR hN2
          go_wp2_with (at_builtin; refine wpList_append_run rfl rfl rfl rfl hrun ?_)
          go_ret
          exact FIN.out
end Go.Proofs.YtckglpmjaplcnaaDoor
