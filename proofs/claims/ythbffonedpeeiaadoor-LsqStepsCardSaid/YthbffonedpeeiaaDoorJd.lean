/-
  THE ANSWER: Enter, where it may be.
-/
import Derived.Test.YthbffonedpeeiaaDoorJc
namespace Go.Proofs.YthbffonedpeeiaaDoor
open Go Go.RowKit
theorem RS.at_push (S : RS) (y : Re) (i : Nat) (h : i < S.on.length) : RS.at ⟨S.size, S.on ++ [y]⟩ i = S.at i := by
  unfold RS.at
  simp [List.getD_eq_getElem?_getD, List.getElem?_append_left h]
theorem RS.at_last (S : RS) (y : Re) : RS.at ⟨S.size, S.on ++ [y]⟩ S.on.length = y := by
  unfold RS.at
  simp [List.getD_eq_getElem?_getD]
set_option maxRecDepth 100000 in
set_option maxHeartbeats 600000 in
theorem renter_good (B p : Nat) (v : Value) (S : RS) (seq : Int) (st : Bool) (w : World) (k : Rm w B p v S) (h : ¬ (seq < 0 ∨ seq ≤ S.young)) (hi : seq ≤ 9223372036854775807) (hf : S.on.length < S.size) : Calls Tryd.prog 9 #[.pointer (some ⟨p, 0, none⟩), .int .i64 seq, .bool st] w fun e w' => e = .returned (.int .i64 0) ∧ ∃ v', RStep w w' B p v v' ⟨S.size, S.on ++ [newE seq st]⟩ := by
  have h0 : ¬ seq < 0 := by omega
  have h1 : ¬ seq ≤ S.young := by omega
  have hs := k.small
  obtain ⟨hp, c0, c1, f1⟩ := k.cells
  obtain ⟨q, cap, hv, hcap, -⟩ := own_rrow k.l
  rw [hv] at c1
  have HK := Hid.in k
  have HV := Hid.in hv
  obtain ⟨i0, hi0, hz0, hz1, hz2⟩ := info_parts (show (Tryd.prog.info? 89).map (fun i => (i.zero, i.size, i.bytes)) = some (some (.agg zre), 13, 88) by kernel_rfl)
  have HI := Hid.in hi0
  have HZ0 := Hid.in hz0
  have HZ1 := Hid.in hz1
  have HZ2 := Hid.in hz2
  obtain ⟨m, hm⟩ : ∃ m, S.on.length = m := ⟨_, rfl⟩
  have HM := Hid.in hm
  have hne : ((m : Int) == (S.size : Int)) = false := by
    rw [beq_eq_false_iff_ne]
    omega
  -- the end is one
  have HEND : Hid (∀ W, Below w.heap.size w W → W.heap.size = w.heap.size → ∃ X, W.alloc (.cells #[.int .i64 seq, .bool st, .bool false, .int .i64 0, .int .i64 0, .bool false, .int .u32 0, .bool false, .int .i64 0, .int .i64 0, .int .i64 0, .int .i64 0, .bool false] 89) = X ∧ X.ownsRow B 89 13 (.slice q m cap) m (flatR S.on) ∧ (∀ j u, (newE seq st).vs[j]? = some u → X.cell? ((⟨w.heap.size, 0, none⟩ : Addr).add j) = some u) ∧ B ≤ X.heap.size ∧ X.cell? ⟨p, 1, none⟩ = some (.slice q m cap) ∧ X.frozen? ⟨p, 1, none⟩ = false ∧ p < X.heap.size ∧ ∀ v' w', w'.ownsRow B 89 13 v' (m + 1) (flatR (S.on ++ [newE seq st])) → Turned (fun k => (Value.slice q m cap).ownBlock = some k) X w' → (∀ k, v'.ownBlock = some k → (Value.slice q m cap).ownBlock = some k ∨ X.heap.size ≤ k) → RStep w (w'.setCell ⟨p, 1, none⟩ v') B p v v' ⟨S.size, S.on ++ [newE seq st]⟩) := fun W bW hsW => by
    have bX : Below W.heap.size W (W.alloc (.cells (newE seq st).vs.toArray 89)) := (Below.refl _ _).alloc (Nat.le_refl _) _
    have kX := (HK.out.below bW).below bX
    refine ⟨_, rfl, ?_, fun j u hj => ?_, ?_, ?_, kX.cells.2.2.2, kX.c.here, fun v' w' o1 t1 o2 => ?_⟩
    · have := kX.l
      rw [hv, hm] at this
      exact this
    · rw [Addr.add_lit, ← hsW]
      exact rrange_new W (newE seq st) _ j u hj
    · have := kX.lo
      have := kX.c.here
      exact Nat.le_trans kX.lo (Nat.le_of_lt kX.c.here)
    · have := kX.cells.2.2.1
      rw [hv, hm] at this
      exact this
    · have hlen : (S.on ++ [newE seq st]).length = m + 1 := by simp [hm]
      refine (RStep.same HK.out (below2 bW bX)).trans (kX.row rfl ?_ ?_ ?_ (by show (S.on ++ [newE seq st]).length ≤ 32; omega) (fun j hj => ?_))
      · show w'.ownsRow _ _ _ _ (S.on ++ [newE seq st]).length _
        rw [hlen]
        exact o1
      · rw [hv, hm]; exact t1
      · rw [hv, hm]; exact o2
      · rcases Nat.lt_or_ge j S.on.length with q | q
        · rw [S.at_push _ j q]
          exact HK.out.fit j q
        · have hj' : j < (S.on ++ [newE seq st]).length := hj
          obtain rfl : j = S.on.length := by omega
          rw [S.at_last]
          exact ⟨by show 0 ≤ seq; omega, hi, by simp [newE], Or.inl rfl, by simp [newE]⟩
  by_cases hl : m = 0
  · rw [hm] at c1
    have hu : undef = Value.tuple #[] := rfl
    have hd0 : decide (seq < 0) = false := decide_eq_false h0
    have hd5 : decide ((0 : Int) < (m : Int)) = false := decide_eq_false (by omega)
    have hd6 : decide (0 < m) = false := decide_eq_false (by omega)
    obtain rfl : m = 0 := hl
    clear k hv hi0 hz0 hz1 hz2 hm h hs hf hcap h1 hi h0
    go_enter Tryd.func9, Tryd.ntmps9
    go_wp2
    go_quiet (fail)
    generalize hW1 : w.drewN nq = W1
    have b1 : Below w.heap.size w W1 := by rw [← hW1]; exact below_drewN w nq
    have s1 : W1.heap.size = w.heap.size := by rw [← hW1]; rfl
    have k1 := HK.out.below b1
    obtain ⟨-, c0', c1', -⟩ := k1.cells
    rw [HV.out, HM.out] at c1'
    have hp1 : p < W1.heap.size := by omega
    clear c0 c1 f1 hW1 k1
    go_wp2
    go_quiet (fail)
    generalize hW2 : W1.drewN nq = W2
    have b2 : Below W1.heap.size W1 W2 := by rw [← hW2]; exact below_drewN W1 nq
    have s2 : W2.heap.size = w.heap.size := by rw [← hW2, ← s1]; rfl
    obtain ⟨X, hX, oX, cX, bX, pX, fX, hpX, eX⟩ := HEND.out W2 (below2 b1 b2) s2
    have hc2 := ((HK.out.below (below2 b1 b2)).cells).2.2.1
    rw [HV.out, HM.out] at hc2
    have hp2 : p < W2.heap.size := by omega
    have HX := Hid.in hX
    have HOX := Hid.in oX
    have HCX := Hid.in cX
    have HEX := Hid.in eX
    have HPX := Hid.in pX
    have HFX := Hid.in fX
    have HVP : Hid (¬ (Value.slice q 0 cap).ownBlock = some p) := by
      have := HK.out.vp
      rw [HV.out, HM.out] at this
      exact this
    clear c0' c1' hW2 b1 b2 hX oX cX eX pX fX hp1
    go_wp2_with (first
      | (rw [HX.out]
         refine append_ents X rfl _ _ _ rfl 89 i0 Tryd.underlying82 HI.out HZ0.out HZ1.out HZ2.out B (.slice q 0 cap) S.on rfl (by rw [HM.out]; exact HOX.out) ⟨w.heap.size, 0, none⟩ 1 (newE seq st) rfl HCX.out (by rw [HM.out]; omega) bX ?_
         rw [HM.out]
         intro v' w' h1 h2 h3
         obtain ⟨q', cap', rfl⟩ := own_slice h1
         have c1' := h2.to_cell hpX HVP.out HPX.out
         have f1' : w'.frozen? ⟨p, 1, none⟩ = false := (World.frozen?_of_block (h2.block p hpX HVP.out)).trans HFX.out
         have HST := Hid.in (HEX.out _ _ h1 h2 h3)
         clear h1 h2 h3))
    go_ret
    exact ⟨rfl, _, HST.out⟩
  · rw [hm] at c1 hcap
    have hl0 : 0 < S.on.length := by omega
    obtain ⟨g, cap2, hv2, x1, y0, -⟩ := rlast k hl0
    rw [hv] at hv2
    cases hv2
    generalize S.young = yn at y0 h1
    rw [hm] at y0
    have ew : IntKind.i64.wrap ((m : Int) - 1) = ((m - 1 : Nat) : Int) := by
      simp only [IntKind.wrap_i64]
      omega
    have ew2 : m - 1 < m := by omega
    have ew3 : ((m - 1 : Nat) : Int) * 13 = (((m - 1) * 13 : Nat) : Int) := by omega
    have e5 : (0 : Int) < m := by omega
    have hm32 : m ≤ 32 := by omega
    have hl1 : 0 < m := by omega
    clear k hv hi0 hz0 hz1 hz2 hm h hs hf hcap hi hl x1 hl0
    go_enter Tryd.func9, Tryd.ntmps9
    go_wp2
    go_quiet (fail)
    generalize hW1 : w.drewN nq = W1
    have b1 : Below w.heap.size w W1 := by rw [← hW1]; exact below_drewN w nq
    have s1 : W1.heap.size = w.heap.size := by rw [← hW1]; rfl
    have k1 := HK.out.below b1
    obtain ⟨-, c0', c1', -⟩ := k1.cells
    rw [HV.out, HM.out] at c1'
    have hp1 : p < W1.heap.size := by omega
    clear c0 c1 f1 hW1 k1 y0
    go_wp2
    go_quiet (fail)
    generalize hW2 : W1.drewN nq = W2
    have b2 : Below W1.heap.size W1 W2 := by rw [← hW2]; exact below_drewN W1 nq
    have s2 : W2.heap.size = w.heap.size := by rw [← hW2, ← s1]; rfl
    obtain ⟨X, hX, oX, cX, bX, pX, fX, hpX, eX⟩ := HEND.out W2 (below2 b1 b2) s2
    have hc2 := ((HK.out.below (below2 b1 b2)).cells).2.2.1
    rw [HV.out, HM.out] at hc2
    have hp2 : p < W2.heap.size := by omega
    have HX := Hid.in hX
    have HOX := Hid.in oX
    have HCX := Hid.in cX
    have HEX := Hid.in eX
    have HPX := Hid.in pX
    have HFX := Hid.in fX
    have HVP : Hid (¬ (Value.slice (some ⟨g, 0, none⟩) m cap).ownBlock = some p) := by
      have := HK.out.vp
      rw [HV.out, HM.out] at this
      exact this
    clear c0' c1' hW2 b1 b2 hX oX cX eX pX fX hp1
    go_wp2_with (first
      | (rw [HX.out]
         refine append_ents X rfl _ _ _ rfl 89 i0 Tryd.underlying82 HI.out HZ0.out HZ1.out HZ2.out B (.slice (some ⟨g, 0, none⟩) m cap) S.on rfl (by rw [HM.out]; exact HOX.out) ⟨w.heap.size, 0, none⟩ 1 (newE seq st) rfl HCX.out (by rw [HM.out]; omega) bX ?_
         rw [HM.out]
         intro v' w' h1 h2 h3
         obtain ⟨q', cap', rfl⟩ := own_slice h1
         have c1' := h2.to_cell hpX HVP.out HPX.out
         have f1' : w'.frozen? ⟨p, 1, none⟩ = false := (World.frozen?_of_block (h2.block p hpX HVP.out)).trans HFX.out
         have HST := Hid.in (HEX.out _ _ h1 h2 h3)
         clear h1 h2 h3))
    go_ret
    exact ⟨rfl, _, HST.out⟩
end Go.Proofs.YthbffonedpeeiaaDoor
