/-
  THE ANSWER: Squash.
-/
import Derived.Test.YthbffonedpeeiaaDoorJj
namespace Go.Proofs.YthbffonedpeeiaaDoor
open Go Go.RowKit
def RS.squ (S : RS) (af : Int) (i : Nat) : Bool := decide (af < (S.at i).n) && !(S.at i).rt
def RS.cut (S : RS) (i : Nat) : RS := ⟨S.size, S.on.take i⟩
theorem RS.cut_len (S : RS) (i : Nat) (h : i ≤ S.on.length) : (S.cut i).on.length = i := by
  unfold RS.cut
  simp [List.length_take]
  omega
theorem RS.at_cut (S : RS) (i j : Nat) (h : j < i) : (S.cut i).at j = S.at j := by
  unfold RS.at RS.cut
  simp [List.getD_eq_getElem?_getD, h]
theorem RS.cut_cut (S : RS) (i j : Nat) (h : j ≤ i) : (S.cut i).cut j = S.cut j := by
  unfold RS.cut
  simp [List.take_take, Nat.min_eq_left h]
theorem RS.cut_all (S : RS) : S.cut S.on.length = S := by
  unfold RS.cut
  simp
theorem own_shorter {x : World} {B : Nat} {e : TypeId} {g n cap : Nat} {l : List Re} (h : x.ownsRow B e 13 (.slice (some ⟨g, 0, none⟩) n cap) n (flatR l)) (j : Nat) (hj : j ≤ n) (hl : l.length = n) : x.ownsRow B e 13 (.slice (some ⟨g, 0, none⟩) j cap) j (flatR (l.take j)) := by
  obtain ⟨h1, h2⟩ := h
  rcases h2 with ⟨h3, _⟩ | ⟨g', cap', cur, hv, a2, a3, a4, a5, a6, a7⟩
  · cases h3
  · cases hv
    refine ⟨by rw [flatR_len, List.length_take]; congr 1; omega, Or.inr ⟨g, cap, cur, rfl, a2, a3, by omega, a5, a6, ?_⟩⟩
    rw [← flatR_take, ← a7, List.take_take, Nat.min_eq_left (Nat.mul_le_mul_right _ hj)]
def lenAt (w : World) (p : Nat) : Nat := match w.cell? ⟨p, 1, none⟩ with
  | some (.slice _ n _) => n
  | _ => 0
set_option maxRecDepth 100000 in
set_option maxHeartbeats 1000000 in
theorem rsquash_any (B p : Nat) (v : Value) (S : RS) (af : Int) (i : Nat) (w : World) (k : Rm w B p v S) (hi : i ≤ S.on.length) (h1 : 0 < i → S.squ af (i - 1) = false) (h2 : ∀ j, i ≤ j → j < S.on.length → S.squ af j = true) : Calls Tryd.prog 28 #[.pointer (some ⟨p, 0, none⟩), .int .i64 af] w fun e w' => e = .returned (.tuple #[]) ∧ ∃ v', RStep w w' B p v v' (S.cut i) := by
  have hs := k.small.1
  have H1 := Hid.in h1
  have H2 := Hid.in h2
  have HK := Hid.in k
  have hu : undef = Value.tuple #[] := rfl
  clear h1 h2 k
  go_enter Tryd.func28, Tryd.ntmps28
  go_wp2
  go_loopw [] (fun wr => ∃ (j : Nat) (v' : Value), i ≤ j ∧ j ≤ S.on.length ∧ RStep w wr B p v v' (S.cut j)) (fun wr => lenAt wr p)
  case atStart => exact ⟨S.on.length, v, hi, Nat.le_refl _, by rw [S.cut_all]; exact RStep.same HK.out (Below.refl _ _)⟩
  case round =>
    obtain ⟨j, v', hij, hj, hst⟩ := hrel
    have HST := Hid.in hst
    have kc := hst.q
    obtain ⟨hp, -, c1, f1⟩ := kc.cells
    have hcl := S.cut_len j hj
    by_cases hj0 : j = 0
    · subst hj0
      obtain ⟨q, cap, hv, -, -⟩ := own_rrow kc.l
      rw [hcl] at hv
      rw [hv] at c1
      have hd : decide ((0 : Int) < ((0 : Nat) : Int)) = false := decide_eq_false (by omega)
      obtain rfl : i = 0 := by omega
      clear kc hst hv
      go_wp2
      go_quiet (fail)
      go_wp2
      refine bodyPost_end (results_none Tryd.results28 _ _ _) rfl ⟨rfl, v', ?_⟩
      exact HST.out.trans (RStep.same HST.out.q (below_drewN _ _))
    · obtain ⟨g, cap, hv, x1, y0, y12⟩ := rlast kc (by omega)
      rw [hcl] at hv x1 y0 y12
      have ey : (S.cut j).young = (S.at (j - 1)).n := by
        unfold RS.young
        rw [hcl, if_neg hj0, S.at_cut j (j - 1) (by omega)]
      rw [ey] at y0
      rw [S.at_cut j (j - 1) (by omega)] at y12
      have HSQ : Hid (S.squ af (j - 1) = (decide (af < (S.at (j - 1)).n) && !(S.at (j - 1)).rt)) := rfl
      have ew : IntKind.i64.wrap ((j : Int) - 1) = ((j - 1 : Nat) : Int) := by
        simp only [IntKind.wrap_i64]
        omega
      have ew2 : j - 1 < j := by omega
      have ew3 : ((j - 1 : Nat) : Int) * 13 = (((j - 1) * 13 : Nat) : Int) := by omega
      have hj1 : 0 < j := by omega
      have e6 : (0 : Int) < (j : Int) := by omega
      have HV := Hid.in hv
      have HLN : Hid (lenAt wr p = j) := by
        show lenAt wr p = j
        unfold lenAt
        rw [x1]
      obtain ⟨n, hn⟩ : ∃ n, (S.at (j - 1)).n = n := ⟨_, rfl⟩
      obtain ⟨rb, hrb⟩ : ∃ rb, (S.at (j - 1)).rt = rb := ⟨_, rfl⟩
      rw [hn] at y0 HSQ
      rw [hrb] at y12 HSQ
      have HCUT : Hid (∀ y, Below wr.heap.size wr y → RStep w (y.setCell ⟨p, 1, none⟩ (.slice (some ⟨g, 0, none⟩) (j - 1) cap)) B p v (.slice (some ⟨g, 0, none⟩) (j - 1) cap) (S.cut (j - 1))) := fun y hb => by
        have ky := kc.below hb
        refine (hst.trans (RStep.same kc hb)).trans (ky.row (S' := S.cut (j - 1)) rfl ?_ (Turned.refl _ _) (fun t ht => Or.inl (by rw [hv]; exact ht)) (by rw [S.cut_len _ (by omega)]; omega) (fun t ht => ?_))
        · have o := ky.l
          rw [hcl, hv] at o
          have o2 := own_shorter o (j - 1) (by omega) hcl
          rw [S.cut_len _ (by omega)]
          have e : (S.cut j).on.take (j - 1) = (S.cut (j - 1)).on := by
            show (S.on.take j).take (j - 1) = S.on.take (j - 1)
            rw [List.take_take, Nat.min_eq_left (by omega)]
          rw [e] at o2
          exact o2
        · rw [S.cut_len _ (by omega)] at ht
          have := kc.fit t (by rw [hcl]; omega)
          rw [S.at_cut j t (by omega)] at this
          rw [S.at_cut (j - 1) t ht]
          exact this
      have HFR : Hid (∀ y, Below wr.heap.size wr y → y.cell? ⟨p, 1, none⟩ = some (.slice (some ⟨g, 0, none⟩) j cap) ∧ y.frozen? ⟨p, 1, none⟩ = false ∧ p < y.heap.size) := fun y hb => by
        obtain ⟨u1, -, u2, u3⟩ := (kc.below hb).cells
        rw [hv] at u2
        exact ⟨u2, u3, u1⟩
      have hjc : j ≤ cap := by
        obtain ⟨q, cap', hv', hc, -⟩ := own_rrow kc.l
        rw [hv, hcl] at hv'
        cases hv'
        rw [hcl] at hc
        exact hc.1
      have hcm : cap ≤ 9223372036854775807 := by
        obtain ⟨q, cap', hv', hc, -⟩ := own_rrow kc.l
        rw [hv, hcl] at hv'
        cases hv'
        have := hc.2
        unfold maxLen at this
        omega
      clear kc hst hv hn hrb ey hcl c1
      by_cases ha : af < n
      · have d1 : decide (af < n) = true := decide_eq_true ha
        cases rb
        · have hlt : i < j := by
            rcases Nat.lt_or_ge i j with q | q
            · exact q
            · obtain rfl : i = j := by omega
              have := H1.out (by omega)
              rw [HSQ.out, d1] at this
              simp at this
          go_wp2
          go_quiet (fail)
          generalize hW : wr.drewN nq = W
          have hb : Below wr.heap.size wr W := by rw [← hW]; exact below_drewN wr nq
          obtain ⟨c1, c2, c3⟩ := HFR.out W hb
          have HC := Hid.in (HCUT.out W hb)
          clear x1 y0 y12 hW f1 hp
          go_upto_region 1 with fail
          go_region
          go_wp2
          go_roundw
          case rel => exact ⟨j - 1, _, by omega, by omega, HC.out.trans (RStep.same HC.out.q (Below.refl _ _).drew)⟩
          case measure =>
            rw [HLN.out]
            have := ((HC.out.q.below (Below.refl _ _).drew).cells).2.2.1
            unfold lenAt
            rw [this]
            show j - 1 < j
            omega
        · have hlt : i = j := by
            rcases Nat.lt_or_ge i j with q | q
            · have := H2.out (j - 1) (by omega) (by omega)
              rw [HSQ.out] at this
              simp at this
            · omega
          subst hlt
          go_wp2
          go_quiet (fail)
          go_wp2
          refine bodyPost_end (results_none Tryd.results28 _ _ _) rfl ⟨rfl, v', ?_⟩
          exact HST.out.trans (RStep.same HST.out.q (below_drewN _ _))
      · have d1 : decide (af < n) = false := decide_eq_false ha
        have hlt : i = j := by
          rcases Nat.lt_or_ge i j with q | q
          · have := H2.out (j - 1) (by omega) (by omega)
            rw [HSQ.out, d1] at this
            simp at this
          · omega
        subst hlt
        go_wp2
        go_quiet (fail)
        go_wp2
        refine bodyPost_end (results_none Tryd.results28 _ _ _) rfl ⟨rfl, v', ?_⟩
        exact HST.out.trans (RStep.same HST.out.q (below_drewN _ _))
end Go.Proofs.YthbffonedpeeiaaDoor
