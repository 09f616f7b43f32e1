/-
  LSQ: which are wanted, of stores.
-/
import Derived.Test.YthbffonedpeeiaaDoorMb
namespace Go.Proofs.YthbffonedpeeiaaDoor
open Go Go.RowKit
theorem unknownW (e : Ac) (b : Nat) (num : Int) (w : World) (q : w.cell? ⟨b, 0, none⟩ = some (.int .i64 num)) : Calls Tryd.prog 74 #[.agg e.vs.toArray, .pointer (some ⟨b, 0, none⟩)] w fun r w' => r = .returned (.bool (e.st && decide (e.n < num) && !e.placed)) ∧ Below w.heap.size w w' := by
  obtain ⟨X, hX, r1, hb, hs⟩ := boxed e w 86
  obtain ⟨c0, c1, c2, c3, c4, c5, c6, c7⟩ := row_cells0 r1
  have q2 := (hb.cell (p := ⟨b, 0, none⟩) (cell_here q)).trans q
  have HX := Hid.in hX
  have HB := Hid.in hb
  have HR := Hid.in r1
  obtain ⟨n1, hn1⟩ : ∃ n1, e.n = n1 := ⟨_, rfl⟩
  obtain ⟨sb, hsb⟩ : ∃ sb, e.st = sb := ⟨_, rfl⟩
  rw [hn1] at c0 ⊢
  rw [hsb] at c1 ⊢
  clear r1 hX hb c2 c3 c4 c5 c6 c7 q hn1 hsb
  cases sb
  · go_enter Tryd.func74, Tryd.ntmps74
    go_upto_region 1 with fail
    rw [HX.out]
    go_wp2
    go_ret
    exact ⟨by simp, HB.out⟩
  · by_cases h : n1 < num
    · rw [decide_eq_true h]
      go_enter Tryd.func74, Tryd.ntmps74
      go_upto_region 1 with fail
      rw [HX.out]
      go_wp2_with (first
        | (refine ld_accG _ 0 e HR.out rfl _ rfl rfl ?_)
        | (go_at_call 39; refine (isPlaced_any e _).mono ?_; rintro r w2 ⟨rfl, hb2⟩; have HB2 := Hid.in hb2; clear hb2))
      go_ret
      exact ⟨by simp, HB.out.trans (HB2.out.mono (by omega))⟩
    · rw [decide_eq_false h]
      go_enter Tryd.func74, Tryd.ntmps74
      go_upto_region 1 with fail
      rw [HX.out]
      go_wp2
      go_ret
      exact ⟨by simp, HB.out⟩
theorem sourceW (e : Ac) (b b2 : Nat) (num : Int) (y : Nat) (w : World) (hf : e.Fit) (hy : y < 4294967296) (q : w.cell? ⟨b, 0, none⟩ = some (.int .i64 num)) (p : w.cell? ⟨b2, 0, none⟩ = some (.int .u32 y)) : Calls Tryd.prog 70 #[.agg e.vs.toArray, .pointer (some ⟨b, 0, none⟩), .pointer (some ⟨b2, 0, none⟩)] w fun r w' => r = .returned (.bool (e.st && decide (e.n < num) && e.cov y)) ∧ Below w.heap.size w w' := by
  obtain ⟨X, hX, r1, hb, hs⟩ := boxed e w 86
  obtain ⟨c0, c1, c2, c3, c4, c5, c6, c7⟩ := row_cells0 r1
  have q2 := (hb.cell (p := ⟨b, 0, none⟩) (cell_here q)).trans q
  have p2 := (hb.cell (p := ⟨b2, 0, none⟩) (cell_here p)).trans p
  have HX := Hid.in hX
  have HB := Hid.in hb
  have HR := Hid.in r1
  have HF := Hid.in hf
  obtain ⟨n1, hn1⟩ : ∃ n1, e.n = n1 := ⟨_, rfl⟩
  obtain ⟨sb, hsb⟩ : ∃ sb, e.st = sb := ⟨_, rfl⟩
  rw [hn1] at c0 ⊢
  rw [hsb] at c1 ⊢
  clear r1 hX hb c2 c3 c4 c5 c6 c7 q hn1 hsb p hf
  cases sb
  · go_enter Tryd.func70, Tryd.ntmps70
    go_upto_region 1 with fail
    rw [HX.out]
    go_wp2
    go_ret
    exact ⟨by simp, HB.out⟩
  · by_cases h : n1 < num
    · rw [decide_eq_true h]
      go_enter Tryd.func70, Tryd.ntmps70
      go_upto_region 1 with fail
      rw [HX.out]
      go_wp2_with (first
        | (refine ld_accG _ 0 e HR.out rfl _ rfl rfl ?_)
        | (go_at_call 71; refine (covers_any e y _ HF.out hy).mono ?_; rintro r w2 ⟨rfl, hb2⟩; have HB2 := Hid.in hb2; clear hb2))
      go_ret
      exact ⟨by simp, HB.out.trans (HB2.out.mono (by omega))⟩
    · rw [decide_eq_false h]
      go_enter Tryd.func70, Tryd.ntmps70
      go_upto_region 1 with fail
      rw [HX.out]
      go_wp2
      go_ret
      exact ⟨by simp, HB.out⟩
/-- the numbers of where an access's bytes are of, in memory -/
def FrAt (w : World) (e : Ac) : Prop := ∀ i, i < e.fr.length → ∃ g, e.fb = some g ∧ g < w.heap.size ∧ w.cell? ⟨g, i, none⟩ = some (.int .i64 (e.fr.getD i 0))
theorem FrAt.at {w : World} {e : Ac} (h : FrAt w e) {q : Option Addr} (hq : e.fb.map (fun b => (⟨b, 0, none⟩ : Addr)) = q) : ∀ i, i < e.fr.length → ∃ g, q = some ⟨g, 0, none⟩ ∧ g < w.heap.size ∧ w.cell? ⟨g, i, none⟩ = some (.int .i64 (e.fr.getD i 0)) := fun i hi => by
  obtain ⟨g, h1, h2, h3⟩ := h i hi
  exact ⟨g, by rw [← hq, h1]; rfl, h2, h3⟩
theorem FrAt.below {w y : World} {e : Ac} (h : FrAt w e) (b : Below w.heap.size w y) : FrAt y e := fun i hi => by
  obtain ⟨g, h1, h2, h3⟩ := h i hi
  exact ⟨g, h1, Nat.lt_of_lt_of_le h2 b.size, (b.cell (p := ⟨g, i, none⟩) h2).trans h3⟩
theorem Qm.fr {x : World} {B p : Nat} {v : Value} {S : QS} (k : Qm x B p v S) (i : Nat) (hi : i < S.on.length) : FrAt x (S.at i) := fun j hj => by
  have h := k.f i hi
  rcases h.2 with ⟨h1, h2⟩ | ⟨g, cap, cur, h1, h2, h3, h4⟩
  · omega
  · have hb : (S.at i).fb = some g := by rw [← Ac.vb, h1]; rfl
    refine ⟨g, hb, (own_base h g (by rw [Ac.vb]; exact hb)).2, ?_⟩
    have q := World.ownsRow.cells h (by rw [Ac.vb]; exact hb) j (.int .i64 ((S.at i).fr.getD j 0)) (by
      rw [List.getElem?_map, List.getElem?_eq_getElem hj]
      simp [List.getD_eq_getElem?_getD, List.getElem?_eq_getElem hj])
    rwa [Addr.add_lit, Nat.zero_add] at q
def Ac.early1 (e s : Ac) (i : Nat) : Bool := decide (e.fr.getD i 0 < s.n) && s.cov (e.a + i)
/-- has e a byte that s writes, but not of it or of a younger one? -/
def Ac.early (e s : Ac) : Bool := (List.range e.fr.length).any (e.early1 s)
theorem Ac.early_t {e s : Ac} {i : Nat} (h : i < e.fr.length) (k : e.early1 s i = true) : e.early s = true := by
  unfold Ac.early
  rw [List.any_eq_true]
  exact ⟨i, List.mem_range.2 h, k⟩
theorem Ac.early_f {e s : Ac} (h : ∀ i, i < e.fr.length → e.early1 s i = false) : e.early s = false := by
  unfold Ac.early
  rw [List.any_eq_false]
  exact fun i hi => by rw [h i (List.mem_range.1 hi)]; simp
set_option maxRecDepth 100000 in
set_option maxHeartbeats 1000000 in
theorem readTooEarly_any (e s : Ac) (w : World) (hf : s.Fit) (he : e.a + e.fr.length ≤ 4294967296) (h4 : e.fr.length ≤ 4) (hr : FrAt w e) : Calls Tryd.prog 67 #[.agg e.vs.toArray, .agg s.vs.toArray] w fun r w' => r = .returned (.bool (e.early s)) ∧ Below w.heap.size w w' := by
  obtain ⟨X, hX, r1, hb, hs⟩ := boxed e w 86
  obtain ⟨Y, hY, r2, hb2, hs2⟩ := boxed s X 86
  rw [hs] at r2
  have r1' := range_turned r1 (Turned.of_below (Q := fun _ => False) hb2) (by omega) (fun q => q)
  obtain ⟨-, -, c2, -, -, -, -, c7⟩ := row_cells0 r1'
  obtain ⟨d0, -, -, -, -, -, -, -⟩ := row_cells0 r2
  have HX := Hid.in hX
  have HY := Hid.in hY
  have HB := Hid.in (below2 hb hb2)
  have HR := Hid.in r2
  obtain ⟨qa, hqa⟩ : ∃ qa, e.fb.map (fun b => (⟨b, 0, none⟩ : Addr)) = qa := ⟨_, rfl⟩
  have HFR := Hid.in (((hr.below hb).below hb2).at hqa)
  have HF := Hid.in hf
  have hyl : w.heap.size + 1 < Y.heap.size := by omega
  have hyl0 : w.heap.size < Y.heap.size := by omega
  unfold Ac.v at c7
  rw [hqa] at c7
  obtain ⟨m, hm⟩ : ∃ m, e.fr.length = m := ⟨_, rfl⟩
  have HM := Hid.in hm
  rw [hm] at he h4 c7
  have HC2 := Hid.in c2
  have HD0 := Hid.in d0
  clear r1 r2 hX hY hb hb2 hf hr hm r1' hs hs2 hqa c2 d0
  go_enter Tryd.func67, Tryd.ntmps67
  go_upto_region 1 with fail
  rw [HX.out]
  rw [HY.out]
  go_wp2
  clear c7
  go_loopw [10] (fun u wr => ∃ i : Nat, u = .int .i64 i ∧ i ≤ m ∧ (∀ j, j < i → e.early1 s j = false) ∧ Below Y.heap.size Y wr) (fun v _ => 5 - (intOf v).toNat)
  case atStart => exact ⟨0, rfl, by omega, fun j hj => by omega, Below.refl _ _⟩
  case round =>
    obtain ⟨i, rfl, hi, hno, hbw⟩ := hrel
    have HN := Hid.in hno
    have HBW := Hid.in hbw
    clear hno
    by_cases him : i < m
    · obtain ⟨g, rfl, hg, d1⟩ := HFR.out i (by rw [HM.out]; exact him)
      have d1 := (hbw.cell (p := ⟨g, i, none⟩) hg).trans d1
      have c2 := (hbw.cell (p := ⟨w.heap.size, 2, none⟩) hyl0).trans HC2.out
      have d0 := (hbw.cell (p := ⟨w.heap.size + 1, 0, none⟩) hyl).trans HD0.out
      have HR2 := Hid.in (range_turned HR.out (Turned.of_below (Q := fun _ => False) hbw) hyl (fun q => q))
      clear hbw
      obtain ⟨x, hx⟩ : ∃ x, e.fr.getD i 0 = x := ⟨_, rfl⟩
      obtain ⟨y, hy⟩ : ∃ y, s.n = y := ⟨_, rfl⟩
      rw [hx] at d1
      rw [hy] at d0
      have HXX := Hid.in hx
      have HYY := Hid.in hy
      clear hx hy
      have hsum : ((e.a : Int) + (i : Int) % 4294967296) % 4294967296 = ((e.a + i : Nat) : Int) := by omega
      have hsum2 : ((e.a : Int) + (i : Int)) % 4294967296 = ((e.a + i : Nat) : Int) := by omega
      by_cases h : x < y
      · obtain ⟨cb, hcb⟩ : ∃ cb, s.cov (e.a + i) = cb := ⟨_, rfl⟩
        have HCB := Hid.in hcb
        clear hcb
        cases cb
        · go_wp2_with (first
            | (refine ld_accG _ 0 s HR2.out rfl _ rfl rfl ?_)
            | (go_at_call 71; refine (covers_any s (e.a + i) _ HF.out (by omega)).mono ?_; rintro r w2 ⟨rfl, hb2⟩; rw [HCB.out]; have HB2 := Hid.in hb2; clear hb2))
          go_roundw
          case rel =>
            refine ⟨i + 1, by simp, by omega, fun j hj => ?_, HBW.out.trans (HB2.out.mono HBW.out.size)⟩
            rcases Nat.lt_or_ge j i with q | q
            · exact HN.out j q
            · obtain rfl : j = i := by omega
              unfold Ac.early1
              rw [HCB.out]
              simp
          case measure =>
            simp [intOf]
            omega
        · go_wp2_with (first
            | (refine ld_accG _ 0 s HR2.out rfl _ rfl rfl ?_)
            | (go_at_call 71; refine (covers_any s (e.a + i) _ HF.out (by omega)).mono ?_; rintro r w2 ⟨rfl, hb2⟩; rw [HCB.out]; have HB2 := Hid.in hb2; clear hb2))
          go_ret
          refine ⟨?_, HB.out.trans ((HBW.out.trans (HB2.out.mono HBW.out.size)).mono HB.out.size)⟩
          rw [Ac.early_t (i := i) (by rw [HM.out]; exact him) (by unfold Ac.early1; rw [HXX.out, HYY.out, HCB.out, decide_eq_true h]; rfl)]
          rfl
      · go_wp2
        go_roundw
        case rel =>
          refine ⟨i + 1, by simp, by omega, fun j hj => ?_, HBW.out⟩
          rcases Nat.lt_or_ge j i with q | q
          · exact HN.out j q
          · obtain rfl : j = i := by omega
            unfold Ac.early1
            rw [HXX.out, HYY.out, decide_eq_false h]
            rfl
        case measure =>
          simp [intOf]
          omega
    · obtain rfl : i = m := by omega
      go_wp2
      go_ret
      refine ⟨?_, HB.out.trans (HBW.out.mono HB.out.size)⟩
      rw [Ac.early_f (fun j hj => HN.out j (by rw [← HM.out]; exact hj))]
      rfl
end Go.Proofs.YthbffonedpeeiaaDoor
