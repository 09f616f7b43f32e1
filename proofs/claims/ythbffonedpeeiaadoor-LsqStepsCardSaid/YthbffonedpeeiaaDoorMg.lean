/-
  LSQ: which are wanted, by their bytes.
-/
import Derived.Test.YthbffonedpeeiaaDoorMe
import Derived.Test.YthbffonedpeeiaaDoorMf
namespace Go.Proofs.YthbffonedpeeiaaDoor
open Go Go.RowKit
theorem wentW (e s : Ac) (b : Nat) (w : World) (hf : s.Fit) (he : e.a + e.fr.length ≤ 4294967296) (h4 : e.fr.length ≤ 4) (hr : FrAt w e) (q : w.rangeAt b 0 s.vs) (hbl : b < w.heap.size) : Calls Tryd.prog 66 #[.agg e.vs.toArray, .pointer (some ⟨b, 0, none⟩)] w fun r w' => r = .returned (.bool (decide (s.n < e.n) && e.early s)) ∧ Below w.heap.size w w' := by
  obtain ⟨X, hX, r1, hb, hs⟩ := boxed e w 86
  have r2 := range_turned q (Turned.of_below (Q := fun _ => False) hb) hbl (fun q => q)
  obtain ⟨c0, -⟩ := row_cells0 r1
  obtain ⟨d0, -⟩ := row_cells0 r2
  have HX := Hid.in hX
  have HB := Hid.in hb
  have HR := Hid.in r1
  have HS := Hid.in r2
  have HF := Hid.in hf
  have HFR := Hid.in (hr.below hb)
  obtain ⟨n1, hn1⟩ : ∃ n1, e.n = n1 := ⟨_, rfl⟩
  obtain ⟨n2, hn2⟩ : ∃ n2, s.n = n2 := ⟨_, rfl⟩
  rw [hn1] at c0 ⊢
  rw [hn2] at d0 ⊢
  clear r1 hX hb r2 q hn1 hn2 hf hr hbl
  by_cases h : n2 < n1
  · rw [decide_eq_true h]
    go_enter Tryd.func66, Tryd.ntmps66
    go_upto_region 1 with fail
    rw [HX.out]
    go_wp2_with (first
      | (refine ld_accG w.heap.size 0 e HR.out rfl _ rfl rfl ?_)
      | (refine ld_accG b 0 s HS.out rfl _ rfl rfl ?_)
      | (go_at_call 67; refine (readTooEarly_any e s _ HF.out he h4 HFR.out).mono ?_; rintro r w2 ⟨rfl, hb2⟩; have HB2 := Hid.in hb2; clear hb2))
    go_ret
    exact ⟨by simp, HB.out.trans (HB2.out.mono (by omega))⟩
  · rw [decide_eq_false h]
    go_enter Tryd.func66, Tryd.ntmps66
    go_upto_region 1 with fail
    rw [HX.out]
    go_wp2
    go_ret
    exact ⟨by simp, HB.out⟩
/-- does a byte of it come of memory? -/
def Ac.mem (e : Ac) : Bool := (List.range e.fr.length).any fun i => decide ((-1 : Int) = e.fr.getD i 0)
theorem spoilW (e : Ac) (b y : Nat) (w : World) (hf : e.Fit) (hy : y < 4294967296) (hr : FrAt w e) (q : w.cell? ⟨b, 0, none⟩ = some (.int .u32 y)) : Calls Tryd.prog 59 #[.agg e.vs.toArray, .pointer (some ⟨b, 0, none⟩)] w fun r w' => r = .returned (.bool (e.line y && e.mem)) ∧ Below w.heap.size w w' := by
  obtain ⟨X, hX, r1, hb, hs⟩ := boxed e w 86
  obtain ⟨-, -, -, -, -, -, -, c7⟩ := row_cells0 r1
  have q2 := (hb.cell (p := ⟨b, 0, none⟩) (cell_here q)).trans q
  have HX := Hid.in hX
  have HB := Hid.in hb
  have HR := Hid.in r1
  have HF := Hid.in hf
  obtain ⟨qa, hqa⟩ : ∃ qa, e.fb.map (fun b => (⟨b, 0, none⟩ : Addr)) = qa := ⟨_, rfl⟩
  have HN : Hid (Nums X qa e.fr) := (hr.below hb).at hqa
  have h4 := hf.f
  unfold Ac.v at c7
  rw [hqa] at c7
  have HC7 := Hid.in c7
  have hxl : w.heap.size < X.heap.size := by omega
  obtain ⟨lb, hlb⟩ : ∃ lb, e.line y = lb := ⟨_, rfl⟩
  have HLB := Hid.in hlb
  rw [hlb]
  clear r1 hX hb q hf hr hqa c7 hlb
  cases lb
  · go_enter Tryd.func59, Tryd.ntmps59
    go_upto_region 1 with fail
    rw [HX.out]
    go_wp2_with (first
      | (refine ld_accG w.heap.size 0 e HR.out rfl _ rfl rfl ?_)
      | (go_at_call 60; refine (isInLine_any e y _ HF.out.a hy).mono ?_; rintro r w2 ⟨rfl, hb2⟩; rw [HLB.out]; have HB2 := Hid.in hb2; clear hb2))
    go_ret
    exact ⟨by simp, HB.out.trans (HB2.out.mono (by omega))⟩
  · go_enter Tryd.func59, Tryd.ntmps59
    go_upto_region 1 with fail
    rw [HX.out]
    go_wp2_with (first
      | (refine ld_accG w.heap.size 0 e HR.out rfl _ rfl rfl ?_)
      | (go_at_call 60; refine (isInLine_any e y _ HF.out.a hy).mono ?_; rintro r w2 ⟨rfl, hb2⟩; rw [HLB.out]; have c7 := (hb2.cell (p := ⟨w.heap.size, 7, none⟩) hxl).trans HC7.out; have HN2 := Hid.in (HN.out.below hb2); have HB2 := Hid.in hb2; clear hb2)
      | (go_at_call 61; refine (contains_any qa e.fc e.fr (-1) _ HN2.out h4).mono ?_; rintro r w3 ⟨rfl, rfl⟩))
    go_ret
    exact ⟨by simp [Ac.mem], HB.out.trans (HB2.out.mono (by omega))⟩
/-- is the store's value at a place still to come? -/
def QS.lack (S : QS) (k : Int) : Bool := decide (k ≠ -1) && !(S.at k.toNat).hv
theorem lackW (B p b : Nat) (v : Value) (S : QS) (k : Int) (w : World) (K : Qm w B p v S) (hk : k = -1 ∨ (0 ≤ k ∧ k < S.on.length)) (q : w.cell? ⟨b, 0, none⟩ = some (.pointer (some ⟨p, 0, none⟩))) : Calls Tryd.prog 73 #[.int .i64 k, .pointer (some ⟨b, 0, none⟩)] w fun r w' => r = .returned (.bool (S.lack k)) ∧ Below w.heap.size w w' := by
  obtain ⟨hp, -, c1, -⟩ := K.cells
  have hs := K.small.1
  by_cases h : k = -1
  · subst h
    clear K
    go_enter Tryd.func73, Tryd.ntmps73
    go_wp2
    go_ret
    exact ⟨by simp [QS.lack], Below.refl _ _⟩
  · obtain ⟨i, rfl⟩ : ∃ i : Nat, k = i := ⟨k.toNat, by omega⟩
    have hi : i < S.on.length := by omega
    obtain ⟨q1, cap, rfl, hcap, hel⟩ := own_row K.l
    obtain ⟨g, rfl, -, hg, hr, -⟩ := hel i hi
    obtain ⟨-, -, -, -, -, d5, -, -⟩ := row_cells hr
    have hd : decide ((i : Int) ≠ -1) = true := decide_eq_true (by omega)
    have hne : ((i : Int) == -1) = false := by simp
    have hmul : (i : Int) * 8 = ((i * 8 : Nat) : Int) := by omega
    unfold QS.lack QS.at
    rw [hd, Int.toNat_natCast]
    generalize (S.on.getD i a0).hv = hb at d5 ⊢
    clear K hel hr hd
    go_enter Tryd.func73, Tryd.ntmps73
    go_wp2
    go_ret
    exact ⟨by simp, Below.refl _ _⟩
end Go.Proofs.YthbffonedpeeiaaDoor
