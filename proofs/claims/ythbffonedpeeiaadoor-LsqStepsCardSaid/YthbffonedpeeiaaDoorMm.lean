/-
  LSQ: one access turned; Value, Address.
-/
import Derived.Test.YthbffonedpeeiaaDoorMl
namespace Go.Proofs.YthbffonedpeeiaaDoor
open Go Go.RowKit
def QS.set (S : QS) (i : Nat) (y : Ac) : QS := ⟨S.size, S.on.set i y⟩
theorem QS.set_len (S : QS) (i : Nat) (y : Ac) : (S.set i y).on.length = S.on.length := by simp [QS.set]
theorem QS.at_set (S : QS) (i : Nat) (y : Ac) (h : i < S.on.length) : (S.set i y).at i = y := by
  unfold QS.at QS.set
  simp [List.getD_eq_getElem?_getD, h]
theorem QS.at_set' (S : QS) (i j : Nat) (y : Ac) (h : j ≠ i) : (S.set i y).at j = S.at j := by
  unfold QS.at QS.set
  simp [List.getD_eq_getElem?_getD, List.getElem?_set_ne (Ne.symm h)]
theorem Qm.upd {w w' : World} {B p : Nat} {v : Value} {S : QS} {y : Ac} (k : Qm w B p v S) (i : Nat) (hi : i < S.on.length) (hy : y.Fit) (hfr : y.fr = (S.at i).fr) (hfb : y.fb = (S.at i).fb) (hfc : y.fc = (S.at i).fc) (own : w'.ownsRow B 86 8 v S.on.length (flatA (S.on.set i y))) (t : Turned (fun j => v.ownBlock = some j) w w') : Step w w' B p v S v (S.set i y) := by
  have hvy : y.v = (S.at i).v := by unfold Ac.v; rw [hfr, hfb, hfc]
  have atl : ∀ j, j < (S.set i y).on.length → ((S.set i y).at j).fb = (S.at j).fb ∧ ((S.set i y).at j).v = (S.at j).v ∧ ((S.set i y).at j).fr = (S.at j).fr := by
    intro j hj
    by_cases e : j = i
    · subst e
      rw [S.at_set j y hi]
      exact ⟨hfb, hvy, hfr⟩
    · rw [S.at_set' i j y e]
      exact ⟨rfl, rfl, rfl⟩
  have hl : (S.set i y).on.length = S.on.length := S.set_len i y
  refine ⟨⟨t.cells k.c k.vp, ?_, fun j hj => ?_, k.vp, fun j hj => ?_, fun j hj b hb => ?_, fun j j' hj hj' b hb hb' => ?_, k.lo, by rw [hl]; exact k.small, fun j hj => ?_⟩, t.mono (fun j e => Or.inr (Or.inl e)), ?_⟩
  · rw [hl]; exact own
  · obtain ⟨-, h2, h3⟩ := atl j hj
    rw [h2, h3]
    exact own_turned (k.f j (by omega)) t (fun b hb e => k.fv j (by omega) b (by rw [Ac.vb] at hb; exact hb) e)
  · rw [(atl j hj).1]; exact k.fp j (by omega)
  · rw [(atl j hj).1] at hb; exact k.fv j (by omega) b hb
  · rw [(atl j hj).1] at hb
    rw [(atl j' hj').1] at hb'
    exact k.ff j j' (by omega) (by omega) b hb hb'
  · by_cases e : j = i
    · subst e
      rw [S.at_set j y hi]
      exact hy
    · rw [S.at_set' i j y e]
      exact k.fit j (by omega)
  · rintro j (rfl | h | ⟨i', hi', h⟩)
    · exact Or.inl (Or.inl rfl)
    · exact Or.inl (Or.inr (Or.inl h))
    · rw [(atl i' hi').1] at h
      exact Or.inl (Or.inr (Or.inr ⟨i', by omega, h⟩))
/-- one cell of a row is written -/
theorem own_cell {x : World} {B g cap : Nat} {l : List Ac} (h : x.ownsRow B 86 8 (.slice (some ⟨g, 0, none⟩) l.length cap) l.length (flatA l)) (i j : Nat) (u : Value) (y : Ac) (hi : i < l.length) (hj : j < 8) (hy : y.vs = (l.getD i a0).vs.set j u) : (x.setCell ⟨g, i * 8 + j, none⟩ u).ownsRow B 86 8 (.slice (some ⟨g, 0, none⟩) l.length cap) l.length (flatA (l.set i y)) := by
  have := own_set h (i * 8 + j) u
  rw [flatA_set l i j u y hi hj hy] at this
  exact this
theorem Step.trans {w w1 w2 : World} {B p : Nat} {v v1 v2 : Value} {S S1 S2 : QS} (h : Step w w1 B p v S v1 S1) (k : Step w1 w2 B p v1 S1 v2 S2) : Step w w2 B p v S v2 S2 := by
  refine ⟨k.q, ⟨k.t.os.trans h.t.os, k.t.tape.trans h.t.tape, k.t.output.trans h.t.output, Nat.le_trans h.t.size k.t.size, fun i hi hb => ?_⟩, fun j hj => ?_⟩
  · refine (k.t.block i (Nat.lt_of_lt_of_le hi h.t.size) (fun e => ?_)).trans (h.t.block i hi hb)
    rcases h.o i e with q | q
    · exact hb q
    · omega
  · rcases k.o j hj with q | q
    · exact h.o j q
    · exact Or.inr (Nat.le_trans h.t.size q)
theorem Qm.set1 {w : World} {B p g cap : Nat} {v : Value} {S : QS} (k : Qm w B p v S) (hv : v = .slice (some ⟨g, 0, none⟩) S.on.length cap) (i : Nat) (hi : i < S.on.length) (j : Nat) (hj : j < 8) (u : Value) (y : Ac) (h1 : y.vs = (S.at i).vs.set j u) (hy : y.Fit) (hfr : y.fr = (S.at i).fr) (hfb : y.fb = (S.at i).fb) (hfc : y.fc = (S.at i).fc) : Step w (w.setCell ⟨g, i * 8 + j, none⟩ u) B p v S v (S.set i y) := by
  have l := k.l
  rw [hv] at l
  have o1 := own_cell l i j u y hi hj h1
  rw [← hv] at o1
  exact k.upd i hi hy hfr hfb hfc o1 ((Turned.refl _ w).set (b := g) (by rw [hv]; rfl) _ _)
theorem Qm.set2 {w : World} {B p g cap : Nat} {v : Value} {S : QS} (k : Qm w B p v S) (hv : v = .slice (some ⟨g, 0, none⟩) S.on.length cap) (i : Nat) (hi : i < S.on.length) (j1 j2 : Nat) (hj1 : j1 < 8) (hj2 : j2 < 8) (u1 u2 : Value) (y1 y : Ac) (h1 : y1.vs = (S.at i).vs.set j1 u1) (h2 : y.vs = y1.vs.set j2 u2) (hy : y.Fit) (hfr : y.fr = (S.at i).fr) (hfb : y.fb = (S.at i).fb) (hfc : y.fc = (S.at i).fc) : Step w ((w.setCell ⟨g, i * 8 + j1, none⟩ u1).setCell ⟨g, i * 8 + j2, none⟩ u2) B p v S v (S.set i y) := by
  have l := k.l
  rw [hv] at l
  have o1 := own_cell l i j1 u1 y1 hi hj1 h1
  have hl1 : (S.on.set i y1).length = S.on.length := by simp
  have o1' : (w.setCell ⟨g, i * 8 + j1, none⟩ u1).ownsRow B 86 8 (.slice (some ⟨g, 0, none⟩) (S.on.set i y1).length cap) (S.on.set i y1).length (flatA (S.on.set i y1)) := by rw [hl1]; exact o1
  have o2 := own_cell o1' i j2 u2 y (by omega) hj2 (by
    have : (S.on.set i y1).getD i a0 = y1 := by simp [List.getD_eq_getElem?_getD, hi]
    rw [this]
    exact h2)
  rw [List.set_set, hl1, ← hv] at o2
  exact k.upd i hi hy hfr hfb hfc o2 (((Turned.refl _ w).set (b := g) (by rw [hv]; rfl) _ _).set (b := g) (by rw [hv]; rfl) _ _)
theorem mayStand_any (a : Nat) (z : Int) (w : World) (_ha : a < 4294967296) : Calls Tryd.prog 40 #[.int .u32 a, .int .i64 z] w fun e w' => e = .returned (.bool (decide ((z = 1 ∨ z = 2 ∨ z = 4) ∧ (a : Int) % z = 0))) ∧ w' = w := by
  by_cases h1 : z = 1
  · subst h1
    go_enter Tryd.func40, Tryd.ntmps40
    go_wp2
    go_ret
    exact ⟨by simp, rfl⟩
  · by_cases h2 : z = 2
    · subst h2
      go_enter Tryd.func40, Tryd.ntmps40
      go_wp2
      go_ret
      exact ⟨by simp [Bool.beq_eq_decide_eq], rfl⟩
    · by_cases h3 : z = 4
      · subst h3
        go_enter Tryd.func40, Tryd.ntmps40
        go_wp2
        go_ret
        exact ⟨by simp [Bool.beq_eq_decide_eq], rfl⟩
      · have e1 : (z == 1) = false := by simpa using h1
        have e2 : (z == 2) = false := by simpa using h2
        have e3 : (z == 4) = false := by simpa using h3
        go_enter Tryd.func40, Tryd.ntmps40
        go_wp2
        go_ret
        exact ⟨by simp [h1, h2, h3], rfl⟩
theorem First.some {f : Nat → Bool} {n : Nat} {r : Int} (h : First f n r) (hr : r ≠ -1) : ∃ i : Nat, i < n ∧ f i = true ∧ r = i := by
  rcases h with ⟨i, hi, h1, -, rfl⟩ | ⟨-, rfl⟩
  · exact ⟨i, hi, h1, rfl⟩
  · exact absurd rfl hr
/-- may a store be given its value? -/
def QS.mayV (S : QS) (r : Int) : Prop := r ≠ -1 ∧ (S.at r.toNat).st = true ∧ (S.at r.toNat).hv = false
theorem First.uniq {f : Nat → Bool} {n : Nat} {r s : Int} (h : First f n r) (k : First f n s) : r = s := by
  rcases h with ⟨i, hi, h1, h2, rfl⟩ | ⟨h1, rfl⟩
  · rcases k with ⟨j, hj, k1, k2, rfl⟩ | ⟨k1, rfl⟩
    · rcases Nat.lt_trichotomy i j with q | q | q
      · rw [k2 i q] at h1; cases h1
      · rw [q]
      · rw [h2 j q] at k1; cases k1
    · rw [k1 i hi] at h1; cases h1
  · rcases k with ⟨j, hj, k1, k2, rfl⟩ | ⟨k1, rfl⟩
    · rw [h1 j hj] at k1; cases k1
    · rfl
/-- a row's cells, behind a call -/
theorem Qm.row {x : World} {B p : Nat} {v : Value} {S : QS} (k : Qm x B p v S) (i : Nat) (hi : i < S.on.length) : ∃ g cap, v = .slice (some ⟨g, 0, none⟩) S.on.length cap ∧ g < x.heap.size ∧ x.rangeAt g (i * 8) (S.at i).vs ∧ (∀ o, x.frozen? ⟨g, o, none⟩ = false) ∧ S.on.length ≤ cap ∧ cap ≤ maxLen := by
  obtain ⟨q, cap, rfl, hcap, hel⟩ := own_row k.l
  obtain ⟨g, rfl, -, hg, hr, hf⟩ := hel i hi
  exact ⟨g, cap, rfl, hg, hr, hf, hcap⟩
set_option maxRecDepth 100000 in
set_option maxHeartbeats 1000000 in
theorem value_bad (B p : Nat) (v : Value) (S : QS) (seq r : Int) (d : Nat) (w : World) (k : Qm w B p v S) (hr : First (S.pend seq) S.on.length r) (h : ¬ S.mayV r) : Calls Tryd.prog 12 #[.pointer (some ⟨p, 0, none⟩), .int .i64 seq, .int .u32 d] w fun e w' => e = .returned (errV 7) ∧ Below w.heap.size w w' := by
  have HC := Hid.in (pending_any B p v S seq w k)
  have HK := Hid.in k
  have HR := Hid.in hr
  by_cases h1 : r = -1
  · subst h1
    clear k hr h
    go_enter Tryd.func12, Tryd.ntmps12
    go_wp2_with (first | (refine HC.out.mono ?_; rintro e w2 ⟨r2, rfl, h1, h2⟩; obtain rfl := h1.uniq HR.out; have H2 := Hid.in h2; clear h1 h2))
    go_ret
    exact ⟨rfl, H2.out⟩
  · obtain ⟨i, hi, -, rfl⟩ := hr.some h1
    have hs := k.small.1
    have hmul : (i : Int) * 8 = ((i * 8 : Nat) : Int) := by omega
    have hne : ((i : Int) == -1) = false := by simp
    have h2 : (S.at i).st = true → (S.at i).hv = true := fun e => by
      cases e2 : (S.at i).hv
      · exact absurd ⟨h1, by rw [Int.toNat_natCast]; exact e, by rw [Int.toNat_natCast]; exact e2⟩ h
      · rfl
    have H0 : Hid (∀ w2, Below w.heap.size w w2 → ∃ g cap, w2.cell? ⟨p, 1, none⟩ = some (.slice (some ⟨g, 0, none⟩) S.on.length cap) ∧ w2.cell? ⟨g, i * 8 + 1, none⟩ = some (.bool (S.at i).st) ∧ w2.cell? ⟨g, i * 8 + 5, none⟩ = some (.bool (S.at i).hv)) := fun w2 hb => by
      have k2 := HK.out.below hb
      obtain ⟨g, cap, hv, hg, hrg, -⟩ := k2.row i hi
      obtain ⟨-, d1, -, -, -, d5, -⟩ := row_cells hrg
      exact ⟨g, cap, by rw [← hv]; exact k2.cells.2.2.1, d1, d5⟩
    generalize (S.at i).st = sb at H0 h2
    generalize (S.at i).hv = hb at H0 h2
    clear k hr h
    cases sb
    · go_enter Tryd.func12, Tryd.ntmps12
      go_wp2_with (first | (refine HC.out.mono ?_; rintro e w2 ⟨r2, rfl, h1, h2⟩; obtain rfl := h1.uniq HR.out; obtain ⟨g, cap, x1, x2, x3⟩ := H0.out w2 h2; have H2 := Hid.in h2; clear h1 h2))
      go_ret
      exact ⟨rfl, H2.out⟩
    · obtain rfl := h2 rfl
      go_enter Tryd.func12, Tryd.ntmps12
      go_wp2_with (first | (refine HC.out.mono ?_; rintro e w2 ⟨r2, rfl, h1, h2⟩; obtain rfl := h1.uniq HR.out; obtain ⟨g, cap, x1, x2, x3⟩ := H0.out w2 h2; have H2 := Hid.in h2; clear h1 h2))
      go_ret
      exact ⟨rfl, H2.out⟩
set_option maxRecDepth 100000 in
set_option maxHeartbeats 1000000 in
theorem value_good (B p : Nat) (v : Value) (S : QS) (seq : Int) (i d : Nat) (w : World) (k : Qm w B p v S) (hr : First (S.pend seq) S.on.length i) (hi : i < S.on.length) (h1 : (S.at i).st = true) (h2 : (S.at i).hv = false) (hd : d < 4294967296) : Calls Tryd.prog 12 #[.pointer (some ⟨p, 0, none⟩), .int .i64 seq, .int .u32 d] w fun e w' => e = .returned .nilIface ∧ Step w w' B p v S v (S.set i { S.at i with d := d, hv := true }) := by
  have HC := Hid.in (pending_any B p v S seq w k)
  have HK := Hid.in k
  have HR := Hid.in hr
  have hs := k.small.1
  have hmul : (i : Int) * 8 = ((i * 8 : Nat) : Int) := by omega
  have hne : ((i : Int) == -1) = false := by simp
  have H0 : Hid (∀ w2, Below w.heap.size w w2 → ∃ g cap, v = .slice (some ⟨g, 0, none⟩) S.on.length cap ∧ p ≠ g ∧ w2.cell? ⟨p, 1, none⟩ = some (.slice (some ⟨g, 0, none⟩) S.on.length cap) ∧ w2.cell? ⟨g, i * 8 + 1, none⟩ = some (.bool true) ∧ w2.cell? ⟨g, i * 8 + 4, none⟩ = some (.int .u32 (S.at i).d) ∧ w2.cell? ⟨g, i * 8 + 5, none⟩ = some (.bool false) ∧ w2.frozen? ⟨g, i * 8 + 4, none⟩ = false ∧ w2.frozen? ⟨g, i * 8 + 5, none⟩ = false) := fun w2 hb => by
    have k2 := HK.out.below hb
    obtain ⟨g, cap, hv, hg, hrg, hf, -⟩ := k2.row i hi
    obtain ⟨-, d1, -, -, d4, d5, -⟩ := row_cells hrg
    rw [h1] at d1
    rw [h2] at d5
    exact ⟨g, cap, hv, fun e => k2.vp (by rw [hv, e]; rfl), by rw [← hv]; exact k2.cells.2.2.1, d1, d4, d5, hf _, hf _⟩
  clear k hr
  go_enter Tryd.func12, Tryd.ntmps12
  go_wp2_with (first | (refine HC.out.mono ?_; rintro e w2 ⟨r2, rfl, h1, h2⟩; obtain rfl := h1.uniq HR.out; obtain ⟨g, cap, hv, hpg, x1, x2, x3, x4, x5, x6⟩ := H0.out w2 h2; have HV := Hid.in hv; have H2 := Hid.in h2; clear h1 h2 hv))
  go_region
  go_wp2
  go_ret
  refine ⟨rfl, ?_⟩
  have k2 := HK.out.below H2.out
  have s1 := (Step.same HK.out H2.out).trans (k2.set2 HV.out i hi 4 5 (by decide) (by decide) (.int .u32 d) (.bool true) { S.at i with d := d } { S.at i with d := d, hv := true } rfl rfl (by
    have f := HK.out.fit i hi
    exact ⟨f.n0, f.n1, f.a, hd, f.z, f.az, f.f, f.fa, f.fz⟩) rfl rfl rfl)
  exact s1.trans (Step.same s1.q (Below.refl _ _).drew)
end Go.Proofs.YthbffonedpeeiaaDoor
