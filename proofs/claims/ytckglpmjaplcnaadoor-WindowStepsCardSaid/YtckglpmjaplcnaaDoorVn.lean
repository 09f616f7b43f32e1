/-
  WINDOW's LAW WindowFlows: a chain and others, as plain lists.
-/
import Derived.Test.YtckglpmjaplcnaaDoorVm
namespace Go.Proofs.YtckglpmjaplcnaaDoor
open Go Go.RowKit
def la (f : Nat → Bool) : Nat → Nat
  | 0 => 0
  | j + 1 => if f j then 40 + j else la f j
def ent (f : Nat → Bool) (st : Nat → Int) (j : Nat) : Ent := ⟨j, 0, if f j then (la f j : Int) else -1, -1, st j⟩
def stW (f : Nat → Bool) (n k : Nat) (st : Nat → Int) (wk : Nat → Bool) : WS := ⟨n, k, (List.range k).map (ent f st), 128, fun q => decide (40 ≤ q ∧ q < 40 + k) && f (q - 40) && !wk (q - 40)⟩
variable {f : Nat → Bool} {n k : Nat} {st : Nat → Int} {wk : Nat → Bool}
theorem la_cases : ∀ j, la f j = 0 ∨ ∃ c, c < j ∧ f c = true ∧ la f j = 40 + c
  | 0 => Or.inl rfl
  | j + 1 => by
    unfold la
    by_cases h : f j = true
    · rw [if_pos h]
      exact Or.inr ⟨j, by omega, h, rfl⟩
    · rw [if_neg h]
      rcases la_cases j with e | ⟨c, h1, h2, h3⟩
      · exact Or.inl e
      · exact Or.inr ⟨c, by omega, h2, h3⟩
theorem stW_len : (stW f n k st wk).on.length = k := by simp [stW]
theorem on_at (j : Nat) (h : j < k) : (stW f n k st wk).on.getD j e0 = ent f st j := by
  simp [stW, List.getD_eq_getElem?_getD, h]
theorem stW_num (j : Nat) (h : j < k) : (stW f n k st wk).num j = j := by
  unfold WS.num
  rw [on_at j h]
  rfl
theorem stW_st (j : Nat) (h : j < k) : (stW f n k st wk).st j = st j := by
  unfold WS.st
  rw [on_at j h]
  rfl
theorem stW_at (j : Nat) (h : j < k) : (stW f n k st wk).At j j := by
  refine ⟨by rw [stW_len]; exact h, stW_num j h, fun i hi => ?_⟩
  rw [stW_num i (by omega)]
  omega
theorem stW_congr {st' : Nat → Int} (h : ∀ j, j < k → st j = st' j) : stW f n k st wk = stW f n k st' wk := by
  unfold stW
  have : (List.range k).map (ent f st) = (List.range k).map (ent f st') := List.map_congr_left fun j hj => by
    unfold ent
    rw [h j (List.mem_range.1 hj)]
  rw [this]
theorem stW_enter_t (hf : f k = true) : (stW f n k st (fun _ => false)).enter 0 (la f k) (-1) (40 + k) = stW f n (k + 1) (fun j => if j = k then 0 else st j) (fun _ => false) := by
  have e1 : (List.range k).map (ent f st) ++ [⟨(k : Int), 0, (la f k : Int), -1, 0⟩] = (List.range (k + 1)).map (ent f (fun j => if j = k then 0 else st j)) := by
    rw [List.range_succ, List.map_append]
    congr 1
    · refine List.map_congr_left fun j hj => ?_
      have := List.mem_range.1 hj
      have hne : ¬ j = k := by omega
      simp [ent, hne]
    · simp [ent, hf]
  unfold WS.enter stW
  simp only
  rw [e1, if_pos (by omega)]
  congr 1
  funext q
  unfold upd
  by_cases h : q = ((40 : Int) + k).toNat
  · rw [if_pos h]
    have h2 : q = 40 + k := by omega
    subst h2
    simp [hf]
  · rw [if_neg h]
    have h2 : q ≠ 40 + k := by omega
    have h3 : decide (40 ≤ q ∧ q < 40 + k) = decide (40 ≤ q ∧ q < 40 + (k + 1)) := by
      apply decide_eq_decide.2
      omega
    dsimp only
    rw [h3]
theorem stW_enter_f (hf : f k = false) : (stW f n k st (fun _ => false)).enter 0 (-1) (-1) (-1) = stW f n (k + 1) (fun j => if j = k then 0 else st j) (fun _ => false) := by
  have e1 : (List.range k).map (ent f st) ++ [⟨(k : Int), 0, -1, -1, 0⟩] = (List.range (k + 1)).map (ent f (fun j => if j = k then 0 else st j)) := by
    rw [List.range_succ, List.map_append]
    congr 1
    · refine List.map_congr_left fun j hj => ?_
      have := List.mem_range.1 hj
      have hne : ¬ j = k := by omega
      simp [ent, hne]
    · simp [ent, hf]
  unfold WS.enter stW
  simp only
  rw [e1, if_neg (by omega)]
  congr 1
  funext q
  by_cases h : q = 40 + k
  · subst h
    simp [hf]
  · have h3 : decide (40 ≤ q ∧ q < 40 + k) = decide (40 ≤ q ∧ q < 40 + (k + 1)) := by
      apply decide_eq_decide.2
      omega
    rw [h3]
theorem stW_set (j : Nat) (h : j < k) (s : Int) : (stW f n k st wk).setSt j s = stW f n k (upd st j s) wk := by
  unfold WS.setSt
  rw [on_at j h]
  unfold stW
  have e : ((List.range k).map (ent f st)).set j { ent f st j with st := s } = (List.range k).map (ent f (upd st j s)) := by
    apply List.ext_getElem?
    intro i
    rw [List.getElem?_set]
    by_cases q : j = i
    · subst q
      simp [h, ent, upd]
    · rw [if_neg q]
      by_cases hi : i < k
      · simp [hi, ent, upd]
        intro e
        exact absurd e.symm q
      · rw [List.getElem?_eq_none (by simp; omega), List.getElem?_eq_none (by simp; omega)]
  simp only [e]
theorem stW_wake (j : Nat) : { stW f n k st wk with ab := upd (stW f n k st wk).ab (40 + j) false } = stW f n k st (upd wk j true) := by
  have e : upd (stW f n k st wk).ab (40 + j) false = (stW f n k st (upd wk j true)).ab := by
    funext q
    unfold stW upd
    dsimp only
    by_cases e : q = 40 + j
    · subst e
      simp
    · rw [if_neg e]
      by_cases h4 : 40 ≤ q
      · rw [if_neg (by omega)]
      · simp [h4]
  rw [e]
  rfl
theorem stW_may (j : Nat) (h : j < k) : (stW f n k st wk).may j = (decide (st j = 0) && (!f j || decide (la f j = 0) || wk (la f j - 40))) := by
  unfold WS.may
  rw [on_at j h]
  have t1 : (stW f n k st wk).there (-1) = true := by simp [WS.there]
  show (decide (st j = 0) && (stW f n k st wk).there (if f j then (la f j : Int) else -1) && (stW f n k st wk).there (-1)) = _
  rw [t1, Bool.and_true]
  congr 1
  by_cases hf : f j = true
  · rw [if_pos hf, hf]
    rcases la_cases (f := f) j with e | ⟨c, h1, h2, h3⟩
    · rw [e]
      simp [WS.there, stW]
    · rw [h3]
      have h4 : ¬ ((40 + c : Nat) : Int) < 0 := by omega
      have h5 : c < k := by omega
      have h6 : ((40 : Int) + c).toNat = 40 + c := by omega
      simp [WS.there, stW, h2, h5, h6]
      omega
  · rw [if_neg hf, t1]
    simp [hf]
def C (f : Nat → Bool) (n : Nat) : List Nat := (List.range n).filter f
def R (f : Nat → Bool) (n : Nat) : List Nat := (List.range n).filter (fun j => !f j)
theorem C_succ (n : Nat) : C f (n + 1) = if f n then C f n ++ [n] else C f n := by
  unfold C
  rw [List.range_succ, List.filter_append]
  by_cases h : f n = true <;> simp [h]
theorem R_succ (n : Nat) : R f (n + 1) = if f n then R f n else R f n ++ [n] := by
  unfold R
  rw [List.range_succ, List.filter_append]
  by_cases h : f n = true <;> simp [h]
theorem C_mem (j : Nat) : j ∈ C f n ↔ j < n ∧ f j = true := by simp [C]
theorem R_mem (j : Nat) : j ∈ R f n ↔ j < n ∧ f j = false := by simp [R]
theorem C_nd : (C f n).Nodup := List.Pairwise.filter _ List.nodup_range
theorem R_nd : (R f n).Nodup := List.Pairwise.filter _ List.nodup_range
theorem C_len : (C f n).length ≤ n := by
  have := List.length_filter_le f (List.range n)
  rw [List.length_range] at this
  exact this
theorem R_len : (R f n).length ≤ n := by
  have := List.length_filter_le (fun j => !f j) (List.range n)
  rw [List.length_range] at this
  exact this
theorem getD_mem (l : List Nat) (k : Nat) (h : k < l.length) : l.getD k 0 ∈ l := by
  rw [List.getD_eq_getElem?_getD, List.getElem?_eq_getElem h]
  exact List.getElem_mem h
theorem take_mem {l : List Nat} (hn : l.Nodup) (i k : Nat) (h : i < l.length) : l.getD i 0 ∈ l.take k ↔ i < k := by
  rw [List.getD_eq_getElem?_getD, List.getElem?_eq_getElem h]
  show l[i] ∈ l.take k ↔ i < k
  constructor
  · intro hm
    obtain ⟨m, h1, h2⟩ := List.mem_take_iff_getElem.1 hm
    have hp := List.pairwise_iff_getElem.1 hn
    rcases Nat.lt_trichotomy m i with q | q | q
    · exact absurd h2 (hp m i (by omega) h q)
    · omega
    · exact absurd h2.symm (hp i m h (by omega) q)
  · intro hk
    exact List.mem_take_iff_getElem.2 ⟨i, by omega, rfl⟩
theorem take_next (l : List Nat) (k : Nat) (h : k < l.length) : l.take (k + 1) = l.take k ++ [l.getD k 0] := by
  rw [List.take_add_one, List.getD_eq_getElem?_getD, List.getElem?_eq_getElem h]
  rfl
theorem drop_next (l : List Nat) (m : Nat) (h : m < l.length) : l.drop m = l.getD m 0 :: l.drop (m + 1) := by
  rw [List.drop_eq_getElem_cons h, List.getD_eq_getElem?_getD, List.getElem?_eq_getElem h]
  rfl
theorem drop_mem {l : List Nat} (hn : l.Nodup) (m : Nat) (h : m < l.length) : l.getD m 0 ∉ l.drop (m + 1) := by
  have e := drop_next l m h
  have h2 : (l.drop m).Nodup := List.Nodup.sublist (List.drop_sublist m l) hn
  rw [e] at h2
  exact (List.nodup_cons.1 h2).1
theorem la_C : ∀ n, la f n = if (C f n).length = 0 then 0 else 40 + (C f n).getD ((C f n).length - 1) 0
  | 0 => rfl
  | n + 1 => by
    unfold la
    rw [C_succ]
    by_cases h : f n = true
    · rw [if_pos h, if_pos h, if_neg (by simp)]
      simp
    · rw [if_neg h, if_neg h]
      exact la_C n
theorem la_at : ∀ n k, k < (C f n).length → la f ((C f n).getD k 0) = if k = 0 then 0 else 40 + (C f n).getD (k - 1) 0
  | 0, k, h => by simp [C] at h
  | n + 1, k, h => by
    rw [C_succ] at h ⊢
    by_cases hf : f n = true
    · rw [if_pos hf] at h ⊢
      by_cases hk : k < (C f n).length
      · have e1 : (C f n ++ [n]).getD k 0 = (C f n).getD k 0 := by
          simp only [List.getD_eq_getElem?_getD]
          rw [List.getElem?_append_left hk]
        have e2 : (C f n ++ [n]).getD (k - 1) 0 = (C f n).getD (k - 1) 0 := by
          simp only [List.getD_eq_getElem?_getD]
          rw [List.getElem?_append_left (by omega)]
        rw [e1, e2]
        exact la_at n k hk
      · have hk2 : k = (C f n).length := by simp at h; omega
        subst hk2
        have e1 : (C f n ++ [n]).getD (C f n).length 0 = n := by simp
        rw [e1, la_C n]
        by_cases h0 : (C f n).length = 0
        · rw [if_pos h0, if_pos h0]
        · rw [if_neg h0, if_neg h0]
          have e2 : (C f n ++ [n]).getD ((C f n).length - 1) 0 = (C f n).getD ((C f n).length - 1) 0 := by
            simp only [List.getD_eq_getElem?_getD]
            rw [List.getElem?_append_left (by omega)]
          rw [e2]
    · rw [if_neg hf] at h ⊢
      exact la_at n k h
theorem tl_filter (pick : Nat → Bool) (nm : Nat → Int) (most : Int) : ∀ i : Nat, (i : Int) ≤ most → tl pick nm most i = ((List.range i).filter pick).map nm
  | 0, _ => rfl
  | i + 1, h => by
    have hl := tl_le pick nm most i
    unfold tl
    rw [if_neg (by omega), tl_filter pick nm most i (by omega), List.range_succ, List.filter_append]
    by_cases hp : pick i = true <;> simp [hp]
theorem stW_ready (hk : k ≤ 64) : (stW f n k st wk).ready 0 100 = ((List.range k).filter (fun j => (stW f n k st wk).may j)).map (fun j : Nat => (j : Int)) := by
  unfold WS.ready
  rw [stW_len, tl_filter _ _ _ k (by omega)]
  have e1 : (List.range k).filter (fun i => (stW f n k st wk).isCls 0 i && (stW f n k st wk).may i) = (List.range k).filter (fun j => (stW f n k st wk).may j) := by
    refine List.filter_congr fun j hj => ?_
    have := List.mem_range.1 hj
    have e2 : (stW f n k st wk).isCls 0 j = true := by
      unfold WS.isCls
      rw [on_at j this]
      rfl
    rw [e2, Bool.true_and]
  rw [e1]
  refine List.map_congr_left fun j hj => ?_
  have := List.mem_range.1 (List.mem_filter.1 hj).1
  exact stW_num j this
theorem first_count : ∀ m, ((List.range m).filter (fun j => !f j || decide (la f j = 0))).length = (R f m).length + (if 0 < (C f m).length then 1 else 0)
  | 0 => rfl
  | m + 1 => by
    rw [List.range_succ, List.filter_append, List.length_append, first_count m, R_succ, C_succ]
    have hl := la_C (f := f) m
    by_cases hf : f m = true
    · rw [if_pos hf, if_pos hf]
      by_cases h0 : (C f m).length = 0
      · rw [if_pos h0] at hl
        simp [hf, hl, h0]
      · rw [if_neg h0] at hl
        have h1 : ¬ la f m = 0 := by omega
        have h2 : 0 < (C f m).length := by omega
        simp [hf, h1, h2]
    · rw [if_neg hf, if_neg hf]
      simp [hf]
      omega
theorem ready_first (hn : n ≤ 64) : ((stW f n n (fun _ => 0) (fun _ => false)).ready 0 100).length = (R f n).length + (if 0 < (C f n).length then 1 else 0) := by
  rw [stW_ready hn, List.length_map, ← first_count n]
  congr 1
  refine List.filter_congr fun j hj => ?_
  rw [stW_may j (List.mem_range.1 hj)]
  simp
/-- behind k of the others have begun -/
def st2 (f : Nat → Bool) (n k : Nat) (j : Nat) : Int := if f j then 0 else if j ∈ (R f n).take k then 1 else 0
/-- behind k of the chain are done -/
def st3 (f : Nat → Bool) (n k : Nat) (j : Nat) : Int := if f j then (if j ∈ (C f n).take k then 2 else 0) else 1
def wk3 (f : Nat → Bool) (n k : Nat) (j : Nat) : Bool := decide (j ∈ (C f n).take k)
/-- all but m of the others are done -/
def st4 (f : Nat → Bool) (n m : Nat) (j : Nat) : Int := if f j then 2 else if j ∈ (R f n).drop m then 2 else 1
theorem R_at (k : Nat) (h : k < (R f n).length) : (R f n).getD k 0 < n ∧ f ((R f n).getD k 0) = false := (R_mem _).1 (getD_mem _ _ h)
theorem C_at (k : Nat) (h : k < (C f n).length) : (C f n).getD k 0 < n ∧ f ((C f n).getD k 0) = true := (C_mem _).1 (getD_mem _ _ h)
theorem st2_zero : stW f n n (st2 f n 0) wk = stW f n n (fun _ => 0) wk := stW_congr fun j _ => by simp [st2]
theorem st2_may (k : Nat) (h : k < (R f n).length) : (stW f n n (st2 f n k) wk).may ((R f n).getD k 0) = true := by
  obtain ⟨h1, h2⟩ := R_at k h
  rw [stW_may _ h1]
  have h3 : (R f n).getD k 0 ∉ (R f n).take k := fun q => by have := (take_mem R_nd k k h).1 q; omega
  simp only [st2, h2, h3]
  simp
theorem st2_next (k : Nat) (h : k < (R f n).length) : (stW f n n (st2 f n k) wk).setSt ((R f n).getD k 0) 1 = stW f n n (st2 f n (k + 1)) wk := by
  obtain ⟨h1, h2⟩ := R_at k h
  rw [stW_set _ h1]
  refine stW_congr fun j _ => ?_
  unfold upd st2
  rw [take_next _ _ h]
  by_cases e : j = (R f n).getD k 0
  · rw [if_pos e]
    subst e
    rw [h2]
    simp
  · rw [if_neg e]
    simp only [List.mem_append, List.mem_singleton, e, or_false]
theorem st2_end : stW f n n (st2 f n (R f n).length) (fun _ => false) = stW f n n (st3 f n 0) (wk3 f n 0) := by
  have e : wk3 f n 0 = fun _ => false := by funext j; simp [wk3]
  rw [e]
  refine stW_congr fun j hj => ?_
  unfold st2 st3
  by_cases hf : f j = true
  · simp [hf]
  · have hf2 : f j = false := by simpa using hf
    have : j ∈ (R f n).take (R f n).length := by
      rw [List.take_length]
      exact (R_mem j).2 ⟨hj, hf2⟩
    rw [if_neg hf, if_pos this, if_neg hf]
theorem st3_may (k : Nat) (h : k < (C f n).length) (j : Nat) (hj : j < n) : (stW f n n (st3 f n k) (wk3 f n k)).may j = decide (j = (C f n).getD k 0) := by
  obtain ⟨h1, h2⟩ := C_at k h
  rw [stW_may j hj]
  by_cases hf : f j = true
  · obtain ⟨i, hi, hij⟩ : ∃ i, i < (C f n).length ∧ (C f n).getD i 0 = j := by
      obtain ⟨i, hi, e⟩ := List.getElem_of_mem ((C_mem j).2 ⟨hj, hf⟩)
      exact ⟨i, hi, by rw [List.getD_eq_getElem?_getD, List.getElem?_eq_getElem hi]; exact e⟩
    have hl := la_at (f := f) n i hi
    have hm := take_mem (C_nd (f := f) (n := n)) i k hi
    rw [hij] at hl hm
    rcases Nat.lt_trichotomy i k with q | q | q
    · have hne : j ≠ (C f n).getD k 0 := fun e => by
        have := (take_mem (C_nd (f := f) (n := n)) k k h).1 (by rw [← e]; exact hm.2 q)
        omega
      have e1 : st3 f n k j = 2 := by
        unfold st3
        rw [if_pos hf, if_pos (hm.2 q)]
      rw [e1, decide_eq_false hne]
      simp
    · subst q
      have hn : j ∉ (C f n).take i := fun q => by have := hm.1 q; omega
      have e1 : st3 f n i j = 0 := by
        unfold st3
        rw [if_pos hf, if_neg hn]
      rw [e1, hij]
      by_cases h0 : i = 0
      · rw [if_pos h0] at hl
        simp [hl]
      · rw [if_neg h0] at hl
        have h5 : (C f n).getD (i - 1) 0 ∈ (C f n).take i := (take_mem C_nd (i - 1) i (by omega)).2 (by omega)
        have h6 : wk3 f n i (la f j - 40) = true := by
          unfold wk3
          rw [hl, show 40 + (C f n).getD (i - 1) 0 - 40 = (C f n).getD (i - 1) 0 by omega]
          exact decide_eq_true h5
        rw [h6]
        simp
    · have hn : j ∉ (C f n).take k := fun q => by have := hm.1 q; omega
      have e1 : st3 f n k j = 0 := by
        unfold st3
        rw [if_pos hf, if_neg hn]
      have hne : j ≠ (C f n).getD k 0 := fun e => by
        have h7 : (C f n).getD k 0 ∈ (C f n).take (k + 1) := (take_mem C_nd k (k + 1) h).2 (by omega)
        have h8 := (take_mem (C_nd (f := f) (n := n)) i (k + 1) hi).1 (by rw [hij, e]; exact h7)
        omega
      rw [if_neg (by omega)] at hl
      have h5 : ¬ (C f n).getD (i - 1) 0 ∈ (C f n).take k := fun q => by have := (take_mem C_nd (i - 1) k (by omega)).1 q; omega
      have h6 : wk3 f n k (la f j - 40) = false := by
        unfold wk3
        rw [hl, show 40 + (C f n).getD (i - 1) 0 - 40 = (C f n).getD (i - 1) 0 by omega]
        exact decide_eq_false h5
      have h9 : ¬ la f j = 0 := by omega
      rw [e1, h6, decide_eq_false hne]
      simp [hf, h9]
  · have hne : j ≠ (C f n).getD k 0 := fun e => by rw [e] at hf; exact hf h2
    have e1 : st3 f n k j = 1 := by
      unfold st3
      rw [if_neg hf]
    rw [e1, decide_eq_false hne]
    simp
theorem filter_single (c : Nat) : ∀ n, (List.range n).filter (fun j => decide (j = c)) = if c < n then [c] else []
  | 0 => by simp
  | n + 1 => by
    rw [List.range_succ, List.filter_append, filter_single c n]
    by_cases h : n = c
    · subst h
      simp
    · by_cases h2 : c < n
      · rw [if_pos h2, if_pos (by omega)]
        simp [h]
      · rw [if_neg h2, if_neg (by omega)]
        simp [h]
theorem st3_ready (hn : n ≤ 64) (k : Nat) (h : k < (C f n).length) : (stW f n n (st3 f n k) (wk3 f n k)).ready 0 100 = [(((C f n).getD k 0 : Nat) : Int)] := by
  rw [stW_ready hn]
  have e : (List.range n).filter (fun j => (stW f n n (st3 f n k) (wk3 f n k)).may j) = (List.range n).filter (fun j => decide (j = (C f n).getD k 0)) := List.filter_congr fun j hj => st3_may k h j (List.mem_range.1 hj)
  rw [e, filter_single, if_pos (C_at k h).1]
  rfl
theorem st3_next (k : Nat) (h : k < (C f n).length) : stW f n n (upd (upd (st3 f n k) ((C f n).getD k 0) 1) ((C f n).getD k 0) 2) (upd (wk3 f n k) ((C f n).getD k 0) true) = stW f n n (st3 f n (k + 1)) (wk3 f n (k + 1)) := by
  obtain ⟨h1, h2⟩ := C_at k h
  have e : upd (wk3 f n k) ((C f n).getD k 0) true = wk3 f n (k + 1) := by
    funext j
    unfold upd wk3
    rw [take_next _ _ h]
    by_cases e : j = (C f n).getD k 0
    · rw [if_pos e]
      simp [e]
    · rw [if_neg e]
      simp only [List.mem_append, List.mem_singleton, e, or_false]
  rw [e]
  refine stW_congr fun j _ => ?_
  unfold upd st3
  rw [take_next _ _ h]
  by_cases e : j = (C f n).getD k 0
  · rw [if_pos e]
    subst e
    rw [h2]
    simp
  · rw [if_neg e, if_neg e]
    simp only [List.mem_append, List.mem_singleton, e, or_false]
theorem st3_end : stW f n n (st3 f n (C f n).length) wk = stW f n n (st4 f n (R f n).length) wk := by
  refine stW_congr fun j hj => ?_
  unfold st3 st4
  by_cases hf : f j = true
  · have : j ∈ (C f n).take (C f n).length := by
      rw [List.take_length]
      exact (C_mem j).2 ⟨hj, hf⟩
    rw [if_pos hf, if_pos this, if_pos hf]
  · rw [if_neg hf, if_neg hf]
    simp
theorem st4_one (m : Nat) (h : m < (R f n).length) : (stW f n n (st4 f n (m + 1)) wk).st ((R f n).getD m 0) = 1 := by
  obtain ⟨h1, h2⟩ := R_at m h
  rw [stW_st _ h1]
  unfold st4
  rw [h2, if_neg (by simp), if_neg (drop_mem R_nd m h)]
theorem st4_next (m : Nat) (h : m < (R f n).length) : (stW f n n (st4 f n (m + 1)) wk).setSt ((R f n).getD m 0) 2 = stW f n n (st4 f n m) wk := by
  obtain ⟨h1, h2⟩ := R_at m h
  rw [stW_set _ h1]
  refine stW_congr fun j _ => ?_
  unfold upd st4
  rw [drop_next _ m h]
  by_cases e : j = (R f n).getD m 0
  · rw [if_pos e]
    subst e
    rw [h2]
    simp
  · rw [if_neg e]
    simp only [List.mem_cons, e, false_or]
theorem st4_end (j : Nat) (hj : j < n) : st4 f n 0 j = 2 := by
  unfold st4
  by_cases hf : f j = true
  · rw [if_pos hf]
  · have hf2 : f j = false := by simpa using hf
    rw [if_neg hf, if_pos (by rw [List.drop_zero]; exact (R_mem j).2 ⟨hj, hf2⟩)]
def popW (S : WS) (k : Nat) : WS := { S with on := S.on.drop k }
theorem popW_next (S : WS) (k : Nat) : (popW S k).pop = popW S (k + 1) := by
  unfold popW WS.pop
  simp
theorem popW_len (k : Nat) : (popW (stW f n n st wk) k).on.length = n - k := by simp [popW, stW]
theorem popW_getD (k : Nat) (h : k < n) : (popW (stW f n n st wk) k).on.getD 0 e0 = ent f st k := by
  simp [popW, stW, List.getD_eq_getElem?_getD, h]
end Go.Proofs.YtckglpmjaplcnaaDoor
