/-
  RENAME: what a table keeps, whatever is done.
-/
import Derived.Test.YtpolfpebhbkabaaDoorNf
namespace Go.Proofs.YtpolfpebhbkabaaDoor
open Go Go.RowKit
def one (b : Prop) [Decidable b] : Nat := if b then 1 else 0
theorem one_pos {b : Prop} [Decidable b] (h : b) : one b = 1 := if_pos h
theorem one_neg {b : Prop} [Decidable b] (h : ¬ b) : one b = 0 := if_neg h
/-- how many of the first N registers have the name x -/
def cnt (name : Nat → Nat) (x : Nat) : Nat → Nat
  | 0 => 0
  | N + 1 => cnt name x N + one (name N = x)
theorem cnt_upd (name : Nat → Nat) (x r v : Nat) : ∀ N, r < N → cnt (upd name r v) x N + one (name r = x) = cnt name x N + one (v = x)
  | 0, h => absurd h (by omega)
  | N + 1, h => by
    unfold cnt
    by_cases e : r = N
    · subst e
      rw [upd_same]
      have q : cnt (upd name r v) x r = cnt name x r := by
        have : ∀ M, M ≤ r → cnt (upd name r v) x M = cnt name x M := by
          intro M
          induction M with
          | zero => intro _; rfl
          | succ M ih =>
            intro hM
            unfold cnt
            rw [ih (by omega), upd_other _ _ _ _ (by omega)]
        exact this r (Nat.le_refl _)
      omega
    · have ih := cnt_upd name x r v N (by omega)
      rw [upd_other _ _ _ _ (fun q => e q.symm)]
      omega
theorem cnt_mem (name : Nat → Nat) (x r : Nat) (hx : name r = x) : ∀ N, r < N → 1 ≤ cnt name x N
  | 0, h => absurd h (by omega)
  | N + 1, h => by
    unfold cnt
    by_cases e : r = N
    · subst e; rw [one_pos hx]; omega
    · have := cnt_mem name x r hx N (by omega); omega
theorem cnt_two (name : Nat → Nat) (x i j : Nat) (hi : name i = x) (hj : name j = x) (hij : i < j) : ∀ N, j < N → 2 ≤ cnt name x N
  | 0, h => absurd h (by omega)
  | N + 1, h => by
    unfold cnt
    by_cases e : j = N
    · subst e; rw [one_pos hj]; have := cnt_mem name x i hi j hij; omega
    · have := cnt_two name x i j hi hj hij N (by omega); omega
theorem cnt_none (name : Nat → Nat) (x : Nat) : ∀ N, (∀ r, r < N → name r ≠ x) → cnt name x N = 0
  | 0, _ => rfl
  | N + 1, h => by
    unfold cnt
    rw [cnt_none name x N (fun r hr => h r (by omega)), one_neg (h N (by omega))]
theorem cnt_some (name : Nat → Nat) (x : Nat) : ∀ N, 1 ≤ cnt name x N → ∃ r, r < N ∧ name r = x
  | 0, h => absurd h (by show ¬ 1 ≤ 0; omega)
  | N + 1, h => by
    unfold cnt at h
    by_cases e : name N = x
    · exact ⟨N, by omega, e⟩
    · rw [one_neg e] at h
      obtain ⟨r, hr, hx⟩ := cnt_some name x N (by omega)
      exact ⟨r, by omega, hx⟩
/-- H: what is held. Each of the n names is a register's, or free, or held, once -/
structure Inv (A : NT) (H : List Nat) (n : Nat) : Prop where
  lens : 32 + A.free.length + H.length = n
  cnt : ∀ x, cnt A.name x 32 + A.free.count x + H.count x = one (x < n)
  held : ∀ x, A.held x = decide (0 < H.count x)
  zero : A.name 0 = 0
theorem one_le {b : Prop} [Decidable b] : one b ≤ 1 := by unfold one; split <;> omega
theorem one_1 {b : Prop} [Decidable b] (h : 1 ≤ one b) : b := by
  by_cases q : b
  · exact q
  · rw [one_neg q] at h; omega
theorem Inv.name_lt {A : NT} {H : List Nat} {n : Nat} (h : Inv A H n) (r : Nat) (hr : r < 32) : A.name r < n := by
  have h1 := cnt_mem A.name (A.name r) r rfl 32 hr
  have h2 := h.cnt (A.name r)
  exact one_1 (by omega)
theorem Inv.name_inj {A : NT} {H : List Nat} {n : Nat} (h : Inv A H n) (i j : Nat) (hi : i < 32) (hj : j < 32) (e : A.name i = A.name j) : i = j := by
  have h2 := h.cnt (A.name j)
  have h3 := one_le (b := A.name j < n)
  rcases Nat.lt_trichotomy i j with q | q | q
  · have := cnt_two A.name (A.name j) i j e rfl q 32 hj; omega
  · exact q
  · have := cnt_two A.name (A.name j) j i rfl e q 32 hi; omega
theorem Inv.name_free {A : NT} {H : List Nat} {n : Nat} (h : Inv A H n) (r : Nat) (hr : r < 32) : A.free.count (A.name r) = 0 ∧ H.count (A.name r) = 0 := by
  have h1 := cnt_mem A.name (A.name r) r rfl 32 hr
  have h2 := h.cnt (A.name r)
  have h3 := one_le (b := A.name r < n)
  omega
theorem Inv.name_held {A : NT} {H : List Nat} {n : Nat} (h : Inv A H n) (r : Nat) (hr : r < 32) : A.held (A.name r) = false := by
  rw [h.held, (h.name_free r hr).2]; rfl
theorem Inv.name_pos {A : NT} {H : List Nat} {n : Nat} (h : Inv A H n) (r : Nat) (hr : r < 32) (h1 : 1 ≤ r) : 1 ≤ A.name r := by
  rcases Nat.eq_zero_or_pos (A.name r) with q | q
  · have := h.name_inj r 0 hr (by omega) (by rw [h.zero]; exact q)
    omega
  · exact q
theorem Inv.free_head {A : NT} {H : List Nat} {n x : Nat} {l : List Nat} (h : Inv A H n) (hf : A.free = x :: l) : 1 ≤ x ∧ x < n ∧ (∀ r, r < 32 → A.name r ≠ x) ∧ H.count x = 0 ∧ l.count x = 0 := by
  have h2 := h.cnt x
  have h3 := one_le (b := x < n)
  have h4 : A.free.count x = l.count x + 1 := by rw [hf, List.count_cons_self]
  have h5 : ∀ r, r < 32 → A.name r ≠ x := by
    intro r hr e
    have := cnt_mem A.name x r e 32 hr
    omega
  refine ⟨?_, one_1 (by omega), h5, by omega, by omega⟩
  rcases Nat.eq_zero_or_pos x with q | q
  · exact absurd (by rw [q]; exact h.zero) (h5 0 (by omega))
  · exact q
theorem count_cons' (x y : Nat) (l : List Nat) : (x :: l).count y = l.count y + one (x = y) := by
  rw [List.count_cons]
  unfold one
  by_cases e : x = y
  · simp [e]
  · simp [e]
theorem Inv.take {A : NT} {H H' : List Nat} {n x r : Nat} {l : List Nat} (h : Inv A H n) (hf : A.free = x :: l) (hr : 1 ≤ r ∧ r < 32) (hl : H'.length = H.length + 1) (hc : ∀ y, H'.count y = H.count y + one (A.name r = y)) : Inv (A.take r x l) H' n := by
  refine ⟨?_, fun y => ?_, fun y => ?_, ?_⟩
  · have := h.lens
    rw [hf] at this
    simp only [List.length_cons] at this
    show 32 + l.length + H'.length = n
    omega
  · have h1 := h.cnt y
    have h2 := cnt_upd A.name y r x 32 hr.2
    rw [hf, count_cons'] at h1
    have h3 := hc y
    show _root_.Go.Proofs.YtpolfpebhbkabaaDoor.cnt (upd A.name r x) y 32 + l.count y + H'.count y = _
    omega
  · show upd A.held (A.name r) true y = _
    rw [hc]
    unfold upd
    by_cases e : y = A.name r
    · rw [if_pos e, one_pos e.symm]; simp
    · rw [if_neg e, one_neg (fun q => e q.symm), h.held]; simp
  · show upd A.name r x 0 = 0
    rw [upd_other _ _ _ _ (by omega)]
    exact h.zero
theorem Inv.release {A : NT} {H H' : List Nat} {n x : Nat} (h : Inv A H n) (hl : H'.length + 1 = H.length) (hc : ∀ y, H.count y = H'.count y + one (x = y)) : Inv (A.release x) H' n := by
  refine ⟨?_, fun y => ?_, fun y => ?_, h.zero⟩
  · have := h.lens
    show 32 + (A.free ++ [x]).length + H'.length = n
    simp
    omega
  · have h1 := h.cnt y
    have h3 := hc y
    have e : (A.free ++ [x]).count y = A.free.count y + one (x = y) := by
      rw [List.count_append, count_cons' x y []]
      simp
    show _root_.Go.Proofs.YtpolfpebhbkabaaDoor.cnt A.name y 32 + (A.free ++ [x]).count y + H'.count y = _
    omega
  · show upd A.held x false y = _
    unfold upd
    by_cases e : y = x
    · rw [if_pos e]
      subst e
      have h1 := h.cnt y
      have h3 := hc y
      rw [one_pos rfl] at h3
      have h4 := one_le (b := y < n)
      have : H'.count y = 0 := by omega
      rw [this]; rfl
    · rw [if_neg e, h.held, hc y, one_neg (fun q => e q.symm)]; simp
theorem Inv.undo {A : NT} {H H' : List Nat} {n r old : Nat} (h : Inv A H n) (hr : 1 ≤ r ∧ r < 32) (hl : H'.length + 1 = H.length) (hc : ∀ y, H.count y = H'.count y + one (old = y)) : Inv (A.undo r old) H' n := by
  refine ⟨?_, fun y => ?_, fun y => ?_, ?_⟩
  · have := h.lens
    show 32 + (A.name r :: A.free).length + H'.length = n
    simp
    omega
  · have h1 := h.cnt y
    have h2 := cnt_upd A.name y r old 32 hr.2
    have h3 := hc y
    show _root_.Go.Proofs.YtpolfpebhbkabaaDoor.cnt (upd A.name r old) y 32 + (A.name r :: A.free).count y + H'.count y = _
    rw [count_cons']
    omega
  · show upd A.held old false y = _
    unfold upd
    by_cases e : y = old
    · rw [if_pos e]
      subst e
      have h1 := h.cnt y
      have h3 := hc y
      rw [one_pos rfl] at h3
      have h4 := one_le (b := y < n)
      have : H'.count y = 0 := by omega
      rw [this]; rfl
    · rw [if_neg e, h.held, hc y, one_neg (fun q => e q.symm)]; simp
  · show upd A.name r old 0 = 0
    rw [upd_other _ _ _ _ (by omega)]
    exact h.zero
theorem undo_take (A : NT) (H : List Nat) (n x r : Nat) (l : List Nat) (h : Inv A H n) (hf : A.free = x :: l) (hr : r < 32) : (A.take r x l).undo r (A.name r) = A := by
  have e1 : upd (upd A.name r x) r (A.name r) = A.name := by
    funext k
    unfold upd
    by_cases q : k = r
    · rw [if_pos q, q]
    · rw [if_neg q, if_neg q]
  have e2 : upd (upd A.held (A.name r) true) (A.name r) false = A.held := by
    funext k
    unfold upd
    by_cases q : k = A.name r
    · rw [if_pos q, q]; exact (h.name_held r hr).symm
    · rw [if_neg q, if_neg q]
  have e3 : upd A.name r x r :: l = A.free := by rw [upd_same, hf]
  cases A with
  | mk name held free =>
    unfold NT.undo NT.take
    simp only at e1 e2 e3 ⊢
    rw [e1, e2, e3]
theorem Inv.room {A : NT} {H : List Nat} {n : Nat} (h : Inv A H n) (hn : n ≤ 128) : A.free.length < 128 := by have := h.lens; omega
theorem count_range (x : Nat) : ∀ m, ((List.range m).map (32 + ·)).count x = one (32 ≤ x ∧ x < 32 + m)
  | 0 => by simp [one]
  | m + 1 => by
    rw [List.range_succ, List.map_append, List.count_append, count_range x m]
    show _ + ([32 + m] : List Nat).count x = _
    rw [count_cons' (32 + m) x []]
    simp only [List.count_nil, Nat.zero_add]
    unfold one
    by_cases e : 32 + m = x
    · rw [if_pos e, if_neg (by omega), if_pos (by omega)]
    · rw [if_neg e]
      by_cases q : 32 ≤ x ∧ x < 32 + m
      · rw [if_pos q, if_pos (by omega)]
      · rw [if_neg q, if_neg (by omega)]
theorem cnt_id (x : Nat) : ∀ N, cnt (fun k => k) x N = one (x < N)
  | 0 => by rw [one_neg (by omega)]; rfl
  | N + 1 => by
    unfold cnt
    rw [cnt_id x N]
    unfold one
    by_cases e : N = x
    · rw [if_neg (by omega), if_pos e, if_pos (by omega)]
    · by_cases q : x < N
      · rw [if_pos q, if_neg e, if_pos (by omega)]
      · rw [if_neg q, if_neg e, if_neg (by omega)]
theorem new_inv (n : Nat) (hn : 34 ≤ n) : Inv (newT n) [] n := by
  refine ⟨?_, fun x => ?_, fun x => rfl, rfl⟩
  · show 32 + ((List.range (n - 32)).map (32 + ·)).length + 0 = n
    simp
    omega
  · show _root_.Go.Proofs.YtpolfpebhbkabaaDoor.cnt (fun k => k) x 32 + ((List.range (n - 32)).map (32 + ·)).count x + 0 = _
    rw [cnt_id, count_range]
    unfold one
    by_cases q : x < 32
    · rw [if_pos q, if_neg (by omega), if_pos (by omega)]
    · by_cases q2 : x < n
      · rw [if_neg q, if_pos (by omega), if_pos q2]
      · rw [if_neg q, if_neg (by omega), if_neg q2]
end Go.Proofs.YtpolfpebhbkabaaDoor
