import Derived.Test.YtlogdmnhngbkaaaDoorY11
import Derived.Test.YtlogdmnhngbkaaaDoorY00
import Derived.Maps.OwnSet
import Derived.Maps.RangeWalk
/-
  CACHE's LAW CacheSteps: both caches hold the same lines.
-/
namespace Go.Proofs.YtlogdmnhngbkaaaDoor
open Go Go.RowKit
def ofSet (n i : Nat) (R : List Ln) : List Ln := R.filter (fun e => decide (isIn n i e))
def tot (f : Nat → Nat) : Nat → Nat
  | 0 => 0
  | n + 1 => tot f n + f n
theorem tot_le (f : Nat → Nat) (w : Nat) : ∀ n, (∀ i, i < n → f i ≤ w) → tot f n ≤ n * w
  | 0, _ => by simp [tot]
  | n + 1, h => by
    have h1 := tot_le f w n (fun i hi => h i (by omega))
    have h2 := h n (by omega)
    unfold tot
    rw [Nat.succ_mul]
    omega
theorem tot_add (f g : Nat → Nat) : ∀ n, tot (fun i => f i + g i) n = tot f n + tot g n
  | 0 => rfl
  | n + 1 => by
    simp only [tot, tot_add f g n]
    omega
theorem tot_ind (r : Nat) : ∀ n, tot (fun i => if r = i then 1 else 0) n = if r < n then 1 else 0
  | 0 => rfl
  | n + 1 => by
    simp only [tot, tot_ind r n]
    by_cases h1 : r < n
    · rw [if_pos h1, if_neg (by omega), if_pos (by omega)]
    · by_cases h2 : r = n
      · rw [if_neg h1, if_pos h2, if_pos (by omega)]
      · rw [if_neg h1, if_neg h2, if_neg (by omega)]
theorem tot_congr (f g : Nat → Nat) : ∀ n, (∀ i, i < n → f i = g i) → tot f n = tot g n
  | 0, _ => rfl
  | n + 1, h => by simp only [tot, tot_congr f g n (fun i hi => h i (by omega)), h n (by omega)]
theorem tot_sets (n : Nat) (hn : 0 < n) : ∀ R : List Ln, tot (fun i => (ofSet n i R).length) n = R.length
  | [] => by
    have : tot (fun i => (ofSet n i []).length) n ≤ n * 0 := tot_le _ 0 n (fun i _ => by simp [ofSet])
    simpa using this
  | e :: R => by
    have h : tot (fun i => (ofSet n i (e :: R)).length) n = tot (fun i => (if e.a / 16 % n = i then 1 else 0) + (ofSet n i R).length) n := by
      refine tot_congr _ _ n (fun i _ => ?_)
      unfold ofSet
      rw [List.filter_cons]
      by_cases q : isIn n i e
      · have q' : e.a / 16 % n = i := q
        simp [q, q']
        omega
      · have q' : ¬ e.a / 16 % n = i := q
        simp [q, q']
    rw [h, tot_add, tot_ind, tot_sets n hn R, if_pos (Nat.mod_lt _ hn), List.length_cons]
    omega
/-- the same lines; what they keep -/
structure Same (S : CS) (R : List Ln) : Prop where
  n : 1 ≤ S.n ∧ S.n ≤ 16
  ways : 1 ≤ S.ways ∧ S.ways ≤ 4
  set : ∀ i, i < S.n → S.set i = ofSet S.n i R
  few : ∀ i, i < S.n → (S.set i).length ≤ S.ways
  line : ∀ e ∈ R, e.a % 16 = 0 ∧ e.a < 4294967296 ∧ (e.s = 1 ∨ e.s = 2 ∨ e.s = 3) ∧ ∀ t, t < 16 → e.b t < 256
theorem Same.len {S : CS} {R : List Ln} (h : Same S R) : R.length ≤ 64 := by
  rw [← tot_sets S.n h.n.1 R]
  have : tot (fun i => (ofSet S.n i R).length) S.n ≤ S.n * S.ways := tot_le _ _ _ (fun i hi => by rw [← h.set i hi]; exact h.few i hi)
  have h2 : S.n * S.ways ≤ 16 * 4 := Nat.mul_le_mul h.n.2 h.ways.2
  omega
theorem Same.start (n k : Nat) (hn : 1 ≤ n ∧ n ≤ 16) (hk : 1 ≤ k ∧ k ≤ 4) : Same ⟨k, n, fun _ => []⟩ [] := ⟨hn, hk, fun _ _ => rfl, fun _ _ => by simp, fun e he => by simp at he⟩
theorem isIn_line (n a : Nat) (e : Ln) (h : e.a = lineOf a) : isIn n (a / 16 % n) e := by
  unfold isIn
  rw [h]
  unfold lineOf
  have : (a - a % 16) / 16 = a / 16 := by omega
  rw [this]
theorem Same.no {S : CS} {R : List Ln} (h : Same S R) (a : Nat) : No (S.set (S.of a)) a ↔ No R a := by
  have hO := S.of_lt a h.n.1
  rw [h.set _ hO]
  constructor
  · intro q
    refine no_of (fun e he e2 => ?_)
    exact no_mem q e (List.mem_filter.2 ⟨he, decide_eq_true (isIn_line S.n a e e2)⟩) e2
  · intro q
    exact no_of (fun e he => no_mem q e (List.mem_filter.1 he).1)
/-- where a line is in both -/
theorem Same.at {S : CS} {R : List Ln} (h : Same S R) {a i j : Nat} (hi : At (S.set (S.of a)) a i) (hj : At R a j) : ∃ X e Y, R = X ++ e :: Y ∧ j = X.length ∧ R.getD j l0 = e ∧ (S.set (S.of a)).getD i l0 = e ∧ e.a = lineOf a ∧ isIn S.n (S.of a) e ∧ S.set (S.of a) = ofSet S.n (S.of a) X ++ e :: ofSet S.n (S.of a) Y ∧ i = (ofSet S.n (S.of a) X).length := by
  have hO := S.of_lt a h.n.1
  have hcut := cut_at R j hj.1
  have hlen : (R.take j).length = j := by rw [List.length_take]; have := hj.1; omega
  obtain ⟨e, he⟩ : ∃ e, R.getD j l0 = e := ⟨_, rfl⟩
  have hea : e.a = lineOf a := by rw [← he]; exact hj.2.1
  have hin : isIn S.n (S.of a) e := isIn_line S.n a e hea
  rw [he] at hcut
  have hset : S.set (S.of a) = ofSet S.n (S.of a) (R.take j) ++ e :: ofSet S.n (S.of a) (R.drop (j + 1)) := by
    rw [h.set _ hO]
    conv => lhs; rw [hcut]
    unfold ofSet
    rw [List.filter_append, List.filter_cons, if_pos (by simpa using hin)]
  have hno : ∀ x ∈ R.take j, x.a ≠ lineOf a := by
    intro x hx
    obtain ⟨k, hk, rfl⟩ := List.getElem_of_mem hx
    have hk' : k < j := by rw [hlen] at hk; exact hk
    have := hj.2.2 k hk'
    rw [List.getD_eq_getElem?_getD, List.getElem?_eq_getElem (by have := hj.1; omega)] at this
    simpa [List.getElem_take] using this
  have hi2 : At (S.set (S.of a)) a (ofSet S.n (S.of a) (R.take j)).length := by
    rw [hset]
    refine ⟨by simp, ?_, fun k hk => ?_⟩
    · rw [List.getD_eq_getElem?_getD, List.getElem?_append_right (Nat.le_refl _), Nat.sub_self]
      exact hea
    · rw [List.getD_eq_getElem?_getD, List.getElem?_append_left hk, List.getElem?_eq_getElem hk]
      exact hno _ (List.mem_filter.1 (List.getElem_mem hk)).1
  have hii := at_inj hi hi2
  refine ⟨R.take j, e, R.drop (j + 1), hcut, hlen.symm, he, ?_, hea, hin, hset, hii⟩
  rw [hii, hset, List.getD_eq_getElem?_getD, List.getElem?_append_right (Nat.le_refl _), Nat.sub_self]
  rfl
theorem rest_mid (X Y : List Ln) (e : Ln) : rest (X ++ e :: Y) X.length = X ++ Y := by
  unfold rest
  rw [List.take_left', List.drop_append]
  · simp
  · rfl
theorem set_mid (X Y : List Ln) (e y : Ln) : (X ++ e :: Y).set X.length y = X ++ y :: Y := by
  simp
theorem ofSet_app (n i : Nat) (X Y : List Ln) : ofSet n i (X ++ Y) = ofSet n i X ++ ofSet n i Y := List.filter_append ..
theorem ofSet_one (n i : Nat) (e : Ln) : ofSet n i [e] = if isIn n i e then [e] else [] := by
  unfold ofSet
  by_cases h : isIn n i e
  · simp [h]
  · simp [h]
theorem ofSet_cons (n i : Nat) (e : Ln) (Y : List Ln) : ofSet n i (e :: Y) = if isIn n i e then e :: ofSet n i Y else ofSet n i Y := by
  unfold ofSet
  by_cases h : isIn n i e
  · simp [h]
  · simp [h]
theorem isIn_one {n i j : Nat} {e : Ln} (h : isIn n i e) (h2 : isIn n j e) : i = j := by
  unfold isIn at *
  omega
/-- one set has turned, and the whole list likewise -/
theorem Same.put {S : CS} {R R' : List Ln} (h : Same S R) (r : Nat) (hr : r < S.n) (l : List Ln) (h1 : l = ofSet S.n r R') (h2 : ∀ i, i < S.n → i ≠ r → ofSet S.n i R' = ofSet S.n i R) (hl : l.length ≤ S.ways) (hm : ∀ e ∈ R', e.a % 16 = 0 ∧ e.a < 4294967296 ∧ (e.s = 1 ∨ e.s = 2 ∨ e.s = 3) ∧ ∀ t, t < 16 → e.b t < 256) : Same (S.put r l) R' := by
  refine ⟨h.n, h.ways, fun i hi => ?_, fun i hi => ?_, hm⟩
  · show upd S.set r l i = ofSet S.n i R'
    by_cases e : i = r
    · subst e
      rw [upd_same]
      exact h1
    · rw [upd_other _ _ _ _ e, h2 i hi e]
      exact h.set i hi
  · show (upd S.set r l i).length ≤ S.ways
    by_cases e : i = r
    · subst e
      rw [upd_same]
      exact hl
    · rw [upd_other _ _ _ _ e]
      exact h.few i hi
/-- a line goes behind the others, maybe turned -/
theorem Same.behind {S : CS} {R : List Ln} (h : Same S R) {a i j : Nat} (hi : At (S.set (S.of a)) a i) (hj : At R a j) (y : Ln) (hy : y.a = lineOf a) (hys : y.s = 1 ∨ y.s = 2 ∨ y.s = 3) (hyb : ∀ t, t < 16 → y.b t < 256) : Same (S.put (S.of a) (rest (S.set (S.of a)) i ++ [y])) (rest R j ++ [y]) := by
  have hO := S.of_lt a h.n.1
  obtain ⟨X, e, Y, h1, h2, h3, h4, h5, h6, h7, h8⟩ := h.at hi hj
  have hyin : isIn S.n (S.of a) y := isIn_line S.n a y hy
  have hfew := h.few _ hO
  rw [h7] at hfew
  have hlen : (ofSet S.n (S.of a) X ++ ofSet S.n (S.of a) Y ++ [y]).length ≤ S.ways := by
    simp at hfew ⊢
    omega
  have hR : rest R j = X ++ Y := by rw [h1, h2, rest_mid]
  have hS : rest (S.set (S.of a)) i = ofSet S.n (S.of a) X ++ ofSet S.n (S.of a) Y := by rw [h7, h8, rest_mid]
  have hem := h.line e (by rw [h1]; simp)
  rw [hR, hS]
  refine h.put _ hO _ ?_ (fun k hk hne => ?_) hlen (fun x hx => ?_)
  · rw [ofSet_app, ofSet_app, ofSet_one, if_pos hyin]
  · rw [ofSet_app, ofSet_one, if_neg (fun q => hne (isIn_one q hyin)), List.append_nil, h1, ofSet_app, ofSet_app, ofSet_cons, if_neg (fun q => hne (isIn_one q h6))]
  · rcases List.mem_append.1 hx with hx | hx
    · exact h.line x (by rw [h1]; rcases List.mem_append.1 hx with hx | hx <;> simp [hx])
    · rw [List.mem_singleton.1 hx]
      exact ⟨by rw [hy, ← h5]; exact hem.1, by rw [hy, ← h5]; exact hem.2.1, hys, hyb⟩
/-- a line leaves -/
theorem Same.gone {S : CS} {R : List Ln} (h : Same S R) {a i j : Nat} (hi : At (S.set (S.of a)) a i) (hj : At R a j) : Same (S.put (S.of a) (rest (S.set (S.of a)) i)) (rest R j) := by
  have hO := S.of_lt a h.n.1
  obtain ⟨X, e, Y, h1, h2, h3, h4, h5, h6, h7, h8⟩ := h.at hi hj
  have hfew := h.few _ hO
  rw [h7] at hfew
  have hR : rest R j = X ++ Y := by rw [h1, h2, rest_mid]
  have hS : rest (S.set (S.of a)) i = ofSet S.n (S.of a) X ++ ofSet S.n (S.of a) Y := by rw [h7, h8, rest_mid]
  rw [hR, hS]
  refine h.put _ hO _ (ofSet_app ..).symm (fun k hk hne => ?_) (by simp at hfew ⊢; omega) (fun x hx => h.line x (by rw [h1]; rcases List.mem_append.1 hx with hx | hx <;> simp [hx]))
  rw [ofSet_app, h1, ofSet_app, ofSet_cons, if_neg (fun q => hne (isIn_one q h6))]
/-- a line's state -/
theorem Same.state {S : CS} {R : List Ln} (h : Same S R) {a i j : Nat} (hi : At (S.set (S.of a)) a i) (hj : At R a j) (s : Nat) (hs : s = 1 ∨ s = 2 ∨ s = 3) : Same (S.put (S.of a) ((S.set (S.of a)).set i (((S.set (S.of a)).getD i l0).setS s))) (R.set j ((R.getD j l0).setS s)) := by
  have hO := S.of_lt a h.n.1
  obtain ⟨X, e, Y, h1, h2, h3, h4, h5, h6, h7, h8⟩ := h.at hi hj
  have hfew := h.few _ hO
  have hyin : isIn S.n (S.of a) (e.setS s) := h6
  have hem := h.line e (by rw [h1]; simp)
  rw [h3, h4]
  have hR : R.set j (e.setS s) = X ++ e.setS s :: Y := by rw [h1, h2, set_mid]
  have hS : (S.set (S.of a)).set i (e.setS s) = ofSet S.n (S.of a) X ++ e.setS s :: ofSet S.n (S.of a) Y := by rw [h7, h8, set_mid]
  rw [h7] at hfew
  rw [hR, hS]
  refine h.put _ hO _ ?_ (fun k hk hne => ?_) (by simpa using hfew) (fun x hx => ?_)
  · rw [ofSet_app, ofSet_cons, if_pos hyin]
  · rw [ofSet_app, h1, ofSet_app, ofSet_cons, ofSet_cons, if_neg (fun q => hne (isIn_one q h6)), if_neg (fun q => hne (isIn_one q hyin))]
  · rcases List.mem_append.1 hx with hx | hx
    · exact h.line x (by rw [h1]; simp [hx])
    · rcases List.mem_cons.1 hx with hx | hx
      · rw [hx]
        exact ⟨hem.1, hem.2.1, hs, hem.2.2.2⟩
      · exact h.line x (by rw [h1]; simp [hx])
theorem cnt_set (R : List Ln) (n r : Nat) : ∀ k, k ≤ R.length → cnt R n r k = (ofSet n r (R.take k)).length
  | 0, _ => by simp [cnt, ofSet]
  | k + 1, h => by
    have hk : k < R.length := by omega
    have e : R.take (k + 1) = R.take k ++ [R.getD k l0] := by
      rw [List.take_add_one, List.getD_eq_getElem?_getD, List.getElem?_eq_getElem hk]
      rfl
    rw [cnt, cnt_set R n r k (by omega), e, ofSet_app, ofSet_one]
    by_cases q : isIn n r (R.getD k l0)
    · rw [if_pos q, if_pos q]
      simp
    · rw [if_neg q, if_neg q]
      simp
theorem cnt_all (R : List Ln) (n r : Nat) : cnt R n r R.length = (ofSet n r R).length := by
  rw [cnt_set R n r _ (Nat.le_refl _), List.take_length]
/-- a line is filled in -/
theorem Same.fill {S : CS} {R : List Ln} (h : Same S R) (a s : Nat) (b : Nat → Nat) (h16 : a % 16 = 0) (ha : a < 4294967296) (hs : s = 1 ∨ s = 2 ∨ s = 3) (hb : ∀ t, t < 16 → b t < 256) : ∃ kept, ((cnt R S.n (S.of a) R.length ≠ S.ways ∧ S.left a = l0 ∧ kept = R) ∨ (cnt R S.n (S.of a) R.length = S.ways ∧ ∃ i, First R S.n (S.of a) i R.length ∧ S.left a = R.getD i l0 ∧ kept = rest R i)) ∧ kept.length < 64 ∧ Same (S.fill a s b) (kept ++ [⟨a, s, b⟩]) ∧ (S.full a = true ↔ (S.left a).s ≠ 0) ∧ (S.left a).a < 4294967296 ∧ (∀ t, t < 16 → (S.left a).b t < 256) := by
  have hO := S.of_lt a h.n.1
  have hin : isIn S.n (S.of a) ⟨a, s, b⟩ := rfl
  have hcnt : cnt R S.n (S.of a) R.length = (S.set (S.of a)).length := by rw [cnt_all, h.set _ hO]
  have hmk : ∀ kept, (∀ e ∈ kept, e ∈ R) → S.kept a = ofSet S.n (S.of a) kept → (∀ i, i < S.n → i ≠ S.of a → ofSet S.n i kept = ofSet S.n i R) → (S.kept a).length + 1 ≤ S.ways → Same (S.fill a s b) (kept ++ [⟨a, s, b⟩]) := by
    intro kept k1 k2 k3 k4
    refine h.put _ hO _ ?_ (fun i hi hne => ?_) (by simp; omega) (fun x hx => ?_)
    · rw [ofSet_app, ofSet_one, if_pos hin, k2]
    · rw [ofSet_app, ofSet_one, if_neg (fun q => hne (isIn_one q hin)), List.append_nil]
      exact k3 i hi hne
    · rcases List.mem_append.1 hx with hx | hx
      · exact h.line x (k1 x hx)
      · rw [List.mem_singleton.1 hx]
        exact ⟨h16, ha, hs, hb⟩
  by_cases hf : S.full a = true
  · have hw : (S.set (S.of a)).length = S.ways := by simpa [CS.full] using hf
    have hl : S.left a = (S.set (S.of a)).getD 0 l0 := by simp [CS.left, hf]
    have hk : S.kept a = rest (S.set (S.of a)) 0 := by simp [CS.kept, hf]
    have hpos : 0 < (S.set (S.of a)).length := by rw [hw]; exact h.ways.1
    -- the first of the set
    obtain ⟨j, hj⟩ : ∃ j, First R S.n (S.of a) j R.length := by
      have hm : (S.set (S.of a)).getD 0 l0 ∈ R := by
        have := getD_mem _ 0 hpos
        rw [h.set _ hO] at this ⊢
        exact (List.mem_filter.1 this).1
      have hp : isIn S.n (S.of a) ((S.set (S.of a)).getD 0 l0) := by
        have := getD_mem _ 0 hpos
        rw [h.set _ hO] at this ⊢
        simpa using (List.mem_filter.1 this).2
      obtain ⟨k, hk1, hk2⟩ := List.getElem_of_mem hm
      have hkp : isIn S.n (S.of a) (R.getD k l0) := by
        rw [List.getD_eq_getElem?_getD, List.getElem?_eq_getElem hk1]
        show isIn S.n (S.of a) R[k]
        rw [hk2]
        exact hp
      clear hm hp hk2
      induction k using Nat.strongRecOn with
      | ind k ih =>
        by_cases q : ∃ i, i < k ∧ isIn S.n (S.of a) (R.getD i l0)
        · obtain ⟨i, q1, q2⟩ := q
          exact ih i q1 (by omega) q2
        · exact ⟨k, hk1, hkp, fun i hi e => q ⟨i, hi, e⟩⟩
    have hcut := cut_at R j hj.1
    obtain ⟨e, he⟩ : ∃ e, R.getD j l0 = e := ⟨_, rfl⟩
    rw [he] at hcut
    have hpe : isIn S.n (S.of a) e := by rw [← he]; exact hj.2.1
    have hnil : ofSet S.n (S.of a) (R.take j) = [] := by
      refine List.filter_eq_nil_iff.2 (fun x hx => ?_)
      obtain ⟨k, hk1, rfl⟩ := List.getElem_of_mem hx
      have hkj : k < j := by rw [List.length_take] at hk1; omega
      have := hj.2.2 k hkj
      rw [List.getD_eq_getElem?_getD, List.getElem?_eq_getElem (by have := hj.1; omega)] at this
      simpa [List.getElem_take] using this
    have hset : S.set (S.of a) = e :: ofSet S.n (S.of a) (R.drop (j + 1)) := by
      rw [h.set _ hO]
      conv => lhs; rw [hcut]
      rw [ofSet_app, hnil, ofSet_cons, if_pos hpe]
      rfl
    have hle : S.left a = e := by rw [hl, hset]; rfl
    have hem := h.line e (by rw [← he]; exact getD_mem _ _ hj.1)
    have hke : S.kept a = ofSet S.n (S.of a) (R.drop (j + 1)) := by rw [hk, hset]; rfl
    have hrl := rest_len R j hj.1
    refine ⟨rest R j, Or.inr ⟨by rw [hcnt, hw], j, hj, by rw [hle, he], rfl⟩, by have := h.len; have := hj.1; omega, hmk _ (fun x hx => mem_rest _ _ _ hx) ?_ (fun i hi hne => ?_) ?_, ?_, by rw [hle]; exact hem.2.1, by rw [hle]; exact hem.2.2.2⟩
    · rw [hke]
      unfold rest
      rw [ofSet_app, hnil]
      rfl
    · unfold rest
      conv => rhs; rw [hcut]
      rw [ofSet_app, ofSet_app, ofSet_cons, if_neg (fun q => hne (isIn_one q hpe))]
    · rw [hke]
      rw [hset] at hw
      simp at hw
      omega
    · rw [hle]
      exact ⟨fun _ => by omega, fun _ => hf⟩
  · have hf' : S.full a = false := by simpa using hf
    have hw : (S.set (S.of a)).length ≠ S.ways := by simpa [CS.full] using hf'
    have hl : S.left a = l0 := by simp [CS.left, hf']
    have hk : S.kept a = S.set (S.of a) := by simp [CS.kept, hf']
    have hfew := h.few _ hO
    have hS := hmk R (fun x hx => hx) (by rw [hk]; exact h.set _ hO) (fun i hi hne => rfl) (by rw [hk]; omega)
    refine ⟨R, Or.inl ⟨by rw [hcnt]; exact hw, hl, rfl⟩, ?_, hS, ?_, by rw [hl]; decide, by rw [hl]; exact fun t _ => (by decide : (0 : Nat) < 256)⟩
    · have := hS.len
      simp at this
      omega
    · rw [hl, hf']
      exact Iff.intro (fun q => absurd q (by decide)) (fun q => absurd rfl q)
end Go.Proofs.YtlogdmnhngbkaaaDoor
/-
  A MAP OF THE PROGRAM's OWN, as a plain function of its keys.
-/
namespace Go.Proofs.YtlogdmnhngbkaaaDoor
open Go Go.RowKit
/-- how an element reads: as itself -/
def rdV (v : Value) : Option (DataW Value × List MemPlace) := some (.held v, [])
/-- the datum D has f's values -/
def Has (q : IntKind) (D : DataW Value) (f : Int → Option Value) : Prop := ∀ a, (Lit.int q a).wf = true → Maps.has D (.int q a) = (f a).isSome ∧ ∀ v z, f a = some v → D.atKey (.int q a) z = .held v
/-- block b is a map of at most n entries that has f's values -/
def MapAt (w : World) (k : TypeId) (q : IntKind) (b n : Nat) (f : Int → Option Value) : Prop := ∃ D, w.ownsMap Tryd.prog k rdV b n D ∧ Has q D f
def updF (f : Int → Option Value) (a : Int) (v : Option Value) : Int → Option Value := fun x => if x = a then v else f x
theorem MapAt.here {w : World} {k : TypeId} {q : IntKind} {b n : Nat} {f : Int → Option Value} (h : MapAt w k q b n f) : b < w.heap.size := by
  obtain ⟨D, h, -⟩ := h
  exact h.lt
theorem MapAt.turned {Q : Nat → Prop} {w w' : World} {k : TypeId} {q : IntKind} {b n : Nat} {f : Int → Option Value} (h : MapAt w k q b n f) (t : Turned Q w w') (hb : ¬ Q b) : MapAt w' k q b n f := by
  have hl := h.here
  obtain ⟨D, ⟨es, clock, h1, h2⟩, h3⟩ := h
  exact ⟨D, ⟨es, clock, by rw [t.block b hl hb]; exact h1, h2⟩, h3⟩
theorem MapAt.below {w w' : World} {k : TypeId} {q : IntKind} {b n : Nat} {f : Int → Option Value} (h : MapAt w k q b n f) (t : Below w.heap.size w w') : MapAt w' k q b n f := h.turned (Q := fun _ => False) (Turned.of_below t) (fun e => e)
theorem MapAt.mono {w : World} {k : TypeId} {q : IntKind} {b n m : Nat} {f : Int → Option Value} (h : MapAt w k q b n f) (hm : n ≤ m) : MapAt w k q b m f := by
  obtain ⟨D, h1, h2⟩ := h
  exact ⟨D, h1.mono hm, h2⟩
theorem map_made (w : World) (k : TypeId) (q : IntKind) : MapAt (w.alloc (.map #[] 0)) k q w.heap.size 0 (fun _ => none) :=
  ⟨.map [], World.ownsMap_made w _ k rdV, fun a _ => ⟨rfl, fun v z h => by cases h⟩⟩
section
variable {w : World} {t k e : TypeId} {q : IntKind} {b n : Nat} {f : Int → Option Value}
theorem MapAt.look (h : MapAt w k q b n f) (hk : Tryd.prog.underlying k = some (.int q)) (ht : Tryd.prog.underlying t = some (.map k e)) {z : Value} (hz : (zeroValue e).run Tryd.prog w = .ok z w) {a : Int} (ha : (Lit.int q a).wf = true) : (Instr.lookup t (.map (some b)) (.int q a) true).run Tryd.prog w = .ok (.tuple #[(f a).getD z, .bool (f a).isSome]) w := by
  obtain ⟨D, h1, h2⟩ := h
  obtain ⟨v, ps, hr, hv⟩ := h1.look_ok (Maps.int_keyed hk) ht hz (zd := .held z) (zp := []) rfl (Maps.keyOf_int_mk hk ha)
  obtain ⟨e1, e2⟩ := h2 a ha
  rw [hr, e1]
  have hv' : DataW.held v = D.atKey (.int q a) (.held z) := (Prod.mk.inj (Option.some.inj hv)).1
  cases hf : f a with
  | none =>
    rw [hf] at e1
    rw [Maps.atKey_of_not_has e1] at hv'
    rw [DataW.held.inj hv']
    rfl
  | some u =>
    rw [e2 u _ hf] at hv'
    rw [DataW.held.inj hv']
    rfl
theorem MapAt.look1 (h : MapAt w k q b n f) (hk : Tryd.prog.underlying k = some (.int q)) (ht : Tryd.prog.underlying t = some (.map k e)) {z : Value} (hz : (zeroValue e).run Tryd.prog w = .ok z w) {a : Int} (ha : (Lit.int q a).wf = true) : (Instr.lookup t (.map (some b)) (.int q a) false).run Tryd.prog w = .ok ((f a).getD z) w := by
  obtain ⟨D, h1, h2⟩ := h
  obtain ⟨v, ps, hr, hv⟩ := h1.lookup (Maps.int_keyed hk) ht hz (zd := .held z) (zp := []) rfl (Maps.keyOf_int_mk hk ha)
  obtain ⟨e1, e2⟩ := h2 a ha
  rw [hr]
  have hv' : DataW.held v = D.atKey (.int q a) (.held z) := (Prod.mk.inj (Option.some.inj hv)).1
  cases hf : f a with
  | none =>
    rw [hf] at e1
    rw [Maps.atKey_of_not_has e1] at hv'
    rw [DataW.held.inj hv']
    rfl
  | some u =>
    rw [e2 u _ hf] at hv'
    rw [DataW.held.inj hv']
    rfl
theorem int_key (q : IntKind) (a : Int) : WideAt.IsKeyLit (.int q a) := by simp [WideAt.IsKeyLit]
theorem map_turned {w' : World} (h : w.mapTurned w' b) : Turned (fun j => j = b) w w' := by
  have g := h.grown
  exact ⟨g.os, g.tape, g.output, g.size, fun i hi hn => g.block i hi (fun e => hn (Option.some.inj e))⟩
theorem MapAt.put (h : MapAt w k q b n f) (hk : Tryd.prog.underlying k = some (.int q)) (ht : Tryd.prog.underlying t = some (.map k e)) (hn : n < maxLen) {a : Int} (ha : (Lit.int q a).wf = true) (v : Value) : ∃ w', (Instr.mapUpdate t (.map (some b)) (.int q a) v).run Tryd.prog w = .ok () w' ∧ MapAt w' k q b (n + 1) (updF f a (some v)) ∧ Turned (fun j => j = b) w w' := by
  obtain ⟨D, h1, h2⟩ := h
  obtain ⟨w', hr, ho, hm⟩ := h1.store (Maps.int_keyed hk) ht hn (Maps.keyOf_int_mk hk ha) (val := v) (d := .held v) (ps := []) rfl
  refine ⟨w', hr, ⟨_, ho, fun x hx => ?_⟩, map_turned hm⟩
  unfold updF
  by_cases hxa : x = a
  · subst hxa
    rw [if_pos rfl]
    exact ⟨Maps.has_put_same h1.isMap (int_key q x) _, fun u z hu => by rw [Maps.atKey_put_same h1.isMap (int_key q x), Option.some.inj hu]⟩
  · rw [if_neg hxa]
    have hne : (Lit.int q x) ≠ .int q a := fun e => hxa (by cases e; rfl)
    rw [Maps.has_put_other hne]
    exact ⟨(h2 x hx).1, fun u z hu => by rw [Maps.atKey_put_other hne]; exact (h2 x hx).2 u z hu⟩
theorem MapAt.del (h : MapAt w k q b n f) (hk : Tryd.prog.underlying k = some (.int q)) (ht : Tryd.prog.underlying t = some (.map k e)) {a : Int} (ha : (Lit.int q a).wf = true) (ty : TypeId) : ∃ w', (Builtin.delete_ #[t, k] ty #[.map (some b), .int q a]).run Tryd.prog w = .ok (.tuple #[]) w' ∧ MapAt w' k q b n (updF f a none) ∧ Turned (fun j => j = b) w w' := by
  obtain ⟨D, h1, h2⟩ := h
  obtain ⟨w', hr, ho, hm⟩ := h1.drop (Maps.int_keyed hk) ht (Maps.keyOf_int_mk hk ha) ty
  refine ⟨w', hr, ⟨_, ho, fun x hx => ?_⟩, map_turned hm⟩
  unfold updF
  by_cases hxa : x = a
  · subst hxa
    rw [if_pos rfl]
    exact ⟨Maps.has_del_same, fun u z hu => by cases hu⟩
  · rw [if_neg hxa]
    have hne : (Lit.int q x) ≠ .int q a := fun e => hxa (by cases e; rfl)
    rw [Maps.has_del_other hne]
    exact ⟨(h2 x hx).1, fun u z hu => by rw [Maps.atKey_del_other hne]; exact (h2 x hx).2 u z hu⟩
end
end Go.Proofs.YtlogdmnhngbkaaaDoor
