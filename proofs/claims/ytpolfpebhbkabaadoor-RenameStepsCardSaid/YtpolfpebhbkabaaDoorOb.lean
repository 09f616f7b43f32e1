/-
  THE ANSWER's TABLE OF NAMES: what is looked up.
-/
import Derived.Test.YtpolfpebhbkabaaDoorOa
namespace Go.Proofs.YtpolfpebhbkabaaDoor
open Go Go.RowKit
def encR (name : Nat → Nat) (n : Nat) (v : Value) (o : Nat) : Value := if o = 0 then .int .i64 n else if o < 33 then .int .i64 (name (o - 1)) else v
structure RTab (w : World) (b g n : Nat) (name : Nat → Nat) (free : List Nat) : Prop where
  rows : ∃ ao cap, CellsAt 34 w b (encR name n (.slice ao free.length cap)) ∧ OwnG w g ao cap free
  ne : b ≠ g
theorem RTab.turned {Q : Nat → Prop} {w w' : World} {b g n : Nat} {name : Nat → Nat} {free : List Nat} (t : RTab w b g n name free) (k : Turned Q w w') (hb : ¬ Q b) (hg : ¬ Q g) : RTab w' b g n name free := by
  obtain ⟨⟨ao, cap, h1, h2⟩, ne⟩ := t
  exact ⟨⟨ao, cap, k.cells h1 hb, h2.turned k hg⟩, ne⟩
theorem RTab.below {w w' : World} {b g n : Nat} {name : Nat → Nat} {free : List Nat} (t : RTab w b g n name free) (k : Below w.heap.size w w') : RTab w' b g n name free := t.turned (Q := fun _ => False) (Turned.of_below k) (fun q => q) (fun q => q)
theorem CR.atName {w : World} {b n : Nat} {name : Nat → Nat} {v : Value} (h : CellsAt 34 w b (encR name n v)) (r : Nat) (hr : r < 32) : w.cell? ⟨b, 1 + r, none⟩ = some (.int .i64 (name r)) := by
  rw [h.cell (1 + r) (by omega)]
  unfold encR
  rw [if_neg (by omega), if_pos (by omega)]
  have : 1 + r - 1 = r := by omega
  rw [this]
theorem CR.name {w : World} {b n : Nat} {name : Nat → Nat} {v : Value} (h : CellsAt 34 w b (encR name n v)) (r x : Nat) (hr : r < 32) : CellsAt 34 (w.setCell ⟨b, 1 + r, none⟩ (.int .i64 x)) b (encR (upd name r x) n v) := by
  refine (h.set (1 + r) (by omega) _).to ?_
  funext o
  unfold upd encR
  by_cases e : o = 1 + r
  · subst e
    rw [if_pos rfl, if_neg (by omega), if_pos (by omega)]
    show _ = Value.int .i64 ((if 1 + r - 1 = r then x else name (1 + r - 1) : Nat) : Int)
    rw [if_pos (by omega)]
  · rw [if_neg e]
    by_cases e1 : o = 0
    · rw [if_pos e1, if_pos e1]
    · rw [if_neg e1, if_neg e1]
      by_cases e2 : o < 33
      · rw [if_pos e2, if_pos e2]
        show _ = Value.int .i64 ((if o - 1 = r then x else name (o - 1) : Nat) : Int)
        rw [if_neg (by omega)]
      · rw [if_neg e2, if_neg e2]
theorem CR.free {w : World} {b n : Nat} {name : Nat → Nat} {v : Value} (h : CellsAt 34 w b (encR name n v)) (u : Value) : CellsAt 34 (w.setCell ⟨b, 33, none⟩ u) b (encR name n u) := by
  refine (h.set 33 (by omega) _).ext fun o ho => ?_
  unfold upd encR
  by_cases e : o = 33
  · subst e; rfl
  · rw [if_neg e]
    by_cases e1 : o = 0
    · rw [if_pos e1, if_pos e1]
    · rw [if_neg e1, if_neg e1, if_pos (by omega), if_pos (by omega)]
theorem rlook_in (b g n : Nat) (name : Nat → Nat) (free : List Nat) (r : Nat) (w : World) (t : RTab w b g n name free) (hr : r < 32) : Calls Tryd.prog 24 #[.pointer (some ⟨b, 0, none⟩), .int .i64 r] w fun e w' => e = .returned (.int .i64 (name r)) ∧ w' = w := by
  obtain ⟨⟨ao, cap, hc, ho⟩, ne⟩ := t
  have c := CR.atName hc r hr
  have h3 := hc.here
  clear hc ho
  go_enter Tryd.func24, Tryd.ntmps24
  go_wp2
  go_ret
  exact ⟨rfl, rfl⟩
theorem rlook_out (b : Nat) (r : Int) (w : World) (hr : ¬ (0 ≤ r ∧ r < 32)) : Calls Tryd.prog 24 #[.pointer (some ⟨b, 0, none⟩), .int .i64 r] w fun e w' => e = .returned (.int .i64 (-1)) ∧ w' = w := by
  have hu : undef = Value.tuple #[] := rfl
  by_cases h1 : 0 ≤ r
  all_goals
    go_enter Tryd.func24, Tryd.ntmps24
    go_wp2
    all_goals first
      | (exfalso; omega)
      | (go_ret; exact ⟨rfl, rfl⟩)
theorem count_none (x : Nat) (l : List Nat) (h : ∀ j, j < l.length → l.getD j 0 ≠ x) : l.count x = 0 := by
  rcases Nat.eq_zero_or_pos (l.count x) with q | q
  · exact q
  · have hm := List.count_pos_iff.1 q
    obtain ⟨j, hj, e⟩ := List.getElem_of_mem hm
    exact absurd (by rw [List.getD_eq_getElem?_getD, List.getElem?_eq_getElem hj]; exact e) (h j hj)
theorem count_some (x : Nat) (l : List Nat) (j : Nat) (hj : j < l.length) (h : l.getD j 0 = x) : 0 < l.count x := by
  refine List.count_pos_iff.2 ?_
  rw [← h, List.getD_eq_getElem?_getD, List.getElem?_eq_getElem hj]
  exact List.getElem_mem hj
set_option maxHeartbeats 1000000 in
theorem rfree_any (b g n : Nat) (name : Nat → Nat) (free : List Nat) (x : Nat) (w : World) (t : RTab w b g n name free) (hl : free.length ≤ 1000) : Calls Tryd.prog 49 #[.pointer (some ⟨b, 0, none⟩), .int .i64 x] w fun e w' => e = .returned (.bool (decide (0 < free.count x))) ∧ w' = w := by
  obtain ⟨⟨ao, cap, hc, ho⟩, ne⟩ := t
  have cf : w.cell? ⟨b, 33, none⟩ = some (.slice ao free.length cap) := hc.cell 33 (by decide)
  have h3 := hc.here
  have HO := Hid.in ho
  clear hc ho
  go_enter Tryd.func49, Tryd.ntmps49
  go_wp2
  go_loopw [5] (fun v wr => ∃ i : Nat, v = .int .i64 i ∧ i ≤ free.length ∧ (∀ j, j < i → free.getD j 0 ≠ x) ∧ w = wr) (fun v _ => free.length - (intOf v).toNat)
  case atStart => exact ⟨0, rfl, by omega, fun j hj => absurd hj (by omega), rfl⟩
  case round =>
    obtain ⟨i, rfl, hi, hall, rfl⟩ := hrel
    have HA := Hid.in hall
    clear hall
    by_cases hi2 : i < free.length
    · have hle := HO.out.le
      obtain ⟨ad, had⟩ : ∃ ad, ao = some ad := by
        cases ao with
        | none => have := HO.out.none rfl; omega
        | some q => exact ⟨q, rfl⟩
      obtain ⟨off, rfl, b3, b4, b5, b6⟩ := HO.out.at' ad had
      subst had
      have hcj := b5 i hi2
      obtain ⟨y, hy⟩ : ∃ y, y = free.getD i 0 := ⟨_, rfl⟩
      rw [← hy] at hcj
      have HY := Hid.in hy
      clear hy b4 b5 b6
      by_cases hyx : y = x
      · have hb : ((y : Int) == (x : Int)) = true := by rw [hyx]; simp
        go_wp2
        go_ret
        have := count_some x free i hi2 (by rw [← HY.out]; exact hyx)
        exact ⟨by simp [this], rfl⟩
      · have hb : ((y : Int) == (x : Int)) = false := by simp; omega
        go_wp2
        go_roundw
        case rel =>
          refine ⟨i + 1, by go_num, by omega, fun j hj => ?_, by first | rfl | trivial⟩
          by_cases q : j = i
          · subst q; rw [← HY.out]; exact hyx
          · exact HA.out j (by omega)
        case measure => simp [intOf]; omega
    · go_wp2
      go_ret
      have := count_none x free (fun j hj => HA.out j (by omega))
      exact ⟨by rw [this]; rfl, rfl⟩
set_option maxHeartbeats 1000000 in
theorem rmapped_any (b g n : Nat) (name : Nat → Nat) (free : List Nat) (x : Nat) (w : World) (t : RTab w b g n name free) : Calls Tryd.prog 50 #[.pointer (some ⟨b, 0, none⟩), .int .i64 x] w fun e w' => e = .returned (.bool (decide (0 < cnt name x 32))) ∧ w' = w := by
  obtain ⟨⟨ao, cap, hc, ho⟩, ne⟩ := t
  have h3 := hc.here
  have HC := Hid.in hc
  clear hc ho
  go_enter Tryd.func50, Tryd.ntmps50
  go_wp2
  go_loopw [5] (fun v wr => ∃ i : Nat, v = .int .i64 i ∧ i ≤ 32 ∧ (∀ j, j < i → name j ≠ x) ∧ w = wr) (fun v _ => 33 - (intOf v).toNat)
  case atStart => exact ⟨0, rfl, by omega, fun j hj => absurd hj (by omega), rfl⟩
  case round =>
    obtain ⟨i, rfl, hi, hall, rfl⟩ := hrel
    have HA := Hid.in hall
    clear hall
    by_cases hi2 : i < 32
    · have hcj := CR.atName HC.out i hi2
      obtain ⟨y, hy⟩ : ∃ y, y = name i := ⟨_, rfl⟩
      rw [← hy] at hcj
      have HY := Hid.in hy
      clear hy
      by_cases hyx : y = x
      · have hb : ((y : Int) == (x : Int)) = true := by rw [hyx]; simp
        go_wp2
        go_ret
        have := cnt_mem name x i (by rw [← HY.out]; exact hyx) 32 hi2
        have h0 : 0 < cnt name x 32 := by omega
        exact ⟨by simp [h0], rfl⟩
      · have hb : ((y : Int) == (x : Int)) = false := by simp; omega
        go_wp2
        go_roundw
        case rel =>
          refine ⟨i + 1, by go_num, by omega, fun j hj => ?_, by first | rfl | trivial⟩
          by_cases q : j = i
          · subst q; rw [← HY.out]; exact hyx
          · exact HA.out j (by omega)
        case measure => simp [intOf]; omega
    · go_wp2
      go_ret
      have := cnt_none name x 32 (fun j hj => HA.out j (by omega))
      exact ⟨by rw [this]; rfl, rfl⟩
end Go.Proofs.YtpolfpebhbkabaaDoor
