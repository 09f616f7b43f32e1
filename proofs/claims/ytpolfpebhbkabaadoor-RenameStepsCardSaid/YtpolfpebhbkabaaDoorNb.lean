/-
  RENAME: names of registers, plainly; the program's table in memory.
-/
import Derived.Test.YtpolfpebhbkabaaDoorNa
namespace Go.Proofs.YtpolfpebhbkabaaDoor
open Go Go.RowKit
/-- a table of names: of each register its name, what is held, what is free in its order -/
structure NT where
  name : Nat → Nat
  held : Nat → Bool
  free : List Nat
/-- a table's cells: h: where its row 'held' lies, of n names -/
def encT (name ring : Nat → Nat) (first len h n : Nat) (o : Nat) : Value :=
  if o < 32 then .int .i64 (name o) else if o = 32 then .slice (some ⟨h, 0, none⟩) n n else if o < 161 then .int .i64 (ring (o - 33)) else if o = 161 then .int .i64 first else .int .i64 len
/-- how a list lies in a ring of 128 -/
structure Ring (ring : Nat → Nat) (first : Nat) (l : List Nat) : Prop where
  low : first < 128
  room : l.length ≤ 128
  at' : ∀ k, k < l.length → ring ((first + k) % 128) = l.getD k 0
structure Tab (w : World) (p h n : Nat) (A : NT) : Prop where
  rows : ∃ ring first, Ring ring first A.free ∧ CellsAt 163 w p (encT A.name ring first A.free.length h n)
  held : CellsAt n w h (fun k => .bool (A.held k))
  ne : p ≠ h
theorem Tab.below {w w' : World} {p h n : Nat} {A : NT} (t : Tab w p h n A) (hb : Below w.heap.size w w') : Tab w' p h n A := by
  obtain ⟨⟨ring, first, hr, hc⟩, hh, ne⟩ := t
  exact ⟨⟨ring, first, hr, hc.below hb⟩, hh.below hb, ne⟩
theorem Tab.turned {Q : Nat → Prop} {w w' : World} {p h n : Nat} {A : NT} (t : Tab w p h n A) (k : Turned Q w w') (hp : ¬ Q p) (hh : ¬ Q h) : Tab w' p h n A := by
  obtain ⟨⟨ring, first, hr, hc⟩, hd, ne⟩ := t
  exact ⟨⟨ring, first, hr, k.cells hc hp⟩, k.cells hd hh, ne⟩
theorem Ring.push {ring : Nat → Nat} {first : Nat} {l : List Nat} (h : Ring ring first l) (hl : l.length < 128) (x : Nat) : Ring (upd ring ((first + l.length) % 128) x) first (l ++ [x]) := by
  obtain ⟨h1, h2, h3⟩ := h
  refine ⟨h1, by simp; omega, fun k hk => ?_⟩
  simp at hk
  by_cases e : k = l.length
  · subst e
    rw [upd_same]
    simp [List.getD]
  · rw [upd_other _ _ _ _ (by omega), h3 k (by omega)]
    simp only [List.getD]
    rw [List.getElem?_append_left (by omega)]
theorem Ring.cons {ring : Nat → Nat} {first : Nat} {l : List Nat} (h : Ring ring first l) (hl : l.length < 128) (x : Nat) : Ring (upd ring ((first + 127) % 128) x) ((first + 127) % 128) (x :: l) := by
  obtain ⟨h1, h2, h3⟩ := h
  refine ⟨by omega, by simp; omega, fun k hk => ?_⟩
  simp at hk
  by_cases e : k = 0
  · subst e
    have : ((first + 127) % 128 + 0) % 128 = (first + 127) % 128 := by omega
    rw [this, upd_same]
    rfl
  · obtain ⟨j, rfl⟩ : ∃ j, k = j + 1 := ⟨k - 1, by omega⟩
    have e2 : ((first + 127) % 128 + (j + 1)) % 128 = (first + j) % 128 := by omega
    rw [e2, upd_other _ _ _ _ (by omega), h3 j (by omega)]
    rfl
theorem Ring.tail {ring : Nat → Nat} {first x : Nat} {l : List Nat} (h : Ring ring first (x :: l)) : ring first = x ∧ Ring ring ((first + 1) % 128) l := by
  obtain ⟨h1, h2, h3⟩ := h
  simp at h2
  constructor
  · have := h3 0 (by simp)
    rw [Nat.add_zero, Nat.mod_eq_of_lt h1] at this
    exact this
  · refine ⟨by omega, by omega, fun k hk => ?_⟩
    have := h3 (k + 1) (by simp; omega)
    have e2 : ((first + 1) % 128 + k) % 128 = (first + (k + 1)) % 128 := by omega
    rw [e2, this]
    rfl
theorem encT_name (name ring : Nat → Nat) (first len h n r v : Nat) (hr : r < 32) : upd (encT name ring first len h n) r (.int .i64 v) = encT (upd name r v) ring first len h n := by
  funext o
  unfold upd encT
  by_cases e : o = r
  · subst e; simp [hr]
  · simp [e]
theorem encT_ring (name ring : Nat → Nat) (first len h n r v : Nat) (hr : r < 128) : upd (encT name ring first len h n) (33 + r) (.int .i64 v) = encT name (upd ring r v) first len h n := by
  funext o
  unfold upd encT
  by_cases e : o = 33 + r
  · subst e
    rw [if_pos rfl, if_neg (by omega), if_neg (by omega), if_pos (by omega)]
    show _ = Value.int .i64 ((if 33 + r - 33 = r then v else ring (33 + r - 33) : Nat) : Int)
    rw [if_pos (by omega)]
  · rw [if_neg e]
    by_cases e1 : o < 32
    · rw [if_pos e1, if_pos e1]
    · rw [if_neg e1, if_neg e1]
      by_cases e2 : o = 32
      · rw [if_pos e2, if_pos e2]
      · rw [if_neg e2, if_neg e2]
        by_cases e3 : o < 161
        · rw [if_pos e3, if_pos e3]
          show _ = Value.int .i64 ((if o - 33 = r then v else ring (o - 33) : Nat) : Int)
          rw [if_neg (by omega)]
        · rw [if_neg e3, if_neg e3]
theorem encT_first (name ring : Nat → Nat) (first len h n v : Nat) : upd (encT name ring first len h n) 161 (.int .i64 v) = encT name ring v len h n := by
  funext o
  unfold upd encT
  by_cases e : o = 161
  · subst e; simp
  · simp [e]
theorem encT_len (name ring : Nat → Nat) (first len h n v : Nat) : ∀ o, o < 163 → upd (encT name ring first len h n) 162 (.int .i64 v) o = encT name ring first v h n o := by
  intro o ho
  unfold upd encT
  by_cases e : o = 162
  · subst e; simp
  · have : o < 162 := by omega
    rw [if_neg e]
    by_cases e1 : o < 32
    · rw [if_pos e1, if_pos e1]
    · rw [if_neg e1, if_neg e1]
      by_cases e2 : o = 32
      · rw [if_pos e2, if_pos e2]
      · rw [if_neg e2, if_neg e2]
        by_cases e3 : o < 161
        · rw [if_pos e3, if_pos e3]
        · rw [if_neg e3, if_neg e3, if_pos (by omega), if_pos (by omega)]
end Go.Proofs.YtpolfpebhbkabaaDoor
