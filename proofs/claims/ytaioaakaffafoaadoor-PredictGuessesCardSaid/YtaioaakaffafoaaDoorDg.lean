/-
  PREDICT: counters that say whether a branch is likely.
-/
import Derived.Test.YtaioaakaffafoaaDoorDf
namespace Go.Proofs.YtaioaakaffafoaaDoor
open Go Go.RowKit
def cix (nc : Nat) (n : Int) : Nat := (n % (nc : Int)).toNat
theorem cix_is (nc : Nat) (n : Int) (h : 1 ≤ nc) : n % (nc : Int) = (cix nc n : Int) ∧ cix nc n < nc := by
  have h2 := Int.emod_nonneg n (show (nc : Int) ≠ 0 by omega)
  have h3 := Int.emod_lt_of_pos n (show (0 : Int) < (nc : Int) by omega)
  unfold cix
  omega
theorem index_any (gc nc : Nat) (n : Int) (w : World) (h1 : 1 ≤ nc) (h2 : nc ≤ 1024) (hn : 0 ≤ n ∧ n < 4294967296) : Calls Tryd.prog 70 #[.agg #[.slice (some ⟨gc, 0, none⟩) nc nc], .int .u32 n] w fun e w' => e = .returned (.int .u32 (cix nc n)) ∧ Below w.heap.size w w' := by
  obtain ⟨e1, e2⟩ := cix_is nc n h1
  obtain ⟨n1, n2⟩ := hn
  have hz : ¬ (nc : Int) = 0 := by omega
  have hm : (nc : Int) % 4294967296 = nc := by omega
  go_enter Tryd.func70, Tryd.ntmps70
  go_wp2
  rw [e1]
  go_ret
  exact ⟨rfl, (Below.refl _ _).alloc (Nat.le_refl _) _⟩
theorem keepBd {w w2 : World} {c : Array Value} {t : TypeId} (hb : Below (w.alloc (.cells c t)).drew.heap.size (w.alloc (.cells c t)).drew w2) :
    (∀ i, w2.cell? ⟨w.heap.size, i, none⟩ = c[i]?) ∧ (∀ i, w2.frozen? ⟨w.heap.size, i, none⟩ = false) ∧ w.heap.size < w2.heap.size ∧ Below w.heap.size w w2 :=
  keepB ((Below.refl (w.alloc (.cells c t)).heap.size (w.alloc (.cells c t))).drew.trans hb)
/-- counters in memory -/
structure Ct (w : World) (gc nc : Nat) (f : Nat → Nat) : Prop where
  cells : CellsAt nc w gc (fun k => .int .u8 (f k))
  one : 1 ≤ nc
  most : nc ≤ 1024
theorem Ct.below {w w' : World} {gc nc : Nat} {f : Nat → Nat} (h : Ct w gc nc f) (c : Below w.heap.size w w') : Ct w' gc nc f := ⟨(Turned.of_below (Q := fun _ => False) c).cells h.cells (fun q => q), h.one, h.most⟩
set_option maxHeartbeats 1000000 in
theorem isLikely_any (gc nc : Nat) (f : Nat → Nat) (n : Int) (w : World) (h : Ct w gc nc f) (hn : 0 ≤ n ∧ n < 4294967296) : Calls Tryd.prog 69 #[.agg #[.slice (some ⟨gc, 0, none⟩) nc nc], .int .u32 n] w fun e w' => e = .returned (.bool (decide ((2 : Int) ≤ (f (cix nc n) : Int)))) ∧ Below w.heap.size w w' := by
  have e2 := (cix_is nc n h.one).2
  have c1 := h.cells.cell _ e2
  have hh := h.cells.here
  have HC := Hid.in h
  have HN := Hid.in hn
  obtain ⟨k, hk⟩ : ∃ k, k = cix nc n := ⟨_, rfl⟩
  have HK := Hid.in hk
  rw [← hk] at e2 c1
  rw [← hk]
  clear h hn hk
  go_enter Tryd.func69, Tryd.ntmps69
  go_wp2
  go_region_with (go_at_call 70; go_loud (refine (index_any gc nc n _ HC.out.one HC.out.most HN.out).mono ?_; rintro e w1 ⟨rfl, hb1⟩; rw [← HK.out]; obtain ⟨k1, k2, k3, k4⟩ := keepBd hb1; have c2 := (k4.cell (p := ⟨gc, k, none⟩) hh).trans c1; have hh2 := Nat.lt_of_lt_of_le hh k4.size))
  all_goals (try go_wp2)

  all_goals (go_ret; exact ⟨rfl, k4⟩)
def cnt (f : Nat → Nat) (k : Nat) (taken : Bool) : Nat → Nat := if taken then (if f k < 3 then upd f k (f k + 1) else f) else (if 0 < f k then upd f k (f k - 1) else f)
theorem Ct.set {w : World} {gc nc : Nat} {f : Nat → Nat} (h : Ct w gc nc f) (k : Nat) (hk : k < nc) (v : Nat) : Ct (w.setCell ⟨gc, k, none⟩ (.int .u8 v)) gc nc (upd f k v) := by
  refine ⟨(h.cells.set k hk _).to ?_, h.one, h.most⟩
  funext j
  show upd (fun k => Value.int .u8 (f k)) k _ j = Value.int .u8 ((upd f k v j : Nat) : Int)
  by_cases e : j = k
  · rw [e, upd_same, upd_same]
  · rw [upd_other _ _ _ _ e, upd_other _ _ _ _ e]
set_option maxHeartbeats 2000000 in
theorem count_any (gc nc : Nat) (f : Nat → Nat) (n : Int) (taken : Bool) (w : World) (h : Ct w gc nc f) (hf : ∀ k, k < nc → f k ≤ 3) (hn : 0 ≤ n ∧ n < 4294967296) : Calls Tryd.prog 66 #[.agg #[.slice (some ⟨gc, 0, none⟩) nc nc], .int .u32 n, .bool taken] w fun e w' => e = .returned (.tuple #[]) ∧ Ct w' gc nc (cnt f (cix nc n) taken) ∧ Turned (· = gc) w w' := by
  have e2 := (cix_is nc n h.one).2
  have c1 := h.cells.cell _ e2
  have hh := h.cells.here
  have hfr := h.cells.free
  have f3 := hf _ e2
  have HC := Hid.in h
  have HN := Hid.in hn
  obtain ⟨k, hk⟩ : ∃ k, k = cix nc n := ⟨_, rfl⟩
  have HK := Hid.in hk
  rw [← hk] at e2 c1 f3
  rw [← hk]
  have hne : ¬ gc = w.heap.size := by omega
  clear h hn hk hf
  unfold cnt
  cases taken
  · by_cases hv : 0 < f k
    · have ev : (f k : Int) - 1 = ((f k - 1 : Nat) : Int) := by omega
      go_enter Tryd.func66, Tryd.ntmps66
      go_wp2_with (go_at_call 70; refine (index_any gc nc n _ HC.out.one HC.out.most HN.out).mono ?_; rintro e w1 ⟨rfl, hb1⟩; rw [← HK.out]; obtain ⟨k1, k2, k3, k4⟩ := keepB hb1; have c2 := (k4.cell (p := ⟨gc, k, none⟩) hh).trans c1; have hh2 := Nat.lt_of_lt_of_le hh k4.size; have hf2 : ∀ o, w1.frozen? ⟨gc, o, none⟩ = false := fun o => (k4.frozen (p := ⟨gc, o, none⟩) hh).trans (hfr o))
      all_goals exact bodyPost_end (results_none Tryd.results66 _ _ _) rfl ⟨rfl, (HC.out.below k4).set k e2 _, (Turned.of_below (Q := (· = gc)) k4).set (b := gc) rfl _ _⟩
    · go_enter Tryd.func66, Tryd.ntmps66
      go_wp2_with (go_at_call 70; refine (index_any gc nc n _ HC.out.one HC.out.most HN.out).mono ?_; rintro e w1 ⟨rfl, hb1⟩; rw [← HK.out]; obtain ⟨k1, k2, k3, k4⟩ := keepB hb1; have c2 := (k4.cell (p := ⟨gc, k, none⟩) hh).trans c1; have hh2 := Nat.lt_of_lt_of_le hh k4.size; have hf2 : ∀ o, w1.frozen? ⟨gc, o, none⟩ = false := fun o => (k4.frozen (p := ⟨gc, o, none⟩) hh).trans (hfr o))
      exact bodyPost_end (results_none Tryd.results66 _ _ _) rfl ⟨rfl, HC.out.below k4, Turned.of_below k4⟩
  · by_cases hv : f k < 3
    · have ev : Hid ((f k : Int) + 1 = ((f k + 1 : Nat) : Int)) := by show _ = _; omega
      go_enter Tryd.func66, Tryd.ntmps66
      go_wp2_with (go_at_call 70; refine (index_any gc nc n _ HC.out.one HC.out.most HN.out).mono ?_; rintro e w1 ⟨rfl, hb1⟩; rw [← HK.out]; obtain ⟨k1, k2, k3, k4⟩ := keepB hb1; have c2 := (k4.cell (p := ⟨gc, k, none⟩) hh).trans c1; have hh2 := Nat.lt_of_lt_of_le hh k4.size; have hf2 : ∀ o, w1.frozen? ⟨gc, o, none⟩ = false := fun o => (k4.frozen (p := ⟨gc, o, none⟩) hh).trans (hfr o))
      all_goals (rw [ev.out]; exact bodyPost_end (results_none Tryd.results66 _ _ _) rfl ⟨rfl, (HC.out.below k4).set k e2 _, (Turned.of_below (Q := (· = gc)) k4).set (b := gc) rfl _ _⟩)
    · go_enter Tryd.func66, Tryd.ntmps66
      go_wp2_with (go_at_call 70; refine (index_any gc nc n _ HC.out.one HC.out.most HN.out).mono ?_; rintro e w1 ⟨rfl, hb1⟩; rw [← HK.out]; obtain ⟨k1, k2, k3, k4⟩ := keepB hb1; have c2 := (k4.cell (p := ⟨gc, k, none⟩) hh).trans c1; have hh2 := Nat.lt_of_lt_of_le hh k4.size; have hf2 : ∀ o, w1.frozen? ⟨gc, o, none⟩ = false := fun o => (k4.frozen (p := ⟨gc, o, none⟩) hh).trans (hfr o))
      exact bodyPost_end (results_none Tryd.results66 _ _ _) rfl ⟨rfl, HC.out.below k4, Turned.of_below k4⟩
end Go.Proofs.YtaioaakaffafoaaDoor
