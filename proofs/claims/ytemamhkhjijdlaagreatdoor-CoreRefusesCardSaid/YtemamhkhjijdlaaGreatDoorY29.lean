import Derived.Test.YtemamhkhjijdlaaGreatDoorY00
import Derived.Deep.RegionWith
import Derived.Deep.RegionHeld3
import Derived.Laws.MakeOwn
import Derived.OwnWalk
/-
  RENAME: the program's ring of free names.
-/
namespace Go.Proofs.YtemamhkhjijdlaaGreatDoor
open Go Go.RowKit
theorem tmod128 (a b : Nat) : ((a : Int) + (b : Int)).tmod 128 = (((a + b) % 128 : Nat) : Int) := by
  rw [Int.tmod_eq_emod_of_nonneg (by omega)]; omega
theorem CT.name {w : World} {p h n : Nat} {name ring : Nat → Nat} {first len : Nat} (hc : CellsAt 163 w p (encT name ring first len h n)) (r v : Nat) (hr : r < 32) : CellsAt 163 (w.setCell ⟨p, r, none⟩ (.int .i64 v)) p (encT (upd name r v) ring first len h n) :=
  (hc.set r (by omega) _).to (encT_name _ _ _ _ _ _ _ _ hr)
theorem CT.ring {w : World} {p h n : Nat} {name ring : Nat → Nat} {first len : Nat} (hc : CellsAt 163 w p (encT name ring first len h n)) (r v : Nat) (hr : r < 128) : CellsAt 163 (w.setCell ⟨p, 33 + r, none⟩ (.int .i64 v)) p (encT name (upd ring r v) first len h n) :=
  (hc.set (33 + r) (by omega) _).to (encT_ring _ _ _ _ _ _ _ _ hr)
theorem CT.first {w : World} {p h n : Nat} {name ring : Nat → Nat} {first len : Nat} (hc : CellsAt 163 w p (encT name ring first len h n)) (v : Nat) : CellsAt 163 (w.setCell ⟨p, 161, none⟩ (.int .i64 v)) p (encT name ring v len h n) :=
  (hc.set 161 (by omega) _).to (encT_first _ _ _ _ _ _ _)
theorem CT.len {w : World} {p h n : Nat} {name ring : Nat → Nat} {first len : Nat} (hc : CellsAt 163 w p (encT name ring first len h n)) (v : Nat) : CellsAt 163 (w.setCell ⟨p, 162, none⟩ (.int .i64 v)) p (encT name ring first v h n) :=
  (hc.set 162 (by omega) _).ext (encT_len _ _ _ _ _ _ _)
theorem CT.atName {w : World} {p h n : Nat} {name ring : Nat → Nat} {first len : Nat} (hc : CellsAt 163 w p (encT name ring first len h n)) (r : Nat) (hr : r < 32) : w.cell? ⟨p, r, none⟩ = some (.int .i64 (name r)) := by
  rw [hc.cell r (by omega)]
  unfold encT
  rw [if_pos hr]
theorem CT.atRing {w : World} {p h n : Nat} {name ring : Nat → Nat} {first len : Nat} (hc : CellsAt 163 w p (encT name ring first len h n)) (r : Nat) (hr : r < 128) : w.cell? ⟨p, 33 + r, none⟩ = some (.int .i64 (ring r)) := by
  rw [hc.cell (33 + r) (by omega)]
  unfold encT
  rw [if_neg (by omega), if_neg (by omega), if_pos (by omega)]
  simp
set_option maxHeartbeats 1000000 in
theorem addLast_any (p h n : Nat) (name ring : Nat → Nat) (first len x : Nat) (w : World) (hf : first < 128) (hl : len < 128) (hc : CellsAt 163 w p (encT name ring first len h n)) : Calls Tryz.prog 61 #[.pointer (some ⟨p, 33, none⟩), .int .i64 x] w fun e w' => e = .returned (.tuple #[]) ∧ CellsAt 163 w' p (encT name (upd ring ((first + len) % 128) x) first (len + 1) h n) ∧ Turned (· = p) w w' := by
  obtain ⟨k, hk⟩ : ∃ k, (first + len) % 128 = k := ⟨_, rfl⟩
  have hk2 : k < 128 := by omega
  have hm := tmod128 first len
  rw [hk] at hm ⊢
  have cf : w.cell? ⟨p, 161, none⟩ = some (.int .i64 first) := hc.cell 161 (by decide)
  have cl : w.cell? ⟨p, 162, none⟩ = some (.int .i64 len) := hc.cell 162 (by decide)
  have ck := CT.atRing hc k hk2
  have h3 := hc.here
  have h4 := hc.free
  have HH := Hid.in hc
  clear hc hk
  go_enter Tryz.func61, Tryz.ntmps61
  go_wp2
  go_region
  go_wp2
  refine bodyPost_end (results_none Tryz.results61 _ _ _) rfl ⟨rfl, ?_, ?_⟩
  · exact (CT.len (CT.ring HH.out k x hk2) (len + 1)).drew
  · exact (((Turned.refl (· = p) w).set rfl _ _).set rfl _ _).drew
end Go.Proofs.YtemamhkhjijdlaaGreatDoor
/-
  RENAME: the program's table.
-/
namespace Go.Proofs.YtemamhkhjijdlaaGreatDoor
open Go Go.RowKit
/-- a fresh name -/
def NT.take (A : NT) (r x : Nat) (l : List Nat) : NT := ⟨upd A.name r x, upd A.held (A.name r) true, l⟩
end Go.Proofs.YtemamhkhjijdlaaGreatDoor
/-
  RENAME: names are released, and undone.
-/
namespace Go.Proofs.YtemamhkhjijdlaaGreatDoor
open Go Go.RowKit
end Go.Proofs.YtemamhkhjijdlaaGreatDoor
/-
  RENAME: how a table is made.
-/
namespace Go.Proofs.YtemamhkhjijdlaaGreatDoor
open Go Go.RowKit
theorem make_run_ren {P : Program} (t e : TypeId) (z : Value) (bytes : Nat) (ht : P.underlying t = some (.slice e)) (hi : (P.info? e).map (fun i => (i.zero, i.size, i.bytes)) = some (some z, 1, bytes)) (hz : z.cells = #[z]) (n : Nat) (hb : (bytes : Int) * n ≤ 281474976710656) (hn : n ≤ 9223372036854775807) : ∀ u : World, (Instr.makeSlice t (.int .i64 n) (.int .i64 n)).run P u = .ok (.slice (some ⟨u.heap.size, 0, none⟩) n n) (u.alloc (.cells (madeCells #[z] n) e)) := fun u => by
  obtain ⟨i, h1, h2, h3, h4⟩ := info_parts hi
  have q := run_make (P := P) u t e i z ht h1 h2 .i64 .i64 n n (by omega) (Int.le_refl _) (by rw [h4]; exact hb) (by omega)
  simpa [h3, hz] using q
theorem made_cell_ren (z : Value) (n i : Nat) (h : i < n) : (madeCells #[z] n)[i]? = some z := by
  simp [madeCells, h, Nat.mod_one]
theorem new_bad_ren (n : Int) (w : World) (hn : ¬ (34 ≤ n ∧ n ≤ 128)) : Calls Tryz.prog 35 #[.int .i64 n] w fun e w' => e = .returned (.tuple #[.pointer none, .iface 33 (.int .i64 2)]) ∧ w' = w := by
  have hu : undef = Value.tuple #[] := rfl
  by_cases h1 : n < 34
  all_goals
    go_enter Tryz.func35, Tryz.ntmps35
    go_wp2
    all_goals first
      | (exfalso; omega)
      | exact bodyPost_ret (by simp [results, Tryz.results35, go_sem]) rfl ⟨rfl, rfl⟩
def newT (n : Nat) : NT := ⟨fun k => k, fun _ => false, (List.range (n - 32)).map (32 + ·)⟩
theorem new_cells (h n : Nat) : ∀ i, i < 163 → (#[.int .i64 0, .int .i64 0, .int .i64 0, .int .i64 0, .int .i64 0, .int .i64 0, .int .i64 0, .int .i64 0, .int .i64 0, .int .i64 0, .int .i64 0, .int .i64 0, .int .i64 0, .int .i64 0, .int .i64 0, .int .i64 0, .int .i64 0, .int .i64 0, .int .i64 0, .int .i64 0, .int .i64 0, .int .i64 0, .int .i64 0, .int .i64 0, .int .i64 0, .int .i64 0, .int .i64 0, .int .i64 0, .int .i64 0, .int .i64 0, .int .i64 0, .int .i64 0, .slice (some ⟨h, 0, none⟩) n n, .int .i64 0, .int .i64 0, .int .i64 0, .int .i64 0, .int .i64 0, .int .i64 0, .int .i64 0, .int .i64 0, .int .i64 0, .int .i64 0, .int .i64 0, .int .i64 0, .int .i64 0, .int .i64 0, .int .i64 0, .int .i64 0, .int .i64 0, .int .i64 0, .int .i64 0, .int .i64 0, .int .i64 0, .int .i64 0, .int .i64 0, .int .i64 0, .int .i64 0, .int .i64 0, .int .i64 0, .int .i64 0, .int .i64 0, .int .i64 0, .int .i64 0, .int .i64 0, .int .i64 0, .int .i64 0, .int .i64 0, .int .i64 0, .int .i64 0, .int .i64 0, .int .i64 0, .int .i64 0, .int .i64 0, .int .i64 0, .int .i64 0, .int .i64 0, .int .i64 0, .int .i64 0, .int .i64 0, .int .i64 0, .int .i64 0, .int .i64 0, .int .i64 0, .int .i64 0, .int .i64 0, .int .i64 0, .int .i64 0, .int .i64 0, .int .i64 0, .int .i64 0, .int .i64 0, .int .i64 0, .int .i64 0, .int .i64 0, .int .i64 0, .int .i64 0, .int .i64 0, .int .i64 0, .int .i64 0, .int .i64 0, .int .i64 0, .int .i64 0, .int .i64 0, .int .i64 0, .int .i64 0, .int .i64 0, .int .i64 0, .int .i64 0, .int .i64 0, .int .i64 0, .int .i64 0, .int .i64 0, .int .i64 0, .int .i64 0, .int .i64 0, .int .i64 0, .int .i64 0, .int .i64 0, .int .i64 0, .int .i64 0, .int .i64 0, .int .i64 0, .int .i64 0, .int .i64 0, .int .i64 0, .int .i64 0, .int .i64 0, .int .i64 0, .int .i64 0, .int .i64 0, .int .i64 0, .int .i64 0, .int .i64 0, .int .i64 0, .int .i64 0, .int .i64 0, .int .i64 0, .int .i64 0, .int .i64 0, .int .i64 0, .int .i64 0, .int .i64 0, .int .i64 0, .int .i64 0, .int .i64 0, .int .i64 0, .int .i64 0, .int .i64 0, .int .i64 0, .int .i64 0, .int .i64 0, .int .i64 0, .int .i64 0, .int .i64 0, .int .i64 0, .int .i64 0, .int .i64 0, .int .i64 0, .int .i64 0, .int .i64 0, .int .i64 0, .int .i64 0] : Array Value)[i]? = some (encT (fun _ => 0) (fun _ => 0) 0 0 h n i) := fun i hi =>
  range_of 163 (fun i => (#[.int .i64 0, .int .i64 0, .int .i64 0, .int .i64 0, .int .i64 0, .int .i64 0, .int .i64 0, .int .i64 0, .int .i64 0, .int .i64 0, .int .i64 0, .int .i64 0, .int .i64 0, .int .i64 0, .int .i64 0, .int .i64 0, .int .i64 0, .int .i64 0, .int .i64 0, .int .i64 0, .int .i64 0, .int .i64 0, .int .i64 0, .int .i64 0, .int .i64 0, .int .i64 0, .int .i64 0, .int .i64 0, .int .i64 0, .int .i64 0, .int .i64 0, .int .i64 0, .slice (some ⟨h, 0, none⟩) n n, .int .i64 0, .int .i64 0, .int .i64 0, .int .i64 0, .int .i64 0, .int .i64 0, .int .i64 0, .int .i64 0, .int .i64 0, .int .i64 0, .int .i64 0, .int .i64 0, .int .i64 0, .int .i64 0, .int .i64 0, .int .i64 0, .int .i64 0, .int .i64 0, .int .i64 0, .int .i64 0, .int .i64 0, .int .i64 0, .int .i64 0, .int .i64 0, .int .i64 0, .int .i64 0, .int .i64 0, .int .i64 0, .int .i64 0, .int .i64 0, .int .i64 0, .int .i64 0, .int .i64 0, .int .i64 0, .int .i64 0, .int .i64 0, .int .i64 0, .int .i64 0, .int .i64 0, .int .i64 0, .int .i64 0, .int .i64 0, .int .i64 0, .int .i64 0, .int .i64 0, .int .i64 0, .int .i64 0, .int .i64 0, .int .i64 0, .int .i64 0, .int .i64 0, .int .i64 0, .int .i64 0, .int .i64 0, .int .i64 0, .int .i64 0, .int .i64 0, .int .i64 0, .int .i64 0, .int .i64 0, .int .i64 0, .int .i64 0, .int .i64 0, .int .i64 0, .int .i64 0, .int .i64 0, .int .i64 0, .int .i64 0, .int .i64 0, .int .i64 0, .int .i64 0, .int .i64 0, .int .i64 0, .int .i64 0, .int .i64 0, .int .i64 0, .int .i64 0, .int .i64 0, .int .i64 0, .int .i64 0, .int .i64 0, .int .i64 0, .int .i64 0, .int .i64 0, .int .i64 0, .int .i64 0, .int .i64 0, .int .i64 0, .int .i64 0, .int .i64 0, .int .i64 0, .int .i64 0, .int .i64 0, .int .i64 0, .int .i64 0, .int .i64 0, .int .i64 0, .int .i64 0, .int .i64 0, .int .i64 0, .int .i64 0, .int .i64 0, .int .i64 0, .int .i64 0, .int .i64 0, .int .i64 0, .int .i64 0, .int .i64 0, .int .i64 0, .int .i64 0, .int .i64 0, .int .i64 0, .int .i64 0, .int .i64 0, .int .i64 0, .int .i64 0, .int .i64 0, .int .i64 0, .int .i64 0, .int .i64 0, .int .i64 0, .int .i64 0, .int .i64 0, .int .i64 0, .int .i64 0, .int .i64 0, .int .i64 0, .int .i64 0, .int .i64 0, .int .i64 0] : Array Value)[i]?) (fun i => some (encT (fun _ => 0) (fun _ => 0) 0 0 h n i)) (by kernel_rfl) i hi
theorem name_step {w : World} {p h n k : Nat} {ring : Nat → Nat} {first len : Nat} (hk : k < 32) (hc : CellsAt 163 w p (encT (fun o => if o < k then o else 0) ring first len h n)) : CellsAt 163 (w.setCell ⟨p, k, none⟩ (.int .i64 k)) p (encT (fun o => if o < k + 1 then o else 0) ring first len h n) := by
  refine (CT.name hc k k hk).to ?_
  have e : upd (fun o => if o < k then o else 0) k k = (fun o => if o < k + 1 then o else 0) := by
    funext o
    show (if o = k then k else if o < k then o else 0) = if o < k + 1 then o else 0
    by_cases q : o = k
    · subst q; simp
    · by_cases q2 : o < k
      · rw [if_neg q, if_pos q2, if_pos (by omega)]
      · rw [if_neg q, if_neg q2, if_neg (by omega)]
  rw [e]
theorem name_end {w : World} {p h n : Nat} {ring : Nat → Nat} {first len : Nat} (hc : CellsAt 163 w p (encT (fun o => if o < 32 then o else 0) ring first len h n)) : CellsAt 163 w p (encT (fun o => o) ring first len h n) := by
  refine hc.ext fun o ho => ?_
  unfold encT
  by_cases q : o < 32
  · simp [q]
  · rw [if_neg q, if_neg q]
theorem made_T (n : Nat) (w w0 : World) (h : w0 = (w.alloc (.cells (madeCells #[.bool false] n) 4)).alloc (.cells #[.int .i64 0, .int .i64 0, .int .i64 0, .int .i64 0, .int .i64 0, .int .i64 0, .int .i64 0, .int .i64 0, .int .i64 0, .int .i64 0, .int .i64 0, .int .i64 0, .int .i64 0, .int .i64 0, .int .i64 0, .int .i64 0, .int .i64 0, .int .i64 0, .int .i64 0, .int .i64 0, .int .i64 0, .int .i64 0, .int .i64 0, .int .i64 0, .int .i64 0, .int .i64 0, .int .i64 0, .int .i64 0, .int .i64 0, .int .i64 0, .int .i64 0, .int .i64 0, .slice (some ⟨w.heap.size, 0, none⟩) n n, .int .i64 0, .int .i64 0, .int .i64 0, .int .i64 0, .int .i64 0, .int .i64 0, .int .i64 0, .int .i64 0, .int .i64 0, .int .i64 0, .int .i64 0, .int .i64 0, .int .i64 0, .int .i64 0, .int .i64 0, .int .i64 0, .int .i64 0, .int .i64 0, .int .i64 0, .int .i64 0, .int .i64 0, .int .i64 0, .int .i64 0, .int .i64 0, .int .i64 0, .int .i64 0, .int .i64 0, .int .i64 0, .int .i64 0, .int .i64 0, .int .i64 0, .int .i64 0, .int .i64 0, .int .i64 0, .int .i64 0, .int .i64 0, .int .i64 0, .int .i64 0, .int .i64 0, .int .i64 0, .int .i64 0, .int .i64 0, .int .i64 0, .int .i64 0, .int .i64 0, .int .i64 0, .int .i64 0, .int .i64 0, .int .i64 0, .int .i64 0, .int .i64 0, .int .i64 0, .int .i64 0, .int .i64 0, .int .i64 0, .int .i64 0, .int .i64 0, .int .i64 0, .int .i64 0, .int .i64 0, .int .i64 0, .int .i64 0, .int .i64 0, .int .i64 0, .int .i64 0, .int .i64 0, .int .i64 0, .int .i64 0, .int .i64 0, .int .i64 0, .int .i64 0, .int .i64 0, .int .i64 0, .int .i64 0, .int .i64 0, .int .i64 0, .int .i64 0, .int .i64 0, .int .i64 0, .int .i64 0, .int .i64 0, .int .i64 0, .int .i64 0, .int .i64 0, .int .i64 0, .int .i64 0, .int .i64 0, .int .i64 0, .int .i64 0, .int .i64 0, .int .i64 0, .int .i64 0, .int .i64 0, .int .i64 0, .int .i64 0, .int .i64 0, .int .i64 0, .int .i64 0, .int .i64 0, .int .i64 0, .int .i64 0, .int .i64 0, .int .i64 0, .int .i64 0, .int .i64 0, .int .i64 0, .int .i64 0, .int .i64 0, .int .i64 0, .int .i64 0, .int .i64 0, .int .i64 0, .int .i64 0, .int .i64 0, .int .i64 0, .int .i64 0, .int .i64 0, .int .i64 0, .int .i64 0, .int .i64 0, .int .i64 0, .int .i64 0, .int .i64 0, .int .i64 0, .int .i64 0, .int .i64 0, .int .i64 0, .int .i64 0, .int .i64 0, .int .i64 0] 186)) : CellsAt 163 w0 (w.heap.size + 1) (encT (fun o => if o < 0 then o else 0) (fun _ => 0) 0 0 w.heap.size n) ∧ CellsAt n w0 w.heap.size (fun _ => .bool false) ∧ Below w.heap.size w w0 := by
  subst h
  refine ⟨?_, (cells_new w (made_cell_ren (.bool false) n)).alloc _, ((Below.refl _ _).alloc (Nat.le_refl _) _).alloc (by simp) _⟩
  have q := cells_new (t := 186) (w.alloc (.cells (madeCells #[.bool false] n) 4)) (new_cells w.heap.size n)
  rw [World.size_alloc] at q
  exact q
set_option maxRecDepth 100000 in
set_option maxHeartbeats 2000000 in
theorem new_good_ren (n : Nat) (w : World) (h1 : 34 ≤ n) (h2 : n ≤ 128) : Calls Tryz.prog 35 #[.int .i64 n] w fun e w' => e = .returned (.tuple #[.pointer (some ⟨w.heap.size + 1, 0, none⟩), .nilIface]) ∧ Tab w' (w.heap.size + 1) w.heap.size n (newT n) ∧ Below w.heap.size w w' := by
  have hmk := make_run_ren (P := Tryz.prog) 180 4 (.bool false) 1 Tryz.underlying180 (by kernel_rfl) rfl n (by omega) (by omega)
  have hz : ∀ u : World, (zeroValue 186).run Tryz.prog u = .ok (.agg #[.int .i64 0, .int .i64 0, .int .i64 0, .int .i64 0, .int .i64 0, .int .i64 0, .int .i64 0, .int .i64 0, .int .i64 0, .int .i64 0, .int .i64 0, .int .i64 0, .int .i64 0, .int .i64 0, .int .i64 0, .int .i64 0, .int .i64 0, .int .i64 0, .int .i64 0, .int .i64 0, .int .i64 0, .int .i64 0, .int .i64 0, .int .i64 0, .int .i64 0, .int .i64 0, .int .i64 0, .int .i64 0, .int .i64 0, .int .i64 0, .int .i64 0, .int .i64 0, .slice none 0 0, .int .i64 0, .int .i64 0, .int .i64 0, .int .i64 0, .int .i64 0, .int .i64 0, .int .i64 0, .int .i64 0, .int .i64 0, .int .i64 0, .int .i64 0, .int .i64 0, .int .i64 0, .int .i64 0, .int .i64 0, .int .i64 0, .int .i64 0, .int .i64 0, .int .i64 0, .int .i64 0, .int .i64 0, .int .i64 0, .int .i64 0, .int .i64 0, .int .i64 0, .int .i64 0, .int .i64 0, .int .i64 0, .int .i64 0, .int .i64 0, .int .i64 0, .int .i64 0, .int .i64 0, .int .i64 0, .int .i64 0, .int .i64 0, .int .i64 0, .int .i64 0, .int .i64 0, .int .i64 0, .int .i64 0, .int .i64 0, .int .i64 0, .int .i64 0, .int .i64 0, .int .i64 0, .int .i64 0, .int .i64 0, .int .i64 0, .int .i64 0, .int .i64 0, .int .i64 0, .int .i64 0, .int .i64 0, .int .i64 0, .int .i64 0, .int .i64 0, .int .i64 0, .int .i64 0, .int .i64 0, .int .i64 0, .int .i64 0, .int .i64 0, .int .i64 0, .int .i64 0, .int .i64 0, .int .i64 0, .int .i64 0, .int .i64 0, .int .i64 0, .int .i64 0, .int .i64 0, .int .i64 0, .int .i64 0, .int .i64 0, .int .i64 0, .int .i64 0, .int .i64 0, .int .i64 0, .int .i64 0, .int .i64 0, .int .i64 0, .int .i64 0, .int .i64 0, .int .i64 0, .int .i64 0, .int .i64 0, .int .i64 0, .int .i64 0, .int .i64 0, .int .i64 0, .int .i64 0, .int .i64 0, .int .i64 0, .int .i64 0, .int .i64 0, .int .i64 0, .int .i64 0, .int .i64 0, .int .i64 0, .int .i64 0, .int .i64 0, .int .i64 0, .int .i64 0, .int .i64 0, .int .i64 0, .int .i64 0, .int .i64 0, .int .i64 0, .int .i64 0, .int .i64 0, .int .i64 0, .int .i64 0, .int .i64 0, .int .i64 0, .int .i64 0, .int .i64 0, .int .i64 0, .int .i64 0, .int .i64 0, .int .i64 0, .int .i64 0, .int .i64 0, .int .i64 0, .int .i64 0, .int .i64 0, .int .i64 0, .int .i64 0, .int .i64 0, .int .i64 0]) u := fun u => by kernel_rfl
  have hd1 : decide ((n : Int) < 34) = false := decide_eq_false (by omega)
  have hd2 : decide (128 < (n : Int)) = false := decide_eq_false (by omega)
  go_enter Tryz.func35, Tryz.ntmps35
  go_wp2
  obtain ⟨w0, hw0⟩ : ∃ x, x = (w.alloc (.cells (madeCells #[.bool false] n) 4)).alloc (.cells #[.int .i64 0, .int .i64 0, .int .i64 0, .int .i64 0, .int .i64 0, .int .i64 0, .int .i64 0, .int .i64 0, .int .i64 0, .int .i64 0, .int .i64 0, .int .i64 0, .int .i64 0, .int .i64 0, .int .i64 0, .int .i64 0, .int .i64 0, .int .i64 0, .int .i64 0, .int .i64 0, .int .i64 0, .int .i64 0, .int .i64 0, .int .i64 0, .int .i64 0, .int .i64 0, .int .i64 0, .int .i64 0, .int .i64 0, .int .i64 0, .int .i64 0, .int .i64 0, .slice (some ⟨w.heap.size, 0, none⟩) n n, .int .i64 0, .int .i64 0, .int .i64 0, .int .i64 0, .int .i64 0, .int .i64 0, .int .i64 0, .int .i64 0, .int .i64 0, .int .i64 0, .int .i64 0, .int .i64 0, .int .i64 0, .int .i64 0, .int .i64 0, .int .i64 0, .int .i64 0, .int .i64 0, .int .i64 0, .int .i64 0, .int .i64 0, .int .i64 0, .int .i64 0, .int .i64 0, .int .i64 0, .int .i64 0, .int .i64 0, .int .i64 0, .int .i64 0, .int .i64 0, .int .i64 0, .int .i64 0, .int .i64 0, .int .i64 0, .int .i64 0, .int .i64 0, .int .i64 0, .int .i64 0, .int .i64 0, .int .i64 0, .int .i64 0, .int .i64 0, .int .i64 0, .int .i64 0, .int .i64 0, .int .i64 0, .int .i64 0, .int .i64 0, .int .i64 0, .int .i64 0, .int .i64 0, .int .i64 0, .int .i64 0, .int .i64 0, .int .i64 0, .int .i64 0, .int .i64 0, .int .i64 0, .int .i64 0, .int .i64 0, .int .i64 0, .int .i64 0, .int .i64 0, .int .i64 0, .int .i64 0, .int .i64 0, .int .i64 0, .int .i64 0, .int .i64 0, .int .i64 0, .int .i64 0, .int .i64 0, .int .i64 0, .int .i64 0, .int .i64 0, .int .i64 0, .int .i64 0, .int .i64 0, .int .i64 0, .int .i64 0, .int .i64 0, .int .i64 0, .int .i64 0, .int .i64 0, .int .i64 0, .int .i64 0, .int .i64 0, .int .i64 0, .int .i64 0, .int .i64 0, .int .i64 0, .int .i64 0, .int .i64 0, .int .i64 0, .int .i64 0, .int .i64 0, .int .i64 0, .int .i64 0, .int .i64 0, .int .i64 0, .int .i64 0, .int .i64 0, .int .i64 0, .int .i64 0, .int .i64 0, .int .i64 0, .int .i64 0, .int .i64 0, .int .i64 0, .int .i64 0, .int .i64 0, .int .i64 0, .int .i64 0, .int .i64 0, .int .i64 0, .int .i64 0, .int .i64 0, .int .i64 0, .int .i64 0, .int .i64 0, .int .i64 0, .int .i64 0, .int .i64 0, .int .i64 0, .int .i64 0, .int .i64 0, .int .i64 0, .int .i64 0, .int .i64 0, .int .i64 0] 186) := ⟨_, rfl⟩
  rw [← hw0]
  obtain ⟨a1, a2, a3⟩ := made_T n w w0 hw0
  clear hw0 hz hmk
  have A1 := Hid.in a1
  have A2 := Hid.in a2
  have A3 := Hid.in a3
  clear a1 a2 a3
  obtain ⟨p, hp⟩ : ∃ p, p = w.heap.size + 1 := ⟨_, rfl⟩
  obtain ⟨h, hh⟩ : ∃ h, h = w.heap.size := ⟨_, rfl⟩
  rw [← hp] at A1 ⊢
  rw [← hh] at A1 A2 ⊢
  have HP := Hid.in hp
  have HH := Hid.in hh
  clear hp hh
  go_loopw [18] (fun v wr => ∃ k : Nat, v = .int .i64 k ∧ k ≤ 32 ∧ CellsAt 163 wr p (encT (fun o => if o < k then o else 0) (fun _ => 0) 0 0 h n) ∧ Turned (· = p) w0 wr) (fun v _ => 33 - (intOf v).toNat)
  case atStart => exact ⟨0, rfl, by omega, A1.out, Turned.refl _ _⟩
  case round =>
    obtain ⟨k, rfl, hk, hc, ht⟩ := hrel
    have c3 := hc.here
    have c4 := hc.free
    by_cases hk2 : k < 32
    · have ck : wr.cell? ⟨p, k, none⟩ = some (.int .i64 0) := by
        rw [CT.atName hc k hk2, if_neg (by omega)]
        rfl
      have HC := Hid.in hc
      have HT := Hid.in ht
      clear hc ht A1
      go_wp2
      go_roundw
      case rel => exact ⟨k + 1, by go_num, by omega, name_step hk2 HC.out, HT.out.set rfl _ _⟩
      case measure => simp [intOf]; omega
    · have hk3 : k = 32 := by omega
      have hc2 : CellsAt 163 wr p (encT (fun o => o) (fun _ => 0) 0 0 h n) := by
        rw [hk3] at hc
        exact name_end hc
      have HC := Hid.in hc2
      clear hc2 hk3
      have HT := Hid.in ht
      clear hc ht A1 c3 c4
      go_wp2
      go_loopw [30] (fun v wr' => ∃ j : Nat, v = .int .i64 j ∧ j ≤ n - 32 ∧ ∃ ring, Ring ring 0 ((List.range j).map (32 + ·)) ∧ CellsAt 163 wr' p (encT (fun o => o) ring 0 j h n) ∧ Turned (· = p) w0 wr') (fun v _ => n - (intOf v).toNat)
      case atStart => exact ⟨0, rfl, by omega, _, ⟨by omega, by simp, fun k hk => by simp at hk⟩, HC.out, HT.out⟩
      case round =>
        obtain ⟨j, rfl, hj, ring, hr, hc, ht⟩ := hrel
        have c3 := hc.here
        have HC2 := Hid.in hc
        have HT2 := Hid.in ht
        have HR2 := Hid.in hr
        clear hc ht hr HC HT
        by_cases hj2 : j < n - 32
        · have HJ := Hid.in hj2
          have hjn : (j : Int) < (n : Int) - 32 := by omega
          have HX : Hid ((32 : Int) + (j : Int) = ((32 + j : Nat) : Int)) := by show _ = _; omega
          have hj4 : (j : Int) ≤ 96 := by omega
          go_wp2_with (go_at_call 61; rw [HX.out]; refine (addLast_any p h n (fun o => o) ring 0 j (32 + j) _ (by omega) (by have := HJ.out; omega) HC2.out).mono ?_; rintro e w2 ⟨rfl, hC3, hT3⟩)
          go_roundw
          case rel =>
            refine ⟨j + 1, by go_num, by have := HJ.out; omega, _, ?_, hC3, HT2.out.trans hT3⟩
            have q := HR2.out.push (by have := HJ.out; simp; omega) (32 + j)
            rw [List.length_map, List.length_range] at q
            rw [List.range_succ, List.map_append]
            exact q
          case measure => have := HJ.out; simp [intOf]; omega
        · have hj3 : j = n - 32 := by omega
          subst hj3
          have hjn : ¬ ((n - 32 : Nat) : Int) < (n : Int) - 32 := by omega
          go_wp2
          have hp := HP.out
          have hh := HH.out
          subst hp hh
          refine bodyPost_ret (v := .tuple #[.pointer (some ⟨w.heap.size + 1, 0, none⟩), .nilIface]) (by simp [results, Tryz.results35, go_sem]) rfl ⟨rfl, ⟨⟨ring, 0, HR2.out, ?_⟩, ?_, by omega⟩, ?_⟩
          · show CellsAt 163 _ _ (encT (fun o => o) ring 0 ((List.range (n - 32)).map (32 + ·)).length w.heap.size n)
            rw [List.length_map, List.length_range]
            exact HC2.out
          · exact HT2.out.cells A2.out (by show ¬ w.heap.size = w.heap.size + 1; omega)
          · exact A3.out.trans (HT2.out.below (by have := A3.out.size; omega) (by rintro k rfl; omega))
end Go.Proofs.YtemamhkhjijdlaaGreatDoor
