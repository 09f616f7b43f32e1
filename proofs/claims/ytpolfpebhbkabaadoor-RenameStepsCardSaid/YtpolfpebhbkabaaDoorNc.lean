/-
  RENAME: the program's ring of free names.
-/
import Derived.Test.YtpolfpebhbkabaaDoorNb
namespace Go.Proofs.YtpolfpebhbkabaaDoor
open Go Go.RowKit
theorem tmod128 (a b : Nat) : ((a : Int) + (b : Int)).tmod 128 = (((a + b) % 128 : Nat) : Int) := by
  rw [Int.tmod_eq_emod_of_nonneg (by omega)]; omega
theorem CT.name {w : World} {p h n : Nat} {name ring : Nat → Nat} {first len : Nat} (hc : CellsAt 163 w p (encT name ring first len h n)) (r v : Nat) (hr : r < 32) : CellsAt 163 (w.setCell ⟨p, r, none⟩ (.int .i64 v)) p (encT (upd name r v) ring first len h n) :=
  (hc.set r (by omega) _).to (encT_name _ _ _ _ _ _ _ _ hr)
theorem CT.ring {w : World} {p h n : Nat} {name ring : Nat → Nat} {first len : Nat} (hc : CellsAt 163 w p (encT name ring first len h n)) (r v : Nat) (hr : r < 128) : CellsAt 163 (w.setCell ⟨p, 33 + r, none⟩ (.int .i64 v)) p (encT name (upd ring r v) first len h n) :=
  (hc.set (33 + r) (by omega) _).to (encT_ring _ _ _ _ _ _ _ _ hr)
theorem CT.first {w : World} {p h n : Nat} {name ring : Nat → Nat} {first len : Nat} (hc : CellsAt 163 w p (encT name ring first len h n)) (v : Nat) : CellsAt 163 (w.setCell ⟨p, 161, none⟩ (.int .i64 v)) p (encT name ring v len h n) :=
  (hc.set 161 (by omega) _).to (encT_first _ _ _ _ _ _ _)
theorem CT.len {w : World} {p h n : Nat} {name ring : Nat → Nat} {first len : Nat} (hc : CellsAt 163 w p (encT name ring first len h n)) (v : Nat) : CellsAt 163 (w.setCell ⟨p, 162, none⟩ (.int .i64 v)) p (encT name ring first v h n) :=
  (hc.set 162 (by omega) _).ext (encT_len _ _ _ _ _ _ _)
theorem CT.atName {w : World} {p h n : Nat} {name ring : Nat → Nat} {first len : Nat} (hc : CellsAt 163 w p (encT name ring first len h n)) (r : Nat) (hr : r < 32) : w.cell? ⟨p, r, none⟩ = some (.int .i64 (name r)) := by
  rw [hc.cell r (by omega)]
  unfold encT
  rw [if_pos hr]
theorem CT.atRing {w : World} {p h n : Nat} {name ring : Nat → Nat} {first len : Nat} (hc : CellsAt 163 w p (encT name ring first len h n)) (r : Nat) (hr : r < 128) : w.cell? ⟨p, 33 + r, none⟩ = some (.int .i64 (ring r)) := by
  rw [hc.cell (33 + r) (by omega)]
  unfold encT
  rw [if_neg (by omega), if_neg (by omega), if_pos (by omega)]
  simp
set_option maxHeartbeats 1000000 in
theorem addLast_any (p h n : Nat) (name ring : Nat → Nat) (first len x : Nat) (w : World) (hf : first < 128) (hl : len < 128) (hc : CellsAt 163 w p (encT name ring first len h n)) : Calls Tryd.prog 44 #[.pointer (some ⟨p, 33, none⟩), .int .i64 x] w fun e w' => e = .returned (.tuple #[]) ∧ CellsAt 163 w' p (encT name (upd ring ((first + len) % 128) x) first (len + 1) h n) ∧ Turned (· = p) w w' := by
  obtain ⟨k, hk⟩ : ∃ k, (first + len) % 128 = k := ⟨_, rfl⟩
  have hk2 : k < 128 := by omega
  have hm := tmod128 first len
  rw [hk] at hm ⊢
  have cf : w.cell? ⟨p, 161, none⟩ = some (.int .i64 first) := hc.cell 161 (by decide)
  have cl : w.cell? ⟨p, 162, none⟩ = some (.int .i64 len) := hc.cell 162 (by decide)
  have ck := CT.atRing hc k hk2
  have h3 := hc.here
  have h4 := hc.free
  have HH := Hid.in hc
  clear hc hk
  go_enter Tryd.func44, Tryd.ntmps44
  go_wp2
  go_region
  go_wp2
  refine bodyPost_end (results_none Tryd.results44 _ _ _) rfl ⟨rfl, ?_, ?_⟩
  · exact (CT.len (CT.ring HH.out k x hk2) (len + 1)).drew
  · exact (((Turned.refl (· = p) w).set rfl _ _).set rfl _ _).drew
set_option maxHeartbeats 1000000 in
theorem addFirst_any (p h n : Nat) (name ring : Nat → Nat) (first len x : Nat) (w : World) (hf : first < 128) (hl : len < 128) (hc : CellsAt 163 w p (encT name ring first len h n)) : Calls Tryd.prog 48 #[.pointer (some ⟨p, 33, none⟩), .int .i64 x] w fun e w' => e = .returned (.tuple #[]) ∧ CellsAt 163 w' p (encT name (upd ring ((first + 127) % 128) x) ((first + 127) % 128) (len + 1) h n) ∧ Turned (· = p) w w' := by
  obtain ⟨k, hk⟩ : ∃ k, (first + 127) % 128 = k := ⟨_, rfl⟩
  have hk2 : k < 128 := by omega
  have hm : ((first : Int) + 128 - 1).tmod 128 = (k : Int) := by
    rw [Int.tmod_eq_emod_of_nonneg (by omega)]; omega
  rw [hk]
  have cf : w.cell? ⟨p, 161, none⟩ = some (.int .i64 first) := hc.cell 161 (by decide)
  have cl : w.cell? ⟨p, 162, none⟩ = some (.int .i64 len) := hc.cell 162 (by decide)
  have ck := CT.atRing hc k hk2
  have h3 := hc.here
  have h4 := hc.free
  have HH := Hid.in hc
  clear hc hk
  go_enter Tryd.func48, Tryd.ntmps48
  go_wp2
  go_region
  go_wp2
  refine bodyPost_end (results_none Tryd.results48 _ _ _) rfl ⟨rfl, ?_, ?_⟩
  · exact (CT.len (CT.ring (CT.first HH.out k) k x hk2) (len + 1)).drew
  · exact ((((Turned.refl (· = p) w).set rfl _ _).set rfl _ _).set rfl _ _).drew
set_option maxHeartbeats 1000000 in
theorem takeFirst_any (p h n : Nat) (name ring : Nat → Nat) (first len : Nat) (w : World) (hf : first < 128) (hl : len < 128) (hc : CellsAt 163 w p (encT name ring first (len + 1) h n)) : Calls Tryd.prog 46 #[.pointer (some ⟨p, 33, none⟩)] w fun e w' => e = .returned (.int .i64 (ring first)) ∧ CellsAt 163 w' p (encT name ring ((first + 1) % 128) len h n) ∧ Turned (· = p) w w' := by
  obtain ⟨k, hk⟩ : ∃ k, (first + 1) % 128 = k := ⟨_, rfl⟩
  have hm : ((first : Int) + 1).tmod 128 = (k : Int) := by
    rw [Int.tmod_eq_emod_of_nonneg (by omega)]; omega
  rw [hk]
  have cf : w.cell? ⟨p, 161, none⟩ = some (.int .i64 first) := hc.cell 161 (by decide)
  have cl : w.cell? ⟨p, 162, none⟩ = some (.int .i64 (len + 1)) := hc.cell 162 (by decide)
  have ck := CT.atRing hc first hf
  have hs : (len : Int) + 1 - 1 = len := by omega
  have h3 := hc.here
  have h4 := hc.free
  have HH := Hid.in hc
  clear hc hk
  go_enter Tryd.func46, Tryd.ntmps46
  go_wp2
  go_region
  go_wp2
  go_ret
  refine ⟨rfl, ?_, ?_⟩
  · exact (CT.len (CT.first HH.out k) len).drew
  · exact (((Turned.refl (· = p) w).set rfl _ _).set rfl _ _).drew
end Go.Proofs.YtpolfpebhbkabaaDoor
