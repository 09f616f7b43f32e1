/-
  THE PROGRAM's READING OF A WORD: read, Decode.
-/
import Derived.Test.YtnlagbiikpbjdaaGreatDoorWg
import Derived.Deep.RegionHeld3
namespace Go.Proofs.YtnlagbiikpbjdaaGreatDoor
open Go Go.RowKit
def regZ (b : Bool) (y : Int) : Int := if b then y % 32 else 0
theorem register_int (b : Bool) (y : Int) (h0 : 0 ≤ y) (h1 : y < 4294967296) (w : World) : Calls Tryz.prog 126 #[.bool b, .int .u32 y] w fun e w' => e = .returned (.int .i64 (regZ b y)) ∧ w' = w := by
  obtain ⟨n, rfl⟩ : ∃ n : Nat, y = n := ⟨y.toNat, by omega⟩
  have e : regZ b n = regI b n := by unfold regZ regI; split <;> simp
  rw [e]
  exact register_any b n (by omega) w
def rdI (f x : Nat) : Int := regZ (lyRd f) ((x : Int) / 128)
def rs1I (f x : Nat) : Int := regZ (lyRs1 f) ((x : Int) / 32768)
def rs2I (f x : Nat) : Int := regZ (lyRs2 f) ((x : Int) / 1048576)
theorem keep2 {w w2 : World} {c d : Array Value} {t u : TypeId} (hb : Below ((w.alloc (.cells c t)).alloc (.cells d u)).drew.heap.size ((w.alloc (.cells c t)).alloc (.cells d u)).drew w2) :
    (∀ i, w2.cell? ⟨w.heap.size, i, none⟩ = c[i]?) ∧ (∀ i, w2.frozen? ⟨w.heap.size, i, none⟩ = false) ∧ (∀ i, w2.cell? ⟨w.heap.size + 1, i, none⟩ = d[i]?) ∧ w.heap.size < w2.heap.size ∧ Below w.heap.size w w2 := by
  have hs := hb.size
  simp only [World.size_alloc, show ∀ w : World, w.drew.heap = w.heap from fun _ => rfl] at hs
  refine ⟨fun i => ?_, fun i => ?_, fun i => ?_, by omega, ?_⟩
  · rw [hb.cell (p := ⟨w.heap.size, i, none⟩) (by show w.heap.size < _; simp only [World.size_alloc, show ∀ w : World, w.drew.heap = w.heap from fun _ => rfl]; omega)]
    exact World.cell?_alloc2_first c t _ i
  · rw [hb.frozen (p := ⟨w.heap.size, i, none⟩) (by show w.heap.size < _; simp only [World.size_alloc, show ∀ w : World, w.drew.heap = w.heap from fun _ => rfl]; omega)]
    have h1 : ((w.alloc (.cells c t)).alloc (.cells d u)).frozen? ⟨w.heap.size, i, none⟩ = (w.alloc (.cells c t)).frozen? ⟨w.heap.size, i, none⟩ := by simp [go_sem]
    show ((w.alloc (.cells c t)).alloc (.cells d u)).frozen? ⟨w.heap.size, i, none⟩ = false
    rw [h1, World.frozen?_alloc_at c t _ i rfl]
  · rw [hb.cell (p := ⟨w.heap.size + 1, i, none⟩) (by show w.heap.size + 1 < _; simp only [World.size_alloc, show ∀ w : World, w.drew.heap = w.heap from fun _ => rfl]; omega)]
    exact World.cell?_alloc2_new _ d u i
  · exact ((((Below.refl _ _).alloc (Nat.le_refl _) _).alloc (by simp) _).drew).trans (hb.mono (by simp only [World.size_alloc, show ∀ w : World, w.drew.heap = w.heap from fun _ => rfl]; omega))
set_option maxHeartbeats 1000000 in
theorem read_any (f : Nat) (hf : f < 15) (x : Nat) (hx : x < 4294967296) (w : World) (hL : Laid w) : Calls Tryz.prog 100 #[.int .i64 f, .int .u32 x] w fun e w' => e = .returned (.agg #[.int .i64 0, .int .i64 (rdI f x), .int .i64 (rs1I f x), .int .i64 (rs2I f x), .int .i64 (immI f x)]) ∧ Below w.heap.size w w' := by
  have c0 := hL.l0 f hf
  have c1 := hL.l1 f hf
  have c2 := hL.l2 f hf
  have c3 := hL.l3 f hf
  have c4 := hL.l4 f hf
  have c5 := hL.l5 f hf
  have c6 := hL.l6 f hf
  have c7 := hL.l7 f hf
  have c8 := hL.l8 f hf
  have z2 : 3 < w.heap.size := hL.zl
  have HL : Hid (∀ o p, Laid ((w.alloc o).alloc p).drew) := fun o p => ((hL.alloc o).alloc p).drew
  clear hL
  go_enter Tryz.func100, Tryz.ntmps100
  go_wp2_with fail
  clear c0 c1 c2 c3 c4 c5 c6 c7 c8 z2
  go_region_held3 (fun w' => w'.cell? ⟨w.heap.size + 1, 2, none⟩ = some (.bool (lyRd f)) ∧ w'.cell? ⟨w.heap.size + 1, 3, none⟩ = some (.bool (lyRs1 f)) ∧ w'.cell? ⟨w.heap.size + 1, 4, none⟩ = some (.bool (lyRs2 f))) (go_keep) (first | (go_at_call 127; refine (number_any f hf x hx _ (HL.out _ _)).mono ?_; rintro e w2 ⟨rfl, hb2⟩; obtain ⟨k1, k2, k5, k3, k4⟩ := keep2 hb2; clear hb2) | (go_at_call 126; refine (register_int _ _ (by omega) (by omega) _).mono ?_; rintro e w1 ⟨rfl, rfl⟩))
  go_wp2
  refine bodyPost_ret (v := .agg #[.int .i64 0, .int .i64 (rdI f x), .int .i64 (rs1I f x), .int .i64 (rs2I f x), .int .i64 (immI f x)]) (by simp [results, Tryz.results100, go_sem, k1, rdI, rs1I, rs2I]) rfl ⟨rfl, ?_⟩
  exact ((((k4.setCell (Nat.le_refl _) _).setCell (Nat.le_refl _) _).setCell (Nat.le_refl _) _).setCell (Nat.le_refl _) _).setCell (Nat.le_refl _) _
end Go.Proofs.YtnlagbiikpbjdaaGreatDoor
