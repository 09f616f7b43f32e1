/-
  PREDICT: how counters are made.
-/
import Derived.Test.YtaioaakaffafoaaDoorDj
import Derived.Laws.MakeOwn
import Derived.OwnWalk
namespace Go.Proofs.YtaioaakaffafoaaDoor
open Go Go.RowKit
theorem make_run {P : Program} (t e : TypeId) (z : Value) (bytes : Nat) (ht : P.underlying t = some (.slice e)) (hi : (P.info? e).map (fun i => (i.zero, i.size, i.bytes)) = some (some z, 1, bytes)) (hz : z.cells = #[z]) (n : Nat) (hb : (bytes : Int) * n ≤ 281474976710656) (hn : n ≤ 9223372036854775807) : ∀ u : World, (Instr.makeSlice t (.int .i64 n) (.int .i64 n)).run P u = .ok (.slice (some ⟨u.heap.size, 0, none⟩) n n) (u.alloc (.cells (madeCells #[z] n) e)) := fun u => by
  obtain ⟨i, h1, h2, h3, h4⟩ := info_parts hi
  have q := run_make (P := P) u t e i z ht h1 h2 .i64 .i64 n n (by omega) (Int.le_refl _) (by rw [h4]; exact hb) (by omega)
  simpa [h3, hz] using q
theorem made_cell (z : Value) (n i : Nat) (h : i < n) : (madeCells #[z] n)[i]? = some z := by
  simp [madeCells, h, Nat.mod_one]
theorem shl_is (k : Nat) (h : k ≤ 10) (m : Nat) (hm : m = 2 ^ k) : wrap64 ((2 : Int) ^ min k 64) = (m : Int) := by
  subst hm
  rw [Nat.min_eq_left (by omega)]
  have : k = 0 ∨ k = 1 ∨ k = 2 ∨ k = 3 ∨ k = 4 ∨ k = 5 ∨ k = 6 ∨ k = 7 ∨ k = 8 ∨ k = 9 ∨ k = 10 := by omega
  rcases this with rfl | rfl | rfl | rfl | rfl | rfl | rfl | rfl | rfl | rfl | rfl <;> decide +kernel
theorem pow_le10 (k : Nat) (h : k ≤ 10) : 1 ≤ 2 ^ k ∧ 2 ^ k ≤ 1024 := ⟨Nat.one_le_two_pow, Nat.pow_le_pow_right (n := 2) (by omega) h⟩
set_option maxRecDepth 20000 in
set_option maxHeartbeats 400000 in
theorem newCounted_any (bits nc : Nat) (hnc : nc = 2 ^ bits) (w : World) (h2 : bits ≤ 10) : Calls Tryd.prog 33 #[.int .i64 bits] w fun e w' => e = .returned (.agg #[.slice (some ⟨w.heap.size + 1, 0, none⟩) nc nc]) ∧ CellsAt nc w' (w.heap.size + 1) (fun _ => .int .u8 1) ∧ Below w.heap.size w w' := by
  have hsh := shl_is bits h2 nc hnc
  obtain ⟨b1, b2⟩ : 1 ≤ nc ∧ nc ≤ 1024 := hnc ▸ pow_le10 bits h2
  have hmk := make_run (P := Tryd.prog) 97 5 (.int .u8 0) 1 Tryd.underlying97 (by kernel_rfl) rfl nc (by omega) (by omega)
  clear hnc h2
  go_enter Tryd.func33, Tryd.ntmps33
  go_wp2
  obtain ⟨w0, hw0⟩ : ∃ x, x = (((w.alloc (.cells #[.slice none 0 0] 99)).alloc (.cells (madeCells #[.int .u8 0] nc) 5)).alloc (.cells #[.slice (some ⟨w.heap.size + 1, 0, none⟩) nc nc] 99)) := ⟨_, rfl⟩
  rw [← hw0]
  obtain ⟨A1, A2, A3, A4⟩ : Hid (CellsAt nc w0 (w.heap.size + 1) (fun _ => .int .u8 0)) ∧ Hid (CellsAt 1 w0 (w.heap.size + 1 + 1) (fun _ => .slice (some ⟨w.heap.size + 1, 0, none⟩) nc nc)) ∧ Hid (CellsAt 1 w0 w.heap.size (fun _ => .slice none 0 0)) ∧ Hid (Below w.heap.size w w0) := by
    subst hw0
    refine ⟨?_, ?_, ?_, (((Below.refl _ _).alloc (Nat.le_refl _) _).alloc (by simp) _).alloc (by simp; omega) _⟩
    · have q := cells_new (t := 5) (w.alloc (.cells #[.slice none 0 0] 99)) (made_cell (.int .u8 0) nc)
      rw [World.size_alloc] at q
      exact q.alloc _
    · have q := cells_new (n := 1) (g := fun _ => .slice (some ⟨w.heap.size + 1, 0, none⟩) nc nc) (t := 99) (c := #[.slice (some ⟨w.heap.size + 1, 0, none⟩) nc nc]) ((w.alloc (.cells #[.slice none 0 0] 99)).alloc (.cells (madeCells #[.int .u8 0] nc) 5)) (fun i hi => by
        have : i = 0 := by omega
        subst this; rfl)
      rw [World.size_alloc, World.size_alloc] at q
      exact q
    · exact ((cells_new (n := 1) (g := fun _ => .slice none 0 0) (t := 99) (c := #[.slice none 0 0]) w (fun i hi => by
        have : i = 0 := by omega
        subst this; rfl)).alloc _).alloc _
  obtain ⟨g, hg⟩ : ∃ g, g = w.heap.size + 1 := ⟨_, rfl⟩
  obtain ⟨c, hc⟩ : ∃ c, c = w.heap.size + 1 + 1 := ⟨_, rfl⟩
  obtain ⟨r, hr⟩ : ∃ r, r = w.heap.size := ⟨_, rfl⟩
  have n1 : ¬ c = g := by omega
  have n2 : ¬ g = c := by omega
  have n3 : ¬ r = g := by omega
  have n4 : ¬ r = c := by omega
  have HG : Hid (w.heap.size ≤ g ∧ w.heap.size ≤ r) := by show _ ∧ _; omega
  have HWS : Hid (w.heap.size ≤ w0.heap.size) := A4.out.size
  rw [← hc, ← hg] at A2
  rw [← hc, ← hg, ← hr]
  rw [← hg] at A1
  rw [← hr] at A3
  have HGG := Hid.in hg
  clear hg hc hr hw0 hmk hsh
  go_loopw [12] (fun v wr => ∃ k : Nat, v = .int .i64 k ∧ k ≤ nc ∧ CellsAt nc wr g (fun o => .int .u8 (if o < k then 1 else 0)) ∧ Turned (· = g) w0 wr) (fun v _ => nc + 1 - (intOf v).toNat)
  case atStart => exact ⟨0, rfl, by omega, A1.out.ext (fun o ho => by simp), Turned.refl _ _⟩
  case round =>
    obtain ⟨k, rfl, hk, hcl, ht⟩ := hrel
    have hC := ht.cells A2.out (by show ¬ c = g; exact n1)
    have hR := ht.cells A3.out (by show ¬ r = g; exact n3)
    have c0 : wr.cell? ⟨c, 0, none⟩ = some (.slice (some ⟨g, 0, none⟩) nc nc) := hC.cell 0 (by decide)
    have c9 := hC.here
    have r0 : wr.cell? ⟨r, 0, none⟩ = some (.slice none 0 0) := hR.cell 0 (by decide)
    have r9 := hR.here
    have rf := hR.free
    have g9 := hcl.here
    have gf := hcl.free
    have HC := Hid.in hcl
    have HT := Hid.in ht
    by_cases hk2 : k < nc
    · have ck : wr.cell? ⟨g, k, none⟩ = some (.int .u8 0) := by
        rw [hcl.cell k hk2, if_neg (by omega)]
      clear hcl ht hC hR
      go_wp2
      go_roundw
      case rel =>
        refine ⟨k + 1, by go_num, by omega, ?_, HT.out.set rfl _ _⟩
        refine (HC.out.set k hk2 _).ext fun o ho => ?_
        show (if o = k then _ else _) = _
        by_cases q : o = k
        · subst q; simp
        · by_cases q2 : o < k
          · rw [if_neg q]; show Value.int _ (if o < k then _ else _) = _; rw [if_pos q2, if_pos (by omega)]
          · rw [if_neg q]; show Value.int _ (if o < k then _ else _) = _; rw [if_neg q2, if_neg (by omega)]
      case measure => simp [intOf]; omega
    · have hk3 : k = nc := by omega
      have HK3 := Hid.in hk3
      clear hcl ht hC hR hk3
      go_wp2
      refine bodyPost_ret (v := .agg #[.slice (some ⟨g, 0, none⟩) nc nc]) (by simp [results, Tryd.results33, go_sem, *]) rfl ⟨by rw [HGG.out], ?_, ?_⟩
      · have q : CellsAt nc wr g (fun _ => .int .u8 1) := HC.out.ext fun o ho => by
          rw [if_pos (by have := HK3.out; omega)]
        rw [← HGG.out]
        exact q.setOther _ _ (fun e => n3 e.symm)
      · exact (A4.out.trans (HT.out.below (B := w.heap.size) HWS.out (by rintro k rfl; exact HG.out.1))).setCell (p := ⟨r, 0, none⟩) HG.out.2 _
end Go.Proofs.YtaioaakaffafoaaDoor
