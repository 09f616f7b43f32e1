/-
  WINDOW: New; Enter of what does not go in.
-/
import Derived.Test.YtckglpmjaplcnaaDoorVl
import Derived.Laws.MakeOwn
import Derived.OwnWalk
namespace Go.Proofs.YtckglpmjaplcnaaDoor
open Go Go.RowKit
theorem make_run {P : Program} (t e : TypeId) (z : Value) (bytes : Nat) (ht : P.underlying t = some (.slice e)) (hi : (P.info? e).map (fun i => (i.zero, i.size, i.bytes)) = some (some z, 1, bytes)) (hz : z.cells = #[z]) (n : Nat) (hb : (bytes : Int) * n ≤ 281474976710656) (hn : n ≤ 9223372036854775807) : ∀ u : World, (Instr.makeSlice t (.int .i64 n) (.int .i64 n)).run P u = .ok (.slice (some ⟨u.heap.size, 0, none⟩) n n) (u.alloc (.cells (madeCells #[z] n) e)) := fun u => by
  obtain ⟨i, h1, h2, h3, h4⟩ := info_parts hi
  have q := run_make (P := P) u t e i z ht h1 h2 .i64 .i64 n n (by omega) (Int.le_refl _) (by rw [h4]; exact hb) (by omega)
  simpa [h3, hz] using q
theorem made_cell (z : Value) (n i : Nat) (h : i < n) : (madeCells #[z] n)[i]? = some z := by
  simp [madeCells, h, Nat.mod_one]
def newW (n r : Nat) : WS := ⟨n, 0, [], r, fun _ => false⟩
set_option maxHeartbeats 1000000 in
theorem new_good (n r : Nat) (w : World) (hn : 2 ≤ n ∧ n ≤ 64) (hr : 34 ≤ r ∧ r ≤ 128) : Calls Tryd.prog 5 #[.int .i64 n, .int .i64 r] w fun e w' => e = .returned (.tuple #[.pointer (some ⟨w.heap.size + 1, 0, none⟩), .nilIface]) ∧ Win w' w.heap.size (w.heap.size + 1) w.heap.size r (.slice none 0 0) (newW n r) ∧ Below w.heap.size w w' := by
  have hmk := make_run (P := Tryd.prog) 36 4 (.bool false) 1 Tryd.underlying36 (by kernel_rfl) rfl r (by omega) (by omega)
  have g1 : decide ((n : Int) < 2) = false := by simp; omega
  have g2 : decide ((n : Int) > 64) = false := by simp; omega
  have g3 : decide ((r : Int) < 34) = false := by simp; omega
  obtain ⟨hn1, hn2⟩ := hn
  obtain ⟨hr1, hr2⟩ := hr
  go_enter Tryd.func5, Tryd.ntmps5
  go_wp2
  go_ret2
  refine ⟨rfl, ?_, ((Below.refl _ w).alloc (Nat.le_refl _) _).alloc (by simp) _⟩
  have c1 : CellsAt r (w.alloc (.cells (madeCells #[.bool false] r) 4)) w.heap.size (fun o => .bool ((fun _ => false) o)) := cells_new w fun i hi => made_cell _ _ _ hi
  have c2 := cells_new (n := 4) (c := #[.int .i64 n, .int .i64 0, .slice none 0 0, .slice (some ⟨w.heap.size, 0, none⟩) r r]) (t := 71) (g := wv n 0 (.slice none 0 0) w.heap.size r r) (w.alloc (.cells (madeCells #[.bool false] r) 4)) (fun i hi => by
    match i, hi with
    | 0, _ => rfl
    | 1, _ => rfl
    | 2, _ => rfl
    | 3, _ => rfl)
  rw [World.size_alloc] at c2
  exact ⟨c2, World.ownsRow_nil _ _ _ _, c1.alloc _, by omega, by simp [Value.ownBlock], by simp [Value.ownBlock], ⟨by simp [newW], hr2, by simp [newW], hn2⟩, ⟨by omega, Nat.le_refl _⟩, fun i hi => by simp [newW] at hi⟩
set_option maxRecDepth 100000 in
set_option maxHeartbeats 1000000 in
theorem enter_full (B p h c : Nat) (v : Value) (S : WS) (cl s1 s2 d : Int) (w : World) (k : Win w B p h c v S) (hc : 0 ≤ cl ∧ cl ≤ 7) (h1 : -1 ≤ s1 ∧ s1 < S.nr) (h2 : -1 ≤ s2 ∧ s2 < S.nr) (h3 : -1 ≤ d ∧ d < S.nr) (hroom : S.size ≤ S.on.length) :
    Calls Tryd.prog 8 #[.pointer (some ⟨p, 0, none⟩), .agg #[.int .i64 cl, .int .i64 s1, .int .i64 s2, .int .i64 d]] w fun e w' => e = .returned (.tuple #[.int .i64 0, errV 4]) ∧ Below w.heap.size w w' := by
  obtain ⟨q, cap, hv, hcap, hel⟩ := own_ents k.l
  clear hel
  have hs := k.small
  have hp := k.c.here
  have hb0 : Below w.heap.size w (w.alloc (.cells #[.int .i64 cl, .int .i64 s1, .int .i64 s2, .int .i64 d] 43)) := (Below.refl _ w).alloc (Nat.le_refl _) _
  have k0 := k.below hb0
  have HK0 := Hid.in k0
  have HB0 := Hid.in hb0
  have HV := Hid.in hv
  have tc : decide (0 ≤ cl ∧ cl ≤ 7) = true := by simp [hc]
  have t1 : decide (-1 ≤ s1 ∧ s1 < S.nr) = true := by simp [h1]
  have t2 : decide (-1 ≤ s2 ∧ s2 < S.nr) = true := by simp [h2]
  have t3 : decide (-1 ≤ d ∧ d < S.nr) = true := by simp [h3]
  have TC := Hid.in tc
  have T1 := Hid.in t1
  have T2 := Hid.in t2
  have T3 := Hid.in t3
  unfold errV
  clear k k0 hb0 hc h1 h2 h3 tc t1 t2 t3 hv
  go_enter Tryd.func8, Tryd.ntmps8
  go_wp2_with (first
    | (go_at_call 28; refine (isClass_any cl _).mono ?_; rintro e w1 ⟨rfl, rfl⟩; rw [TC.out])
    | (go_at_call 29; refine (isOperand_any B p h c v S _ _ HK0.out).mono ?_; rintro e w1 ⟨rfl, rfl⟩; first | rw [T1.out] | rw [T2.out] | rw [T3.out]))
  obtain ⟨hpX, q0, q1, q2, q3, qf⟩ := HK0.out.cells
  have hv := HV.out
  rw [hv] at q2
  clear qf hv
  go_quiet (fail)
  go_wp2
  go_ret2
  exact ⟨rfl, HB0.out.trans ⟨rfl, rfl, rfl, Nat.le_refl _, fun _ _ => rfl⟩⟩
end Go.Proofs.YtckglpmjaplcnaaDoor
