/-
  THE ANSWER: New, Enter, Retire.
-/
import Derived.Test.YtckglpmjaplcnaaDoorUe
namespace Go.Proofs.YtckglpmjaplcnaaDoor
open Go Go.RowKit
set_option maxHeartbeats 1000000 in
theorem rnew_bad (n r : Int) (w : World) (hn : ¬ ((2 ≤ n ∧ n ≤ 64) ∧ 34 ≤ r ∧ r ≤ 128)) : Calls Tryd.prog 6 #[.int .i64 n, .int .i64 r] w fun e w' => e = .returned (.tuple #[.pointer none, .int .i64 2]) ∧ w' = w := by
  have hu : undef = Value.tuple #[] := rfl
  by_cases h1 : n < 2
  · go_enter Tryd.func6, Tryd.ntmps6
    go_wp2
    go_ret2
    exact ⟨rfl, rfl⟩
  · have g1 : decide (n < 2) = false := by simp; omega
    by_cases h2 : n > 64
    · go_enter Tryd.func6, Tryd.ntmps6
      go_wp2
      go_ret2
      exact ⟨rfl, rfl⟩
    · have g2 : decide (n > 64) = false := by simp; omega
      by_cases h3 : r < 34
      · go_enter Tryd.func6, Tryd.ntmps6
        go_wp2
        go_ret2
        exact ⟨rfl, rfl⟩
      · have g3 : decide (r < 34) = false := by simp; omega
        have h4 : r > 128 := by omega
        clear hu
        go_enter Tryd.func6, Tryd.ntmps6
        go_wp2
        go_ret2
        exact ⟨rfl, rfl⟩
set_option maxHeartbeats 1000000 in
theorem rnew_good (n r : Nat) (w : World) (hn : 2 ≤ n ∧ n ≤ 64) (hr : 34 ≤ r ∧ r ≤ 128) : Calls Tryd.prog 6 #[.int .i64 n, .int .i64 r] w fun e w' => e = .returned (.tuple #[.pointer (some ⟨w.heap.size + 1, 0, none⟩), .int .i64 0]) ∧ RWin w' w.heap.size (w.heap.size + 1) w.heap.size r (.slice none 0 0) (newW n r) ∧ Below w.heap.size w w' := by
  have hmk := make_run (P := Tryd.prog) 36 4 (.bool false) 1 Tryd.underlying36 (by kernel_rfl) rfl r (by omega) (by omega)
  have g1 : decide ((n : Int) < 2) = false := by simp; omega
  have g2 : decide ((n : Int) > 64) = false := by simp; omega
  have g3 : decide ((r : Int) < 34) = false := by simp; omega
  obtain ⟨hn1, hn2⟩ := hn
  obtain ⟨hr1, hr2⟩ := hr
  have c1 : CellsAt r (w.alloc (.cells (madeCells #[.bool false] r) 4)) w.heap.size (fun o => .bool (decide (o < 0))) := cells_new w fun i hi => by rw [made_cell _ _ _ hi]; simp
  have c2 := cells_new (n := 4) (c := #[.int .i64 n, .int .i64 0, .slice none 0 0, .slice (some ⟨w.heap.size, 0, none⟩) r r]) (t := 38) (g := wv n 0 (.slice none 0 0) w.heap.size r r) (w.alloc (.cells (madeCells #[.bool false] r) 4)) (fun i hi => by
    match i, hi with
    | 0, _ => rfl
    | 1, _ => rfl
    | 2, _ => rfl
    | 3, _ => rfl)
  rw [World.size_alloc] at c2
  have HC1 := Hid.in (c1.alloc (.cells #[.int .i64 n, .int .i64 0, .slice none 0 0, .slice (some ⟨w.heap.size, 0, none⟩) r r] 38))
  have HC2 := Hid.in c2
  have HB : Hid (Below w.heap.size w ((w.alloc (.cells (madeCells #[.bool false] r) 4)).alloc (.cells #[.int .i64 n, .int .i64 0, .slice none 0 0, .slice (some ⟨w.heap.size, 0, none⟩) r r] 38))) := ((Below.refl _ w).alloc (Nat.le_refl _) _).alloc (by simp) _
  clear c1 c2
  go_enter Tryd.func6, Tryd.ntmps6
  go_wp2
  go_loopw [7] (fun kv wr => ∃ i : Nat, kv = .int .i64 i ∧ i ≤ r ∧ CellsAt r wr w.heap.size (fun o => .bool (decide (o < i))) ∧ CellsAt 4 wr (w.heap.size + 1) (wv n 0 (.slice none 0 0) w.heap.size r r) ∧ Below w.heap.size w wr) (fun kv _ => r + 1 - (intOf kv).toNat)
  case atStart => exact ⟨0, rfl, Nat.zero_le _, HC1.out, HC2.out, HB.out⟩
  case round =>
    obtain ⟨i, rfl, hi, k1, k2, hb⟩ := hrel
    have H1 := Hid.in k1
    have H2 := Hid.in k2
    have H3 := Hid.in hb
    have x3 : wr.cell? ⟨w.heap.size + 1, 3, none⟩ = some (.slice (some ⟨w.heap.size, 0, none⟩) r r) := k2.cell 3 (by omega)
    have hh := k1.here
    have hh2 := k2.here
    by_cases hlt : i < r
    · have x4 : wr.cell? ⟨w.heap.size, i, none⟩ = some (.bool (decide (i < i))) := k1.cell i hlt
      have f4 := k1.free i
      clear k1 k2 hb hmk
      go_wp2
      go_roundw
      case rel =>
        refine ⟨i + 1, by simp, by omega, (H1.out.set i hlt (.bool true)).ext fun o ho => ?_, H2.out.setOther _ _ (by omega), H3.out.trans (((Turned.refl (fun k => k = w.heap.size) wr).set (b := w.heap.size) rfl i (.bool true)).below H3.out.size (fun k hk => by omega))⟩
        unfold upd
        by_cases e : o = i
        · subst e
          simp
        · rw [if_neg e]
          have : decide (o < i) = decide (o < i + 1) := decide_eq_decide.2 (by omega)
          dsimp only
          rw [this]
      case measure => simp [intOf]; omega
    · have hin : i = r := by omega
      clear k1 k2 hb hmk
      go_wp2
      go_ret2
      refine ⟨rfl, ⟨H2.out, World.ownsRow_nil _ _ _ _, H1.out.ext fun o ho => ?_, by omega, by simp [Value.ownBlock], by simp [Value.ownBlock], ⟨by simp [newW], hr2, by simp [newW], hn2⟩, ⟨by omega, Nat.le_refl _⟩, fun i hi => by simp [newW] at hi⟩, H3.out⟩
      have : o < r := ho
      simp [newW]
      omega
set_option maxRecDepth 100000 in
set_option maxHeartbeats 2000000 in
theorem renter_bad (B p h c : Nat) (v : Value) (S : WS) (cl s1 s2 d : Int) (w : World) (k : RWin w B p h c v S) (hb : ¬ S.okE cl s1 s2 d ∨ S.on.length = S.size) (er : Int) (her : S.okE cl s1 s2 d → er = 4) (her2 : ¬ S.okE cl s1 s2 d → er = 3) :
    Calls Tryd.prog 9 #[.pointer (some ⟨p, 0, none⟩), .int .i64 cl, .int .i64 s1, .int .i64 s2, .int .i64 d] w fun e w' => e = .returned (.tuple #[.int .i64 0, .int .i64 er]) ∧ Below w.heap.size w w' := by
  have hp := k.c.here
  have HK := Hid.in k
  obtain ⟨t1, ht1⟩ : ∃ b, decide (-1 ≤ s1 ∧ s1 < (S.nr : Int)) = b := ⟨_, rfl⟩
  obtain ⟨t2, ht2⟩ : ∃ b, decide (-1 ≤ s2 ∧ s2 < (S.nr : Int)) = b := ⟨_, rfl⟩
  obtain ⟨t3, ht3⟩ : ∃ b, decide (-1 ≤ d ∧ d < (S.nr : Int)) = b := ⟨_, rfl⟩
  have H1 := Hid.in ht1
  have H2 := Hid.in ht2
  have H3 := Hid.in ht3
  by_cases hok : S.okE cl s1 s2 d
  · have hl : S.on.length = S.size := by
      rcases hb with q | q
      · exact absurd hok q
      · exact q
    obtain rfl := her hok
    obtain ⟨⟨a1, a2⟩, a3, a4, a5⟩ := hok
    obtain rfl : t1 = true := by rw [← ht1]; exact decide_eq_true a3
    obtain rfl : t2 = true := by rw [← ht2]; exact decide_eq_true a4
    obtain rfl : t3 = true := by rw [← ht3]; exact decide_eq_true a5
    obtain ⟨hpx, q0, q1, q2, q3, qf⟩ := k.cells
    obtain ⟨q, cap, hv, hcap, -⟩ := k.see
    rw [hv] at q2
    rw [hl] at q2
    have g1 : decide (cl < 0) = false := by simp; omega
    have g2 : decide (cl > 7) = false := by simp; omega
    have hs := k.small
    clear k hb her her2 ht1 ht2 ht3 a3 a4 a5 qf hv hl
    go_enter Tryd.func9, Tryd.ntmps9
    go_wp2_with (go_at_call 30; refine (rregister_any B p h c v S _ _ HK.out).mono ?_; rintro e w1 ⟨rfl, hw⟩; have hw2 := hw.symm; clear hw; subst hw2; first | rw [H1.out] | rw [H2.out] | rw [H3.out])
    go_quiet (fail)
    go_wp2
    go_ret2
    exact ⟨rfl, below_drewN w _⟩
  · obtain rfl := her2 hok
    have hu : undef = Value.tuple #[] := rfl
    clear k hb her her2
    by_cases g1 : cl < 0
    · clear ht1 ht2 ht3 hok
      go_enter Tryd.func9, Tryd.ntmps9
      go_wp2_with (go_at_call 30; refine (rregister_any B p h c v S _ _ HK.out).mono ?_; rintro e w1 ⟨rfl, hw⟩; have hw2 := hw.symm; clear hw; subst hw2; first | rw [H1.out] | rw [H2.out] | rw [H3.out])
      go_ret2
      exact ⟨rfl, Below.refl _ _⟩
    · have g1' : decide (cl < 0) = false := by simp; omega
      by_cases g2 : cl > 7
      · clear ht1 ht2 ht3 hok
        go_enter Tryd.func9, Tryd.ntmps9
        go_wp2_with (go_at_call 30; refine (rregister_any B p h c v S _ _ HK.out).mono ?_; rintro e w1 ⟨rfl, hw⟩; have hw2 := hw.symm; clear hw; subst hw2; first | rw [H1.out] | rw [H2.out] | rw [H3.out])
        go_ret2
        exact ⟨rfl, Below.refl _ _⟩
      · have g2' : decide (cl > 7) = false := by simp; omega
        have hno : ¬ (t1 = true ∧ t2 = true ∧ t3 = true) := by
          rintro ⟨rfl, rfl, rfl⟩
          exact hok ⟨⟨by omega, by omega⟩, of_decide_eq_true ht1, of_decide_eq_true ht2, of_decide_eq_true ht3⟩
        clear ht1 ht2 ht3 hok
        cases t1
        · go_enter Tryd.func9, Tryd.ntmps9
          go_wp2_with (go_at_call 30; refine (rregister_any B p h c v S _ _ HK.out).mono ?_; rintro e w1 ⟨rfl, hw⟩; have hw2 := hw.symm; clear hw; subst hw2; first | rw [H1.out] | rw [H2.out] | rw [H3.out])
          go_ret2
          exact ⟨rfl, Below.refl _ _⟩
        · cases t2
          · go_enter Tryd.func9, Tryd.ntmps9
            go_wp2_with (go_at_call 30; refine (rregister_any B p h c v S _ _ HK.out).mono ?_; rintro e w1 ⟨rfl, hw⟩; have hw2 := hw.symm; clear hw; subst hw2; first | rw [H1.out] | rw [H2.out] | rw [H3.out])
            go_ret2
            exact ⟨rfl, Below.refl _ _⟩
          · cases t3
            · clear hu
              go_enter Tryd.func9, Tryd.ntmps9
              go_wp2_with (go_at_call 30; refine (rregister_any B p h c v S _ _ HK.out).mono ?_; rintro e w1 ⟨rfl, hw⟩; have hw2 := hw.symm; clear hw; subst hw2; first | rw [H1.out] | rw [H2.out] | rw [H3.out])
              go_ret2
              exact ⟨rfl, Below.refl _ _⟩
            · exact absurd ⟨rfl, rfl, rfl⟩ hno
end Go.Proofs.YtckglpmjaplcnaaDoor
