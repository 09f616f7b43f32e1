/-
  WINDOW: what the program refuses; Again; Squash.
-/
import Derived.Test.YtckglpmjaplcnaaDoorVo
namespace Go.Proofs.YtckglpmjaplcnaaDoor
open Go Go.RowKit
set_option maxHeartbeats 1000000 in
theorem new_bad (n r : Int) (w : World) (hn : ¬ ((2 ≤ n ∧ n ≤ 64) ∧ 34 ≤ r ∧ r ≤ 128)) : Calls Tryd.prog 5 #[.int .i64 n, .int .i64 r] w fun e w' => e = .returned (.tuple #[.pointer none, errV 2]) ∧ w' = w := by
  have hu : undef = Value.tuple #[] := rfl
  unfold errV
  by_cases h1 : n < 2
  · go_enter Tryd.func5, Tryd.ntmps5
    go_wp2
    go_ret2
    exact ⟨rfl, rfl⟩
  · have g1 : decide (n < 2) = false := by simp; omega
    by_cases h2 : n > 64
    · go_enter Tryd.func5, Tryd.ntmps5
      go_wp2
      go_ret2
      exact ⟨rfl, rfl⟩
    · have g2 : decide (n > 64) = false := by simp; omega
      by_cases h3 : r < 34
      · go_enter Tryd.func5, Tryd.ntmps5
        go_wp2
        go_ret2
        exact ⟨rfl, rfl⟩
      · have g3 : decide (r < 34) = false := by simp; omega
        have h4 : r > 128 := by omega
        clear hu
        go_enter Tryd.func5, Tryd.ntmps5
        go_wp2
        go_ret2
        exact ⟨rfl, rfl⟩
def WS.okE (S : WS) (cl s1 s2 d : Int) : Prop := (0 ≤ cl ∧ cl ≤ 7) ∧ (-1 ≤ s1 ∧ s1 < S.nr) ∧ (-1 ≤ s2 ∧ s2 < S.nr) ∧ (-1 ≤ d ∧ d < S.nr)
set_option maxRecDepth 100000 in
set_option maxHeartbeats 1000000 in
theorem enter_range (B p h c : Nat) (v : Value) (S : WS) (cl s1 s2 d : Int) (w : World) (k : Win w B p h c v S) (hb : ¬ S.okE cl s1 s2 d) :
    Calls Tryd.prog 8 #[.pointer (some ⟨p, 0, none⟩), .agg #[.int .i64 cl, .int .i64 s1, .int .i64 s2, .int .i64 d]] w fun e w' => e = .returned (.tuple #[.int .i64 0, errV 3]) ∧ Below w.heap.size w w' := by
  have hp := k.c.here
  have hb0 : Below w.heap.size w (w.alloc (.cells #[.int .i64 cl, .int .i64 s1, .int .i64 s2, .int .i64 d] 43)) := (Below.refl _ w).alloc (Nat.le_refl _) _
  have HK0 := Hid.in (k.below hb0)
  have HB0 := Hid.in hb0
  unfold errV
  clear k hb0
  by_cases hc : 0 ≤ cl ∧ cl ≤ 7
  · have TC : Hid (decide (0 ≤ cl ∧ cl ≤ 7) = true) := decide_eq_true hc
    by_cases h1 : -1 ≤ s1 ∧ s1 < S.nr
    · have T1 : Hid (decide (-1 ≤ s1 ∧ s1 < S.nr) = true) := decide_eq_true h1
      by_cases h2 : -1 ≤ s2 ∧ s2 < S.nr
      · have T2 : Hid (decide (-1 ≤ s2 ∧ s2 < S.nr) = true) := decide_eq_true h2
        have h3 : ¬ (-1 ≤ d ∧ d < S.nr) := fun q => hb ⟨hc, h1, h2, q⟩
        have T3 : Hid (decide (-1 ≤ d ∧ d < S.nr) = false) := decide_eq_false h3
        clear hb hc h1 h2 h3
        go_enter Tryd.func8, Tryd.ntmps8
        go_wp2_with (first
          | (go_at_call 28; refine (isClass_any cl _).mono ?_; rintro e w1 ⟨rfl, rfl⟩; rw [TC.out])
          | (go_at_call 29; refine (isOperand_any B p h c v S _ _ HK0.out).mono ?_; rintro e w1 ⟨rfl, rfl⟩; first | rw [T1.out] | rw [T2.out] | rw [T3.out]))
        go_ret2
        exact ⟨rfl, HB0.out⟩
      · have T2 : Hid (decide (-1 ≤ s2 ∧ s2 < S.nr) = false) := decide_eq_false h2
        have hu : undef = Value.tuple #[] := rfl
        clear hb hc h1 h2
        go_enter Tryd.func8, Tryd.ntmps8
        go_wp2_with (first
          | (go_at_call 28; refine (isClass_any cl _).mono ?_; rintro e w1 ⟨rfl, rfl⟩; rw [TC.out])
          | (go_at_call 29; refine (isOperand_any B p h c v S _ _ HK0.out).mono ?_; rintro e w1 ⟨rfl, rfl⟩; first | rw [T1.out] | rw [T2.out]))
        go_ret2
        exact ⟨rfl, HB0.out⟩
    · have T1 : Hid (decide (-1 ≤ s1 ∧ s1 < S.nr) = false) := decide_eq_false h1
      have hu : undef = Value.tuple #[] := rfl
      clear hb hc h1
      go_enter Tryd.func8, Tryd.ntmps8
      go_wp2_with (first
        | (go_at_call 28; refine (isClass_any cl _).mono ?_; rintro e w1 ⟨rfl, rfl⟩; rw [TC.out])
        | (go_at_call 29; refine (isOperand_any B p h c v S _ _ HK0.out).mono ?_; rintro e w1 ⟨rfl, rfl⟩; rw [T1.out]))
      go_ret2
      exact ⟨rfl, HB0.out⟩
  · have TC : Hid (decide (0 ≤ cl ∧ cl ≤ 7) = false) := decide_eq_false hc
    have hu : undef = Value.tuple #[] := rfl
    clear hb hc
    go_enter Tryd.func8, Tryd.ntmps8
    go_wp2_with (go_at_call 28; refine (isClass_any cl _).mono ?_; rintro e w1 ⟨rfl, rfl⟩; rw [TC.out])
    go_ret2
    exact ⟨rfl, HB0.out⟩
set_option maxHeartbeats 1000000 in
theorem wake_bad (B p h c : Nat) (v : Value) (S : WS) (q : Int) (w : World) (k : Win w B p h c v S) (hq : ¬ (0 ≤ q ∧ q < S.nr)) : Calls Tryd.prog 10 #[.pointer (some ⟨p, 0, none⟩), .int .i64 q] w fun e w' => e = .returned (errV 3) ∧ w' = w := by
  obtain ⟨hp, -, -, -, c3, -⟩ := k.cells
  have hs := k.small.2.1
  unfold errV
  clear k
  by_cases h0 : q < 0
  · have hu : undef = Value.tuple #[] := rfl
    go_enter Tryd.func10, Tryd.ntmps10
    go_wp2
    go_ret
    exact ⟨rfl, rfl⟩
  · have hd : decide (q < 0) = false := by simp; omega
    have h1 : (S.nr : Int) ≤ q := by omega
    go_enter Tryd.func10, Tryd.ntmps10
    go_wp2
    go_ret
    exact ⟨rfl, rfl⟩
theorem done_bad (B p h c : Nat) (v : Value) (S : WS) (num : Int) (w : World) (k : Win w B p h c v S) (hA : ∀ i, S.At num i → S.st i ≠ 1) : Calls Tryd.prog 19 #[.pointer (some ⟨p, 0, none⟩), .int .i64 num] w fun e w' => e = .returned (errV 7) ∧ Below w.heap.size w w' := by
  have HK := Hid.in k
  have HA := Hid.in hA
  clear k hA
  go_enter Tryd.func19, Tryd.ntmps19
  go_wp2_with (go_at_call 38; refine (leave_bad B p h c v S num 2 _ HK.out HA.out).mono ?_; rintro e w1 ⟨rfl, h1⟩; have H1 := Hid.in h1; clear h1)
  go_ret
  exact ⟨rfl, H1.out⟩
theorem again_good (B p h c : Nat) (v : Value) (S : WS) (num : Int) (i : Nat) (w : World) (k : Win w B p h c v S) (hA : S.At num i) (hm : S.st i = 1) : Calls Tryd.prog 18 #[.pointer (some ⟨p, 0, none⟩), .int .i64 num] w fun e w' => e = .returned .nilIface ∧ Win w' B p h c v (S.setSt i 0) ∧ Turned (fun k => v.ownBlock = some k) w w' := by
  have HK := Hid.in k
  have HA := Hid.in hA
  have HM := Hid.in hm
  clear k hA hm
  go_enter Tryd.func18, Tryd.ntmps18
  go_wp2_with (go_at_call 38; refine (leave_good B p h c v S num 0 i _ HK.out HA.out HM.out).mono ?_; rintro e w1 ⟨rfl, h1, h2⟩; have H1 := Hid.in h1; have H2 := Hid.in h2; clear h1 h2)
  go_ret
  exact ⟨rfl, H1.out, H2.out⟩
theorem again_bad (B p h c : Nat) (v : Value) (S : WS) (num : Int) (w : World) (k : Win w B p h c v S) (hA : ∀ i, S.At num i → S.st i ≠ 1) : Calls Tryd.prog 18 #[.pointer (some ⟨p, 0, none⟩), .int .i64 num] w fun e w' => e = .returned (errV 7) ∧ Below w.heap.size w w' := by
  have HK := Hid.in k
  have HA := Hid.in hA
  clear k hA
  go_enter Tryd.func18, Tryd.ntmps18
  go_wp2_with (go_at_call 38; refine (leave_bad B p h c v S num 0 _ HK.out HA.out).mono ?_; rintro e w1 ⟨rfl, h1⟩; have H1 := Hid.in h1; clear h1)
  go_ret
  exact ⟨rfl, H1.out⟩
set_option maxHeartbeats 1000000 in
theorem retire_bad (B p h c : Nat) (v : Value) (S : WS) (w : World) (k : Win w B p h c v S) (hn : ¬ (0 < S.on.length ∧ S.st 0 = 2)) : Calls Tryd.prog 20 #[.pointer (some ⟨p, 0, none⟩)] w fun e w' => e = .returned (.tuple #[.int .i64 0, errV 7]) ∧ Below w.heap.size w w' := by
  have HK := Hid.in k
  unfold errV
  clear k
  by_cases h0 : 0 < S.on.length
  · have hs : (S.st 0 == 2) = false := by
      simp
      intro e
      exact hn ⟨h0, e⟩
    have HS := Hid.in hs
    have H0 := Hid.in h0
    clear hs h0 hn
    go_enter Tryd.func20, Tryd.ntmps20
    go_wp2_with (go_at_call 25; refine (head_some B p h c _ S _ HK.out H0.out).mono ?_; rintro e w1 ⟨rfl, hb1⟩; rw [HS.out]; have HB1 := Hid.in hb1; clear hb1)
    go_ret2
    exact ⟨rfl, HB1.out⟩
  · have hz : S.on.length = 0 := by omega
    have HZ := Hid.in hz
    clear hz h0 hn
    go_enter Tryd.func20, Tryd.ntmps20
    go_wp2_with (go_at_call 25; refine (head_none B p h c _ S _ HK.out HZ.out).mono ?_; rintro e w1 ⟨rfl, hw⟩; have hw2 := hw.symm; clear hw; subst hw2)
    go_ret2
    exact ⟨rfl, Below.refl _ _⟩
theorem Win.cut {x : World} {B p h c cap : Nat} {q : Option Addr} {S : WS} (k : Win x B p h c (.slice q S.on.length cap) S) (m : Nat) (hm : m ≤ S.on.length) : Win (x.setCell ⟨p, 2, none⟩ (.slice q m cap)) B p h c (.slice q m cap) { S with on := S.on.take m } := by
  have hl : (S.on.take m).length = m := by rw [List.length_take]; omega
  have ho : (Value.slice q m cap).ownBlock = (Value.slice q S.on.length cap).ownBlock := by cases q <;> rfl
  refine ⟨(k.c.set 2 (by omega) _).ext fun o ho => ?_, ?_, k.a.setOther _ _ (fun e => k.ne e.symm), k.ne, by rw [ho]; exact k.vp, by rw [ho]; exact k.vh, ⟨by rw [hl]; have := k.small.1; omega, k.small.2⟩, k.lo, fun j hj => ?_⟩
  · match o, ho with
    | 0, _ => rfl
    | 1, _ => rfl
    | 2, _ => rfl
    | 3, _ => rfl
  · rw [hl]
    exact own_turned (own_cut k.l hm) ((Turned.refl (fun k => k = p) x).set (b := p) rfl _ _) (fun j hj e => k.vp (by rw [← ho, hj, e]))
  · rw [hl] at hj
    show ((S.on.take m).getD j e0).s1 < S.nr ∧ ((S.on.take m).getD j e0).s2 < S.nr
    have e : (S.on.take m).getD j e0 = S.on.getD j e0 := by
      simp only [List.getD_eq_getElem?_getD]
      rw [List.getElem?_take, if_pos hj]
    rw [e]
    exact k.fit j (by omega)
theorem wrap_small (n : Nat) (h : n ≤ 64) : IntKind.i64.wrap (n : Int) = n := by
  simp [IntKind.wrap, IntKind.bits, IntKind.signed]
  omega
theorem gone_le (S : WS) (af : Int) : (S.gone af).length ≤ S.on.length := tl_le _ _ _ _
set_option maxRecDepth 100000 in
set_option maxHeartbeats 2000000 in
theorem squash_any (B p h c : Nat) (v : Value) (S : WS) (af : Int) (w : World) (k : Win w B p h c v S) : Calls Tryd.prog 22 #[.pointer (some ⟨p, 0, none⟩), .int .i64 af] w fun e w' => ∃ u v', e = .returned u ∧ w'.ownsRow w.heap.size 3 1 u (S.gone af).length (ints (S.gone af)) ∧ v'.ownBlock = v.ownBlock ∧ Win w' B p h c v' (S.squash af) ∧ Turned (fun k => k = p) w w' := by
  have hp := k.c.here
  have hs := k.small.1
  obtain ⟨q, cap, rfl, hcap, -⟩ := own_ents k.l
  have hgl := gone_le S af
  obtain ⟨gl, hgl2⟩ : ∃ gl, (S.gone af).length = gl := ⟨_, rfl⟩
  rw [hgl2] at hgl
  have HGL := Hid.in hgl2
  have hcap2 : cap ≤ 9223372036854775807 := by have := hcap.2; unfold maxLen at this; omega
  obtain ⟨V, hV⟩ : ∃ V, (w.alloc (.cells #[.pointer (some ⟨p, 0, none⟩)] 23)).alloc (.cells #[.int .i64 af] 3) = V := ⟨_, rfl⟩
  have hb : Below w.heap.size w V := by
    rw [← hV]
    exact ((Below.refl _ w).alloc (Nat.le_refl _) _).alloc (by simp) _
  have b0 : V.cell? ⟨w.heap.size, 0, none⟩ = some (.pointer (some ⟨p, 0, none⟩)) := by rw [← hV]; exact ((Boxed.new w _ _).alloc _).cell
  have b1 : V.cell? ⟨w.heap.size + 1, 0, none⟩ = some (.int .i64 af) := by
    have := (Boxed.new (w.alloc (.cells #[.pointer (some ⟨p, 0, none⟩)] 23)) 3 (.int .i64 af)).cell
    rw [World.size_alloc, hV] at this
    exact this
  have hVs : w.heap.size + 2 = V.heap.size := by rw [← hV]; simp
  have kV := k.below hb
  obtain ⟨hpV, -, -, c2, -, -⟩ := kV.cells
  have HKV := Hid.in kV
  have HB := Hid.in hb
  have HV := Hid.in hV
  clear k hb kV hgl2 hV
  go_enter Tryd.func22, Tryd.ntmps22
  go_wp2
  rw [HV.out]
  go_region_held3 (fun w' => w'.cell? ⟨w.heap.size, 0, none⟩ = some (.pointer (some ⟨p, 0, none⟩)) ∧ w'.cell? ⟨p, 2, none⟩ = some (.slice q S.on.length cap)) (go_keep) ((go_at_call 31; refine (numbersY_any B p h c _ S af w.heap.size (w.heap.size + 1) V.drew (HKV.out.below (Below.refl _ _).drew) b0 b1).mono ?_; rintro e w1 ⟨u, rfl, hr, hb1⟩; obtain ⟨uq, ucap, hu1, -, -⟩ := own_ints hr; have hb1' := belowU hb1; rw [HGL.out] at hu1; have HU := Hid.in hu1; rw [hu1]; have x0 := (hb1'.cell (p := ⟨w.heap.size, 0, none⟩) (cell_here b0)).trans b0; have x1 := (hb1'.cell (p := ⟨p, 2, none⟩) hpV).trans c2; have HR := Hid.in hr; have HB1 := Hid.in hb1'; clear hr hb1 hb1' hu1))
  all_goals
    obtain ⟨rl, hrl⟩ : ∃ rl, S.on.length - gl = rl := ⟨_, rfl⟩
    have hrl2 : (S.on.length : Int) - (gl : Int) = (rl : Int) := by omega
    have hrl3 : rl ≤ S.on.length := by omega
    have HRL := Hid.in hrl
    clear hrl
    have k1 := HKV.out.below HB1.out
    have hpw : p < w1.heap.size := k1.c.here
    have f2 := k1.c.free 2
    have HK1 := Hid.in k1
    have hz1 := HB1.out.size
    have xc : (w1.drew.setCell ⟨p, 2, none⟩ (.slice q rl cap)).cell? ⟨w.heap.size, 0, none⟩ = some (.pointer (some ⟨p, 0, none⟩)) := (World.cell?_setCell_other _ _ _ _ (by intro q; have := congrArg Addr.block q; simp at this; omega)).trans x0
    clear k1
    have FIN : Hid (∃ u v', Ending.returned (.slice uq gl ucap) = .returned u ∧ (w1.drew.setCell ⟨p, 2, none⟩ (.slice q rl cap)).ownsRow w.heap.size 3 1 u (S.gone af).length (ints (S.gone af)) ∧ v'.ownBlock = (Value.slice q S.on.length cap).ownBlock ∧ Win (w1.drew.setCell ⟨p, 2, none⟩ (.slice q rl cap)) B p h c v' (S.squash af) ∧ Turned (fun k => k = p) w (w1.drew.setCell ⟨p, 2, none⟩ (.slice q rl cap))) := by
      have kw := (HK1.out.below (Below.refl _ _).drew).cut rl hrl3
      have T : Turned (fun k => k = p) w1 (w1.drew.setCell ⟨p, 2, none⟩ (.slice q rl cap)) := ((Turned.refl (fun k => k = p) w1).drew).set (b := p) rfl _ _
      refine ⟨.slice uq gl ucap, .slice q rl cap, rfl, ?_, by cases q <;> rfl, ?_, ((Turned.of_below HB.out).trans (Turned.of_below HB1.out)).trans T⟩
      · have hr := HR.out
        rw [HU.out] at hr
        refine own_low (own_turned hr T (fun k hk e => ?_)) (show w.heap.size ≤ V.drew.heap.size from HB.out.size)
        have q1 : V.heap.size ≤ k := (own_base hr k hk).1
        omega
      · have e : S.squash af = { S with on := S.on.take rl } := by
          unfold WS.squash
          rw [HGL.out, HRL.out]
        rw [e]
        exact kw
    go_wp2
    rename_i Qx Kx hx
    refine wp_region_held_drew (S := fun w' => w'.cell? ⟨w.heap.size, 0, none⟩ = some (.pointer (some ⟨p, 0, none⟩))) (by kernel_rfl) x0 (fun hHeld => ?_)
    refine wpAnyH_take (i := 0) (v := .pointer (some ⟨p, 0, none⟩)) rfl (by kernel_rfl) (by kernel_rfl) (by kernel_rfl) (fun _ _ _ h => h) (Or.inl ⟨by rfl, fun w hSw => by dsimp only at hSw; go_simp⟩) hHeld ?_
    refine wpAnyH_take (i := 1) (v := .pointer (some ⟨p, 0, none⟩)) rfl (by kernel_rfl) (by kernel_rfl) (by kernel_rfl) (fun _ _ _ h => h) (Or.inl ⟨by rfl, fun w hSw => by dsimp only at hSw; go_simp⟩) hHeld ?_
    refine wpAnyH_take (i := 2) (v := .pointer (some ⟨p, 0, none⟩)) rfl (by kernel_rfl) (by kernel_rfl) (by kernel_rfl) (fun _ _ _ h => h) (Or.inl ⟨by rfl, fun w hSw => by go_simp⟩) hHeld ?_
    refine wpAnyH_take (i := 3) (v := .pointer (some ⟨p, 2, none⟩)) rfl (by kernel_rfl) (by kernel_rfl) (by kernel_rfl) (fun _ _ _ h => h) (Or.inl ⟨by rfl, fun w hSw => by go_simp⟩) hHeld ?_
    refine wpAnyH_take (i := 5) (v := .pointer (some ⟨p, 0, none⟩)) rfl (by kernel_rfl) (by kernel_rfl) (by kernel_rfl) (fun _ _ _ h => h) (Or.inl ⟨by rfl, fun w hSw => by dsimp only at hSw; go_simp⟩) hHeld ?_
    refine wpAnyH_take (i := 6) (v := .pointer (some ⟨p, 0, none⟩)) rfl (by kernel_rfl) (by kernel_rfl) (by kernel_rfl) (fun _ _ _ h => h) (Or.inl ⟨by rfl, fun w hSw => by go_simp⟩) hHeld ?_
    refine wpAnyH_take (i := 7) (v := .pointer (some ⟨p, 2, none⟩)) rfl (by kernel_rfl) (by kernel_rfl) (by kernel_rfl) (fun _ _ _ h => h) (Or.inl ⟨by rfl, fun w hSw => by go_simp⟩) hHeld ?_
    refine wpAnyH_take (i := 10) (v := .slice uq gl ucap) rfl (by kernel_rfl) (by kernel_rfl) (by kernel_rfl) (fun _ _ _ h => h) (Or.inl ⟨by rfl, fun w hSw => by go_simp⟩) hHeld ?_
    refine wpAnyH_take (i := 11) (v := .int .i64 gl) rfl (by kernel_rfl) (by kernel_rfl) (by kernel_rfl) (fun _ _ _ h => h) (Or.inl ⟨by rfl, fun w hSw => by go_simp⟩) hHeld ?_
    refine wpAnyH_ready (rs := [4, 8]) (by kernel_rfl) (by simp) ?_
    refine AllReadyH.cons rfl (fun K hK => ?_) ?_
    · skip
      go_simp
      refine hK.out _ _ hHeld (fun hHeld => ?_)
      clear hK K
      refine wpAnyH_ready (rs := [8]) (by kernel_rfl) (by simp) ?_
      refine AllReadyH.cons rfl (fun K hK => ?_) AllReadyH.nil
      go_simp
      refine hK.out _ _ hHeld (fun hHeld => ?_)
      clear hK K
      refine wpAnyH_take (i := 9) (v := .int .i64 S.on.length) rfl (by kernel_rfl) (by kernel_rfl) (by kernel_rfl) (fun _ _ _ h => h) (Or.inl ⟨by rfl, fun w hSw => by go_simp⟩) hHeld ?_
      refine wpAnyH_take (i := 12) (v := .int .i64 rl) rfl (by kernel_rfl) (by kernel_rfl) (by kernel_rfl) (fun _ _ _ h => h) (Or.inl ⟨by rfl, fun w hSw => by go_simp; exact wrap_small _ (by omega)⟩) hHeld ?_
      refine wpAnyH_take (i := 13) (v := .slice q rl cap) rfl (by kernel_rfl) (by kernel_rfl) (by kernel_rfl) (fun _ _ _ h => h) (Or.inl ⟨by rfl, fun w hSw => by go_simp; intro q; omega⟩) hHeld ?_
      refine wpAnyH_take (i := 14) (v := .pointer (some ⟨p, 0, none⟩)) rfl (by kernel_rfl) (by kernel_rfl) (by kernel_rfl) (fun _ _ _ h => h) (Or.inl ⟨by rfl, fun w hSw => by go_simp⟩) hHeld ?_
      refine wpAnyH_take (i := 15) (v := .pointer (some ⟨p, 2, none⟩)) rfl (by kernel_rfl) (by kernel_rfl) (by kernel_rfl) (fun _ _ _ h => h) (Or.inl ⟨by rfl, fun w hSw => by go_simp⟩) hHeld ?_
      refine wpAnyH_ready (rs := [16]) (by kernel_rfl) (by simp) ?_
      refine AllReadyH.cons rfl (fun K hK => ?_) AllReadyH.nil
      go_simp
      refine hK.out _ _ xc (fun hHeld => ?_)
      clear hK K
      refine wpAnyH_done (by kernel_rfl) ?_ _
      refine hx _ _ ?_
      clear hx Kx hHeld
      go_wp2
      go_ret
      exact FIN.out
    refine AllReadyH.cons rfl (fun K hK => ?_) AllReadyH.nil
    go_simp
    refine hK.out _ _ hHeld (fun hHeld => ?_)
    clear hK K
    refine wpAnyH_take (i := 9) (v := .int .i64 S.on.length) rfl (by kernel_rfl) (by kernel_rfl) (by kernel_rfl) (fun _ _ _ h => h) (Or.inl ⟨by rfl, fun w hSw => by go_simp⟩) hHeld ?_
    refine wpAnyH_take (i := 12) (v := .int .i64 rl) rfl (by kernel_rfl) (by kernel_rfl) (by kernel_rfl) (fun _ _ _ h => h) (Or.inl ⟨by rfl, fun w hSw => by go_simp; exact wrap_small _ (by omega)⟩) hHeld ?_
    refine wpAnyH_ready (rs := [4]) (by kernel_rfl) (by simp) ?_
    refine AllReadyH.cons rfl (fun K hK => ?_) AllReadyH.nil
    go_simp
    refine hK.out _ _ hHeld (fun hHeld => ?_)
    clear hK K
    refine wpAnyH_take (i := 13) (v := .slice q rl cap) rfl (by kernel_rfl) (by kernel_rfl) (by kernel_rfl) (fun _ _ _ h => h) (Or.inl ⟨by rfl, fun w hSw => by go_simp; intro q; omega⟩) hHeld ?_
    refine wpAnyH_take (i := 14) (v := .pointer (some ⟨p, 0, none⟩)) rfl (by kernel_rfl) (by kernel_rfl) (by kernel_rfl) (fun _ _ _ h => h) (Or.inl ⟨by rfl, fun w hSw => by go_simp⟩) hHeld ?_
    refine wpAnyH_take (i := 15) (v := .pointer (some ⟨p, 2, none⟩)) rfl (by kernel_rfl) (by kernel_rfl) (by kernel_rfl) (fun _ _ _ h => h) (Or.inl ⟨by rfl, fun w hSw => by go_simp⟩) hHeld ?_
    refine wpAnyH_ready (rs := [16]) (by kernel_rfl) (by simp) ?_
    refine AllReadyH.cons rfl (fun K hK => ?_) AllReadyH.nil
    go_simp
    refine hK.out _ _ xc (fun hHeld => ?_)
    clear hK K
    refine wpAnyH_done (by kernel_rfl) ?_ _
    refine hx _ _ ?_
    clear hx Kx hHeld
    go_wp2
    go_ret
    exact FIN.out
end Go.Proofs.YtckglpmjaplcnaaDoor
