import Derived.Test.YtemamhkhjijdlaaGreatDoorY05
import Derived.Maps.AppendAt
/-
  WINDOW: the numbers of those that are wanted, on the way from the oldest.
-/
namespace Go.Proofs.YtemamhkhjijdlaaGreatDoor
open Go Go.RowKit Go.Shelf
attribute [local go_sem] Oper.semAt_some
theorem own_low {x : World} {B C : Nat} {e : TypeId} {size : Nat} {v : Value} {n : Nat} {xs : List Value} (h : x.ownsRow B e size v n xs) (hc : C ≤ B) : x.ownsRow C e size v n xs :=
  ⟨h.1, h.2.imp id fun ⟨g, cap, cur, c1, c2, c3⟩ => ⟨g, cap, cur, c1, Nat.le_trans hc c2, c3⟩⟩
def ints (l : List Int) : List Value := l.map (Value.int .i64)
def tl (pick : Nat → Bool) (nm : Nat → Int) (most : Int) : Nat → List Int
  | 0 => []
  | i + 1 => if (tl pick nm most i).length ≥ most then tl pick nm most i else if pick i then tl pick nm most i ++ [nm i] else tl pick nm most i
theorem tl_stop (pick : Nat → Bool) (nm : Nat → Int) (most : Int) (i : Nat) (h : ((tl pick nm most i).length : Int) ≥ most) : ∀ d, tl pick nm most (i + d) = tl pick nm most i
  | 0 => rfl
  | d + 1 => by
    have := tl_stop pick nm most i h d
    have e : tl pick nm most (i + (d + 1)) = if ((tl pick nm most (i + d)).length : Int) ≥ most then tl pick nm most (i + d) else if pick (i + d) then tl pick nm most (i + d) ++ [nm (i + d)] else tl pick nm most (i + d) := rfl
    rw [e, this, if_pos h]
theorem tl_le (pick : Nat → Bool) (nm : Nat → Int) (most : Int) : ∀ i, (tl pick nm most i).length ≤ i
  | 0 => Nat.le_refl _
  | i + 1 => by
    have := tl_le pick nm most i
    unfold tl
    split
    · omega
    · split
      · simp; omega
      · omega

set_option maxRecDepth 100000 in
set_option maxHeartbeats 4000000 in
theorem numbersO_in (B p h c : Nat) (v : Value) (S : WS) (most : Int) (caps : Array Value) (pick : Nat → Bool) (w : World) (k : Win w B p h c v S)
    (hw : ∀ (i : Nat) (W : World), i < S.on.length → Below w.heap.size w W → Calls Tryz.prog 140 (#[.int .i64 i] ++ caps) W fun e W' => e = .returned (.bool (pick i)) ∧ Below W.heap.size W W') :
    CallsIn Fence.wide 9 Tryz.prog 138 #[.pointer (some ⟨p, 0, none⟩), .func (.func 139) #[.pointer (some ⟨p, 0, none⟩)] #[], .int .i64 most, .func (.func 140) #[] caps] w fun e w' => ∃ u, e = .returned u ∧ w'.ownsRow w.heap.size 3 1 u (tl pick (fun i => S.num (i)) most S.on.length).length (ints (tl pick (fun i => S.num (i)) most S.on.length)) ∧ Below w.heap.size w w' := by
  obtain ⟨hp, -, -, c2, -, -⟩ := k.cells
  obtain ⟨q, cap, rfl, hcap, hel⟩ := own_ents k.l
  obtain ⟨hs, -, -, -⟩ := k.small
  obtain ⟨N, hN⟩ : ∃ N, S.on.length = N := ⟨_, rfl⟩
  rw [hN] at c2 hs hcap hel hw ⊢
  have hel2 : ∀ i, i < N → ∃ g, q = some ⟨g, 0, none⟩ ∧ g < w.heap.size ∧ w.cell? ⟨g, i * 5, none⟩ = some (.int .i64 (S.num i)) := by
    intro i hi
    obtain ⟨g, h1, -, h2, h3, -⟩ := hel i hi
    exact ⟨g, h1, h2, h3⟩
  have HE := Hid.in hel2
  have HW := Hid.in hw
  clear k hel hel2 hN hw
  obtain ⟨i0, hi0, hz0, hz1, hz2⟩ := info_parts (show (Tryz.prog.info? 3).map (fun i => (i.zero, i.size, i.bytes)) = some (some (.int .i64 0), 1, 8) by kernel_rfl)
  obtain ⟨nm, hnm⟩ : ∃ nm : Nat → Int, nm = fun i => S.num (i) := ⟨_, rfl⟩
  rw [← hnm]
  have HNM := Hid.in hnm
  clear hnm
  refine callsIn_of_wp_marks Tryz.func138 rfl trivial ?_ rfl
  simp only [Tryz.ntmps138, List.size_toArray, List.length_cons, List.length_nil, Nat.reduceAdd, Nat.reduceSub, Array.replicate_succ, Array.replicate_zero, List.push_toArray, List.append_toArray, List.nil_append, List.cons_append]
  gi_wp2
  obtain ⟨V, hV⟩ : ∃ V, (((w.alloc (Obj.cells #[Value.pointer (some ⟨p, 0, none⟩)] 133)).alloc (Obj.cells #[Value.int .i64 most] 3)).alloc (Obj.cells #[Value.func (.func 140) #[] caps] 206)).alloc (Obj.cells #[Value.slice none 0 0] 48) = V := ⟨_, rfl⟩
  have hVs : V.heap.size = w.heap.size + 4 := by rw [← hV]; simp
  have hVb : Below w.heap.size w V := by
    rw [← hV]
    exact ((((Below.refl _ w).alloc (Nat.le_refl _) _).alloc (by simp) _).alloc (by simp; omega) _).alloc (by simp; omega) _
  have B0 : Boxed V w.heap.size 133 (.pointer (some ⟨p, 0, none⟩)) := by
    rw [← hV]
    exact (((Boxed.new w _ _).alloc _).alloc _).alloc _
  have B1 : Boxed V (w.heap.size + 1) 3 (.int .i64 most) := by
    have := (((Boxed.new (w.alloc (Obj.cells #[Value.pointer (some ⟨p, 0, none⟩)] 133)) 3 (.int .i64 most)).alloc (Obj.cells #[Value.func (.func 140) #[] caps] 206)).alloc (Obj.cells #[Value.slice none 0 0] 48))
    rw [World.size_alloc, hV] at this
    exact this
  have B2 : Boxed V (w.heap.size + 1 + 1) 206 (.func (.func 140) #[] caps) := by
    have := ((Boxed.new ((w.alloc (Obj.cells #[Value.pointer (some ⟨p, 0, none⟩)] 133)).alloc (Obj.cells #[Value.int .i64 most] 3)) 206 (.func (.func 140) #[] caps)).alloc (Obj.cells #[Value.slice none 0 0] 48))
    rw [World.size_alloc, World.size_alloc, hV] at this
    exact this
  have B3 : Boxed V (w.heap.size + 1 + 1 + 1) 48 (.slice none 0 0) := by
    have := Boxed.new (((w.alloc (Obj.cells #[Value.pointer (some ⟨p, 0, none⟩)] 133)).alloc (Obj.cells #[Value.int .i64 most] 3)).alloc (Obj.cells #[Value.func (.func 140) #[] caps] 206)) 48 (.slice none 0 0)
    rw [World.size_alloc, World.size_alloc, World.size_alloc, hV] at this
    exact this
  have b0 := B0.cell
  have b1 := B1.cell
  have b2 := B2.cell
  have c2' : V.cell? ⟨p, 2, none⟩ = some (.slice q N cap) := (hVb.cell (p := ⟨p, 2, none⟩) hp).trans c2
  rw [hV]
  clear hV B0 B1 B2
  refine range_bound rfl (enters_of Tryz.func139 (by kernel_rfl) rfl) (oldest_hands (9 - 1) p N cap q V (by omega) hs (by omega) c2') rfl
    (fun i W => ∃ u, Boxed W (w.heap.size + 1 + 1 + 1) 48 u ∧ W.ownsRow (V.heap.size + 2) 3 1 u (tl pick nm most i).length (ints (tl pick nm most i)) ∧ Turned (fun k => k = w.heap.size + 1 + 1 + 1) V W)
    (fun c i W => c = .exit 0 ∧ ((tl pick nm most i).length : Int) ≥ most ∧ ∃ u, Boxed W (w.heap.size + 1 + 1 + 1) 48 u ∧ W.ownsRow (V.heap.size + 2) 3 1 u (tl pick nm most i).length (ints (tl pick nm most i)) ∧ Turned (fun k => k = w.heap.size + 1 + 1 + 1) V W)
    (fun i W W' ⟨u, h1, h2, h3⟩ t => ⟨u, (t.block _ h1.lt (by omega)).trans h1, own_turned_win h2 t (fun k hk => by have := (own_base_win h2 k hk).1; omega), h3.trans2 t (fun k hk => by omega)⟩)
    (fun c i W W' ⟨hc, hl, u, h1, h2, h3⟩ t => ⟨hc, hl, u, (t.block _ h1.lt (by omega)).trans h1, own_turned_win h2 t (fun k hk => by have := (own_base_win h2 k hk).1; omega), h3.trans2 t (fun k hk => by omega)⟩)
    ⟨_, B3, World.ownsRow_nil _ _ _ _, Turned.refl _ _⟩
    (fun i => { tmps := #[.pointer (some ⟨p, 0, none⟩), .func (.func 139) #[.pointer (some ⟨p, 0, none⟩)] #[], .int .i64 most, .func (.func 140) #[] caps, .pointer (some ⟨w.heap.size, 0, none⟩), undef, .pointer (some ⟨w.heap.size + 1, 0, none⟩), .pointer (some ⟨w.heap.size + 1 + 1, 0, none⟩), .slice none 0 0, .pointer (some ⟨w.heap.size + 1 + 1 + 1, 0, none⟩), .int .i64 i, .func (.func 139) #[.pointer (some ⟨p, 0, none⟩)] #[], .int .i64 i, undef, undef, undef, undef, undef, undef, undef, undef, undef, undef, undef, undef, undef, undef, undef, undef, undef, undef, undef], defers := [] })
    ?assign ?body ?done ?stop
  case assign =>
    intro l i W K hK
    gi_wp2
    exact hK
  case body =>
    rintro l i W ⟨u, hu, hrow, hT⟩ hi hsz
    have hx := hu.cell
    have hx0 : W.cell? ⟨w.heap.size, 0, none⟩ = some (.pointer (some ⟨p, 0, none⟩)) := hT.to_cell (by omega) (by omega) b0
    have hx1 : W.cell? ⟨w.heap.size + 1, 0, none⟩ = some (.int .i64 most) := hT.to_cell (by omega) (by omega) b1
    have hx2 : W.cell? ⟨w.heap.size + 1 + 1, 0, none⟩ = some (.func (.func 140) #[] caps) := hT.to_cell (by omega) (by omega) b2
    have hwb : Below w.heap.size w W := hVb.trans (hT.below (by omega) (fun k hk => by omega))
    have hcall := (callsIn_wide (n := 9 - 1 - 1 - 1)).2 (HW.out i W hi hwb)
    obtain ⟨ao, hcp, rfl⟩ : ∃ ao hcp, u = .slice ao (tl pick nm most i).length hcp := by
      rcases hrow.2 with ⟨rfl, h2⟩ | ⟨g, cp, cur, rfl, _⟩
      · exact ⟨none, 0, by rw [h2]⟩
      · exact ⟨_, _, rfl⟩
    have hlen := tl_le pick nm most i
    have enc : tl pick nm most (i + 1) = if ((tl pick nm most i).length : Int) ≥ most then tl pick nm most i else if pick i then tl pick nm most i ++ [nm i] else tl pick nm most i := rfl
    obtain ⟨L, hL⟩ : ∃ L, tl pick nm most i = L := ⟨_, rfl⟩
    obtain ⟨b, hb⟩ : ∃ b, pick i = b := ⟨_, rfl⟩
    rw [hL] at hlen hrow hu hx enc
    rw [hb] at hcall enc
    have HT := Hid.in enc
    have HL := Hid.in hL
    have HR := Hid.in hrow
    have HU := Hid.in hu
    have HTT := Hid.in hT
    have HWB := Hid.in hwb
    have HCL := Hid.in hcall
    have hL64 : L.length < 64 := by omega
    clear enc hL hb hrow hu hT hwb hcall b0 b1 b2 B3 c2
    gi_wp2
    · rename_i hm
      exact ⟨kept_refl _ _, rfl, by rw [HL.out]; exact hm, _, HU.out, by rw [HL.out]; exact HR.out, HTT.out⟩
    · rename_i hm
      refine ⟨trivial, (CallsIn.inRound l HCL.out).mono ?_⟩
      rintro e W1 ⟨rfl, hb1⟩
      have hm2 : ¬ ((L.length : Int) ≥ most) := by omega
      have et := HT.out
      rw [if_neg hm2] at et
      have hz := hb1.size
      cases b with
      | false =>
        rw [if_neg (by decide)] at et
        gi_wp2
        have T1 : Turned (fun _ => False) W W1 := Turned.of_below hb1
        refine ⟨kept_turned T1 hsz (fun q => q) (fun q => q), _, (T1.block _ HU.out.lt (fun q => q)).trans HU.out, by rw [et]; exact own_turned_win HR.out T1 (fun _ _ q => q), HTT.out.trans2 T1 (fun k hk => hk.elim)⟩
      | true =>
        rw [if_pos rfl] at et
        obtain ⟨g, rfl, hg, d0⟩ := HE.out (i) (by omega)
        have hwb1 := HWB.out.trans (hb1.mono HWB.out.size)
        have y0 : W1.cell? ⟨w.heap.size, 0, none⟩ = some (.pointer (some ⟨p, 0, none⟩)) := (hb1.cell (p := ⟨w.heap.size, 0, none⟩) (by simp; omega)).trans hx0
        have hrow1 : W1.ownsRow (V.heap.size + 2) 3 1 (.slice ao L.length hcp) L.length (ints L) := own_turned_win (Q := fun _ => False) HR.out (Turned.of_below hb1) (fun _ _ q => q)
        have hu1 : Boxed W1 (w.heap.size + 1 + 1 + 1) 48 (.slice ao L.length hcp) := (hb1.block _ HU.out.lt).trans HU.out
        have y3 := hu1.cell
        have y4 := hu1.frozen
        have y5 : W1.cell? ⟨p, 2, none⟩ = some (.slice (some ⟨g, 0, none⟩) N cap) := (hb1.cell (p := ⟨p, 2, none⟩) (by simp; omega)).trans ((HTT.out.to_cell (by omega) (by omega) c2'))
        have y6 : W1.cell? ⟨g, (i) * 5, none⟩ = some (.int .i64 (nm i)) := by
          rw [HNM.out]
          exact (hwb1.cell (p := ⟨g, (i) * 5, none⟩) hg).trans d0
        have HR1 := Hid.in hrow1
        have HU1 := Hid.in hu1
        have HB1 := Hid.in hb1
        have ET := Hid.in et
        have e1 : w.heap.size < W1.heap.size := by omega
        have e2 : w.heap.size + 1 + 1 + 1 < W1.heap.size := by omega
        have e3 : p < W1.heap.size := by omega
        have e4 : g < W1.heap.size := by omega
        clear hrow1 hu1 hb1 et hx0 hx1 hx2 hwb1 HU HR HT hx d0 HCL HWB
        have fin : ∀ (v' : Value) (w1 : World), w1.ownsRow (V.heap.size + 2) 3 1 v' (L.length + 1) (ints L ++ [.int .i64 (nm i)]) → (W1.drew.alloc (Obj.cells #[.int .i64 (nm i)] 3)).grownBy w1 (Value.slice ao L.length hcp).ownBlock → kept V.heap.size W (w1.setCell ⟨w.heap.size + 1 + 1 + 1, 0, none⟩ v') ∧ ∃ u, Boxed (w1.setCell ⟨w.heap.size + 1 + 1 + 1, 0, none⟩ v') (w.heap.size + 1 + 1 + 1) 48 u ∧ (w1.setCell ⟨w.heap.size + 1 + 1 + 1, 0, none⟩ v').ownsRow (V.heap.size + 2) 3 1 u (tl pick nm most (i + 1)).length (ints (tl pick nm most (i + 1))) ∧ Turned (fun k => k = w.heap.size + 1 + 1 + 1) V (w1.setCell ⟨w.heap.size + 1 + 1 + 1, 0, none⟩ v') := by
          intro v' w1 hown hgrow
          have hno : ∀ k, (Value.slice ao L.length hcp).ownBlock = some k → V.heap.size + 2 ≤ k := fun k hk => (own_base_win HR1.out k hk).1
          have T0 : Turned (fun k => V.heap.size + 2 ≤ k) W W1 := (Turned.of_below HB1.out)
          have T1 : Turned (fun k => V.heap.size + 2 ≤ k) W1 (W1.drew.alloc (Obj.cells #[.int .i64 (nm i)] 3)) := ((Turned.refl _ W1).drew).alloc _
          have T2 : Turned (fun k => V.heap.size + 2 ≤ k) (W1.drew.alloc (Obj.cells #[.int .i64 (nm i)] 3)) w1 := (turned_grown_win hgrow).mono hno
          have T3 := (T0.trans T1).trans T2
          have T4 : Turned (fun k => k = w.heap.size + 1 + 1 + 1) w1 (w1.setCell ⟨w.heap.size + 1 + 1 + 1, 0, none⟩ v') := (Turned.refl (fun k => k = w.heap.size + 1 + 1 + 1) w1).set (b := w.heap.size + 1 + 1 + 1) rfl _ _
          have s1 := T3.size
          have hu2 : Boxed w1 (w.heap.size + 1 + 1 + 1) 48 (.slice ao L.length hcp) := ((T1.trans T2).block _ HU1.out.lt (by omega)).trans HU1.out
          have hk := kept_turned (T3.mono (R := fun k => V.heap.size + 2 ≤ k ∨ k = w.heap.size + 1 + 1 + 1) (fun k hk => Or.inl hk)) hsz (by omega) (by omega)
          have hk2 := kept_turned T4 (D := V.heap.size) (by omega) (by omega) (by omega)
          refine ⟨⟨hk2.1.trans hk.1, hk2.2.trans hk.2⟩, v', hu2.set v', ?_, (HTT.out.trans2 T3 (fun k hk => by omega)).trans T4⟩
          rw [ET.out]
          have e5 : (L ++ [nm i]).length = L.length + 1 := by simp
          have e6 : ints (L ++ [nm i]) = ints L ++ [.int .i64 (nm i)] := by simp [ints]
          rw [e5, e6]
          exact own_turned_win hown T4 (fun k hk e => by have := (own_base_win hown k hk).1; omega)
        have box : ∀ (w1 : World), (W1.drew.alloc (Obj.cells #[.int .i64 (nm i)] 3)).grownBy w1 (Value.slice ao L.length hcp).ownBlock → w1.cell? ⟨w.heap.size + 1 + 1 + 1, 0, none⟩ = some (.slice ao L.length hcp) ∧ w1.frozen? ⟨w.heap.size + 1 + 1 + 1, 0, none⟩ = false := by
          intro w1 hgrow
          have hno : ∀ k, (Value.slice ao L.length hcp).ownBlock = some k → V.heap.size + 2 ≤ k := fun k hk => (own_base_win HR1.out k hk).1
          have T1 : Turned (fun k => V.heap.size + 2 ≤ k) W1 (W1.drew.alloc (Obj.cells #[.int .i64 (nm i)] 3)) := ((Turned.refl _ W1).drew).alloc _
          have T2 : Turned (fun k => V.heap.size + 2 ≤ k) (W1.drew.alloc (Obj.cells #[.int .i64 (nm i)] 3)) w1 := (turned_grown_win hgrow).mono hno
          have hu2 : Boxed w1 (w.heap.size + 1 + 1 + 1) 48 (.slice ao L.length hcp) := ((T1.trans T2).block _ HU1.out.lt (by omega)).trans HU1.out
          exact ⟨hu2.cell, hu2.frozen⟩
        have HF := Hid.in fin
        have HX := Hid.in box
        clear fin box
        gi_wp2
        have hmo : Tryz.prog.follows .mixedOrders = true := by kernel_rfl
        obtain ⟨v', w1, hrun, r1, r2, r3⟩ := run_append_own (P := Tryz.prog) (W1.drew.alloc (Obj.cells #[.int .i64 (nm i)] 3)) (V.heap.size + 2) 48 48 3 i0 (.int .i64 0) 1 8 Tryz.underlying48 hi0 hz0 hz1 hz2 rfl (by decide) (.slice ao L.length hcp) L.length (ints L) (World.ownsRow.alloc (w := W1.drew) HR1.out _) ⟨W1.heap.size, 0, none⟩ 1 1 [.int .i64 (nm i)] rfl (cell_one_new _ _ _) (by simp [Value.oneCell']) (by unfold maxLen; omega) (by omega) (by simp; omega)
        obtain ⟨g', cap', rfl⟩ := ownsRow_succ r1
        obtain ⟨z1, z2⟩ := HX.out _ r2
        have HO := Hid.in (HF.out _ _ r1 r2)
        clear r1 r2 r3 HF HX
        refine region_round (by kernel_rfl) (by kernel_rfl) ?_
        refine wpAnyIn_take (i := 5) (v := .int .i64 i) rfl rfl (by kernel_rfl) (by kernel_rfl) (by kernel_rfl) (fun _ _ _ h => h) ⟨Or.inl ⟨by rfl, fun w => by go_simp⟩, fun _ => rfl⟩ ?_
        refine wpAnyIn_ready (rs := [0, 1]) (by kernel_rfl) (by simp) ?_
        refine AllReadyIn.cons rfl (fun K hK => ?_) ?_
        · skip
          go_simp
          refine hK _ _ ?_
          clear hK K
          refine wpAnyIn_ready (rs := [1]) (by kernel_rfl) (by simp) ?_
          refine AllReadyIn.cons rfl (fun K hK => ?_) ?_
          · skip
            go_simp
            refine hK _ _ ?_
            clear hK K
            refine wpAnyIn_take (i := 2) (v := .pointer (some ⟨p, 0, none⟩)) rfl rfl (by kernel_rfl) (by kernel_rfl) (by kernel_rfl) (fun _ _ _ h => h) ⟨Or.inl ⟨by rfl, fun w => by go_simp⟩, fun _ => rfl⟩ ?_
            refine wpAnyIn_take (i := 3) (v := .pointer (some ⟨p, 2, none⟩)) rfl rfl (by kernel_rfl) (by kernel_rfl) (by kernel_rfl) (fun _ _ _ h => h) ⟨Or.inl ⟨by rfl, fun w => by go_simp⟩, fun _ => rfl⟩ ?_
            refine wpAnyIn_ready (rs := [4]) (by kernel_rfl) (by simp) ?_
            refine AllReadyIn.cons rfl (fun K hK => ?_) ?_
            · skip
              go_simp
              refine hK _ _ ?_
              clear hK K
              refine wpAnyIn_take (i := 6) (v := .pointer (some ⟨g, (i) * 5, none⟩)) rfl rfl (by kernel_rfl) (by kernel_rfl) (by kernel_rfl) (fun _ _ _ h => h) ⟨Or.inl ⟨by rfl, fun w => by go_simp⟩, fun _ => rfl⟩ ?_
              refine wpAnyIn_take (i := 7) (v := .pointer (some ⟨g, (i) * 5, none⟩)) rfl rfl (by kernel_rfl) (by kernel_rfl) (by kernel_rfl) (fun _ _ _ h => h) ⟨Or.inl ⟨by rfl, fun w => by go_simp⟩, fun _ => rfl⟩ ?_
              refine wpAnyIn_ready (rs := [8]) (by kernel_rfl) (by simp) ?_
              refine AllReadyIn.cons rfl (fun K hK => ?_) ?_
              · skip
                go_simp
                refine hK _ _ ?_
                clear hK K
                refine wpAnyIn_ready (rs := [9]) (by kernel_rfl) (by simp) ?_
                refine AllReadyIn.cons rfl (fun K hK => ?_) ?_
                · skip
                  go_simp
                  refine hK _ _ ?_
                  clear hK K
                  refine wpAnyIn_ready (rs := [10]) (by kernel_rfl) (by simp) ?_
                  refine AllReadyIn.cons rfl (fun K hK => ?_) ?_
                  · skip
                    rw [if_pos (by rfl)]
                    refine append_op rfl rfl rfl hrun (hK _ _ ?_)
                    clear hK K
                    refine wpAnyIn_ready (rs := [11]) (by kernel_rfl) (by simp) ?_
                    refine AllReadyIn.cons rfl (fun K hK => ?_) ?_
                    · skip
                      go_simp
                      refine hK _ _ ?_
                      clear hK K
                      exact wpAnyIn_done (by kernel_rfl) HO.out _
                    exact AllReadyIn.nil
                  exact AllReadyIn.nil
                exact AllReadyIn.nil
              exact AllReadyIn.nil
            exact AllReadyIn.nil
          exact AllReadyIn.nil
        refine AllReadyIn.cons rfl (fun K hK => ?_) ?_
        · skip
          go_simp
          refine hK _ _ ?_
          clear hK K
          refine wpAnyIn_take (i := 2) (v := .pointer (some ⟨p, 0, none⟩)) rfl rfl (by kernel_rfl) (by kernel_rfl) (by kernel_rfl) (fun _ _ _ h => h) ⟨Or.inl ⟨by rfl, fun w => by go_simp⟩, fun _ => rfl⟩ ?_
          refine wpAnyIn_take (i := 3) (v := .pointer (some ⟨p, 2, none⟩)) rfl rfl (by kernel_rfl) (by kernel_rfl) (by kernel_rfl) (fun _ _ _ h => h) ⟨Or.inl ⟨by rfl, fun w => by go_simp⟩, fun _ => rfl⟩ ?_
          refine wpAnyIn_ready (rs := [0, 4]) (by kernel_rfl) (by simp) ?_
          refine AllReadyIn.cons rfl (fun K hK => ?_) ?_
          · skip
            go_simp
            refine hK _ _ ?_
            clear hK K
            refine wpAnyIn_ready (rs := [4]) (by kernel_rfl) (by simp) ?_
            refine AllReadyIn.cons rfl (fun K hK => ?_) ?_
            · skip
              go_simp
              refine hK _ _ ?_
              clear hK K
              refine wpAnyIn_take (i := 6) (v := .pointer (some ⟨g, (i) * 5, none⟩)) rfl rfl (by kernel_rfl) (by kernel_rfl) (by kernel_rfl) (fun _ _ _ h => h) ⟨Or.inl ⟨by rfl, fun w => by go_simp⟩, fun _ => rfl⟩ ?_
              refine wpAnyIn_take (i := 7) (v := .pointer (some ⟨g, (i) * 5, none⟩)) rfl rfl (by kernel_rfl) (by kernel_rfl) (by kernel_rfl) (fun _ _ _ h => h) ⟨Or.inl ⟨by rfl, fun w => by go_simp⟩, fun _ => rfl⟩ ?_
              refine wpAnyIn_ready (rs := [8]) (by kernel_rfl) (by simp) ?_
              refine AllReadyIn.cons rfl (fun K hK => ?_) ?_
              · skip
                go_simp
                refine hK _ _ ?_
                clear hK K
                refine wpAnyIn_ready (rs := [9]) (by kernel_rfl) (by simp) ?_
                refine AllReadyIn.cons rfl (fun K hK => ?_) ?_
                · skip
                  go_simp
                  refine hK _ _ ?_
                  clear hK K
                  refine wpAnyIn_ready (rs := [10]) (by kernel_rfl) (by simp) ?_
                  refine AllReadyIn.cons rfl (fun K hK => ?_) ?_
                  · skip
                    rw [if_pos (by rfl)]
                    refine append_op rfl rfl rfl hrun (hK _ _ ?_)
                    clear hK K
                    refine wpAnyIn_ready (rs := [11]) (by kernel_rfl) (by simp) ?_
                    refine AllReadyIn.cons rfl (fun K hK => ?_) ?_
                    · skip
                      go_simp
                      refine hK _ _ ?_
                      clear hK K
                      exact wpAnyIn_done (by kernel_rfl) HO.out _
                    exact AllReadyIn.nil
                  exact AllReadyIn.nil
                exact AllReadyIn.nil
              exact AllReadyIn.nil
            exact AllReadyIn.nil
          refine AllReadyIn.cons rfl (fun K hK => ?_) ?_
          · skip
            go_simp
            refine hK _ _ ?_
            clear hK K
            refine wpAnyIn_take (i := 6) (v := .pointer (some ⟨g, (i) * 5, none⟩)) rfl rfl (by kernel_rfl) (by kernel_rfl) (by kernel_rfl) (fun _ _ _ h => h) ⟨Or.inl ⟨by rfl, fun w => by go_simp⟩, fun _ => rfl⟩ ?_
            refine wpAnyIn_take (i := 7) (v := .pointer (some ⟨g, (i) * 5, none⟩)) rfl rfl (by kernel_rfl) (by kernel_rfl) (by kernel_rfl) (fun _ _ _ h => h) ⟨Or.inl ⟨by rfl, fun w => by go_simp⟩, fun _ => rfl⟩ ?_
            refine wpAnyIn_ready (rs := [0, 8]) (by kernel_rfl) (by simp) ?_
            refine AllReadyIn.cons rfl (fun K hK => ?_) ?_
            · skip
              go_simp
              refine hK _ _ ?_
              clear hK K
              refine wpAnyIn_ready (rs := [8]) (by kernel_rfl) (by simp) ?_
              refine AllReadyIn.cons rfl (fun K hK => ?_) ?_
              · skip
                go_simp
                refine hK _ _ ?_
                clear hK K
                refine wpAnyIn_ready (rs := [9]) (by kernel_rfl) (by simp) ?_
                refine AllReadyIn.cons rfl (fun K hK => ?_) ?_
                · skip
                  go_simp
                  refine hK _ _ ?_
                  clear hK K
                  refine wpAnyIn_ready (rs := [10]) (by kernel_rfl) (by simp) ?_
                  refine AllReadyIn.cons rfl (fun K hK => ?_) ?_
                  · skip
                    rw [if_pos (by rfl)]
                    refine append_op rfl rfl rfl hrun (hK _ _ ?_)
                    clear hK K
                    refine wpAnyIn_ready (rs := [11]) (by kernel_rfl) (by simp) ?_
                    refine AllReadyIn.cons rfl (fun K hK => ?_) ?_
                    · skip
                      go_simp
                      refine hK _ _ ?_
                      clear hK K
                      exact wpAnyIn_done (by kernel_rfl) HO.out _
                    exact AllReadyIn.nil
                  exact AllReadyIn.nil
                exact AllReadyIn.nil
              exact AllReadyIn.nil
            refine AllReadyIn.cons rfl (fun K hK => ?_) ?_
            · skip
              go_simp
              refine hK _ _ ?_
              clear hK K
              refine wpAnyIn_ready (rs := [0, 9]) (by kernel_rfl) (by simp) ?_
              refine AllReadyIn.cons rfl (fun K hK => ?_) ?_
              · skip
                go_simp
                refine hK _ _ ?_
                clear hK K
                refine wpAnyIn_ready (rs := [9]) (by kernel_rfl) (by simp) ?_
                refine AllReadyIn.cons rfl (fun K hK => ?_) ?_
                · skip
                  go_simp
                  refine hK _ _ ?_
                  clear hK K
                  refine wpAnyIn_ready (rs := [10]) (by kernel_rfl) (by simp) ?_
                  refine AllReadyIn.cons rfl (fun K hK => ?_) ?_
                  · skip
                    rw [if_pos (by rfl)]
                    refine append_op rfl rfl rfl hrun (hK _ _ ?_)
                    clear hK K
                    refine wpAnyIn_ready (rs := [11]) (by kernel_rfl) (by simp) ?_
                    refine AllReadyIn.cons rfl (fun K hK => ?_) ?_
                    · skip
                      go_simp
                      refine hK _ _ ?_
                      clear hK K
                      exact wpAnyIn_done (by kernel_rfl) HO.out _
                    exact AllReadyIn.nil
                  exact AllReadyIn.nil
                exact AllReadyIn.nil
              refine AllReadyIn.cons rfl (fun K hK => ?_) ?_
              · skip
                go_simp
                refine hK _ _ ?_
                clear hK K
                refine wpAnyIn_ready (rs := [0]) (by kernel_rfl) (by simp) ?_
                refine AllReadyIn.cons rfl (fun K hK => ?_) ?_
                · skip
                  go_simp
                  refine hK _ _ ?_
                  clear hK K
                  refine wpAnyIn_ready (rs := [10]) (by kernel_rfl) (by simp) ?_
                  refine AllReadyIn.cons rfl (fun K hK => ?_) ?_
                  · skip
                    rw [if_pos (by rfl)]
                    refine append_op rfl rfl rfl hrun (hK _ _ ?_)
                    clear hK K
                    refine wpAnyIn_ready (rs := [11]) (by kernel_rfl) (by simp) ?_
                    refine AllReadyIn.cons rfl (fun K hK => ?_) ?_
                    · skip
                      go_simp
                      refine hK _ _ ?_
                      clear hK K
                      exact wpAnyIn_done (by kernel_rfl) HO.out _
                    exact AllReadyIn.nil
                  exact AllReadyIn.nil
                exact AllReadyIn.nil
              exact AllReadyIn.nil
            exact AllReadyIn.nil
          exact AllReadyIn.nil
        exact AllReadyIn.nil
  case done =>
    rintro W ⟨u, hu, hrow, hT⟩ hK
    have hx := hu.cell
    have hsz : V.heap.size < W.heap.size := (Array.getElem?_eq_some_iff.1 hK).1
    have T2 : Turned (fun k => k = V.heap.size ∨ k = V.heap.size + 1) W (W.putObj V.heap.size (.deferred none)) := put_turned _ _ (Or.inl rfl)
    have HR := Hid.in hrow
    have HTT := Hid.in hT
    have HT2 := Hid.in T2
    clear hrow hT T2 hu b0 b1 b2 B3 c2 c2' HE HW
    gi_wp2
    refine ⟨by simp, .inl ⟨_, _, rfl, run_takeDeferred hK, ?_⟩⟩
    exact ⟨_, results_tmp rfl _ _ _, u, rfl, own_low (own_turned_win HR.out HT2.out (fun k hk => by have := (own_base_win HR.out k hk).1; omega)) (by omega), (hVb.trans (HTT.out.below (by omega) (fun k hk => by omega))).trans (HT2.out.below (by omega) (fun k hk => by omega))⟩
  case stop =>
    rintro c i W hi ⟨rfl, hl, u, hu, hrow, hT⟩ hK
    have hx := hu.cell
    have hsz : V.heap.size < W.heap.size := (Array.getElem?_eq_some_iff.1 hK).1
    have T2 : Turned (fun k => k = V.heap.size ∨ k = V.heap.size + 1) W (W.putObj V.heap.size (.deferred none)) := put_turned _ _ (Or.inl rfl)
    have hst := tl_stop pick nm most i hl (N - i)
    rw [show i + (N - i) = N by omega] at hst
    rw [← hst] at hrow
    have HR := Hid.in hrow
    have HTT := Hid.in hT
    have HT2 := Hid.in T2
    clear hrow hT T2 hu b0 b1 b2 B3 c2 c2' HE HW hst hl
    gi_wp2
    refine ⟨by simp, .inl ⟨_, _, rfl, run_takeDeferred hK, ?_⟩⟩
    exact ⟨_, results_tmp rfl _ _ _, u, rfl, own_low (own_turned_win HR.out HT2.out (fun k hk => by have := (own_base_win HR.out k hk).1; omega)) (by omega), (hVb.trans (HTT.out.below (by omega) (fun k hk => by omega))).trans (HT2.out.below (by omega) (fun k hk => by omega))⟩
end Go.Proofs.YtemamhkhjijdlaaGreatDoor
/-
  WINDOW: the numbers of those that are wanted, on the way from the youngest.
-/
namespace Go.Proofs.YtemamhkhjijdlaaGreatDoor
open Go Go.RowKit Go.Shelf
attribute [local go_sem] Oper.semAt_some

set_option maxRecDepth 100000 in
set_option maxHeartbeats 4000000 in
theorem numbersY_in (B p h c : Nat) (v : Value) (S : WS) (most : Int) (caps : Array Value) (pick : Nat → Bool) (w : World) (k : Win w B p h c v S)
    (hw : ∀ (i : Nat) (W : World), i < S.on.length → Below w.heap.size w W → Calls Tryz.prog 240 (#[.int .i64 ((S.on.length : Int) - 1 - i)] ++ caps) W fun e W' => e = .returned (.bool (pick i)) ∧ Below W.heap.size W W') :
    CallsIn Fence.wide 9 Tryz.prog 138 #[.pointer (some ⟨p, 0, none⟩), .func (.func 239) #[.pointer (some ⟨p, 0, none⟩)] #[], .int .i64 most, .func (.func 240) #[] caps] w fun e w' => ∃ u, e = .returned u ∧ w'.ownsRow w.heap.size 3 1 u (tl pick (fun i => S.num (S.on.length - 1 - i)) most S.on.length).length (ints (tl pick (fun i => S.num (S.on.length - 1 - i)) most S.on.length)) ∧ Below w.heap.size w w' := by
  obtain ⟨hp, -, -, c2, -, -⟩ := k.cells
  obtain ⟨q, cap, rfl, hcap, hel⟩ := own_ents k.l
  obtain ⟨hs, -, -, -⟩ := k.small
  obtain ⟨N, hN⟩ : ∃ N, S.on.length = N := ⟨_, rfl⟩
  have HSN := Hid.in hN
  rw [hN] at c2 hs hcap hel hw
  have hel2 : ∀ i, i < N → ∃ g, q = some ⟨g, 0, none⟩ ∧ g < w.heap.size ∧ w.cell? ⟨g, i * 5, none⟩ = some (.int .i64 (S.num i)) := by
    intro i hi
    obtain ⟨g, h1, -, h2, h3, -⟩ := hel i hi
    exact ⟨g, h1, h2, h3⟩
  have HE := Hid.in hel2
  have HW := Hid.in hw
  clear k hel hel2 hN hw
  obtain ⟨i0, hi0, hz0, hz1, hz2⟩ := info_parts (show (Tryz.prog.info? 3).map (fun i => (i.zero, i.size, i.bytes)) = some (some (.int .i64 0), 1, 8) by kernel_rfl)
  obtain ⟨nm, hnm⟩ : ∃ nm : Nat → Int, nm = fun i => S.num (S.on.length - 1 - i) := ⟨_, rfl⟩
  rw [← hnm]
  rw [HSN.out]
  have HNM := Hid.in hnm
  clear hnm
  refine callsIn_of_wp_marks Tryz.func138 rfl trivial ?_ rfl
  simp only [Tryz.ntmps138, List.size_toArray, List.length_cons, List.length_nil, Nat.reduceAdd, Nat.reduceSub, Array.replicate_succ, Array.replicate_zero, List.push_toArray, List.append_toArray, List.nil_append, List.cons_append]
  gi_wp2
  obtain ⟨V, hV⟩ : ∃ V, (((w.alloc (Obj.cells #[Value.pointer (some ⟨p, 0, none⟩)] 133)).alloc (Obj.cells #[Value.int .i64 most] 3)).alloc (Obj.cells #[Value.func (.func 240) #[] caps] 206)).alloc (Obj.cells #[Value.slice none 0 0] 48) = V := ⟨_, rfl⟩
  have hVs : V.heap.size = w.heap.size + 4 := by rw [← hV]; simp
  have hVb : Below w.heap.size w V := by
    rw [← hV]
    exact ((((Below.refl _ w).alloc (Nat.le_refl _) _).alloc (by simp) _).alloc (by simp; omega) _).alloc (by simp; omega) _
  have B0 : Boxed V w.heap.size 133 (.pointer (some ⟨p, 0, none⟩)) := by
    rw [← hV]
    exact (((Boxed.new w _ _).alloc _).alloc _).alloc _
  have B1 : Boxed V (w.heap.size + 1) 3 (.int .i64 most) := by
    have := (((Boxed.new (w.alloc (Obj.cells #[Value.pointer (some ⟨p, 0, none⟩)] 133)) 3 (.int .i64 most)).alloc (Obj.cells #[Value.func (.func 240) #[] caps] 206)).alloc (Obj.cells #[Value.slice none 0 0] 48))
    rw [World.size_alloc, hV] at this
    exact this
  have B2 : Boxed V (w.heap.size + 1 + 1) 206 (.func (.func 240) #[] caps) := by
    have := ((Boxed.new ((w.alloc (Obj.cells #[Value.pointer (some ⟨p, 0, none⟩)] 133)).alloc (Obj.cells #[Value.int .i64 most] 3)) 206 (.func (.func 240) #[] caps)).alloc (Obj.cells #[Value.slice none 0 0] 48))
    rw [World.size_alloc, World.size_alloc, hV] at this
    exact this
  have B3 : Boxed V (w.heap.size + 1 + 1 + 1) 48 (.slice none 0 0) := by
    have := Boxed.new (((w.alloc (Obj.cells #[Value.pointer (some ⟨p, 0, none⟩)] 133)).alloc (Obj.cells #[Value.int .i64 most] 3)).alloc (Obj.cells #[Value.func (.func 240) #[] caps] 206)) 48 (.slice none 0 0)
    rw [World.size_alloc, World.size_alloc, World.size_alloc, hV] at this
    exact this
  have b0 := B0.cell
  have b1 := B1.cell
  have b2 := B2.cell
  have c2' : V.cell? ⟨p, 2, none⟩ = some (.slice q N cap) := (hVb.cell (p := ⟨p, 2, none⟩) hp).trans c2
  rw [hV]
  clear hV B0 B1 B2
  refine range_bound rfl (enters_of Tryz.func239 (by kernel_rfl) rfl) (youngest_hands (9 - 1) p N cap q V (by omega) hs (by omega) c2') rfl
    (fun i W => ∃ u, Boxed W (w.heap.size + 1 + 1 + 1) 48 u ∧ W.ownsRow (V.heap.size + 2) 3 1 u (tl pick nm most i).length (ints (tl pick nm most i)) ∧ Turned (fun k => k = w.heap.size + 1 + 1 + 1) V W)
    (fun c i W => c = .exit 0 ∧ ((tl pick nm most i).length : Int) ≥ most ∧ ∃ u, Boxed W (w.heap.size + 1 + 1 + 1) 48 u ∧ W.ownsRow (V.heap.size + 2) 3 1 u (tl pick nm most i).length (ints (tl pick nm most i)) ∧ Turned (fun k => k = w.heap.size + 1 + 1 + 1) V W)
    (fun i W W' ⟨u, h1, h2, h3⟩ t => ⟨u, (t.block _ h1.lt (by omega)).trans h1, own_turned_win h2 t (fun k hk => by have := (own_base_win h2 k hk).1; omega), h3.trans2 t (fun k hk => by omega)⟩)
    (fun c i W W' ⟨hc, hl, u, h1, h2, h3⟩ t => ⟨hc, hl, u, (t.block _ h1.lt (by omega)).trans h1, own_turned_win h2 t (fun k hk => by have := (own_base_win h2 k hk).1; omega), h3.trans2 t (fun k hk => by omega)⟩)
    ⟨_, B3, World.ownsRow_nil _ _ _ _, Turned.refl _ _⟩
    (fun i => { tmps := #[.pointer (some ⟨p, 0, none⟩), .func (.func 239) #[.pointer (some ⟨p, 0, none⟩)] #[], .int .i64 most, .func (.func 240) #[] caps, .pointer (some ⟨w.heap.size, 0, none⟩), undef, .pointer (some ⟨w.heap.size + 1, 0, none⟩), .pointer (some ⟨w.heap.size + 1 + 1, 0, none⟩), .slice none 0 0, .pointer (some ⟨w.heap.size + 1 + 1 + 1, 0, none⟩), .int .i64 ((N : Int) - 1 - i), .func (.func 239) #[.pointer (some ⟨p, 0, none⟩)] #[], .int .i64 ((N : Int) - 1 - i), undef, undef, undef, undef, undef, undef, undef, undef, undef, undef, undef, undef, undef, undef, undef, undef, undef, undef, undef], defers := [] })
    ?assign ?body ?done ?stop
  case assign =>
    intro l i W K hK
    gi_wp2
    exact hK
  case body =>
    rintro l i W ⟨u, hu, hrow, hT⟩ hi hsz
    obtain ⟨jj, hjj⟩ : ∃ jj : Nat, (N : Int) - 1 - i = jj := ⟨N - 1 - i, by omega⟩
    rw [hjj]
    have hj2 : N - 1 - i = jj := by omega
    have hj3 : jj < N := by omega
    have HJ := Hid.in hj2
    clear hj2
    have hx := hu.cell
    have hx0 : W.cell? ⟨w.heap.size, 0, none⟩ = some (.pointer (some ⟨p, 0, none⟩)) := hT.to_cell (by omega) (by omega) b0
    have hx1 : W.cell? ⟨w.heap.size + 1, 0, none⟩ = some (.int .i64 most) := hT.to_cell (by omega) (by omega) b1
    have hx2 : W.cell? ⟨w.heap.size + 1 + 1, 0, none⟩ = some (.func (.func 240) #[] caps) := hT.to_cell (by omega) (by omega) b2
    have hwb : Below w.heap.size w W := hVb.trans (hT.below (by omega) (fun k hk => by omega))
    have hcall := (callsIn_wide (n := 9 - 1 - 1 - 1)).2 (HW.out i W hi hwb)
    rw [hjj] at hcall
    clear hjj
    obtain ⟨ao, hcp, rfl⟩ : ∃ ao hcp, u = .slice ao (tl pick nm most i).length hcp := by
      rcases hrow.2 with ⟨rfl, h2⟩ | ⟨g, cp, cur, rfl, _⟩
      · exact ⟨none, 0, by rw [h2]⟩
      · exact ⟨_, _, rfl⟩
    have hlen := tl_le pick nm most i
    have enc : tl pick nm most (i + 1) = if ((tl pick nm most i).length : Int) ≥ most then tl pick nm most i else if pick i then tl pick nm most i ++ [nm i] else tl pick nm most i := rfl
    obtain ⟨L, hL⟩ : ∃ L, tl pick nm most i = L := ⟨_, rfl⟩
    obtain ⟨b, hb⟩ : ∃ b, pick i = b := ⟨_, rfl⟩
    rw [hL] at hlen hrow hu hx enc
    rw [hb] at hcall enc
    have HT := Hid.in enc
    have HL := Hid.in hL
    have HR := Hid.in hrow
    have HU := Hid.in hu
    have HTT := Hid.in hT
    have HWB := Hid.in hwb
    have HCL := Hid.in hcall
    have hL64 : L.length < 64 := by omega
    clear enc hL hb hrow hu hT hwb hcall b0 b1 b2 B3 c2
    gi_wp2
    · rename_i hm
      exact ⟨kept_refl _ _, rfl, by rw [HL.out]; exact hm, _, HU.out, by rw [HL.out]; exact HR.out, HTT.out⟩
    · rename_i hm
      refine ⟨trivial, (CallsIn.inRound l HCL.out).mono ?_⟩
      rintro e W1 ⟨rfl, hb1⟩
      have hm2 : ¬ ((L.length : Int) ≥ most) := by omega
      have et := HT.out
      rw [if_neg hm2] at et
      have hz := hb1.size
      cases b with
      | false =>
        rw [if_neg (by decide)] at et
        gi_wp2
        have T1 : Turned (fun _ => False) W W1 := Turned.of_below hb1
        refine ⟨kept_turned T1 hsz (fun q => q) (fun q => q), _, (T1.block _ HU.out.lt (fun q => q)).trans HU.out, by rw [et]; exact own_turned_win HR.out T1 (fun _ _ q => q), HTT.out.trans2 T1 (fun k hk => hk.elim)⟩
      | true =>
        rw [if_pos rfl] at et
        obtain ⟨g, rfl, hg, d0⟩ := HE.out (jj) (by omega)
        have hwb1 := HWB.out.trans (hb1.mono HWB.out.size)
        have y0 : W1.cell? ⟨w.heap.size, 0, none⟩ = some (.pointer (some ⟨p, 0, none⟩)) := (hb1.cell (p := ⟨w.heap.size, 0, none⟩) (by simp; omega)).trans hx0
        have hrow1 : W1.ownsRow (V.heap.size + 2) 3 1 (.slice ao L.length hcp) L.length (ints L) := own_turned_win (Q := fun _ => False) HR.out (Turned.of_below hb1) (fun _ _ q => q)
        have hu1 : Boxed W1 (w.heap.size + 1 + 1 + 1) 48 (.slice ao L.length hcp) := (hb1.block _ HU.out.lt).trans HU.out
        have y3 := hu1.cell
        have y4 := hu1.frozen
        have y5 : W1.cell? ⟨p, 2, none⟩ = some (.slice (some ⟨g, 0, none⟩) N cap) := (hb1.cell (p := ⟨p, 2, none⟩) (by simp; omega)).trans ((HTT.out.to_cell (by omega) (by omega) c2'))
        have y6 : W1.cell? ⟨g, (jj) * 5, none⟩ = some (.int .i64 (nm i)) := by
          rw [HNM.out]
          dsimp only
          rw [HSN.out, HJ.out]
          exact (hwb1.cell (p := ⟨g, (jj) * 5, none⟩) hg).trans d0
        have HR1 := Hid.in hrow1
        have HU1 := Hid.in hu1
        have HB1 := Hid.in hb1
        have ET := Hid.in et
        have e1 : w.heap.size < W1.heap.size := by omega
        have e2 : w.heap.size + 1 + 1 + 1 < W1.heap.size := by omega
        have e3 : p < W1.heap.size := by omega
        have e4 : g < W1.heap.size := by omega
        clear hrow1 hu1 hb1 et hx0 hx1 hx2 hwb1 HU HR HT hx d0 HCL HWB
        have fin : ∀ (v' : Value) (w1 : World), w1.ownsRow (V.heap.size + 2) 3 1 v' (L.length + 1) (ints L ++ [.int .i64 (nm i)]) → (W1.drew.alloc (Obj.cells #[.int .i64 (nm i)] 3)).grownBy w1 (Value.slice ao L.length hcp).ownBlock → kept V.heap.size W (w1.setCell ⟨w.heap.size + 1 + 1 + 1, 0, none⟩ v') ∧ ∃ u, Boxed (w1.setCell ⟨w.heap.size + 1 + 1 + 1, 0, none⟩ v') (w.heap.size + 1 + 1 + 1) 48 u ∧ (w1.setCell ⟨w.heap.size + 1 + 1 + 1, 0, none⟩ v').ownsRow (V.heap.size + 2) 3 1 u (tl pick nm most (i + 1)).length (ints (tl pick nm most (i + 1))) ∧ Turned (fun k => k = w.heap.size + 1 + 1 + 1) V (w1.setCell ⟨w.heap.size + 1 + 1 + 1, 0, none⟩ v') := by
          intro v' w1 hown hgrow
          have hno : ∀ k, (Value.slice ao L.length hcp).ownBlock = some k → V.heap.size + 2 ≤ k := fun k hk => (own_base_win HR1.out k hk).1
          have T0 : Turned (fun k => V.heap.size + 2 ≤ k) W W1 := (Turned.of_below HB1.out)
          have T1 : Turned (fun k => V.heap.size + 2 ≤ k) W1 (W1.drew.alloc (Obj.cells #[.int .i64 (nm i)] 3)) := ((Turned.refl _ W1).drew).alloc _
          have T2 : Turned (fun k => V.heap.size + 2 ≤ k) (W1.drew.alloc (Obj.cells #[.int .i64 (nm i)] 3)) w1 := (turned_grown_win hgrow).mono hno
          have T3 := (T0.trans T1).trans T2
          have T4 : Turned (fun k => k = w.heap.size + 1 + 1 + 1) w1 (w1.setCell ⟨w.heap.size + 1 + 1 + 1, 0, none⟩ v') := (Turned.refl (fun k => k = w.heap.size + 1 + 1 + 1) w1).set (b := w.heap.size + 1 + 1 + 1) rfl _ _
          have s1 := T3.size
          have hu2 : Boxed w1 (w.heap.size + 1 + 1 + 1) 48 (.slice ao L.length hcp) := ((T1.trans T2).block _ HU1.out.lt (by omega)).trans HU1.out
          have hk := kept_turned (T3.mono (R := fun k => V.heap.size + 2 ≤ k ∨ k = w.heap.size + 1 + 1 + 1) (fun k hk => Or.inl hk)) hsz (by omega) (by omega)
          have hk2 := kept_turned T4 (D := V.heap.size) (by omega) (by omega) (by omega)
          refine ⟨⟨hk2.1.trans hk.1, hk2.2.trans hk.2⟩, v', hu2.set v', ?_, (HTT.out.trans2 T3 (fun k hk => by omega)).trans T4⟩
          rw [ET.out]
          have e5 : (L ++ [nm i]).length = L.length + 1 := by simp
          have e6 : ints (L ++ [nm i]) = ints L ++ [.int .i64 (nm i)] := by simp [ints]
          rw [e5, e6]
          exact own_turned_win hown T4 (fun k hk e => by have := (own_base_win hown k hk).1; omega)
        have box : ∀ (w1 : World), (W1.drew.alloc (Obj.cells #[.int .i64 (nm i)] 3)).grownBy w1 (Value.slice ao L.length hcp).ownBlock → w1.cell? ⟨w.heap.size + 1 + 1 + 1, 0, none⟩ = some (.slice ao L.length hcp) ∧ w1.frozen? ⟨w.heap.size + 1 + 1 + 1, 0, none⟩ = false := by
          intro w1 hgrow
          have hno : ∀ k, (Value.slice ao L.length hcp).ownBlock = some k → V.heap.size + 2 ≤ k := fun k hk => (own_base_win HR1.out k hk).1
          have T1 : Turned (fun k => V.heap.size + 2 ≤ k) W1 (W1.drew.alloc (Obj.cells #[.int .i64 (nm i)] 3)) := ((Turned.refl _ W1).drew).alloc _
          have T2 : Turned (fun k => V.heap.size + 2 ≤ k) (W1.drew.alloc (Obj.cells #[.int .i64 (nm i)] 3)) w1 := (turned_grown_win hgrow).mono hno
          have hu2 : Boxed w1 (w.heap.size + 1 + 1 + 1) 48 (.slice ao L.length hcp) := ((T1.trans T2).block _ HU1.out.lt (by omega)).trans HU1.out
          exact ⟨hu2.cell, hu2.frozen⟩
        have HF := Hid.in fin
        have HX := Hid.in box
        clear fin box
        gi_wp2
        have hmo : Tryz.prog.follows .mixedOrders = true := by kernel_rfl
        obtain ⟨v', w1, hrun, r1, r2, r3⟩ := run_append_own (P := Tryz.prog) (W1.drew.alloc (Obj.cells #[.int .i64 (nm i)] 3)) (V.heap.size + 2) 48 48 3 i0 (.int .i64 0) 1 8 Tryz.underlying48 hi0 hz0 hz1 hz2 rfl (by decide) (.slice ao L.length hcp) L.length (ints L) (World.ownsRow.alloc (w := W1.drew) HR1.out _) ⟨W1.heap.size, 0, none⟩ 1 1 [.int .i64 (nm i)] rfl (cell_one_new _ _ _) (by simp [Value.oneCell']) (by unfold maxLen; omega) (by omega) (by simp; omega)
        obtain ⟨g', cap', rfl⟩ := ownsRow_succ r1
        obtain ⟨z1, z2⟩ := HX.out _ r2
        have HO := Hid.in (HF.out _ _ r1 r2)
        clear r1 r2 r3 HF HX
        refine region_round (by kernel_rfl) (by kernel_rfl) ?_
        refine wpAnyIn_take (i := 5) (v := .int .i64 jj) rfl rfl (by kernel_rfl) (by kernel_rfl) (by kernel_rfl) (fun _ _ _ h => h) ⟨Or.inl ⟨by rfl, fun w => by go_simp⟩, fun _ => rfl⟩ ?_
        refine wpAnyIn_ready (rs := [0, 1]) (by kernel_rfl) (by simp) ?_
        refine AllReadyIn.cons rfl (fun K hK => ?_) ?_
        · skip
          go_simp
          refine hK _ _ ?_
          clear hK K
          refine wpAnyIn_ready (rs := [1]) (by kernel_rfl) (by simp) ?_
          refine AllReadyIn.cons rfl (fun K hK => ?_) ?_
          · skip
            go_simp
            refine hK _ _ ?_
            clear hK K
            refine wpAnyIn_take (i := 2) (v := .pointer (some ⟨p, 0, none⟩)) rfl rfl (by kernel_rfl) (by kernel_rfl) (by kernel_rfl) (fun _ _ _ h => h) ⟨Or.inl ⟨by rfl, fun w => by go_simp⟩, fun _ => rfl⟩ ?_
            refine wpAnyIn_take (i := 3) (v := .pointer (some ⟨p, 2, none⟩)) rfl rfl (by kernel_rfl) (by kernel_rfl) (by kernel_rfl) (fun _ _ _ h => h) ⟨Or.inl ⟨by rfl, fun w => by go_simp⟩, fun _ => rfl⟩ ?_
            refine wpAnyIn_ready (rs := [4]) (by kernel_rfl) (by simp) ?_
            refine AllReadyIn.cons rfl (fun K hK => ?_) ?_
            · skip
              go_simp
              refine hK _ _ ?_
              clear hK K
              refine wpAnyIn_take (i := 6) (v := .pointer (some ⟨g, (jj) * 5, none⟩)) rfl rfl (by kernel_rfl) (by kernel_rfl) (by kernel_rfl) (fun _ _ _ h => h) ⟨Or.inl ⟨by rfl, fun w => by go_simp⟩, fun _ => rfl⟩ ?_
              refine wpAnyIn_take (i := 7) (v := .pointer (some ⟨g, (jj) * 5, none⟩)) rfl rfl (by kernel_rfl) (by kernel_rfl) (by kernel_rfl) (fun _ _ _ h => h) ⟨Or.inl ⟨by rfl, fun w => by go_simp⟩, fun _ => rfl⟩ ?_
              refine wpAnyIn_ready (rs := [8]) (by kernel_rfl) (by simp) ?_
              refine AllReadyIn.cons rfl (fun K hK => ?_) ?_
              · skip
                go_simp
                refine hK _ _ ?_
                clear hK K
                refine wpAnyIn_ready (rs := [9]) (by kernel_rfl) (by simp) ?_
                refine AllReadyIn.cons rfl (fun K hK => ?_) ?_
                · skip
                  go_simp
                  refine hK _ _ ?_
                  clear hK K
                  refine wpAnyIn_ready (rs := [10]) (by kernel_rfl) (by simp) ?_
                  refine AllReadyIn.cons rfl (fun K hK => ?_) ?_
                  · skip
                    rw [if_pos (by rfl)]
                    refine append_op rfl rfl rfl hrun (hK _ _ ?_)
                    clear hK K
                    refine wpAnyIn_ready (rs := [11]) (by kernel_rfl) (by simp) ?_
                    refine AllReadyIn.cons rfl (fun K hK => ?_) ?_
                    · skip
                      go_simp
                      refine hK _ _ ?_
                      clear hK K
                      exact wpAnyIn_done (by kernel_rfl) HO.out _
                    exact AllReadyIn.nil
                  exact AllReadyIn.nil
                exact AllReadyIn.nil
              exact AllReadyIn.nil
            exact AllReadyIn.nil
          exact AllReadyIn.nil
        refine AllReadyIn.cons rfl (fun K hK => ?_) ?_
        · skip
          go_simp
          refine hK _ _ ?_
          clear hK K
          refine wpAnyIn_take (i := 2) (v := .pointer (some ⟨p, 0, none⟩)) rfl rfl (by kernel_rfl) (by kernel_rfl) (by kernel_rfl) (fun _ _ _ h => h) ⟨Or.inl ⟨by rfl, fun w => by go_simp⟩, fun _ => rfl⟩ ?_
          refine wpAnyIn_take (i := 3) (v := .pointer (some ⟨p, 2, none⟩)) rfl rfl (by kernel_rfl) (by kernel_rfl) (by kernel_rfl) (fun _ _ _ h => h) ⟨Or.inl ⟨by rfl, fun w => by go_simp⟩, fun _ => rfl⟩ ?_
          refine wpAnyIn_ready (rs := [0, 4]) (by kernel_rfl) (by simp) ?_
          refine AllReadyIn.cons rfl (fun K hK => ?_) ?_
          · skip
            go_simp
            refine hK _ _ ?_
            clear hK K
            refine wpAnyIn_ready (rs := [4]) (by kernel_rfl) (by simp) ?_
            refine AllReadyIn.cons rfl (fun K hK => ?_) ?_
            · skip
              go_simp
              refine hK _ _ ?_
              clear hK K
              refine wpAnyIn_take (i := 6) (v := .pointer (some ⟨g, (jj) * 5, none⟩)) rfl rfl (by kernel_rfl) (by kernel_rfl) (by kernel_rfl) (fun _ _ _ h => h) ⟨Or.inl ⟨by rfl, fun w => by go_simp⟩, fun _ => rfl⟩ ?_
              refine wpAnyIn_take (i := 7) (v := .pointer (some ⟨g, (jj) * 5, none⟩)) rfl rfl (by kernel_rfl) (by kernel_rfl) (by kernel_rfl) (fun _ _ _ h => h) ⟨Or.inl ⟨by rfl, fun w => by go_simp⟩, fun _ => rfl⟩ ?_
              refine wpAnyIn_ready (rs := [8]) (by kernel_rfl) (by simp) ?_
              refine AllReadyIn.cons rfl (fun K hK => ?_) ?_
              · skip
                go_simp
                refine hK _ _ ?_
                clear hK K
                refine wpAnyIn_ready (rs := [9]) (by kernel_rfl) (by simp) ?_
                refine AllReadyIn.cons rfl (fun K hK => ?_) ?_
                · skip
                  go_simp
                  refine hK _ _ ?_
                  clear hK K
                  refine wpAnyIn_ready (rs := [10]) (by kernel_rfl) (by simp) ?_
                  refine AllReadyIn.cons rfl (fun K hK => ?_) ?_
                  · skip
                    rw [if_pos (by rfl)]
                    refine append_op rfl rfl rfl hrun (hK _ _ ?_)
                    clear hK K
                    refine wpAnyIn_ready (rs := [11]) (by kernel_rfl) (by simp) ?_
                    refine AllReadyIn.cons rfl (fun K hK => ?_) ?_
                    · skip
                      go_simp
                      refine hK _ _ ?_
                      clear hK K
                      exact wpAnyIn_done (by kernel_rfl) HO.out _
                    exact AllReadyIn.nil
                  exact AllReadyIn.nil
                exact AllReadyIn.nil
              exact AllReadyIn.nil
            exact AllReadyIn.nil
          refine AllReadyIn.cons rfl (fun K hK => ?_) ?_
          · skip
            go_simp
            refine hK _ _ ?_
            clear hK K
            refine wpAnyIn_take (i := 6) (v := .pointer (some ⟨g, (jj) * 5, none⟩)) rfl rfl (by kernel_rfl) (by kernel_rfl) (by kernel_rfl) (fun _ _ _ h => h) ⟨Or.inl ⟨by rfl, fun w => by go_simp⟩, fun _ => rfl⟩ ?_
            refine wpAnyIn_take (i := 7) (v := .pointer (some ⟨g, (jj) * 5, none⟩)) rfl rfl (by kernel_rfl) (by kernel_rfl) (by kernel_rfl) (fun _ _ _ h => h) ⟨Or.inl ⟨by rfl, fun w => by go_simp⟩, fun _ => rfl⟩ ?_
            refine wpAnyIn_ready (rs := [0, 8]) (by kernel_rfl) (by simp) ?_
            refine AllReadyIn.cons rfl (fun K hK => ?_) ?_
            · skip
              go_simp
              refine hK _ _ ?_
              clear hK K
              refine wpAnyIn_ready (rs := [8]) (by kernel_rfl) (by simp) ?_
              refine AllReadyIn.cons rfl (fun K hK => ?_) ?_
              · skip
                go_simp
                refine hK _ _ ?_
                clear hK K
                refine wpAnyIn_ready (rs := [9]) (by kernel_rfl) (by simp) ?_
                refine AllReadyIn.cons rfl (fun K hK => ?_) ?_
                · skip
                  go_simp
                  refine hK _ _ ?_
                  clear hK K
                  refine wpAnyIn_ready (rs := [10]) (by kernel_rfl) (by simp) ?_
                  refine AllReadyIn.cons rfl (fun K hK => ?_) ?_
                  · skip
                    rw [if_pos (by rfl)]
                    refine append_op rfl rfl rfl hrun (hK _ _ ?_)
                    clear hK K
                    refine wpAnyIn_ready (rs := [11]) (by kernel_rfl) (by simp) ?_
                    refine AllReadyIn.cons rfl (fun K hK => ?_) ?_
                    · skip
                      go_simp
                      refine hK _ _ ?_
                      clear hK K
                      exact wpAnyIn_done (by kernel_rfl) HO.out _
                    exact AllReadyIn.nil
                  exact AllReadyIn.nil
                exact AllReadyIn.nil
              exact AllReadyIn.nil
            refine AllReadyIn.cons rfl (fun K hK => ?_) ?_
            · skip
              go_simp
              refine hK _ _ ?_
              clear hK K
              refine wpAnyIn_ready (rs := [0, 9]) (by kernel_rfl) (by simp) ?_
              refine AllReadyIn.cons rfl (fun K hK => ?_) ?_
              · skip
                go_simp
                refine hK _ _ ?_
                clear hK K
                refine wpAnyIn_ready (rs := [9]) (by kernel_rfl) (by simp) ?_
                refine AllReadyIn.cons rfl (fun K hK => ?_) ?_
                · skip
                  go_simp
                  refine hK _ _ ?_
                  clear hK K
                  refine wpAnyIn_ready (rs := [10]) (by kernel_rfl) (by simp) ?_
                  refine AllReadyIn.cons rfl (fun K hK => ?_) ?_
                  · skip
                    rw [if_pos (by rfl)]
                    refine append_op rfl rfl rfl hrun (hK _ _ ?_)
                    clear hK K
                    refine wpAnyIn_ready (rs := [11]) (by kernel_rfl) (by simp) ?_
                    refine AllReadyIn.cons rfl (fun K hK => ?_) ?_
                    · skip
                      go_simp
                      refine hK _ _ ?_
                      clear hK K
                      exact wpAnyIn_done (by kernel_rfl) HO.out _
                    exact AllReadyIn.nil
                  exact AllReadyIn.nil
                exact AllReadyIn.nil
              refine AllReadyIn.cons rfl (fun K hK => ?_) ?_
              · skip
                go_simp
                refine hK _ _ ?_
                clear hK K
                refine wpAnyIn_ready (rs := [0]) (by kernel_rfl) (by simp) ?_
                refine AllReadyIn.cons rfl (fun K hK => ?_) ?_
                · skip
                  go_simp
                  refine hK _ _ ?_
                  clear hK K
                  refine wpAnyIn_ready (rs := [10]) (by kernel_rfl) (by simp) ?_
                  refine AllReadyIn.cons rfl (fun K hK => ?_) ?_
                  · skip
                    rw [if_pos (by rfl)]
                    refine append_op rfl rfl rfl hrun (hK _ _ ?_)
                    clear hK K
                    refine wpAnyIn_ready (rs := [11]) (by kernel_rfl) (by simp) ?_
                    refine AllReadyIn.cons rfl (fun K hK => ?_) ?_
                    · skip
                      go_simp
                      refine hK _ _ ?_
                      clear hK K
                      exact wpAnyIn_done (by kernel_rfl) HO.out _
                    exact AllReadyIn.nil
                  exact AllReadyIn.nil
                exact AllReadyIn.nil
              exact AllReadyIn.nil
            exact AllReadyIn.nil
          exact AllReadyIn.nil
        exact AllReadyIn.nil
  case done =>
    rintro W ⟨u, hu, hrow, hT⟩ hK
    have hx := hu.cell
    have hsz : V.heap.size < W.heap.size := (Array.getElem?_eq_some_iff.1 hK).1
    have T2 : Turned (fun k => k = V.heap.size ∨ k = V.heap.size + 1) W (W.putObj V.heap.size (.deferred none)) := put_turned _ _ (Or.inl rfl)
    have HR := Hid.in hrow
    have HTT := Hid.in hT
    have HT2 := Hid.in T2
    clear hrow hT T2 hu b0 b1 b2 B3 c2 c2' HE HW
    gi_wp2
    refine ⟨by simp, .inl ⟨_, _, rfl, run_takeDeferred hK, ?_⟩⟩
    exact ⟨_, results_tmp rfl _ _ _, u, rfl, own_low (own_turned_win HR.out HT2.out (fun k hk => by have := (own_base_win HR.out k hk).1; omega)) (by omega), (hVb.trans (HTT.out.below (by omega) (fun k hk => by omega))).trans (HT2.out.below (by omega) (fun k hk => by omega))⟩
  case stop =>
    rintro c i W hi ⟨rfl, hl, u, hu, hrow, hT⟩ hK
    have hx := hu.cell
    have hsz : V.heap.size < W.heap.size := (Array.getElem?_eq_some_iff.1 hK).1
    have T2 : Turned (fun k => k = V.heap.size ∨ k = V.heap.size + 1) W (W.putObj V.heap.size (.deferred none)) := put_turned _ _ (Or.inl rfl)
    have hst := tl_stop pick nm most i hl (N - i)
    rw [show i + (N - i) = N by omega] at hst
    rw [← hst] at hrow
    have HR := Hid.in hrow
    have HTT := Hid.in hT
    have HT2 := Hid.in T2
    clear hrow hT T2 hu b0 b1 b2 B3 c2 c2' HE HW hst hl
    gi_wp2
    refine ⟨by simp, .inl ⟨_, _, rfl, run_takeDeferred hK, ?_⟩⟩
    exact ⟨_, results_tmp rfl _ _ _, u, rfl, own_low (own_turned_win HR.out HT2.out (fun k hk => by have := (own_base_win HR.out k hk).1; omega)) (by omega), (hVb.trans (HTT.out.below (by omega) (fun k hk => by omega))).trans (HT2.out.below (by omega) (fun k hk => by omega))⟩
end Go.Proofs.YtemamhkhjijdlaaGreatDoor
