/-
  THE ANSWER: Squash.
-/
import Derived.Test.YtckglpmjaplcnaaDoorUh
namespace Go.Proofs.YtckglpmjaplcnaaDoor
open Go Go.RowKit
def lenAt (p : Nat) (w : World) : Nat := match w.cell? ⟨p, 2, none⟩ with
  | some (.slice _ m _) => m
  | _ => 0
theorem lenAt_eq {p : Nat} {w : World} {q : Option Addr} {m c : Nat} (h : w.cell? ⟨p, 2, none⟩ = some (.slice q m c)) : lenAt p w = m := by
  unfold lenAt
  rw [h]
theorem append_op1 {P : Program} {o : Oper} {a : Act} {w w' : World} {K : Act → World → Prop} {Q : Exit → Act → World → Prop} {s x : Operand} {t : TypeId} {v u v' : Value} {d : Nat} (ho : o.op = Op.call { callee := Callee.builtin Builtin.append, args := #[s, x], argTypes := #[t, t] }) (hd : o.dst = some d) (hs : a.eval s = v) (hx : a.eval x = u) (hr : (Builtin.append_ #[t, t] o.type #[v, u]).run P w = .ok v' w') (hK : K (a.put (some d) v') w') : o.wp P a w K Q :=
  append_op0 ho hs hx hr (by rw [hd]; exact hK)
def WS.Asc (S : WS) : Prop := ∀ i j, i < j → j < S.on.length → S.num i < S.num j
def WS.gl (S : WS) (m : Nat) : List Int := (List.range (S.on.length - m)).map fun i => S.num (S.on.length - 1 - i)
theorem filter_lt (t : Nat) : ∀ n, t ≤ n → (List.range n).filter (fun i => decide (i < t)) = List.range t
  | 0, h => by
    obtain rfl : t = 0 := by omega
    rfl
  | n + 1, h => by
    rw [List.range_succ, List.filter_append]
    by_cases e : t = n + 1
    · subst e
      have h1 : (List.range n).filter (fun i => decide (i < n + 1)) = List.range n := by
        rw [List.filter_eq_self]
        intro a ha
        have := List.mem_range.1 ha
        simp
        omega
      rw [h1, List.range_succ]
      simp
    · rw [filter_lt t n (by omega)]
      have : ¬ n < t := by omega
      simp [this]
theorem gone_is (S : WS) (af : Int) (m : Nat) (hm : m ≤ S.on.length) (h1 : ∀ i, m ≤ i → i < S.on.length → af < S.num i) (h2 : ∀ i, i < m → ¬ af < S.num i) : S.gone af = S.gl m := by
  unfold WS.gone WS.gl
  rw [tl_filter _ _ _ S.on.length (Int.le_refl _)]
  congr 1
  rw [← filter_lt (S.on.length - m) S.on.length (by omega)]
  refine List.filter_congr fun i hi => ?_
  have hi2 := List.mem_range.1 hi
  apply decide_eq_decide.2
  constructor
  · intro q
    rcases Nat.lt_or_ge i (S.on.length - m) with a | a
    · exact a
    · exact absurd q (h2 _ (by omega))
  · intro q
    exact h1 _ (by omega) (by omega)
theorem gl_next (S : WS) (m : Nat) (hm : m < S.on.length) : S.gl m = S.gl (m + 1) ++ [S.num m] := by
  unfold WS.gl
  rw [show S.on.length - m = (S.on.length - (m + 1)) + 1 by omega, List.range_succ, List.map_append]
  simp
  congr 1
  omega
theorem gl_len (S : WS) (m : Nat) : (S.gl m).length = S.on.length - m := by simp [WS.gl]
theorem squash_is (S : WS) (af : Int) (m : Nat) (hm : m ≤ S.on.length) (h : S.gone af = S.gl m) : S.squash af = { S with on := S.on.take m } := by
  unfold WS.squash
  rw [h, gl_len, show S.on.length - (S.on.length - m) = m by omega]
set_option maxRecDepth 100000 in
set_option maxHeartbeats 4000000 in
theorem rsquash_any (B p h c : Nat) (v : Value) (S : WS) (af : Int) (w : World) (k : RWin w B p h c v S) (hasc : S.Asc) : Calls Tryd.prog 23 #[.pointer (some ⟨p, 0, none⟩), .int .i64 af] w fun e w' => ∃ u v', e = .returned u ∧ w'.ownsRow w.heap.size 3 1 u (S.gone af).length (ints (S.gone af)) ∧ v'.ownBlock = v.ownBlock ∧ RWin w' B p h c v' (S.squash af) ∧ Turned (fun k => k = p) w w' := by
  have hp := k.c.here
  obtain ⟨q, cap, rfl, hcap, -⟩ := k.see
  have hs := k.small.1
  have HK := Hid.in k
  have HA := Hid.in hasc
  have HZ : Hid (RWin w B p h c (.slice q S.on.length cap) { S with on := S.on.take S.on.length }) := by rw [List.take_length]; exact k
  have hgz : S.gl S.on.length = [] := by simp [WS.gl]
  have HGZ := Hid.in hgz
  clear hgz
  clear k hasc
  go_enter Tryd.func23, Tryd.ntmps23
  go_wp2
  go_loopw [5] (fun uv wr => ∃ (m : Nat) (u : Value), u = uv ∧ m ≤ S.on.length ∧ (∀ i, m ≤ i → i < S.on.length → af < S.num i) ∧ wr.ownsRow w.heap.size 3 1 u (S.gl m).length (ints (S.gl m)) ∧ RWin wr B p h c (.slice q m cap) { S with on := S.on.take m } ∧ Turned (fun k => k = p) w wr) (fun _ wr => lenAt p wr)
  case atStart => exact ⟨S.on.length, _, rfl, Nat.le_refl _, fun i h1 h2 => by omega, by rw [HGZ.out]; exact World.ownsRow_nil _ _ _ _, HZ.out, Turned.refl _ _⟩
  case round =>
    obtain ⟨m, u, rfl, hm, hgt, hrow, kr, ht⟩ := hrel
    obtain ⟨uq, ucap, hu1, hu2, -⟩ := own_ints hrow
    have hgl := gl_len S m
    obtain ⟨L, hL⟩ : ∃ L, S.gl m = L := ⟨_, rfl⟩
    rw [hL] at hrow hu1 hu2 hgl
    subst hu1
    have HL := Hid.in hL
    have HR := Hid.in hrow
    have HKR := Hid.in kr
    have HT := Hid.in ht
    have HGT := Hid.in hgt
    obtain ⟨hpw, -, -, x2, -, xf⟩ := kr.cells
    have f2 := xf 2
    have hzr := ht.size
    have hL64 : L.length ≤ 64 := by omega
    clear hrow kr ht hgt hL xf HZ hgl
    cases m with
    | zero =>
      have hu : undef = Value.tuple #[] := rfl
      go_wp2
      go_quiet (fail)
      go_wp2
      go_ret
      have e1 := gone_is S af 0 (Nat.zero_le _) HGT.out (fun i hi => by omega)
      refine ⟨_, .slice q 0 cap, rfl, ?_, by cases q <;> rfl, ?_, HT.out.drewN _⟩
      · rw [e1, HL.out]
        exact own_turned (Q := fun _ => False) HR.out ((Turned.refl _ wr).drewN _) (fun _ _ q => q)
      · rw [squash_is S af 0 (Nat.zero_le _) e1]
        exact HKR.out.below (below_drewN _ _)
    | succ m =>
      obtain ⟨q2, cap2, e1, -, hel⟩ := HKR.out.see
      have hl2 : (S.on.take (m + 1)).length = m + 1 := by rw [List.length_take]; omega
      obtain ⟨g, hq, hg, d0, -⟩ := hel m (show m < (S.on.take (m + 1)).length by omega)
      have e2 : q2 = q := by simp only [Value.slice.injEq] at e1; exact e1.1.symm
      rw [e2] at hq
      have e3 : ((S.on.take (m + 1)).getD m e0).num = S.num m := by
        unfold WS.num
        simp only [List.getD_eq_getElem?_getD]
        rw [List.getElem?_take, if_pos (by omega)]
      have d0' : wr.cell? ⟨g, m * 5, none⟩ = some (.int .i64 (S.num m)) := by rw [← e3]; exact d0
      have HNG : Hid (∀ (u : Value) (n : Nat) (xs : List Value), wr.ownsRow w.heap.size 3 1 u n xs → u.ownBlock ≠ some g ∧ u.ownBlock ≠ some p) := by
        intro u n xs hu
        refine ⟨fun q => ?_, fun q => ?_⟩
        · have h1 := (own_base hu g q).1
          have h2 := (own_base HK.out.l g (by rw [hq]; rfl)).2
          omega
        · have h1 := (own_base hu p q).1
          omega
      subst hq
      clear hel e1 e2 e3 d0 hl2
      obtain ⟨nm, hnm⟩ : ∃ nm, S.num m = nm := ⟨_, rfl⟩
      rw [hnm] at d0'
      have HNM := Hid.in hnm
      clear hnm
      by_cases hcmp : af < nm
      · go_wp2
        go_quiet (fail)
        go_wp2
        obtain ⟨X, hX⟩ : ∃ X, wr.drewN nq = X := ⟨_, rfl⟩
        rw [hX]
        have TX : Turned (fun _ => False) wr X := by rw [← hX]; exact (Turned.refl _ wr).drewN nq
        have kX := HKR.out.turned TX (fun q => q) (fun q => q) (fun _ _ q => q)
        have rX := own_turned HR.out TX (fun _ _ q => q)
        have hpX : p < X.heap.size := Nat.lt_of_lt_of_le hpw TX.size
        have hgX : g < X.heap.size := Nat.lt_of_lt_of_le hg TX.size
        have X2 := TX.to_cell hpw (fun q => q) x2
        have X0 := TX.to_cell hg (fun q => q) d0'
        have hzX : w.heap.size ≤ X.heap.size := by have := TX.size; omega
        obtain ⟨g3, cap3, z, hrun, r3, t3, b3⟩ := app_int (B := w.heap.size) X.drew (.slice uq L.length ucap) L nm rX (by omega) hzX
        obtain ⟨ng, np⟩ := HNG.out _ _ _ HR.out
        have hpz : p < z.heap.size := Nat.lt_of_lt_of_le hpX t3.size
        have hgz : g < z.heap.size := Nat.lt_of_lt_of_le hgX t3.size
        have Z2 : z.cell? ⟨p, 2, none⟩ = some (.slice (some ⟨g, 0, none⟩) (m + 1) cap) := t3.to_cell (x := X.drew) hpX np X2
        have Z0 : z.cell? ⟨g, m * 5, none⟩ = some (.int .i64 nm) := t3.to_cell (x := X.drew) hgX ng X0
        have t3' : Turned (fun j => (Value.slice uq L.length ucap).ownBlock = some j) X z := ((Turned.refl _ X).drew).trans t3
        have kz := kX.turned t3' (fun q => np q) (fun q => by have h1 := (own_base HR.out h q).1; have h2 := HK.out.a.here; omega) (fun j hj q => by simp [Value.ownBlock] at hj; subst hj; exact ng q)
        have f2z := kz.c.free 2
        have hl2 : (S.on.take (m + 1)).length = m + 1 := by rw [List.length_take]; omega
        have kcut : RWin (z.setCell ⟨p, 2, none⟩ (.slice (some ⟨g, 0, none⟩) m cap)).drew B p h c (.slice (some ⟨g, 0, none⟩) m cap) { S with on := S.on.take m } := by
          have k3 : RWin z B p h c (.slice (some ⟨g, 0, none⟩) (S.on.take (m + 1)).length cap) { S with on := S.on.take (m + 1) } := by rw [hl2]; exact kz
          have k4 := RWin.cut (S := { S with on := S.on.take (m + 1) }) k3 m (show m ≤ (S.on.take (m + 1)).length by omega)
          have e5 : (S.on.take (m + 1)).take m = S.on.take m := by rw [List.take_take, Nat.min_eq_left (by omega)]
          dsimp only at k4
          rw [e5] at k4
          exact k4.below (Below.refl _ _).drew
        have TF : Turned (fun k => k = p) w (z.setCell ⟨p, 2, none⟩ (.slice (some ⟨g, 0, none⟩) m cap)).drew := by
          have a1 : Turned (fun k => k = p) w X := HT.out.trans2 TX (fun _ q => q.elim)
          have a2 : Turned (fun k => k = p) w z := a1.trans2 t3' (fun j q => (own_base rX j q).1)
          exact (a2.set (b := p) rfl _ _).drew
        have rF : (z.setCell ⟨p, 2, none⟩ (.slice (some ⟨g, 0, none⟩) m cap)).drew.ownsRow w.heap.size 3 1 (.slice (some ⟨g3, 0, none⟩) (L.length + 1) cap3) (S.gl m).length (ints (S.gl m)) := by
          have e6 : S.gl m = L ++ [nm] := by rw [gl_next S m (by omega), HL.out, HNM.out]
          have e7 : (L ++ [nm]).length = L.length + 1 := by simp
          rw [e6, e7]
          exact own_turned r3 (((Turned.refl (fun k => k = p) z).set (b := p) rfl _ _).drew) (fun j hj e => by have h1 := (own_base r3 j hj).1; omega)
        have REL : Hid (∃ (m' : Nat) (u : Value), u = .slice (some ⟨g3, 0, none⟩) (L.length + 1) cap3 ∧ m' ≤ S.on.length ∧ (∀ i, m' ≤ i → i < S.on.length → af < S.num i) ∧ (z.setCell ⟨p, 2, none⟩ (.slice (some ⟨g, 0, none⟩) m cap)).drew.ownsRow w.heap.size 3 1 u (S.gl m').length (ints (S.gl m')) ∧ RWin (z.setCell ⟨p, 2, none⟩ (.slice (some ⟨g, 0, none⟩) m cap)).drew B p h c (.slice (some ⟨g, 0, none⟩) m' cap) { S with on := S.on.take m' } ∧ Turned (fun k => k = p) w (z.setCell ⟨p, 2, none⟩ (.slice (some ⟨g, 0, none⟩) m cap)).drew) := by
          refine ⟨m, _, rfl, by omega, fun i h1 h2 => ?_, rF, kcut, TF⟩
          by_cases e : i = m
          · subst e
            rw [HNM.out]
            exact hcmp
          · exact HGT.out i (by omega) h2
        have ZF : (z.setCell ⟨p, 2, none⟩ (.slice (some ⟨g, 0, none⟩) m cap)).drew.cell? ⟨p, 2, none⟩ = some (.slice (some ⟨g, 0, none⟩) m cap) := World.cell?_setCell_same z _ _ Z2
        clear rF kcut TF kz t3' t3 b3 r3 kX rX HKR HT HR HGT hX TX
        have hsub : (m : Int) + 1 - 1 = (m : Int) := by omega
        have hwr := wrap_small m (by omega)
        have hm0 : ¬ ((m : Int) < 0) := by omega
        go_region_held_law (fun w' => w'.cell? ⟨p, 2, none⟩ = some (.slice (some ⟨g, 0, none⟩) (m + 1) cap) ∧ w'.cell? ⟨g, m * 5, none⟩ = some (.int .i64 nm)) (go_keep) ((rw [if_pos (by rfl)]; refine append_op1 (d := 44) (v := .slice uq L.length ucap) (u := .slice (some ⟨X.heap.size, 0, none⟩) 1 1) rfl (by kernel_rfl) (by kernel_rfl) (by kernel_rfl) hrun ?_))
        go_wp2
        refine wp_region_any (by kernel_rfl) ?_
        change wpAny _ _ _ _ _ _ _ (World.drew _)
        refine wpAny_take (i := 0) (v := .pointer (some ⟨p, 0, none⟩)) rfl (by kernel_rfl) (by kernel_rfl) (by kernel_rfl) (fun _ _ _ h => h) (Or.inl ⟨by rfl, fun w => by go_simp⟩) ?_
        refine wpAny_take (i := 1) (v := .pointer (some ⟨p, 0, none⟩)) rfl (by kernel_rfl) (by kernel_rfl) (by kernel_rfl) (fun _ _ _ h => h) (Or.inl ⟨by rfl, fun w => by go_simp⟩) ?_
        refine wpAny_take (i := 2) (v := .pointer (some ⟨p, 0, none⟩)) rfl (by kernel_rfl) (by kernel_rfl) (by kernel_rfl) (fun _ _ _ h => h) (Or.inl ⟨by rfl, fun w => by go_simp⟩) ?_
        refine wpAny_take (i := 3) (v := .pointer (some ⟨p, 2, none⟩)) rfl (by kernel_rfl) (by kernel_rfl) (by kernel_rfl) (fun _ _ _ h => h) (Or.inl ⟨by rfl, fun w => by go_simp⟩) ?_
        refine wpAny_take (i := 5) (v := .pointer (some ⟨p, 0, none⟩)) rfl (by kernel_rfl) (by kernel_rfl) (by kernel_rfl) (fun _ _ _ h => h) (Or.inl ⟨by rfl, fun w => by go_simp⟩) ?_
        refine wpAny_take (i := 6) (v := .pointer (some ⟨p, 0, none⟩)) rfl (by kernel_rfl) (by kernel_rfl) (by kernel_rfl) (fun _ _ _ h => h) (Or.inl ⟨by rfl, fun w => by go_simp⟩) ?_
        refine wpAny_take (i := 7) (v := .pointer (some ⟨p, 2, none⟩)) rfl (by kernel_rfl) (by kernel_rfl) (by kernel_rfl) (fun _ _ _ h => h) (Or.inl ⟨by rfl, fun w => by go_simp⟩) ?_
        refine wpAny_ready (rs := [4, 8]) (by kernel_rfl) (by simp) ?_
        refine AllReady.cons rfl (fun K hK => ?_) ?_
        · skip
          go_simp
          refine hK _ _ ?_
          clear hK K
          refine wpAny_ready (rs := [8]) (by kernel_rfl) (by simp) ?_
          refine AllReady.cons rfl (fun K hK => ?_) AllReady.nil
          go_simp
          refine hK _ _ ?_
          clear hK K
          refine wpAny_take (i := 9) (v := .int .i64 ((m : Int) + 1)) rfl (by kernel_rfl) (by kernel_rfl) (by kernel_rfl) (fun _ _ _ h => h) (Or.inl ⟨by rfl, fun w => by go_simp⟩) ?_
          refine wpAny_take (i := 10) (v := .int .i64 m) rfl (by kernel_rfl) (by kernel_rfl) (by kernel_rfl) (fun _ _ _ h => h) (Or.inl ⟨by rfl, fun w => by go_simp⟩) ?_
          refine wpAny_take (i := 11) (v := .slice (some ⟨g, 0, none⟩) m cap) rfl (by kernel_rfl) (by kernel_rfl) (by kernel_rfl) (fun _ _ _ h => h) (Or.inl ⟨by rfl, fun w => by go_simp <;> (intro q; omega)⟩) ?_
          refine wpAny_take (i := 12) (v := .pointer (some ⟨p, 0, none⟩)) rfl (by kernel_rfl) (by kernel_rfl) (by kernel_rfl) (fun _ _ _ h => h) (Or.inl ⟨by rfl, fun w => by go_simp⟩) ?_
          refine wpAny_take (i := 13) (v := .pointer (some ⟨p, 2, none⟩)) rfl (by kernel_rfl) (by kernel_rfl) (by kernel_rfl) (fun _ _ _ h => h) (Or.inl ⟨by rfl, fun w => by go_simp⟩) ?_
          refine wpAny_ready (rs := [14]) (by kernel_rfl) (by simp) ?_
          refine AllReady.cons rfl (fun K hK => ?_) AllReady.nil
          go_simp
          refine hK _ _ ?_
          clear hK K
          refine wpAny_done (by kernel_rfl) ?_ _
          go_wp2
          go_roundw
          case rel => exact REL.out
          case measure => rw [lenAt_eq ZF, lenAt_eq x2]; omega
        refine AllReady.cons rfl (fun K hK => ?_) AllReady.nil
        go_simp
        refine hK _ _ ?_
        clear hK K
        refine wpAny_take (i := 9) (v := .int .i64 ((m : Int) + 1)) rfl (by kernel_rfl) (by kernel_rfl) (by kernel_rfl) (fun _ _ _ h => h) (Or.inl ⟨by rfl, fun w => by go_simp⟩) ?_
        refine wpAny_take (i := 10) (v := .int .i64 m) rfl (by kernel_rfl) (by kernel_rfl) (by kernel_rfl) (fun _ _ _ h => h) (Or.inl ⟨by rfl, fun w => by go_simp⟩) ?_
        refine wpAny_ready (rs := [4]) (by kernel_rfl) (by simp) ?_
        refine AllReady.cons rfl (fun K hK => ?_) AllReady.nil
        go_simp
        refine hK _ _ ?_
        clear hK K
        refine wpAny_take (i := 11) (v := .slice (some ⟨g, 0, none⟩) m cap) rfl (by kernel_rfl) (by kernel_rfl) (by kernel_rfl) (fun _ _ _ h => h) (Or.inl ⟨by rfl, fun w => by go_simp <;> (intro q; omega)⟩) ?_
        refine wpAny_take (i := 12) (v := .pointer (some ⟨p, 0, none⟩)) rfl (by kernel_rfl) (by kernel_rfl) (by kernel_rfl) (fun _ _ _ h => h) (Or.inl ⟨by rfl, fun w => by go_simp⟩) ?_
        refine wpAny_take (i := 13) (v := .pointer (some ⟨p, 2, none⟩)) rfl (by kernel_rfl) (by kernel_rfl) (by kernel_rfl) (fun _ _ _ h => h) (Or.inl ⟨by rfl, fun w => by go_simp⟩) ?_
        refine wpAny_ready (rs := [14]) (by kernel_rfl) (by simp) ?_
        refine AllReady.cons rfl (fun K hK => ?_) AllReady.nil
        go_simp
        refine hK _ _ ?_
        clear hK K
        refine wpAny_done (by kernel_rfl) ?_ _
        go_wp2
        go_roundw
        case rel => exact REL.out
        case measure => rw [lenAt_eq ZF, lenAt_eq x2]; omega
      · go_wp2
        go_quiet (fail)
        go_wp2
        go_ret
        have e1 := gone_is S af (m + 1) hm HGT.out (fun i hi q => by
          have h1 : S.num i ≤ S.num m := by
            by_cases e : i = m
            · rw [e]; exact Int.le_refl _
            · exact Int.le_of_lt (HA.out i m (by omega) (by omega))
          have := HNM.out
          omega)
        refine ⟨_, .slice (some ⟨g, 0, none⟩) (m + 1) cap, rfl, ?_, rfl, ?_, HT.out.drewN _⟩
        · rw [e1, HL.out]
          exact own_turned (Q := fun _ => False) HR.out ((Turned.refl _ wr).drewN _) (fun _ _ q => q)
        · rw [squash_is S af (m + 1) hm e1]
          exact HKR.out.below (below_drewN _ _)
end Go.Proofs.YtckglpmjaplcnaaDoor
