import Derived.Test.YtlogdmnhngbkaaaDoorY03
import Derived.Great.BuildSlice
/-
  CACHE: Fill.
-/
namespace Go.Proofs.YtlogdmnhngbkaaaDoor
open Go Go.RowKit
theorem append_op0 {P : Program} {o : Oper} {a : Act} {w w' : World} {K : Act → World → Prop} {Q : Exit → Act → World → Prop} {s x : Operand} {t : TypeId} {v u v' : Value} (ho : o.op = Op.call { callee := Callee.builtin Builtin.append, args := #[s, x], argTypes := #[t, t] }) (hs : a.eval s = v) (hx : a.eval x = u) (hr : (Builtin.append_ #[t, t] o.type #[v, u]).run P w = .ok v' w') (hK : K (a.put o.dst v') w') : o.wp P a w K Q := by
  unfold Oper.wp
  simp [execOp, ho, resolve, invoke, builtin, hs, hx, hr, Result.andThen]
  exact hK
theorem below_drewN' {B : Nat} {x y : World} (h : Below B x y) (n : Nat) : Below B x (y.drewN n) := ⟨h.os, h.tape, h.output, h.size, h.block⟩
theorem Turned.trans2'' {Q R : Nat → Prop} {x y z : World} (h : Turned Q x y) (k : Turned R y z) (hr : ∀ i, R i → Q i ∨ x.heap.size ≤ i) : Turned Q x z :=
  ⟨k.os.trans h.os, k.tape.trans h.tape, k.output.trans h.output, Nat.le_trans h.size k.size, fun i hi hb => (k.block i (Nat.lt_of_lt_of_le hi h.size) (fun q => (hr i q).elim hb (by omega))).trans (h.block i hi hb)⟩
theorem exec_build {P : Program} (a : Act) (o : Oper) (t : TypeId) (parts : Array (Nat × Operand)) (ho : o.op = .build t parts) (cells : Array Value) (h : P.built t (parts.map fun (i, x) => (i, a.eval x)).toList = some cells) (w : World) : (execOp a.eval o).run P w = .ok (.value (.agg cells)) w := by
  unfold execOp
  simp only [ho, Sem.run_bind, run_build w t _ cells h, Result.andThen_ok, Sem.run_pure]
def CS.full (S : CS) (a : Nat) : Bool := decide ((S.set (S.of a)).length = S.ways)
def CS.left (S : CS) (a : Nat) : Ln := if S.full a then (S.set (S.of a)).getD 0 l0 else l0
def CS.kept (S : CS) (a : Nat) : List Ln := if S.full a then rest (S.set (S.of a)) 0 else S.set (S.of a)
def CS.fill (S : CS) (a s : Nat) (b : Nat → Nat) : CS := S.put (S.of a) (S.kept a ++ [⟨a, s, b⟩])
theorem arr_info : (Tryd.prog.info? 98).map (·.size) = some 16 := by kernel_rfl
theorem there_new (w : World) (t : TypeId) : (w.alloc (.cells zl t)).there w.heap.size 0 18 := by
  intro j hj
  refine ⟨?_, World.frozen?_alloc_at _ _ _ _ rfl⟩
  rw [World.cell?_alloc_new, Nat.zero_add, Array.getElem?_eq_getElem (by show j < 18; exact hj)]
  rfl
theorem range_arr (w : World) (b : Nat → Nat) (t : TypeId) : (w.alloc (.cells (bvs b).toArray t)).rangeAt w.heap.size 0 (bvs b) := by
  intro j v h
  rw [World.cell?_alloc_new, Nat.zero_add]
  simpa using h
theorem range_zero (w : World) (t : TypeId) : (w.alloc (.cells zl t)).rangeAt w.heap.size 0 l0.vs := range_new w l0 t
theorem upd_upd {α : Type} (f : Nat → α) (i : Nat) (x y : α) : upd (upd f i x) i y = upd f i y := by
  funext j
  unfold upd
  by_cases e : j = i <;> simp [e]
theorem put_put (S : CS) (i : Nat) (l m : List Ln) : (S.put i l).put i m = S.put i m := by
  show CS.mk _ _ _ = CS.mk _ _ _
  rw [show (S.put i l).set = upd S.set i l from rfl, upd_upd]
  rfl
set_option maxRecDepth 100000 in
set_option maxHeartbeats 1000000 in
theorem fill_room (B p h c : Nat) (V : Nat → Value) (S : CS) (a s : Nat) (b : Nat → Nat) (w : World) (k : Ch w B p h c V S) (ha : a < 4294967296) (h16 : a % 16 = 0) (hs : 1 ≤ s ∧ s ≤ 3) (hN : No (S.set (S.of a)) a) (hfu : S.full a = false) : Calls Tryd.prog 48 #[.pointer (some ⟨p, 0, none⟩), .int .u32 a, .agg (bvs b).toArray, .int .i64 s] w fun e w' => e = .returned (.tuple #[.agg (S.left a).vs.toArray, .bool (S.full a), .nilIface]) ∧ ∃ v', Ch w' B p h c (upd V (S.of a) v') (S.fill a s b) ∧ (∀ j, v'.ownBlock = some j → (V (S.of a)).ownBlock = some j ∨ w.heap.size ≤ j) ∧ Turned (mine p h S.n V) w w' := by
  have hle : S.left a = l0 := by simp [CS.left, hfu]
  have hke : S.kept a = S.set (S.of a) := by simp [CS.kept, hfu]
  have hne : (S.set (S.of a)).length ≠ S.ways := by simpa [CS.full] using hfu
  have HKE : Hid (S.fill a s b = S.put (S.of a) (S.set (S.of a) ++ [⟨a, s, b⟩])) := by
    show S.fill a s b = _
    rw [CS.fill, hke]
  rw [hle, hfu]
  obtain ⟨left, hleft⟩ : ∃ left, l0 = left := ⟨_, rfl⟩
  have HLE := Hid.in hleft
  rw [hleft]
  clear hleft
  have HK := Hid.in k
  have hp := k.c.here
  have hh := k.v.here
  have hO := S.of_lt a k.small.2.2.1
  have HO := Hid.in hO
  have h4 := k.four _ hO
  have hw4 := k.small
  have hfew := k.few _ hO
  obtain ⟨qa, cap, hv, hcap, -⟩ := own_lines (k.l _ hO)
  obtain ⟨m, hm⟩ : ∃ m, (S.set (S.of a)).length = m := ⟨_, rfl⟩
  rw [hm] at hv hcap
  have HV := Hid.in hv
  have HM := Hid.in hm
  obtain ⟨r, hr⟩ : ∃ r, S.of a = r := ⟨_, rfl⟩
  have HR := Hid.in hr
  have HN := Hid.in hN
  have HBL : Hid (∀ i q, i < S.n → (V i).ownBlock = some q → q < w.heap.size) := fun i q hi hq => (own_base (k.l i hi) q hq).2
  have k0 := k.below (((Below.refl _ w).alloc (Nat.le_refl _) (.cells (bvs b).toArray 98)).alloc (by simp) (.cells #[.int .u32 0, .int .i64 0, .int .u8 0, .int .u8 0, .int .u8 0, .int .u8 0, .int .u8 0, .int .u8 0, .int .u8 0, .int .u8 0, .int .u8 0, .int .u8 0, .int .u8 0, .int .u8 0, .int .u8 0, .int .u8 0, .int .u8 0, .int .u8 0] 114))
  have hd16 : decide (a % 16 = 0) = true := by simp [h16]
  have hs1 : ¬ (s : Int) < 1 := by omega
  have hs3 : ¬ (3 : Int) < s := by omega
  rw [hm] at h4 hfew
  obtain ⟨W, hW⟩ : ∃ W, (w.alloc (.cells (bvs b).toArray 98)).alloc (.cells #[.int .u32 0, .int .i64 0, .int .u8 0, .int .u8 0, .int .u8 0, .int .u8 0, .int .u8 0, .int .u8 0, .int .u8 0, .int .u8 0, .int .u8 0, .int .u8 0, .int .u8 0, .int .u8 0, .int .u8 0, .int .u8 0, .int .u8 0, .int .u8 0] 114) = W := ⟨_, rfl⟩
  have HW := Hid.in hW
  rw [hW] at k0
  have HK0 := Hid.in k0
  have sW : W.heap.size = w.heap.size + 2 := by rw [← hW]; simp
  have HSW := Hid.in sW
  have rW : W.rangeAt w.heap.size 0 (bvs b) := by rw [← hW]; exact World.rangeAt_alloc (range_arr w b _) _
  have tW : W.there (w.heap.size + 1) 0 18 := by
    rw [← hW]
    have := there_new (w.alloc (.cells (bvs b).toArray 98)) 114
    rw [World.size_alloc] at this
    exact this
  have HRW := Hid.in rW
  have HTW := Hid.in tW
  have bW : Below w.heap.size w W := by
    rw [← hW]
    exact ((Below.refl _ w).alloc (Nat.le_refl _) _).alloc (by simp) _
  have HBW := Hid.in bW
  clear k k0 hO hv hm hr hN hW sW rW tW bW
  go_enter Tryd.func48, Tryd.ntmps48
  go_wp2_with fail
  rw [HW.out]
  go_wp2_with (first
    | (go_at_call 55
       refine (find_no_m B m _ (S.set (S.of a)) HM.out a _ (HX.out.rowm _ HO.out _ HV.out _ HM.out) h4 ha HN.out).mono ?_
       rintro e w2 ⟨rfl, rfl⟩)
    | (go_at_call 54
       refine (setOf_any B p h c V S a _ HK0.out ha).mono ?_
       rintro e w1 ⟨rfl, hb⟩
       have hb : Below W.heap.size W w1 := hb
       have k1 := HK0.out.below hb
       have HX := Hid.in k1
       have HB := Hid.in hb
       have ch := k1.v.cell _ HO.out
       have hh1 := k1.v.here
       have cw := k1.cells.2.1
       have hp1 := k1.c.here
       rw [HR.out] at ch ⊢
       rw [← HR.out, HV.out, HR.out] at ch
       clear k1 hb)
    | (go_at_call 69
       refine (isLine_any a _ ha).mono ?_
       rintro e w1 ⟨rfl, hww⟩
       rw [hww, hd16]
       clear hww))
  obtain ⟨X, hX⟩ : ∃ X, w2.alloc (.cells #[.int .u32 0, .int .i64 0, .int .u8 0, .int .u8 0, .int .u8 0, .int .u8 0, .int .u8 0, .int .u8 0, .int .u8 0, .int .u8 0, .int .u8 0, .int .u8 0, .int .u8 0, .int .u8 0, .int .u8 0, .int .u8 0, .int .u8 0, .int .u8 0] 114) = X := ⟨_, rfl⟩
  obtain ⟨lv, hlv⟩ : ∃ lv, w2.heap.size = lv := ⟨_, rfl⟩
  have kX : Ch X B p h c V S := by rw [← hX]; exact HX.out.below ((Below.refl _ _).alloc (Nat.le_refl _) _)
  have zX : X.rangeAt lv 0 l0.vs := by rw [← hX, ← hlv]; exact range_zero w2 _
  have yX : X.there lv 0 18 := by rw [← hX, ← hlv]; exact there_new w2 _
  have s2 : w.heap.size + 2 ≤ lv := by
    have h1 := HB.out.size
    have h2 := HSW.out
    omega
  have sX : X.heap.size = lv + 1 := by rw [← hX, ← hlv]; simp
  have tX : Turned (fun _ => False) W X := by rw [← hX]; exact (Turned.of_below HB.out).alloc _
  have bX : Turned (fun _ => False) w X := ((Turned.of_below HBW.out).trans tX)
  rw [hX, hlv]
  have kH := kX.v.here
  have kP := kX.c.here
  have xc : X.cell? ⟨h, r, none⟩ = some (.slice qa m cap) := by
    have := kX.v.cell _ HO.out
    rw [HV.out, HR.out] at this
    exact this
  have xw := kX.cells.2.1
  have HKX := Hid.in kX
  have HZX := Hid.in zX
  have HYX := Hid.in yX
  have HTX := Hid.in tX
  have HBX := Hid.in bX
  have HSX := Hid.in sX
  have HS2 := Hid.in s2
  clear kX zX yX tX bX hX hlv ch hh1 cw hp1
  have hnw : ((m : Int) == (S.ways : Int)) = false := by
    rw [HM.out] at hne
    simp
    omega
  have hroom : m < S.ways := by rw [HM.out] at hne; omega
  have HROOM := Hid.in hroom
  clear hne hke hle hfu hroom
  go_quiet (fail)
  go_wp2_with fail
  obtain ⟨Y, hY⟩ : ∃ Y, X.drewN nq = Y := ⟨_, rfl⟩
  have tY : Turned (fun _ => False) X Y := by rw [← hY]; exact Turned.of_below (below_drewN X nq)
  rw [hY]
  have kY := HKX.out.turned tY (fun q => q) (fun q => q) (fun _ _ _ _ q => q)
  have nm : ∀ q, w.heap.size ≤ q → ¬ mine p h S.n V q := by
    intro q hq hm
    rcases hm with rfl | rfl | ⟨i, hi, hb⟩
    · omega
    · omega
    · have := HBL.out i q hi hb
      omega
  have sY : Y.heap.size = lv + 1 := by rw [← hY]; exact HSX.out
  obtain ⟨qb, hqb⟩ : ∃ qb, qa = qb := ⟨_, rfl⟩
  obtain ⟨m1, hm1⟩ : ∃ m1, m = m1 := ⟨_, rfl⟩
  obtain ⟨cap1, hcap1⟩ : ∃ cap1, cap = cap1 := ⟨_, rfl⟩
  have y3 : Y.cell? ⟨h, r, none⟩ = some (.slice qb m1 cap1) := by
    rw [← hqb, ← hm1, ← hcap1]
    exact tY.to_cell kH (fun q => q) xc
  have F0 : Y.rangeAt w.heap.size 0 (bvs b) := range_turned (range_turned HRW.out HTX.out (by have := HSW.out; omega) (fun q => q)) tY (by have := HSX.out; have := HS2.out; omega) (fun q => q)
  obtain ⟨g', cap', w1, hrun, A0, A1, A2, A3, G0, G1, G2, G3, G4, G5, GC, GT, GG⟩ := fill_mem B p h c V S r w.heap.size (w.heap.size + 1) lv m1 cap1 b ⟨a, s, b⟩ left qb Y kY (by rw [← HR.out]; exact HO.out) (by rw [← HR.out, ← hqb, ← hm1, ← hcap1]; exact HV.out) (by rw [← HR.out, ← hm1]; exact HM.out) (by rw [← hm1]; exact HROOM.out)
    F0 (by rw [← HLE.out]; exact range_turned HZX.out tY (by have := HSX.out; omega) (fun q => q)) (there_turned (there_turned HTW.out HTX.out (by have := HSW.out; omega) (fun q => q)) tY (by have := HSX.out; have := HS2.out; omega) (fun q => q)) (by have := HS2.out; omega) (by omega) (by have := HS2.out; omega) (by have := HS2.out; omega) (nm _ (Nat.le_refl _)) (nm _ (by have := HS2.out; omega)) (nm _ (by omega))
  have yh := kY.v.here
  have HGC := Hid.in GC
  have HGT := Hid.in GT
  have HGG := Hid.in GG
  have HTY := Hid.in tY
  have HSY := Hid.in sY
  rw [hqb, hm1, hcap1]
  clear kY nm GC GT GG tY sY
  obtain ⟨i0, hi0, hz0, hz1, hz2⟩ := info_parts (show (Tryd.prog.info? 114).map (fun i => (i.zero, i.size, i.bytes)) = some (some (.agg zl), 18, 32) by kernel_rfl)
  rename_i Qx Kx hx
  refine wp_region_held_drew (S := fun w' => w'.rangeAt w.heap.size 0 (bvs b)) (by kernel_rfl) F0 (fun hHeld => ?_)
  refine wpAnyH_take (i := 0) (v := .pointer (some ⟨h, r, none⟩)) rfl (by kernel_rfl) (by kernel_rfl) (by kernel_rfl) (fun _ _ _ h => h) (Or.inl ⟨by rfl, fun w hSw => by go_simp⟩) hHeld ?_
  refine wpAnyH_take (i := 1) (v := .pointer (some ⟨h, r, none⟩)) rfl (by kernel_rfl) (by kernel_rfl) (by kernel_rfl) (fun _ _ _ h => h) (Or.inl ⟨by rfl, fun w hSw => by go_simp⟩) hHeld ?_
  refine wpAnyH_take (i := 2) (v := .pointer (some ⟨h, r, none⟩)) rfl (by kernel_rfl) (by kernel_rfl) (by kernel_rfl) (fun _ _ _ h => h) (Or.inl ⟨by rfl, fun w hSw => by go_simp⟩) hHeld ?_
  refine wpAnyH_take (i := 4) (v := .int .u32 a) rfl (by kernel_rfl) (by kernel_rfl) (by kernel_rfl) (fun _ _ _ h => h) (Or.inl ⟨by rfl, fun w hSw => by go_simp⟩) hHeld ?_
  refine wpAnyH_take (i := 5) (v := .int .i64 s) rfl (by kernel_rfl) (by kernel_rfl) (by kernel_rfl) (fun _ _ _ h => h) (Or.inl ⟨by rfl, fun w hSw => by go_simp⟩) hHeld ?_
  refine wpAnyH_take (i := 6) (v := .agg (bvs b).toArray) rfl (by kernel_rfl) (by kernel_rfl) (by kernel_rfl) (fun _ _ _ h => h) (yieldsIf_load_mid (by rfl) 98 (.tmp 6) rfl w.heap.size 0 rfl (bvs b) _ (fun _ h => h) Tryd.underlying98 rfl (by rw [arr_info, bvs_len])) hHeld ?_
  refine wpAnyH_take (i := 7) (v := .agg (Ln.vs ⟨a, s, b⟩).toArray) rfl (by kernel_rfl) (by kernel_rfl) (by kernel_rfl) (fun _ _ _ h => h) (Or.inl ⟨by rfl, fun w hSw => exec_build _ _ 114 _ rfl _ (by kernel_rfl) w⟩) hHeld ?_
  refine wpAnyH_ready (rs := [3, 8]) (by kernel_rfl) (by simp) ?_
  refine AllReadyH.cons rfl (fun K hK => ?_) ?_
  · go_simp
    refine hK.out _ _ hHeld (fun hHeld => ?_)
    clear hK K
    refine wpAnyH_ready (rs := [8]) (by kernel_rfl) (by simp) ?_
    refine AllReadyH.cons rfl (fun K hK => ?_) AllReadyH.nil
    rw [if_pos (by rfl)]
    refine wp_buildSlice 126 114 1 #[(0, .tmp 57)] rfl (Ln.vs ⟨a, s, b⟩).toArray i0 (.agg zl) Tryd.underlying126 hi0 hz0 (by rw [hz1]; decide) (by rw [hz1]; decide) (by rw [hz1]; kernel_rfl) ?_
    refine hK.out _ _ G0 (fun hHeld => ?_)
    clear hK K
    refine wpAnyH_ready (rs := [9]) (by kernel_rfl) (by simp) ?_
    refine AllReadyH.cons rfl (fun K hK => ?_) AllReadyH.nil
    rw [if_pos (by rfl)]
    refine append_op0 (v := .slice qb m1 cap1) (u := .slice (some ⟨Y.heap.size, 0, none⟩) 1 1) rfl (by kernel_rfl) (by kernel_rfl) hrun ?_
    refine hK.out _ _ G1 (fun hHeld => ?_)
    clear hK K
    refine wpAnyH_take (i := 10) (v := .pointer (some ⟨h, r, none⟩)) rfl (by kernel_rfl) (by kernel_rfl) (by kernel_rfl) (fun _ _ _ h => h) (Or.inl ⟨by rfl, fun w hSw => by go_simp⟩) hHeld ?_
    refine wpAnyH_ready (rs := [11]) (by kernel_rfl) (by simp) ?_
    refine AllReadyH.cons rfl (fun K hK => ?_) AllReadyH.nil
    go_simp
    refine hK.out _ _ G2 (fun hHeld => ?_)
    clear hK K
    refine wpAnyH_done (by kernel_rfl) ?_ _
    refine hx _ _ ?_
    clear hx Kx hHeld
    go_wp2_with (first
      | (refine ld_line lv 0 left G3 rfl _ rfl rfl ?_)
      | (refine st_line (w.heap.size + 1) 0 left G4 rfl rfl _ _ rfl rfl rfl ?_))
    refine bodyPost_ret (results_line3 Tryd.results48 _ _ (w.heap.size + 1) left _ _ rfl rfl rfl G5) rfl ?_
    refine ⟨rfl, .slice (some ⟨g', 0, none⟩) (m1 + 1) cap', ?_, ?_, ?_⟩
    · rw [HR.out, HKE.out, HR.out]
      exact HGC.out
    · intro j hj
      simp [Value.ownBlock] at hj
      subst hj
      rw [HR.out]
      exact HGG.out.imp id (fun q => by have := HSY.out; have := HS2.out; omega)
    · refine ((HBX.out.mono (fun _ q => q.elim)).trans (HTY.out.mono (fun _ q => q.elim))).trans2'' HGT.out (fun q hq => ?_)
      rcases hq with q | q | q
      · exact Or.inl (Or.inr (Or.inr ⟨r, by rw [← HR.out]; exact HO.out, q⟩))
      · exact Or.inl (Or.inr (Or.inl q))
      · right
        omega
  refine AllReadyH.cons rfl (fun K hK => ?_) AllReadyH.nil
  · rw [if_pos (by rfl)]
    refine wp_buildSlice 126 114 1 #[(0, .tmp 57)] rfl (Ln.vs ⟨a, s, b⟩).toArray i0 (.agg zl) Tryd.underlying126 hi0 hz0 (by rw [hz1]; decide) (by rw [hz1]; decide) (by rw [hz1]; kernel_rfl) ?_
    refine hK.out _ _ G0 (fun hHeld => ?_)
    clear hK K
    refine wpAnyH_ready (rs := [3]) (by kernel_rfl) (by simp) ?_
    refine AllReadyH.cons rfl (fun K hK => ?_) AllReadyH.nil
    go_simp
    refine hK.out _ _ hHeld (fun hHeld => ?_)
    clear hK K
    refine wpAnyH_ready (rs := [9]) (by kernel_rfl) (by simp) ?_
    refine AllReadyH.cons rfl (fun K hK => ?_) AllReadyH.nil
    rw [if_pos (by rfl)]
    refine append_op0 (v := .slice qb m1 cap1) (u := .slice (some ⟨Y.heap.size, 0, none⟩) 1 1) rfl (by kernel_rfl) (by kernel_rfl) hrun ?_
    refine hK.out _ _ G1 (fun hHeld => ?_)
    clear hK K
    refine wpAnyH_take (i := 10) (v := .pointer (some ⟨h, r, none⟩)) rfl (by kernel_rfl) (by kernel_rfl) (by kernel_rfl) (fun _ _ _ h => h) (Or.inl ⟨by rfl, fun w hSw => by go_simp⟩) hHeld ?_
    refine wpAnyH_ready (rs := [11]) (by kernel_rfl) (by simp) ?_
    refine AllReadyH.cons rfl (fun K hK => ?_) AllReadyH.nil
    go_simp
    refine hK.out _ _ G2 (fun hHeld => ?_)
    clear hK K
    refine wpAnyH_done (by kernel_rfl) ?_ _
    refine hx _ _ ?_
    clear hx Kx hHeld
    go_wp2_with (first
      | (refine ld_line lv 0 left G3 rfl _ rfl rfl ?_)
      | (refine st_line (w.heap.size + 1) 0 left G4 rfl rfl _ _ rfl rfl rfl ?_))
    refine bodyPost_ret (results_line3 Tryd.results48 _ _ (w.heap.size + 1) left _ _ rfl rfl rfl G5) rfl ?_
    refine ⟨rfl, .slice (some ⟨g', 0, none⟩) (m1 + 1) cap', ?_, ?_, ?_⟩
    · rw [HR.out, HKE.out, HR.out]
      exact HGC.out
    · intro j hj
      simp [Value.ownBlock] at hj
      subst hj
      rw [HR.out]
      exact HGG.out.imp id (fun q => by have := HSY.out; have := HS2.out; omega)
    · refine ((HBX.out.mono (fun _ q => q.elim)).trans (HTY.out.mono (fun _ q => q.elim))).trans2'' HGT.out (fun q hq => ?_)
      rcases hq with q | q | q
      · exact Or.inl (Or.inr (Or.inr ⟨r, by rw [← HR.out]; exact HO.out, q⟩))
      · exact Or.inl (Or.inr (Or.inl q))
      · right
        omega
set_option maxRecDepth 100000 in
set_option maxHeartbeats 1000000 in
theorem fill_full (B p h c : Nat) (V : Nat → Value) (S : CS) (a s : Nat) (b : Nat → Nat) (w : World) (k : Ch w B p h c V S) (ha : a < 4294967296) (h16 : a % 16 = 0) (hs : 1 ≤ s ∧ s ≤ 3) (hN : No (S.set (S.of a)) a) (hfu : S.full a = true) : Calls Tryd.prog 48 #[.pointer (some ⟨p, 0, none⟩), .int .u32 a, .agg (bvs b).toArray, .int .i64 s] w fun e w' => e = .returned (.tuple #[.agg (S.left a).vs.toArray, .bool (S.full a), .nilIface]) ∧ ∃ v', Ch w' B p h c (upd V (S.of a) v') (S.fill a s b) ∧ (∀ j, v'.ownBlock = some j → (V (S.of a)).ownBlock = some j ∨ w.heap.size ≤ j) ∧ Turned (mine p h S.n V) w w' := by
  have hle : S.left a = (S.set (S.of a)).getD 0 l0 := by simp [CS.left, hfu]
  have hke : S.kept a = rest (S.set (S.of a)) 0 := by simp [CS.kept, hfu]
  have hne : (S.set (S.of a)).length = S.ways := by simpa [CS.full] using hfu
  have HKE : Hid (S.fill a s b = S.put (S.of a) (rest (S.set (S.of a)) 0 ++ [⟨a, s, b⟩])) := by
    show S.fill a s b = _
    rw [CS.fill, hke]
  rw [hle, hfu]
  obtain ⟨left, hleft⟩ : ∃ left, (S.set (S.of a)).getD 0 l0 = left := ⟨_, rfl⟩
  have HLE := Hid.in hleft
  rw [hleft]
  clear hleft
  have HK := Hid.in k
  have hp := k.c.here
  have hh := k.v.here
  have hO := S.of_lt a k.small.2.2.1
  have HO := Hid.in hO
  have h4 := k.four _ hO
  have hw4 := k.small
  have hfew := k.few _ hO
  obtain ⟨qa, cap, hv, hcap, -⟩ := own_lines (k.l _ hO)
  obtain ⟨m, hm⟩ : ∃ m, (S.set (S.of a)).length = m := ⟨_, rfl⟩
  rw [hm] at hv hcap
  have HV := Hid.in hv
  have HM := Hid.in hm
  obtain ⟨r, hr⟩ : ∃ r, S.of a = r := ⟨_, rfl⟩
  have HR := Hid.in hr
  have HN := Hid.in hN
  have HBL : Hid (∀ i q, i < S.n → (V i).ownBlock = some q → q < w.heap.size) := fun i q hi hq => (own_base (k.l i hi) q hq).2
  have k0 := k.below (((Below.refl _ w).alloc (Nat.le_refl _) (.cells (bvs b).toArray 98)).alloc (by simp) (.cells #[.int .u32 0, .int .i64 0, .int .u8 0, .int .u8 0, .int .u8 0, .int .u8 0, .int .u8 0, .int .u8 0, .int .u8 0, .int .u8 0, .int .u8 0, .int .u8 0, .int .u8 0, .int .u8 0, .int .u8 0, .int .u8 0, .int .u8 0, .int .u8 0] 114))
  have hd16 : decide (a % 16 = 0) = true := by simp [h16]
  have hs1 : ¬ (s : Int) < 1 := by omega
  have hs3 : ¬ (3 : Int) < s := by omega
  rw [hm] at h4 hfew
  obtain ⟨W, hW⟩ : ∃ W, (w.alloc (.cells (bvs b).toArray 98)).alloc (.cells #[.int .u32 0, .int .i64 0, .int .u8 0, .int .u8 0, .int .u8 0, .int .u8 0, .int .u8 0, .int .u8 0, .int .u8 0, .int .u8 0, .int .u8 0, .int .u8 0, .int .u8 0, .int .u8 0, .int .u8 0, .int .u8 0, .int .u8 0, .int .u8 0] 114) = W := ⟨_, rfl⟩
  have HW := Hid.in hW
  rw [hW] at k0
  have HK0 := Hid.in k0
  have sW : W.heap.size = w.heap.size + 2 := by rw [← hW]; simp
  have HSW := Hid.in sW
  have rW : W.rangeAt w.heap.size 0 (bvs b) := by rw [← hW]; exact World.rangeAt_alloc (range_arr w b _) _
  have tW : W.there (w.heap.size + 1) 0 18 := by
    rw [← hW]
    have := there_new (w.alloc (.cells (bvs b).toArray 98)) 114
    rw [World.size_alloc] at this
    exact this
  have HRW := Hid.in rW
  have HTW := Hid.in tW
  have bW : Below w.heap.size w W := by
    rw [← hW]
    exact ((Below.refl _ w).alloc (Nat.le_refl _) _).alloc (by simp) _
  have HBW := Hid.in bW
  clear k k0 hO hv hm hr hN hW sW rW tW bW
  go_enter Tryd.func48, Tryd.ntmps48
  go_wp2_with fail
  rw [HW.out]
  go_wp2_with (first
    | (go_at_call 55
       refine (find_no_m B m _ (S.set (S.of a)) HM.out a _ (HX.out.rowm _ HO.out _ HV.out _ HM.out) h4 ha HN.out).mono ?_
       rintro e w2 ⟨rfl, rfl⟩)
    | (go_at_call 54
       refine (setOf_any B p h c V S a _ HK0.out ha).mono ?_
       rintro e w1 ⟨rfl, hb⟩
       have hb : Below W.heap.size W w1 := hb
       have k1 := HK0.out.below hb
       have HX := Hid.in k1
       have HB := Hid.in hb
       have ch := k1.v.cell _ HO.out
       have hh1 := k1.v.here
       have cw := k1.cells.2.1
       have hp1 := k1.c.here
       rw [HR.out] at ch ⊢
       rw [← HR.out, HV.out, HR.out] at ch
       clear k1 hb)
    | (go_at_call 69
       refine (isLine_any a _ ha).mono ?_
       rintro e w1 ⟨rfl, hww⟩
       rw [hww, hd16]
       clear hww))
  obtain ⟨X, hX⟩ : ∃ X, w2.alloc (.cells #[.int .u32 0, .int .i64 0, .int .u8 0, .int .u8 0, .int .u8 0, .int .u8 0, .int .u8 0, .int .u8 0, .int .u8 0, .int .u8 0, .int .u8 0, .int .u8 0, .int .u8 0, .int .u8 0, .int .u8 0, .int .u8 0, .int .u8 0, .int .u8 0] 114) = X := ⟨_, rfl⟩
  obtain ⟨lv, hlv⟩ : ∃ lv, w2.heap.size = lv := ⟨_, rfl⟩
  have kX : Ch X B p h c V S := by rw [← hX]; exact HX.out.below ((Below.refl _ _).alloc (Nat.le_refl _) _)
  have zX : X.rangeAt lv 0 l0.vs := by rw [← hX, ← hlv]; exact range_zero w2 _
  have yX : X.there lv 0 18 := by rw [← hX, ← hlv]; exact there_new w2 _
  have s2 : w.heap.size + 2 ≤ lv := by
    have h1 := HB.out.size
    have h2 := HSW.out
    omega
  have sX : X.heap.size = lv + 1 := by rw [← hX, ← hlv]; simp
  have tX : Turned (fun _ => False) W X := by rw [← hX]; exact (Turned.of_below HB.out).alloc _
  have bX : Turned (fun _ => False) w X := ((Turned.of_below HBW.out).trans tX)
  rw [hX, hlv]
  have kH := kX.v.here
  have kP := kX.c.here
  have xc : X.cell? ⟨h, r, none⟩ = some (.slice qa m cap) := by
    have := kX.v.cell _ HO.out
    rw [HV.out, HR.out] at this
    exact this
  have xw := kX.cells.2.1
  have HKX := Hid.in kX
  have HZX := Hid.in zX
  have HYX := Hid.in yX
  have HTX := Hid.in tX
  have HBX := Hid.in bX
  have HSX := Hid.in sX
  have HS2 := Hid.in s2
  clear kX zX yX tX bX hX hlv ch hh1 cw hp1
  have hnw : ((m : Int) == (S.ways : Int)) = true := by
    rw [HM.out] at hne
    simp
    omega
  have hroom : m = S.ways := by rw [HM.out] at hne; exact hne
  have HROOM := Hid.in hroom
  clear hne hke hle hfu hroom
  go_quiet (fail)
  obtain ⟨Y0, hY0⟩ : ∃ Y, X.drewN nq = Y := ⟨_, rfl⟩
  have tY0 : Turned (fun _ => False) X Y0 := by rw [← hY0]; exact Turned.of_below (below_drewN X nq)
  have kY0 := HKX.out.turned tY0 (fun q => q) (fun q => q) (fun _ _ _ _ q => q)
  have HKY := Hid.in kY0
  have HTY0 := Hid.in tY0
  have yY0 := there_turned HYX.out tY0 (by have := HSX.out; omega) (fun q => q)
  have HYY := Hid.in yY0
  have sY0 : Y0.heap.size = lv + 1 := by rw [← hY0]; exact HSX.out
  have HSY0 := Hid.in sY0
  have nm : ∀ q, w.heap.size ≤ q → ¬ mine p h S.n V q := by
    intro q hq hm
    rcases hm with rfl | rfl | ⟨i, hi, hb⟩
    · omega
    · omega
    · have := HBL.out i q hi hb
      omega
  have HNM := Hid.in nm
  rw [hY0]
  clear kY0 tY0 yY0 hY0 sY0 nm
  go_wp2_with (first
    | (go_at_call 70
       refine (takeOut_ch B p h c V S r 0 _ HKY.out (by rw [← HR.out]; exact HO.out) (by have h1 := HM.out; rw [HR.out] at h1; have h2 := HROOM.out; omega)).mono ?_
       rintro e Y1 ⟨rfl, v1, hk1, hb1, ht1⟩
       have HE := HLE.out
       rw [HR.out] at HE
       rw [HE]
       clear HE
       have T1 := there_turned HYY.out ht1 (by have := HSY0.out; omega) (fun q => q.elim (fun q => HNM.out lv (by have := HS2.out; omega) (Or.inr (Or.inr ⟨r, by rw [← HR.out]; exact HO.out, q⟩))) (fun q => HNM.out lv (by have := HS2.out; omega) (Or.inr (Or.inl q))))
       have HK1 := Hid.in hk1
       have HB1 := Hid.in hb1
       have HT1 := Hid.in ht1
       clear hk1 hb1 ht1)
    | (refine st_line lv 0 left T1 rfl rfl _ _ rfl rfl rfl ?_))
  obtain ⟨Y, hY⟩ : ∃ Y, Y1.setCells lv 0 left.vs = Y := ⟨_, rfl⟩
  have tS := turned_setCells (g := lv) left.vs 0 Y1
  have lY : Y.rangeAt lv 0 left.vs := by rw [← hY]; exact World.rangeAt_setCells_same _ _ _ _ (by rw [Ln.len]; exact T1)
  rw [hY] at tS ⊢
  have nm : ∀ q, w.heap.size ≤ q → ¬ mine p h (S.put r (rest (S.set r) 0)).n (upd V r v1) q := by
    intro q hq hm
    rcases hm with rfl | rfl | ⟨i, hi, hb⟩
    · omega
    · omega
    · by_cases e : i = r
      · subst e
        rw [upd_same, HB1.out] at hb
        have := HBL.out i q hi hb
        omega
      · rw [upd_other _ _ _ _ e] at hb
        have := HBL.out i q hi hb
        omega
  have kY := HK1.out.turned tS (fun e => nm lv (by have := HS2.out; omega) (Or.inl e.symm)) (fun e => nm lv (by have := HS2.out; omega) (Or.inr (Or.inl e.symm))) (fun i j hi hj e => nm lv (by have := HS2.out; omega) (Or.inr (Or.inr ⟨i, hi, by rw [hj, e]⟩)))
  have s1 := HT1.out.size
  have hsS : Y.heap.size = Y1.heap.size := by rw [← hY, setCells_hs]
  have hrl : (rest (S.set r) 0).length = m - 1 := by
    have h1 := HM.out
    rw [HR.out] at h1
    rw [rest_len _ _ (by have h2 := HROOM.out; omega), h1]
  have hsr : (S.put r (rest (S.set r) 0)).set r = rest (S.set r) 0 := upd_same _ _ _
  have hrn : r < (S.put r (rest (S.set r) 0)).n := by rw [← HR.out]; exact HO.out
  obtain ⟨qb, cap1, hv1, -, -⟩ := own_lines (kY.l r hrn)
  obtain ⟨m1, hm1⟩ : ∃ m1, m - 1 = m1 := ⟨_, rfl⟩
  rw [hsr, hrl, hm1] at hv1
  have tY : Turned (fun q => (V r).ownBlock = some q ∨ q = h ∨ q = lv) Y0 Y := (HT1.out.mono (fun q e => e.elim Or.inl (fun e => Or.inr (Or.inl e)))).trans (tS.mono (fun q e => Or.inr (Or.inr e)))
  have ntY : ∀ q, w.heap.size ≤ q → q ≠ lv → ¬ ((V r).ownBlock = some q ∨ q = h ∨ q = lv) := by
    intro q hq hne hm
    rcases hm with e | e | e
    · exact HNM.out q hq (Or.inr (Or.inr ⟨r, hrn, e⟩))
    · exact HNM.out q hq (Or.inr (Or.inl e))
    · exact hne e
  have y3 : Y.cell? ⟨h, r, none⟩ = some (.slice qb m1 cap1) := by
    rw [← hv1]
    exact kY.v.cell r hrn
  have F0 : Y.rangeAt w.heap.size 0 (bvs b) := range_turned (range_turned (range_turned HRW.out HTX.out (by have := HSW.out; omega) (fun q => q)) HTY0.out (by have := HSX.out; have := HS2.out; omega) (fun q => q)) tY (by have := HSY0.out; have := HS2.out; omega) (ntY _ (Nat.le_refl _) (by have := HS2.out; omega))
  obtain ⟨g', cap', w1, hrun, A0, A1, A2, A3, G0, G1, G2, G3, G4, G5, GC, GT, GG⟩ := fill_mem B p h c (upd V r v1) (S.put r (rest (S.set r) 0)) r w.heap.size (w.heap.size + 1) lv m1 cap1 b ⟨a, s, b⟩ left qb Y kY hrn hv1 (by rw [hsr, hrl, hm1]) (by show m1 < S.ways; have h2 := HROOM.out; omega)
    F0 lY (there_turned (there_turned (there_turned HTW.out HTX.out (by have := HSW.out; omega) (fun q => q)) HTY0.out (by have := HSX.out; have := HS2.out; omega) (fun q => q)) tY (by have := HSY0.out; have := HS2.out; omega) (ntY _ (by omega) (by have := HS2.out; omega))) (by have := HS2.out; have := HSY0.out; omega) (by have := HSY0.out; omega) (by have := HS2.out; have := HSY0.out; omega) (by have := HS2.out; omega) (nm _ (Nat.le_refl _)) (nm _ (by have := HS2.out; omega)) (nm _ (by omega))
  have yh := kY.v.here
  rw [hsr, put_put] at GC
  rw [upd_upd] at GC
  rw [upd_same, HB1.out] at GT GG
  have HGC := Hid.in GC
  have HGT := Hid.in GT
  have HGG := Hid.in GG
  have HTY := Hid.in tY
  have HYS : Hid (lv + 1 ≤ Y.heap.size) := by
    show lv + 1 ≤ Y.heap.size
    have := HSY0.out
    omega
  have HRN := Hid.in hrn
  clear kY nm GC GT GG tY T1 tS lY hrl hsr hrn ntY hv1 hm1 s1 hsS hY
  obtain ⟨i0, hi0, hz0, hz1, hz2⟩ := info_parts (show (Tryd.prog.info? 114).map (fun i => (i.zero, i.size, i.bytes)) = some (some (.agg zl), 18, 32) by kernel_rfl)
  rename_i Qx Kx hx
  refine wp_region_held_drew (S := fun w' => w'.rangeAt w.heap.size 0 (bvs b)) (by kernel_rfl) F0 (fun hHeld => ?_)
  refine wpAnyH_take (i := 0) (v := .pointer (some ⟨h, r, none⟩)) rfl (by kernel_rfl) (by kernel_rfl) (by kernel_rfl) (fun _ _ _ h => h) (Or.inl ⟨by rfl, fun w hSw => by go_simp⟩) hHeld ?_
  refine wpAnyH_take (i := 1) (v := .pointer (some ⟨h, r, none⟩)) rfl (by kernel_rfl) (by kernel_rfl) (by kernel_rfl) (fun _ _ _ h => h) (Or.inl ⟨by rfl, fun w hSw => by go_simp⟩) hHeld ?_
  refine wpAnyH_take (i := 2) (v := .pointer (some ⟨h, r, none⟩)) rfl (by kernel_rfl) (by kernel_rfl) (by kernel_rfl) (fun _ _ _ h => h) (Or.inl ⟨by rfl, fun w hSw => by go_simp⟩) hHeld ?_
  refine wpAnyH_take (i := 4) (v := .int .u32 a) rfl (by kernel_rfl) (by kernel_rfl) (by kernel_rfl) (fun _ _ _ h => h) (Or.inl ⟨by rfl, fun w hSw => by go_simp⟩) hHeld ?_
  refine wpAnyH_take (i := 5) (v := .int .i64 s) rfl (by kernel_rfl) (by kernel_rfl) (by kernel_rfl) (fun _ _ _ h => h) (Or.inl ⟨by rfl, fun w hSw => by go_simp⟩) hHeld ?_
  refine wpAnyH_take (i := 6) (v := .agg (bvs b).toArray) rfl (by kernel_rfl) (by kernel_rfl) (by kernel_rfl) (fun _ _ _ h => h) (yieldsIf_load_mid (by rfl) 98 (.tmp 6) rfl w.heap.size 0 rfl (bvs b) _ (fun _ h => h) Tryd.underlying98 rfl (by rw [arr_info, bvs_len])) hHeld ?_
  refine wpAnyH_take (i := 7) (v := .agg (Ln.vs ⟨a, s, b⟩).toArray) rfl (by kernel_rfl) (by kernel_rfl) (by kernel_rfl) (fun _ _ _ h => h) (Or.inl ⟨by rfl, fun w hSw => exec_build _ _ 114 _ rfl _ (by kernel_rfl) w⟩) hHeld ?_
  refine wpAnyH_ready (rs := [3, 8]) (by kernel_rfl) (by simp) ?_
  refine AllReadyH.cons rfl (fun K hK => ?_) ?_
  · go_simp
    refine hK.out _ _ hHeld (fun hHeld => ?_)
    clear hK K
    refine wpAnyH_ready (rs := [8]) (by kernel_rfl) (by simp) ?_
    refine AllReadyH.cons rfl (fun K hK => ?_) AllReadyH.nil
    rw [if_pos (by rfl)]
    refine wp_buildSlice 126 114 1 #[(0, .tmp 57)] rfl (Ln.vs ⟨a, s, b⟩).toArray i0 (.agg zl) Tryd.underlying126 hi0 hz0 (by rw [hz1]; decide) (by rw [hz1]; decide) (by rw [hz1]; kernel_rfl) ?_
    refine hK.out _ _ G0 (fun hHeld => ?_)
    clear hK K
    refine wpAnyH_ready (rs := [9]) (by kernel_rfl) (by simp) ?_
    refine AllReadyH.cons rfl (fun K hK => ?_) AllReadyH.nil
    rw [if_pos (by rfl)]
    refine append_op0 (v := .slice qb m1 cap1) (u := .slice (some ⟨Y.heap.size, 0, none⟩) 1 1) rfl (by kernel_rfl) (by kernel_rfl) hrun ?_
    refine hK.out _ _ G1 (fun hHeld => ?_)
    clear hK K
    refine wpAnyH_take (i := 10) (v := .pointer (some ⟨h, r, none⟩)) rfl (by kernel_rfl) (by kernel_rfl) (by kernel_rfl) (fun _ _ _ h => h) (Or.inl ⟨by rfl, fun w hSw => by go_simp⟩) hHeld ?_
    refine wpAnyH_ready (rs := [11]) (by kernel_rfl) (by simp) ?_
    refine AllReadyH.cons rfl (fun K hK => ?_) AllReadyH.nil
    go_simp
    refine hK.out _ _ G2 (fun hHeld => ?_)
    clear hK K
    refine wpAnyH_done (by kernel_rfl) ?_ _
    refine hx _ _ ?_
    clear hx Kx hHeld
    go_wp2_with (first
      | (refine ld_line lv 0 left G3 rfl _ rfl rfl ?_)
      | (refine st_line (w.heap.size + 1) 0 left G4 rfl rfl _ _ rfl rfl rfl ?_))
    refine bodyPost_ret (results_line3 Tryd.results48 _ _ (w.heap.size + 1) left _ _ rfl rfl rfl G5) rfl ?_
    refine ⟨rfl, .slice (some ⟨g', 0, none⟩) (m1 + 1) cap', ?_, ?_, ?_⟩
    · rw [HR.out, HKE.out, HR.out]
      exact HGC.out
    · intro j hj
      simp [Value.ownBlock] at hj
      subst hj
      rw [HR.out]
      exact HGG.out.imp id (fun q => by have := HYS.out; have := HS2.out; omega)
    · refine ((HBX.out.mono (fun _ q => q.elim)).trans (HTY0.out.mono (fun _ q => q.elim))).trans2'' ((HTY.out.mono (R := fun x => (V r).ownBlock = some x ∨ x = h ∨ w.heap.size ≤ x) (fun q e => ?_)).trans (HGT.out.mono (fun q e => ?_))) (fun q hq => ?_)
      · rcases e with e | e | e
        · exact Or.inl e
        · exact Or.inr (Or.inl e)
        · exact Or.inr (Or.inr (by have := HS2.out; omega))
      · rcases e with e | e | e
        · exact Or.inl e
        · exact Or.inr (Or.inl e)
        · exact Or.inr (Or.inr (by omega))
      · rcases hq with q | q | q
        · exact Or.inl (Or.inr (Or.inr ⟨r, HRN.out, q⟩))
        · exact Or.inl (Or.inr (Or.inl q))
        · exact Or.inr q
  refine AllReadyH.cons rfl (fun K hK => ?_) AllReadyH.nil
  · rw [if_pos (by rfl)]
    refine wp_buildSlice 126 114 1 #[(0, .tmp 57)] rfl (Ln.vs ⟨a, s, b⟩).toArray i0 (.agg zl) Tryd.underlying126 hi0 hz0 (by rw [hz1]; decide) (by rw [hz1]; decide) (by rw [hz1]; kernel_rfl) ?_
    refine hK.out _ _ G0 (fun hHeld => ?_)
    clear hK K
    refine wpAnyH_ready (rs := [3]) (by kernel_rfl) (by simp) ?_
    refine AllReadyH.cons rfl (fun K hK => ?_) AllReadyH.nil
    go_simp
    refine hK.out _ _ hHeld (fun hHeld => ?_)
    clear hK K
    refine wpAnyH_ready (rs := [9]) (by kernel_rfl) (by simp) ?_
    refine AllReadyH.cons rfl (fun K hK => ?_) AllReadyH.nil
    rw [if_pos (by rfl)]
    refine append_op0 (v := .slice qb m1 cap1) (u := .slice (some ⟨Y.heap.size, 0, none⟩) 1 1) rfl (by kernel_rfl) (by kernel_rfl) hrun ?_
    refine hK.out _ _ G1 (fun hHeld => ?_)
    clear hK K
    refine wpAnyH_take (i := 10) (v := .pointer (some ⟨h, r, none⟩)) rfl (by kernel_rfl) (by kernel_rfl) (by kernel_rfl) (fun _ _ _ h => h) (Or.inl ⟨by rfl, fun w hSw => by go_simp⟩) hHeld ?_
    refine wpAnyH_ready (rs := [11]) (by kernel_rfl) (by simp) ?_
    refine AllReadyH.cons rfl (fun K hK => ?_) AllReadyH.nil
    go_simp
    refine hK.out _ _ G2 (fun hHeld => ?_)
    clear hK K
    refine wpAnyH_done (by kernel_rfl) ?_ _
    refine hx _ _ ?_
    clear hx Kx hHeld
    go_wp2_with (first
      | (refine ld_line lv 0 left G3 rfl _ rfl rfl ?_)
      | (refine st_line (w.heap.size + 1) 0 left G4 rfl rfl _ _ rfl rfl rfl ?_))
    refine bodyPost_ret (results_line3 Tryd.results48 _ _ (w.heap.size + 1) left _ _ rfl rfl rfl G5) rfl ?_
    refine ⟨rfl, .slice (some ⟨g', 0, none⟩) (m1 + 1) cap', ?_, ?_, ?_⟩
    · rw [HR.out, HKE.out, HR.out]
      exact HGC.out
    · intro j hj
      simp [Value.ownBlock] at hj
      subst hj
      rw [HR.out]
      exact HGG.out.imp id (fun q => by have := HYS.out; have := HS2.out; omega)
    · refine ((HBX.out.mono (fun _ q => q.elim)).trans (HTY0.out.mono (fun _ q => q.elim))).trans2'' ((HTY.out.mono (R := fun x => (V r).ownBlock = some x ∨ x = h ∨ w.heap.size ≤ x) (fun q e => ?_)).trans (HGT.out.mono (fun q e => ?_))) (fun q hq => ?_)
      · rcases e with e | e | e
        · exact Or.inl e
        · exact Or.inr (Or.inl e)
        · exact Or.inr (Or.inr (by have := HS2.out; omega))
      · rcases e with e | e | e
        · exact Or.inl e
        · exact Or.inr (Or.inl e)
        · exact Or.inr (Or.inr (by omega))
      · rcases hq with q | q | q
        · exact Or.inl (Or.inr (Or.inr ⟨r, HRN.out, q⟩))
        · exact Or.inl (Or.inr (Or.inl q))
        · exact Or.inr q
end Go.Proofs.YtlogdmnhngbkaaaDoor
