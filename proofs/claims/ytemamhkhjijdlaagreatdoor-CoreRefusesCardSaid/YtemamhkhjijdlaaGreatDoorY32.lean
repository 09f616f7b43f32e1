import Derived.Test.YtemamhkhjijdlaaGreatDoorY26
import Derived.Test.YtemamhkhjijdlaaGreatDoorY18
import Derived.Test.YtemamhkhjijdlaaGreatDoorY22
import Derived.Deep.Cut
import Derived.Deep.DeepCutAuto
/-
  CORE: nobody may begin.
-/
namespace Go.Proofs.YtemamhkhjijdlaaGreatDoor
open Go Go.RowKit
section
variable {x y : World} {S : FS}
theorem ready_nil {W : WS} (hon : W.on = []) (cl m : Int) : W.ready cl m = [] := by
  unfold WS.ready
  rw [hon]
  rfl
theorem fready (h : St x S) (hon : S.ws.on = []) (cl m : Int) : Calls Tryz.prog 82 #[.pointer (some ⟨S.wp, 0, none⟩), .int .i64 cl, .int .i64 m] x fun e y => (∃ q c, e = .returned (.slice q 0 c)) ∧ St y S := by
  refine (h.onWin (v := S.ws) (fun F k => wready k cl m)).mono ?_
  rintro e y ⟨⟨u, rfl, hr⟩, hs⟩
  rw [ready_nil hon cl m] at hr
  obtain ⟨q, c, rfl⟩ := own_len hr
  exact ⟨⟨q, c, rfl⟩, hs⟩
theorem load_none (a : Addr) (w : World) : (loadCells a 0).run Tryz.prog w = .ok #[] w := by rfl
theorem app_none (q : Option Addr) (c : Nat) (w : World) : (Builtin.append_ #[48, 48] 48 #[.slice none 0 0, .slice q 0 c]).run Tryz.prog w = .ok (.slice none 0 0) w := by
  obtain ⟨i, h1, h2, h3, h4⟩ := info_parts_lsq (show (Tryz.prog.info? 3).map (fun i => (i.zero, i.size, i.bytes)) = some (some (.int .i64 0), 1, 8) by kernel_rfl)
  cases q <;> simp [Builtin.append_, run_underlying Tryz.underlying48, sizeOf, typeInfo, h1, Builtin.lenOf, Builtin.firstCells, load_none]
theorem exec_append {P : Program} {o : Oper} {a : Act} {w : World} {s x : Operand} {t : TypeId} {v u v' : Value} (ho : o.op = Op.call { callee := Callee.builtin Builtin.append, args := #[s, x], argTypes := #[t, t] }) (hs : a.eval s = v) (hx : a.eval x = u) (hr : (Builtin.append_ #[t, t] o.type #[v, u]).run P w = .ok v' w) : (execOp a.eval o).run P w = .ok (.value v') w := by
  simp [execOp, ho, resolve, invoke, builtin, hs, hx, hr, Result.andThen]
set_option maxRecDepth 100000 in
set_option maxHeartbeats 4000000 in
theorem funits (h : St x S) (hon : S.ws.on = []) (hu : 1 ≤ S.cf.units ∧ S.cf.units ≤ 4) : Calls Tryz.prog 81 #[.pointer (some ⟨S.p, 0, none⟩)] x fun e y => e = .returned (.tuple #[]) ∧ St y S := by
  have c3 : x.cell? ⟨S.p, 3, none⟩ = some (.pointer (some ⟨S.wp, 0, none⟩)) := h.core.cell 3 (by decide)
  have c11 : x.cell? ⟨S.p, 11, none⟩ = some (.int .i64 S.cf.units) := h.core.cell 11 (by decide)
  have h3 := h.core.here
  have H0 := Hid.in h
  have HON := Hid.in hon
  obtain ⟨hu1, hu2⟩ := hu
  have ix0 : ∀ w : World, (Instr.index 293 (.agg #[.int .i64 0, .int .i64 2, .int .i64 3]) (.int .i64 0)).run Tryz.prog w = .ok (.int .i64 0) w := fun w => by rfl
  have ix1 : ∀ w : World, (Instr.index 293 (.agg #[.int .i64 0, .int .i64 2, .int .i64 3]) (.int .i64 1)).run Tryz.prog w = .ok (.int .i64 2) w := fun w => by rfl
  have ix2 : ∀ w : World, (Instr.index 293 (.agg #[.int .i64 0, .int .i64 2, .int .i64 3]) (.int .i64 2)).run Tryz.prog w = .ok (.int .i64 3) w := fun w => by rfl
  clear h hon
  go_enter Tryz.func81, Tryz.ntmps81
  go_wp2_with fail
  refine wp_loop_rounds 4 ?_
  rw [rounds_succ]
  go_upto_region 4 with fail
  refine wp_region_held_drew (S := fun w' => w'.cell? ⟨S.p, 3, none⟩ = some (.pointer (some ⟨S.wp, 0, none⟩)) ∧ w'.cell? ⟨S.p, 11, none⟩ = some (.int .i64 S.cf.units)) (by kernel_rfl) ⟨c3, c11⟩ (fun hHeld => ?_)
  refine wpAnyH_take (i := 0) (v := .slice none 0 0) rfl (by kernel_rfl) (by kernel_rfl) (by kernel_rfl) (fun _ _ _ h => h) (Or.inl ⟨by rfl, fun w hSw => by go_simp⟩) hHeld ?_
  refine wpAnyH_take (i := 1) (v := .pointer (some ⟨S.p, 0, none⟩)) rfl (by kernel_rfl) (by kernel_rfl) (by kernel_rfl) (fun _ _ _ h => h) (Or.inl ⟨by rfl, fun w hSw => by go_simp⟩) hHeld ?_
  refine wpAnyH_take (i := 2) (v := .pointer (some ⟨S.p, 0, none⟩)) rfl (by kernel_rfl) (by kernel_rfl) (by kernel_rfl) (fun _ _ _ h => h) (Or.inl ⟨by rfl, fun w hSw => by go_simp⟩) hHeld ?_
  refine wpAnyH_take (i := 3) (v := .pointer (some ⟨S.p, 3, none⟩)) rfl (by kernel_rfl) (by kernel_rfl) (by kernel_rfl) (fun _ _ _ h => h) (Or.inl ⟨by rfl, fun w hSw => by go_simp⟩) hHeld ?_
  refine wpAnyH_take (i := 4) (v := .pointer (some ⟨S.wp, 0, none⟩)) rfl (by kernel_rfl) (by kernel_rfl) (by kernel_rfl) (fun _ _ _ h => h) (Or.inl ⟨by rfl, fun w hSw => by obtain ⟨q1, q2⟩ := hSw; go_simp⟩) hHeld ?_
  refine wpAnyH_take (i := 5) (v := .int .i64 0) rfl (by kernel_rfl) (by kernel_rfl) (by kernel_rfl) (fun _ _ _ h => h) (Or.inl ⟨by rfl, fun w hSw => by go_simp⟩) hHeld ?_
  refine wpAnyH_take (i := 6) (v := .pointer (some ⟨S.p, 0, none⟩)) rfl (by kernel_rfl) (by kernel_rfl) (by kernel_rfl) (fun _ _ _ h => h) (Or.inl ⟨by rfl, fun w hSw => by go_simp⟩) hHeld ?_
  refine wpAnyH_take (i := 7) (v := .pointer (some ⟨S.p, 0, none⟩)) rfl (by kernel_rfl) (by kernel_rfl) (by kernel_rfl) (fun _ _ _ h => h) (Or.inl ⟨by rfl, fun w hSw => by go_simp⟩) hHeld ?_
  refine wpAnyH_take (i := 8) (v := .pointer (some ⟨S.p, 7, none⟩)) rfl (by kernel_rfl) (by kernel_rfl) (by kernel_rfl) (fun _ _ _ h => h) (Or.inl ⟨by rfl, fun w hSw => by go_simp⟩) hHeld ?_
  refine wpAnyH_take (i := 9) (v := .pointer (some ⟨S.p, 11, none⟩)) rfl (by kernel_rfl) (by kernel_rfl) (by kernel_rfl) (fun _ _ _ h => h) (Or.inl ⟨by rfl, fun w hSw => by go_simp⟩) hHeld ?_
  refine wpAnyH_take (i := 10) (v := .int .i64 S.cf.units) rfl (by kernel_rfl) (by kernel_rfl) (by kernel_rfl) (fun _ _ _ h => h) (Or.inl ⟨by rfl, fun w hSw => by obtain ⟨q1, q2⟩ := hSw; go_simp⟩) hHeld ?_
  refine wpAnyH_ready (rs := [11]) (by kernel_rfl) (by simp) ?_
  refine AllReadyH.cons rfl (fun K hK => ?_) AllReadyH.nil
  go_simp
  go_at_call 82
  refine (fready H0.out.drew HON.out _ _).mono ?_
  rintro e y1 ⟨⟨q1, k1, rfl⟩, hs⟩
  have HY1 := Hid.in hs
  clear hs c3 c11 h3
  have c3 : y1.cell? ⟨S.p, 3, none⟩ = some (.pointer (some ⟨S.wp, 0, none⟩)) := HY1.out.core.cell 3 (by decide)
  have c11 : y1.cell? ⟨S.p, 11, none⟩ = some (.int .i64 S.cf.units) := HY1.out.core.cell 11 (by decide)
  have h3 : S.p < y1.heap.size := HY1.out.core.here
  refine hK.out _ _ ⟨c3, c11⟩ (fun hHeld => ?_)
  clear hK K
  refine wpAnyH_take (i := 12) (oi := { dst := some 23, op := _, type := _, pos := _, after := _, guard := none }) (v := .slice none 0 0) rfl (by kernel_rfl) (by kernel_rfl) (by kernel_rfl) (fun _ _ _ h => h) (Or.inl ⟨by rfl, fun w hSw => exec_append rfl rfl rfl (app_none q1 k1 w)⟩) hHeld ?_
  simp only [Act.put, List.setIfInBounds_toArray, List.set_cons_zero, List.set_cons_succ]
  refine wpAnyH_take (i := 13) (v := .slice none 0 0) rfl (by kernel_rfl) (by kernel_rfl) (by kernel_rfl) (fun _ _ _ h => h) (Or.inl ⟨by rfl, fun w hSw => by go_simp⟩) hHeld ?_
  refine wpAnyH_done (by kernel_rfl) ?_ _
  go_wp2_with fail
  rw [rounds_succ]
  go_upto_region 4 with fail
  refine wp_region_held_drew (S := fun w' => w'.cell? ⟨S.p, 3, none⟩ = some (.pointer (some ⟨S.wp, 0, none⟩)) ∧ w'.cell? ⟨S.p, 11, none⟩ = some (.int .i64 S.cf.units)) (by kernel_rfl) ⟨c3, c11⟩ (fun hHeld => ?_)
  refine wpAnyH_take (i := 0) (v := .slice none 0 0) rfl (by kernel_rfl) (by kernel_rfl) (by kernel_rfl) (fun _ _ _ h => h) (Or.inl ⟨by rfl, fun w hSw => by go_simp⟩) hHeld ?_
  refine wpAnyH_take (i := 1) (v := .pointer (some ⟨S.p, 0, none⟩)) rfl (by kernel_rfl) (by kernel_rfl) (by kernel_rfl) (fun _ _ _ h => h) (Or.inl ⟨by rfl, fun w hSw => by go_simp⟩) hHeld ?_
  refine wpAnyH_take (i := 2) (v := .pointer (some ⟨S.p, 0, none⟩)) rfl (by kernel_rfl) (by kernel_rfl) (by kernel_rfl) (fun _ _ _ h => h) (Or.inl ⟨by rfl, fun w hSw => by go_simp⟩) hHeld ?_
  refine wpAnyH_take (i := 3) (v := .pointer (some ⟨S.p, 3, none⟩)) rfl (by kernel_rfl) (by kernel_rfl) (by kernel_rfl) (fun _ _ _ h => h) (Or.inl ⟨by rfl, fun w hSw => by go_simp⟩) hHeld ?_
  refine wpAnyH_take (i := 4) (v := .pointer (some ⟨S.wp, 0, none⟩)) rfl (by kernel_rfl) (by kernel_rfl) (by kernel_rfl) (fun _ _ _ h => h) (Or.inl ⟨by rfl, fun w hSw => by obtain ⟨q1, q2⟩ := hSw; go_simp⟩) hHeld ?_
  refine wpAnyH_take (i := 5) (v := .int .i64 2) rfl (by kernel_rfl) (by kernel_rfl) (by kernel_rfl) (fun _ _ _ h => h) (Or.inl ⟨by rfl, fun w hSw => by go_simp⟩) hHeld ?_
  refine wpAnyH_take (i := 6) (v := .pointer (some ⟨S.p, 0, none⟩)) rfl (by kernel_rfl) (by kernel_rfl) (by kernel_rfl) (fun _ _ _ h => h) (Or.inl ⟨by rfl, fun w hSw => by go_simp⟩) hHeld ?_
  refine wpAnyH_take (i := 7) (v := .pointer (some ⟨S.p, 0, none⟩)) rfl (by kernel_rfl) (by kernel_rfl) (by kernel_rfl) (fun _ _ _ h => h) (Or.inl ⟨by rfl, fun w hSw => by go_simp⟩) hHeld ?_
  refine wpAnyH_take (i := 8) (v := .pointer (some ⟨S.p, 7, none⟩)) rfl (by kernel_rfl) (by kernel_rfl) (by kernel_rfl) (fun _ _ _ h => h) (Or.inl ⟨by rfl, fun w hSw => by go_simp⟩) hHeld ?_
  refine wpAnyH_take (i := 9) (v := .pointer (some ⟨S.p, 11, none⟩)) rfl (by kernel_rfl) (by kernel_rfl) (by kernel_rfl) (fun _ _ _ h => h) (Or.inl ⟨by rfl, fun w hSw => by go_simp⟩) hHeld ?_
  refine wpAnyH_take (i := 10) (v := .int .i64 S.cf.units) rfl (by kernel_rfl) (by kernel_rfl) (by kernel_rfl) (fun _ _ _ h => h) (Or.inl ⟨by rfl, fun w hSw => by obtain ⟨q1, q2⟩ := hSw; go_simp⟩) hHeld ?_
  refine wpAnyH_ready (rs := [11]) (by kernel_rfl) (by simp) ?_
  refine AllReadyH.cons rfl (fun K hK => ?_) AllReadyH.nil
  go_simp
  go_at_call 82
  refine (fready HY1.out.drew HON.out _ _).mono ?_
  rintro e y2 ⟨⟨q2, k2, rfl⟩, hs⟩
  have HY2 := Hid.in hs
  clear hs c3 c11 h3
  have c3 : y2.cell? ⟨S.p, 3, none⟩ = some (.pointer (some ⟨S.wp, 0, none⟩)) := HY2.out.core.cell 3 (by decide)
  have c11 : y2.cell? ⟨S.p, 11, none⟩ = some (.int .i64 S.cf.units) := HY2.out.core.cell 11 (by decide)
  have h3 : S.p < y2.heap.size := HY2.out.core.here
  refine hK.out _ _ ⟨c3, c11⟩ (fun hHeld => ?_)
  clear hK K
  refine wpAnyH_take (i := 12) (oi := { dst := some 23, op := _, type := _, pos := _, after := _, guard := none }) (v := .slice none 0 0) rfl (by kernel_rfl) (by kernel_rfl) (by kernel_rfl) (fun _ _ _ h => h) (Or.inl ⟨by rfl, fun w hSw => exec_append rfl rfl rfl (app_none q2 k2 w)⟩) hHeld ?_
  simp only [Act.put, List.setIfInBounds_toArray, List.set_cons_zero, List.set_cons_succ]
  refine wpAnyH_take (i := 13) (v := .slice none 0 0) rfl (by kernel_rfl) (by kernel_rfl) (by kernel_rfl) (fun _ _ _ h => h) (Or.inl ⟨by rfl, fun w hSw => by go_simp⟩) hHeld ?_
  refine wpAnyH_done (by kernel_rfl) ?_ _
  go_wp2_with fail
  rw [rounds_succ]
  go_upto_region 4 with fail
  refine wp_region_held_drew (S := fun w' => w'.cell? ⟨S.p, 3, none⟩ = some (.pointer (some ⟨S.wp, 0, none⟩)) ∧ w'.cell? ⟨S.p, 11, none⟩ = some (.int .i64 S.cf.units)) (by kernel_rfl) ⟨c3, c11⟩ (fun hHeld => ?_)
  refine wpAnyH_take (i := 0) (v := .slice none 0 0) rfl (by kernel_rfl) (by kernel_rfl) (by kernel_rfl) (fun _ _ _ h => h) (Or.inl ⟨by rfl, fun w hSw => by go_simp⟩) hHeld ?_
  refine wpAnyH_take (i := 1) (v := .pointer (some ⟨S.p, 0, none⟩)) rfl (by kernel_rfl) (by kernel_rfl) (by kernel_rfl) (fun _ _ _ h => h) (Or.inl ⟨by rfl, fun w hSw => by go_simp⟩) hHeld ?_
  refine wpAnyH_take (i := 2) (v := .pointer (some ⟨S.p, 0, none⟩)) rfl (by kernel_rfl) (by kernel_rfl) (by kernel_rfl) (fun _ _ _ h => h) (Or.inl ⟨by rfl, fun w hSw => by go_simp⟩) hHeld ?_
  refine wpAnyH_take (i := 3) (v := .pointer (some ⟨S.p, 3, none⟩)) rfl (by kernel_rfl) (by kernel_rfl) (by kernel_rfl) (fun _ _ _ h => h) (Or.inl ⟨by rfl, fun w hSw => by go_simp⟩) hHeld ?_
  refine wpAnyH_take (i := 4) (v := .pointer (some ⟨S.wp, 0, none⟩)) rfl (by kernel_rfl) (by kernel_rfl) (by kernel_rfl) (fun _ _ _ h => h) (Or.inl ⟨by rfl, fun w hSw => by obtain ⟨q1, q2⟩ := hSw; go_simp⟩) hHeld ?_
  refine wpAnyH_take (i := 5) (v := .int .i64 3) rfl (by kernel_rfl) (by kernel_rfl) (by kernel_rfl) (fun _ _ _ h => h) (Or.inl ⟨by rfl, fun w hSw => by go_simp⟩) hHeld ?_
  refine wpAnyH_take (i := 6) (v := .pointer (some ⟨S.p, 0, none⟩)) rfl (by kernel_rfl) (by kernel_rfl) (by kernel_rfl) (fun _ _ _ h => h) (Or.inl ⟨by rfl, fun w hSw => by go_simp⟩) hHeld ?_
  refine wpAnyH_take (i := 7) (v := .pointer (some ⟨S.p, 0, none⟩)) rfl (by kernel_rfl) (by kernel_rfl) (by kernel_rfl) (fun _ _ _ h => h) (Or.inl ⟨by rfl, fun w hSw => by go_simp⟩) hHeld ?_
  refine wpAnyH_take (i := 8) (v := .pointer (some ⟨S.p, 7, none⟩)) rfl (by kernel_rfl) (by kernel_rfl) (by kernel_rfl) (fun _ _ _ h => h) (Or.inl ⟨by rfl, fun w hSw => by go_simp⟩) hHeld ?_
  refine wpAnyH_take (i := 9) (v := .pointer (some ⟨S.p, 11, none⟩)) rfl (by kernel_rfl) (by kernel_rfl) (by kernel_rfl) (fun _ _ _ h => h) (Or.inl ⟨by rfl, fun w hSw => by go_simp⟩) hHeld ?_
  refine wpAnyH_take (i := 10) (v := .int .i64 S.cf.units) rfl (by kernel_rfl) (by kernel_rfl) (by kernel_rfl) (fun _ _ _ h => h) (Or.inl ⟨by rfl, fun w hSw => by obtain ⟨q1, q2⟩ := hSw; go_simp⟩) hHeld ?_
  refine wpAnyH_ready (rs := [11]) (by kernel_rfl) (by simp) ?_
  refine AllReadyH.cons rfl (fun K hK => ?_) AllReadyH.nil
  go_simp
  go_at_call 82
  refine (fready HY2.out.drew HON.out _ _).mono ?_
  rintro e y3 ⟨⟨q3, k3, rfl⟩, hs⟩
  have HY3 := Hid.in hs
  clear hs c3 c11 h3
  have c3 : y3.cell? ⟨S.p, 3, none⟩ = some (.pointer (some ⟨S.wp, 0, none⟩)) := HY3.out.core.cell 3 (by decide)
  have c11 : y3.cell? ⟨S.p, 11, none⟩ = some (.int .i64 S.cf.units) := HY3.out.core.cell 11 (by decide)
  have h3 : S.p < y3.heap.size := HY3.out.core.here
  refine hK.out _ _ ⟨c3, c11⟩ (fun hHeld => ?_)
  clear hK K
  refine wpAnyH_take (i := 12) (oi := { dst := some 23, op := _, type := _, pos := _, after := _, guard := none }) (v := .slice none 0 0) rfl (by kernel_rfl) (by kernel_rfl) (by kernel_rfl) (fun _ _ _ h => h) (Or.inl ⟨by rfl, fun w hSw => exec_append rfl rfl rfl (app_none q3 k3 w)⟩) hHeld ?_
  simp only [Act.put, List.setIfInBounds_toArray, List.set_cons_zero, List.set_cons_succ]
  refine wpAnyH_take (i := 13) (v := .slice none 0 0) rfl (by kernel_rfl) (by kernel_rfl) (by kernel_rfl) (fun _ _ _ h => h) (Or.inl ⟨by rfl, fun w hSw => by go_simp⟩) hHeld ?_
  refine wpAnyH_done (by kernel_rfl) ?_ _
  go_wp2_with fail
  rw [rounds_succ]
  go_wp2_with (go_at_call 39; go_must (refine (fsort none 0 _).mono ?_; rintro e z ⟨rfl, rfl⟩))
  refine wp_loop_rounds 1 ?_
  rw [rounds_succ]
  go_wp2_with fail
  exact bodyPost_end (results_none Tryz.results81 _ _ _) rfl ⟨rfl, HY3.out⟩
end
end Go.Proofs.YtemamhkhjijdlaaGreatDoor
/-
  CORE: nobody begins; what is taken in.
-/
namespace Go.Proofs.YtemamhkhjijdlaaGreatDoor
open Go Go.RowKit
section
variable {x y : World} {S : FS}
theorem fstores (h : St x S) (hon : S.ws.on = []) : Calls Tryz.prog 85 #[.pointer (some ⟨S.p, 0, none⟩)] x fun e y => e = .returned (.tuple #[]) ∧ St y S := by
  have c3 : x.cell? ⟨S.p, 3, none⟩ = some (.pointer (some ⟨S.wp, 0, none⟩)) := h.core.cell 3 (by decide)
  have h3 := h.core.here
  have HR := Hid.in (fready h hon 5 1)
  clear h hon
  go_enter Tryz.func85, Tryz.ntmps85
  go_wp2_with (go_at_call 82; go_must (refine HR.out.mono ?_; rintro e y ⟨⟨q, c, rfl⟩, hs⟩; have HY := Hid.in hs; clear hs))
  refine wp_loop_rounds 1 ?_
  rw [rounds_succ]
  go_wp2_with fail
  exact bodyPost_end (results_none Tryz.results85 _ _ _) rfl ⟨rfl, HY.out⟩
theorem fbegin (h : St x S) (hon : S.ws.on = []) (hu : 1 ≤ S.cf.units ∧ S.cf.units ≤ 4) : Calls Tryz.prog 49 #[.pointer (some ⟨S.p, 0, none⟩)] x fun e y => e = .returned (.tuple #[]) ∧ St y S := by
  have HU := Hid.in (funits h hon hu)
  have HON := Hid.in hon
  clear h hon hu
  go_enter Tryz.func49, Tryz.ntmps49
  go_upto_region 1 with (go_at_call 81; go_must (refine HU.out.mono ?_; rintro e y ⟨rfl, hs⟩; have HY := Hid.in hs; clear hs))
  have c3 : y.cell? ⟨S.p, 3, none⟩ = some (.pointer (some ⟨S.wp, 0, none⟩)) := HY.out.core.cell 3 (by decide)
  have h3 := HY.out.core.here
  have HR := Hid.in (fready HY.out HON.out 1 1)
  go_wp2_with (go_at_call 82; go_must (refine HR.out.mono ?_; rintro e z ⟨⟨q, c, rfl⟩, hs⟩; have HZ := Hid.in hs; clear hs))
  refine wp_loop_rounds 1 ?_
  rw [rounds_succ]
  have HS := Hid.in (fstores HZ.out HON.out)
  go_upto_region 7 with (go_at_call 85; go_must (refine HS.out.mono ?_; rintro e v ⟨rfl, hs⟩; have HV := Hid.in hs; clear hs))
  have d3 : v.cell? ⟨S.p, 3, none⟩ = some (.pointer (some ⟨S.wp, 0, none⟩)) := HV.out.core.cell 3 (by decide)
  have h4 := HV.out.core.here
  have HR2 := Hid.in (fready HV.out HON.out 4 64)
  go_wp2_with (go_at_call 82; go_must (refine HR2.out.mono ?_; rintro e u ⟨⟨q2, c2, rfl⟩, hs⟩; have HU2 := Hid.in hs; clear hs))
  refine wp_loop_rounds 1 ?_
  rw [rounds_succ]
  go_wp2_with fail
  exact bodyPost_end (results_none Tryz.results49 _ _ _) rfl ⟨rfl, HU2.out⟩
/-- a flight, as it is fetched -/
def flt (pc : Int) (code : Bool) (op : Int) : Flt := ⟨0, pc, code, op, 0, 0, 0, 0, 7, 0, 0, 0, 0, 0, 0, 0, 0, 0, 0⟩
theorem faccess (h : St x S) {j fb : Nat} {f : Flt} (hf : S.ext j = CelC fb 27 f.at) (hc : f.cls = 7) : Calls Tryz.prog 160 #[.pointer (some ⟨fb, 0, none⟩)] x fun e y => e = .returned (.bool false) ∧ y = x := by
  have f8 : x.cell? ⟨fb, 8, none⟩ = some (.int .i64 f.cls) := (h.extc hf).cell 8 (by decide)
  have h4 := (h.extc hf).here
  rw [hc] at f8
  clear h hf hc
  go_enter Tryz.func160, Tryz.ntmps160
  go_wp2_with fail
  go_ret
  exact ⟨rfl, rfl⟩
theorem fwrites (h : St x S) {j fb : Nat} {f : Flt} (hf : S.ext j = CelC fb 27 f.at) (ho : f.op = 59 ∨ f.op = 0) : Calls Tryz.prog 162 #[.pointer (some ⟨fb, 0, none⟩)] x fun e y => e = .returned (.bool false) ∧ St y S := by
  have f3 : x.cell? ⟨fb, 3, none⟩ = some (.int .i64 f.op) := (h.extc hf).cell 3 (by decide)
  have h4 := (h.extc hf).here
  have HW : Hid (Calls Tryz.prog 197 #[.int .i64 f.op] x fun e w' => e = .returned (.bool false) ∧ Below x.heap.size x w') := Hid.in (by
    rcases ho with e | e <;> rw [e] <;> exact writesOf_any _ _ rfl x h.tabs)
  have H0 := Hid.in h
  clear h hf ho
  go_enter Tryz.func162, Tryz.ntmps162
  go_wp2_with (go_at_call 197; go_must (refine HW.out.mono ?_; rintro e y ⟨rfl, hb⟩; have HB := Hid.in hb; clear hb))
  go_ret
  exact ⟨rfl, H0.out.below HB.out⟩
set_option maxRecDepth 100000 in
set_option maxHeartbeats 4000000 in
theorem fname (h : St x S) {j fb : Nat} {f : Flt} (hf : S.ext j = CelC fb 27 f.at) (ho : f.op = 59 ∨ f.op = 0) : Calls Tryz.prog 165 #[.pointer (some ⟨S.p, 0, none⟩), .pointer (some ⟨fb, 0, none⟩)] x fun e y => e = .returned (.tuple #[]) ∧ St y { S with ext := upd S.ext j (CelC fb 27 ({ f with s1 := -1, s2 := -1, d := -1 } : Flt).at) } := by
  have kf := h.extc hf
  have f13 : x.cell? ⟨fb, 13, none⟩ = some (.int .i64 f.s1) := kf.cell 13 (by decide)
  have f14 : x.cell? ⟨fb, 14, none⟩ = some (.int .i64 f.s2) := kf.cell 14 (by decide)
  have f15 : x.cell? ⟨fb, 15, none⟩ = some (.int .i64 f.d) := kf.cell 15 (by decide)
  have f3 : x.cell? ⟨fb, 3, none⟩ = some (.int .i64 f.op) := kf.cell 3 (by decide)
  have g13 := kf.free 13
  have g14 := kf.free 14
  have g15 := kf.free 15
  have h4 := kf.here
  have k1 := h.onFlt (j := j) (o := 13) (v := .int .i64 (-1)) (f' := { f with s1 := -1 }) hf (by decide) (flt_s1 f (-1))
  have k2 := k1.onFlt (j := j) (o := 14) (v := .int .i64 (-1)) (f := { f with s1 := -1 }) (f' := { f with s1 := -1, s2 := -1 }) (upd_same _ _ _) (by decide) (flt_s2 _ (-1))
  have k3 := k2.onFlt (j := j) (o := 15) (v := .int .i64 (-1)) (f := { f with s1 := -1, s2 := -1 }) (f' := { f with s1 := -1, s2 := -1, d := -1 }) (upd_same _ _ _) (by decide) (flt_d _ (-1))
  simp only [upd_twice] at k3
  obtain ⟨X, hX⟩ : ∃ X, ((x.setCell ⟨fb, 13, none⟩ (.int .i64 (-1))).setCell ⟨fb, 14, none⟩ (.int .i64 (-1))).setCell ⟨fb, 15, none⟩ (.int .i64 (-1)) = X := ⟨_, rfl⟩
  rw [hX] at k3
  have HK := Hid.in k3
  have x3 : X.cell? ⟨fb, 3, none⟩ = some (.int .i64 f.op) := (k3.extc (k := j) (b := fb) (n := 27) (f := ({ f with s1 := -1, s2 := -1, d := -1 } : Flt).at) (upd_same _ _ _)).cell 3 (by decide)
  have hx4 := (k3.extc (k := j) (b := fb) (n := 27) (f := ({ f with s1 := -1, s2 := -1, d := -1 } : Flt).at) (upd_same _ _ _)).here
  have HR : Hid (Calls Tryz.prog 224 #[.int .i64 f.op] X fun e w' => e = .returned (.tuple #[.bool false, .bool false]) ∧ Below X.heap.size X w') := Hid.in (by
    rcases ho with e | e <;> rw [e] <;> exact readsOf_any _ _ rfl X k3.tabs)
  have HO := Hid.in ho
  clear h hf ho kf k1 k2 k3
  go_enter Tryz.func165, Tryz.ntmps165
  go_upto_region 1 with fail
  try rw [hX]
  clear hX f13 f14 f15 f3 g13 g14 g15 h4
  go_upto_region 6 with (go_at_call 224; go_must (refine HR.out.mono ?_; rintro e y ⟨rfl, hb⟩; have HB := Hid.in hb; clear hb))
  have HW := Hid.in (fwrites (HK.out.below HB.out) (j := j) (fb := fb) (f := { f with s1 := -1, s2 := -1, d := -1 }) (upd_same _ _ _) HO.out)
  go_wp2_with (go_at_call 162; go_must (refine HW.out.mono ?_; rintro e z ⟨rfl, hs⟩; have HZ := Hid.in hs; clear hs))
  exact bodyPost_end (results_none Tryz.results165 _ _ _) rfl ⟨rfl, HZ.out⟩
end
end Go.Proofs.YtemamhkhjijdlaaGreatDoor
