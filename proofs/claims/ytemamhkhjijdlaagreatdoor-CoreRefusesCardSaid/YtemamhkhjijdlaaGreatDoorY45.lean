import Derived.Test.YtemamhkhjijdlaaGreatDoorY00
import Derived.LaidEql
import Derived.Stop.Asserts
import Derived.RowKitTokens
/-
  WHAT A CALLER TELLS OF AN ERROR: errors.As at a target of the type Errno.
-/
namespace Go.Proofs.YtemamhkhjijdlaaGreatDoor
open Go Go.RowKit Go.Extern.Stop Go.Stop Go.Extern
theorem alloc_old {W : World} {o : Obj} {a : Addr} (h : a.block < W.heap.size) : (W.alloc o).cell? a = W.cell? a := ((Below.refl _ _).alloc (Nat.le_refl _) o).cell h
theorem alloc_oldf {W : World} {o : Obj} {a : Addr} (h : a.block < W.heap.size) : (W.alloc o).frozen? a = W.frozen? a := ((Below.refl _ _).alloc (Nat.le_refl _) o).frozen h
theorem asV_ptr (t : Addr) (w : World) : (ReflectliteValue.unpack (.iface 54 (.pointer (some t)))).run Tryz.prog w = .ok (.agg #[.pointer (some ⟨4, 54, none⟩), .pointer (some ⟨w.heap.size, 0, none⟩), .int .u64 150]) (w.alloc (.cells #[.pointer (some t)] 54)) := by kernel_rfl
theorem asT_ptr (a : Addr) (w : World) : (ReflectliteValue.methodAny (ReflectliteValue.valueError "reflectlite.Value.Type" 0) (fun t _ _ _ => ReflectliteType.toType t) #[.agg #[.pointer (some ⟨4, 54, none⟩), .pointer (some a), .int .u64 150]]).run Tryz.prog w = .ok (.iface 106 (.agg #[.pointer (some ⟨4, 54, none⟩)])) w := by kernel_rfl
theorem asK_ptr (w : World) : ((ReflectliteType.abiMethod fun t => (fun a : Nat => Value.int IntKind.u8 (a : Int)) <$> Rtype.kind t) #[.pointer (some ⟨4, 54, none⟩)]).run Tryz.prog w = .ok (.int .u8 22) w := by kernel_rfl
theorem asK_err (w : World) : ((ReflectliteType.abiMethod fun t => (fun a : Nat => Value.int IntKind.u8 (a : Int)) <$> Rtype.kind t) #[.pointer (some ⟨4, 33, none⟩)]).run Tryz.prog w = .ok (.int .u8 2) w := by kernel_rfl
theorem as_parts (a : Addr) (w : World) : (ReflectliteValue.parts (.agg #[.pointer (some ⟨4, 54, none⟩), .pointer (some a), .int .u64 150])).run Tryz.prog w = .ok (some (54, a, 150)) w := by kernel_rfl
theorem asE_ptr (w : World) : (ReflectliteType.method ReflectliteType.elem #[.agg #[.pointer (some ⟨4, 54, none⟩)]]).run Tryz.prog w = .ok (.iface 106 (.agg #[.pointer (some ⟨4, 33, none⟩)])) w := by kernel_rfl
theorem asI_err (w : World) : (ReflectliteType.relation "Implements" ReflectliteType.implements_ #[.agg #[.pointer (some ⟨4, 33, none⟩)], .iface 106 (.agg #[.pointer (some ⟨4, 40, none⟩)])]).run Tryz.prog w = .ok (.bool true) w := by kernel_rfl
theorem asO_err (v : Value) (w : World) : (ReflectliteType.typeOf #[.iface 33 v]).run Tryz.prog w = .ok (.iface 106 (.agg #[.pointer (some ⟨4, 33, none⟩)])) w := by kernel_rfl
theorem asA_err (w : World) : (ReflectliteType.relation "AssignableTo" ReflectliteType.assignableTo #[.agg #[.pointer (some ⟨4, 33, none⟩)], .iface 106 (.agg #[.pointer (some ⟨4, 33, none⟩)])]).run Tryz.prog w = .ok (.bool true) w := by kernel_rfl
theorem asV_err (e : Int) (w : World) : (ReflectliteValue.unpack (.iface 33 (.int .i64 e))).run Tryz.prog w = .ok (.agg #[.pointer (some ⟨4, 33, none⟩), .pointer (some ⟨w.heap.size, 0, none⟩), .int .u64 130]) (w.alloc (.cells #[.int .i64 e] 33)) := by kernel_rfl
theorem as_elem (w : World) : (Rtype.elem? 54).run Tryz.prog w = .ok (some 33) w := by kernel_rfl
theorem as_mk (p : Addr) (w : World) : (ReflectliteValue.mk 33 p ReflectliteValue.flagAddr).run Tryz.prog w = .ok (.agg #[.pointer (some ⟨4, 33, none⟩), .pointer (some p), .int .u64 386]) w := by kernel_rfl
theorem as_parts2 (a : Addr) (w : World) : (ReflectliteValue.parts (.agg #[.pointer (some ⟨4, 33, none⟩), .pointer (some a), .int .u64 386])).run Tryz.prog w = .ok (some (33, a, 386)) w := by kernel_rfl
theorem as_parts3 (a : Addr) (w : World) : (ReflectliteValue.parts (.agg #[.pointer (some ⟨4, 33, none⟩), .pointer (some a), .int .u64 130])).run Tryz.prog w = .ok (some (33, a, 130)) w := by kernel_rfl
theorem as_direct (w : World) : (Rtype.directlyAssignable 33 33).run Tryz.prog w = .ok true w := by kernel_rfl
theorem as_isNil (a p : Addr) (W : World) (ha : W.cell? a = some (.pointer (some p))) : (ReflectliteValue.method (ReflectliteValue.valueError "reflectlite.Value.IsNil" 0) ReflectliteValue.isNil #[.agg #[.pointer (some ⟨4, 54, none⟩), .pointer (some a), .int .u64 150]]).run Tryz.prog W = .ok (.bool false) W := by
  show ((ReflectliteValue.parts (.agg #[.pointer (some ⟨4, 54, none⟩), .pointer (some a), .int .u64 150])) >>= _ : Sem Value).run Tryz.prog W = _
  simp only [Sem.run_bind, as_parts, Result.andThen]
  simp [ReflectliteValue.isNil, loadVar, isAgg, underlying, Tryz.underlying54, ha, Result.andThen]
theorem as_elemV (a p : Addr) (W : World) (ha : W.cell? a = some (.pointer (some p))) : (ReflectliteValue.method (ReflectliteValue.valueError "reflectlite.Value.Elem" 0) ReflectliteValue.elem #[.agg #[.pointer (some ⟨4, 54, none⟩), .pointer (some a), .int .u64 150]]).run Tryz.prog W = .ok (.agg #[.pointer (some ⟨4, 33, none⟩), .pointer (some p), .int .u64 386]) W := by
  show ((ReflectliteValue.parts (.agg #[.pointer (some ⟨4, 54, none⟩), .pointer (some a), .int .u64 150])) >>= _ : Sem Value).run Tryz.prog W = _
  simp only [Sem.run_bind, as_parts, Result.andThen]
  simp [ReflectliteValue.elem, loadVar, isAgg, underlying, Tryz.underlying54, ha, Result.andThen, as_elem, as_mk]
theorem as_set (ta b : Addr) (e : Int) (old : Value) (W : World) (hb : W.cell? b = some (.int .i64 e)) (ht : W.cell? ta = some old) (hf : W.frozen? ta = false) : (ReflectliteValue.set #[.agg #[.pointer (some ⟨4, 33, none⟩), .pointer (some ta), .int .u64 386], .agg #[.pointer (some ⟨4, 33, none⟩), .pointer (some b), .int .u64 130]]).run Tryz.prog W = .ok (.tuple #[]) (W.setCell ta (.int .i64 e)) := by
  have hs := run_store Tryz.prog W ta (.int .i64 e) .plain (by rfl)
  show ((ReflectliteValue.parts (.agg #[.pointer (some ⟨4, 33, none⟩), .pointer (some ta), .int .u64 386])) >>= fun q => ReflectliteValue.parts (.agg #[.pointer (some ⟨4, 33, none⟩), .pointer (some b), .int .u64 130]) >>= _ : Sem Value).run Tryz.prog W = _
  simp only [Sem.run_bind, as_parts2, as_parts3, Result.andThen]
  simp [ReflectliteValue.flagAddr, loadVar, isAgg, underlying, Tryz.underlying33, hb, Result.andThen, as_direct, storeVar, Value.cells, storeCells, Addr.add, hs, ht, hf]
end Go.Proofs.YtemamhkhjijdlaaGreatDoor
/-
  WHAT A CALLER TELLS OF AN ERROR: errors.As; Told.
-/
namespace Go.Proofs.YtemamhkhjijdlaaGreatDoor
open Go Go.RowKit Go.Extern.Stop Go.Stop Go.Extern
theorem asM_kind (h : Value) (w : World) : (Go.method 573 106 (.agg #[h]) "Kind").run Tryz.prog w = .ok (365, h) w := by kernel_rfl
theorem asM_elem (h : Value) (w : World) : (Go.method 573 106 (.agg #[h]) "Elem").run Tryz.prog w = .ok (375, .agg #[h]) w := by kernel_rfl
theorem asM_impl (h : Value) (w : World) : (Go.method 573 106 (.agg #[h]) "Implements").run Tryz.prog w = .ok (376, .agg #[h]) w := by kernel_rfl
theorem asM_assign (h : Value) (w : World) : (Go.method 573 106 (.agg #[h]) "AssignableTo").run Tryz.prog w = .ok (373, .agg #[h]) w := by kernel_rfl
set_option maxHeartbeats 1000000 in
theorem as_hit (e : Int) (t : Addr) (old : Value) (w : World) (hg : w.cell? ⟨0, 0, none⟩ = some (.iface 106 (.agg #[.pointer (some ⟨4, 40, none⟩)]))) (ht0 : w.cell? t = some old) (hf0 : w.frozen? t = false) : Calls Tryz.prog 10 #[.iface 33 (.int .i64 e), .iface 54 (.pointer (some t))] w fun ev w' => ev = .returned (.bool true) ∧ w' = ((((w.alloc (.cells #[.pointer (some t)] 54)).alloc (.cells #[.pointer (some ⟨4, 54, none⟩), .pointer (some ⟨w.heap.size, 0, none⟩), .int .u64 150] 80)).alloc (.cells #[.pointer (some ⟨4, 54, none⟩), .pointer (some ⟨w.heap.size, 0, none⟩), .int .u64 150] 80)).alloc (.cells #[.int .i64 e] 33)).setCell t (.int .i64 e) := by
  have x1 := @run_callFunc_extern Tryz.prog 16 _ (fun args => ReflectliteValue.unpack (args.getD 0 (.tuple #[]))) Tryz.func16 (by kernel_rfl) (by kernel_rfl) (by kernel_rfl) (by kernel_rfl)
  have x2 := @run_callFunc_extern Tryz.prog 17 _ (ReflectliteValue.methodAny (ReflectliteValue.valueError "reflectlite.Value.Type" 0) (fun t _ _ _ => ReflectliteType.toType t)) Tryz.func17 (by kernel_rfl) (by kernel_rfl) (by kernel_rfl) (by kernel_rfl)
  have x3 := @run_callFunc_extern Tryz.prog 18 _ (ReflectliteValue.method (ReflectliteValue.valueError "reflectlite.Value.IsNil" 0) ReflectliteValue.isNil) Tryz.func18 (by kernel_rfl) (by kernel_rfl) (by kernel_rfl) (by kernel_rfl)
  have x4 := @run_callFunc_extern Tryz.prog 365 _ (ReflectliteType.abiMethod fun t => do pure (.int .u8 (← Rtype.kind t))) Tryz.func365 (by kernel_rfl) (by kernel_rfl) (by kernel_rfl) (by kernel_rfl)
  have x5 := @run_callFunc_extern Tryz.prog 375 _ (ReflectliteType.method ReflectliteType.elem) Tryz.func375 (by kernel_rfl) (by kernel_rfl) (by kernel_rfl) (by kernel_rfl)
  have x6 := @run_callFunc_extern Tryz.prog 376 _ (ReflectliteType.relation "Implements" ReflectliteType.implements_) Tryz.func376 (by kernel_rfl) (by kernel_rfl) (by kernel_rfl) (by kernel_rfl)
  have x7 := @run_callFunc_extern Tryz.prog 29 _ (ReflectliteType.typeOf) Tryz.func29 (by kernel_rfl) (by kernel_rfl) (by kernel_rfl) (by kernel_rfl)
  have x8 := @run_callFunc_extern Tryz.prog 373 _ (ReflectliteType.relation "AssignableTo" ReflectliteType.assignableTo) Tryz.func373 (by kernel_rfl) (by kernel_rfl) (by kernel_rfl) (by kernel_rfl)
  have x9 := @run_callFunc_extern Tryz.prog 30 _ (ReflectliteValue.method (ReflectliteValue.valueError "reflectlite.Value.Elem" 0) ReflectliteValue.elem) Tryz.func30 (by kernel_rfl) (by kernel_rfl) (by kernel_rfl) (by kernel_rfl)
  have x10 := @run_callFunc_extern Tryz.prog 31 _ (ReflectliteValue.set) Tryz.func31 (by kernel_rfl) (by kernel_rfl) (by kernel_rfl) (by kernel_rfl)
  have y0 := asV_ptr
  have y1 := asT_ptr
  have y2 := asK_ptr
  have y3 := asK_err
  have y4 := asE_ptr
  have y5 := asI_err
  have y6 := asO_err
  have y7 := asA_err
  have y8 := asV_err
  have y9 := asM_kind
  have y10 := asM_elem
  have y11 := asM_impl
  have y12 := asM_assign
  have hlt : 0 < w.heap.size := cell_here hg
  have htl : t.block < w.heap.size := by
    rcases Nat.lt_or_ge t.block w.heap.size with h | h
    · exact h
    · simp [World.cell?, Array.getElem?_eq_none h] at ht0
  have n8 := as_isNil ⟨w.heap.size, 0, none⟩ t ((w.alloc (.cells #[.pointer (some t)] 54)).alloc (.cells #[.pointer (some ⟨4, 54, none⟩), .pointer (some ⟨w.heap.size, 0, none⟩), .int .u64 150] 80)) ((alloc_old (by simp)).trans (by first | simp | exact World.cell?_alloc_new w _ _ 0))
  have hg2 : ((w.alloc (.cells #[.pointer (some t)] 54)).alloc (.cells #[.pointer (some ⟨4, 54, none⟩), .pointer (some ⟨w.heap.size, 0, none⟩), .int .u64 150] 80)).cell? ⟨0, 0, none⟩ = some (.iface 106 (.agg #[.pointer (some ⟨4, 40, none⟩)])) := (alloc_old (by simp <;> omega)).trans ((alloc_old hlt).trans hg)
  have el := as_elemV ⟨w.heap.size, 0, none⟩ t (((w.alloc (.cells #[.pointer (some t)] 54)).alloc (.cells #[.pointer (some ⟨4, 54, none⟩), .pointer (some ⟨w.heap.size, 0, none⟩), .int .u64 150] 80)).alloc (.cells #[.pointer (some ⟨4, 54, none⟩), .pointer (some ⟨w.heap.size, 0, none⟩), .int .u64 150] 80)) ((alloc_old (by simp <;> omega)).trans ((alloc_old (by simp)).trans (by first | simp | exact World.cell?_alloc_new w _ _ 0)))
  have st := as_set t ⟨w.heap.size + 1 + 1 + 1, 0, none⟩ e old ((((w.alloc (.cells #[.pointer (some t)] 54)).alloc (.cells #[.pointer (some ⟨4, 54, none⟩), .pointer (some ⟨w.heap.size, 0, none⟩), .int .u64 150] 80)).alloc (.cells #[.pointer (some ⟨4, 54, none⟩), .pointer (some ⟨w.heap.size, 0, none⟩), .int .u64 150] 80)).alloc (.cells #[.int .i64 e] 33)) (by first | simp | (rw [World.cell?_alloc_at _ _ _ _ (by simp)]; rfl)) ((alloc_old (by simp; omega)).trans ((alloc_old (by simp; omega)).trans ((alloc_old (by simp; omega)).trans ((alloc_old htl).trans ht0)))) ((alloc_oldf (by simp; omega)).trans ((alloc_oldf (by simp; omega)).trans ((alloc_oldf (by simp; omega)).trans ((alloc_oldf htl).trans hf0))))
  go_enter Tryz.func10, Tryz.ntmps10
  go_wp2
  refine wp_loop_rounds 1 ?_
  rw [rounds_succ]
  go_wp2
  go_ret
  exact ⟨rfl, rfl⟩
end Go.Proofs.YtemamhkhjijdlaaGreatDoor
/-
  WHAT THE LAW'S OWN HELPERS ANSWER: Told, retired, regs.
-/
namespace Go.Proofs.YtemamhkhjijdlaaGreatDoor
open Go Go.RowKit
theorem told_nil (w : World) : Calls Tryz.prog 7 #[.nilIface] w fun e w' => e = .returned (.int .i64 0) ∧ Below w.heap.size w w' := by
  go_enter Tryz.func7, Tryz.ntmps7
  go_wp2
  go_ret
  exact ⟨rfl, by first | exact Below.refl _ _ | exact (Below.refl _ _).alloc (Nat.le_refl _) _⟩
set_option maxHeartbeats 1000000 in
theorem told_err (k : Int) (w : World) (hg : w.cell? ⟨0, 0, none⟩ = some (.iface 106 (.agg #[.pointer (some ⟨4, 40, none⟩)]))) : Calls Tryz.prog 7 #[.iface 33 (.int .i64 k)] w fun e w' => e = .returned (.int .i64 k) ∧ Below w.heap.size w w' := by
  have h0 : 0 < w.heap.size := cell_here hg
  have hg1 : (w.alloc (.cells #[.int .i64 0] 33)).cell? ⟨0, 0, none⟩ = some (.iface 106 (.agg #[.pointer (some ⟨4, 40, none⟩)])) := (alloc_old h0).trans hg
  have HG := Hid.in hg1
  clear hg hg1
  go_enter Tryz.func7, Tryz.ntmps7
  go_wp2_with (go_at_call 10; refine (as_hit k ⟨w.heap.size, 0, none⟩ (.int .i64 0) _ HG.out (by first | simp | exact World.cell?_alloc_new w _ _ 0) (World.frozen?_alloc_at _ _ _ 0 rfl)).mono ?_; rintro e w1 ⟨rfl, hw1⟩; have c1 : w1.cell? ⟨w.heap.size, 0, none⟩ = some (.int .i64 k) := (by rw [hw1]; exact World.cell?_setCell_same _ _ _ ((alloc_old (by simp <;> omega)).trans ((alloc_old (by simp <;> omega)).trans ((alloc_old (by simp <;> omega)).trans ((alloc_old (by simp)).trans (World.cell?_alloc_new w _ _ 0)))))); have bl : Below w.heap.size w w1 := (by rw [hw1]; exact (((((((Below.refl _ _).alloc (Nat.le_refl _) _).alloc (by simp) _).alloc (by simp <;> omega) _).alloc (by simp <;> omega) _).alloc (by simp <;> omega) _).setCell (by exact Nat.le_refl _) _)); clear hw1)
  go_ret
  exact ⟨rfl, bl⟩
end Go.Proofs.YtemamhkhjijdlaaGreatDoor
