import Derived.Test.YtengofkjlgajlaaGreatDoorGx9
import Derived.LaidEql
import Derived.Stop.Asserts
import Derived.RowKitTokens
/-
  WHAT A CALLER TELLS OF AN ERROR: errors.As at a target of the type Errno.
-/
namespace Go.Proofs.YtengofkjlgajlaaGreatDoor
open Go Go.RowKit Go.Extern.Stop Go.Stop Go.Extern
theorem asV_ptr (t : Addr) (w : World) : (ReflectliteValue.unpack (.iface 72 (.pointer (some t)))).run Tryz.prog w = .ok (.agg #[.pointer (some ⟨4, 72, none⟩), .pointer (some ⟨w.heap.size, 0, none⟩), .int .u64 150]) (w.alloc (.cells #[.pointer (some t)] 72)) := by kernel_rfl
theorem asT_ptr (a : Addr) (w : World) : (ReflectliteValue.methodAny (ReflectliteValue.valueError "reflectlite.Value.Type" 0) (fun t _ _ _ => ReflectliteType.toType t) #[.agg #[.pointer (some ⟨4, 72, none⟩), .pointer (some a), .int .u64 150]]).run Tryz.prog w = .ok (.iface 165 (.agg #[.pointer (some ⟨4, 72, none⟩)])) w := by kernel_rfl
theorem asK_ptr (w : World) : ((ReflectliteType.abiMethod fun t => (fun a : Nat => Value.int IntKind.u8 (a : Int)) <$> Rtype.kind t) #[.pointer (some ⟨4, 72, none⟩)]).run Tryz.prog w = .ok (.int .u8 22) w := by kernel_rfl
theorem asK_err (w : World) : ((ReflectliteType.abiMethod fun t => (fun a : Nat => Value.int IntKind.u8 (a : Int)) <$> Rtype.kind t) #[.pointer (some ⟨4, 34, none⟩)]).run Tryz.prog w = .ok (.int .u8 2) w := by kernel_rfl
theorem as_parts (a : Addr) (w : World) : (ReflectliteValue.parts (.agg #[.pointer (some ⟨4, 72, none⟩), .pointer (some a), .int .u64 150])).run Tryz.prog w = .ok (some (72, a, 150)) w := by kernel_rfl
theorem asE_ptr (w : World) : (ReflectliteType.method ReflectliteType.elem #[.agg #[.pointer (some ⟨4, 72, none⟩)]]).run Tryz.prog w = .ok (.iface 165 (.agg #[.pointer (some ⟨4, 34, none⟩)])) w := by kernel_rfl
theorem asI_err (w : World) : (ReflectliteType.relation "Implements" ReflectliteType.implements_ #[.agg #[.pointer (some ⟨4, 34, none⟩)], .iface 165 (.agg #[.pointer (some ⟨4, 27, none⟩)])]).run Tryz.prog w = .ok (.bool true) w := by kernel_rfl
theorem asO_err (v : Value) (w : World) : (ReflectliteType.typeOf #[.iface 34 v]).run Tryz.prog w = .ok (.iface 165 (.agg #[.pointer (some ⟨4, 34, none⟩)])) w := by kernel_rfl
theorem asA_err (w : World) : (ReflectliteType.relation "AssignableTo" ReflectliteType.assignableTo #[.agg #[.pointer (some ⟨4, 34, none⟩)], .iface 165 (.agg #[.pointer (some ⟨4, 34, none⟩)])]).run Tryz.prog w = .ok (.bool true) w := by kernel_rfl
theorem asV_err (e : Int) (w : World) : (ReflectliteValue.unpack (.iface 34 (.int .i64 e))).run Tryz.prog w = .ok (.agg #[.pointer (some ⟨4, 34, none⟩), .pointer (some ⟨w.heap.size, 0, none⟩), .int .u64 130]) (w.alloc (.cells #[.int .i64 e] 34)) := by kernel_rfl
theorem as_elem (w : World) : (Rtype.elem? 72).run Tryz.prog w = .ok (some 34) w := by kernel_rfl
theorem as_mk (p : Addr) (w : World) : (ReflectliteValue.mk 34 p ReflectliteValue.flagAddr).run Tryz.prog w = .ok (.agg #[.pointer (some ⟨4, 34, none⟩), .pointer (some p), .int .u64 386]) w := by kernel_rfl
theorem as_parts2 (a : Addr) (w : World) : (ReflectliteValue.parts (.agg #[.pointer (some ⟨4, 34, none⟩), .pointer (some a), .int .u64 386])).run Tryz.prog w = .ok (some (34, a, 386)) w := by kernel_rfl
theorem as_parts3 (a : Addr) (w : World) : (ReflectliteValue.parts (.agg #[.pointer (some ⟨4, 34, none⟩), .pointer (some a), .int .u64 130])).run Tryz.prog w = .ok (some (34, a, 130)) w := by kernel_rfl
theorem as_direct (w : World) : (Rtype.directlyAssignable 34 34).run Tryz.prog w = .ok true w := by kernel_rfl
theorem as_isNil (a p : Addr) (W : World) (ha : W.cell? a = some (.pointer (some p))) : (ReflectliteValue.method (ReflectliteValue.valueError "reflectlite.Value.IsNil" 0) ReflectliteValue.isNil #[.agg #[.pointer (some ⟨4, 72, none⟩), .pointer (some a), .int .u64 150]]).run Tryz.prog W = .ok (.bool false) W := by
  show ((ReflectliteValue.parts (.agg #[.pointer (some ⟨4, 72, none⟩), .pointer (some a), .int .u64 150])) >>= _ : Sem Value).run Tryz.prog W = _
  simp only [Sem.run_bind, as_parts, Result.andThen]
  simp [ReflectliteValue.isNil, loadVar, isAgg, underlying, Tryz.underlying72, ha, Result.andThen]
theorem as_elemV (a p : Addr) (W : World) (ha : W.cell? a = some (.pointer (some p))) : (ReflectliteValue.method (ReflectliteValue.valueError "reflectlite.Value.Elem" 0) ReflectliteValue.elem #[.agg #[.pointer (some ⟨4, 72, none⟩), .pointer (some a), .int .u64 150]]).run Tryz.prog W = .ok (.agg #[.pointer (some ⟨4, 34, none⟩), .pointer (some p), .int .u64 386]) W := by
  show ((ReflectliteValue.parts (.agg #[.pointer (some ⟨4, 72, none⟩), .pointer (some a), .int .u64 150])) >>= _ : Sem Value).run Tryz.prog W = _
  simp only [Sem.run_bind, as_parts, Result.andThen]
  simp [ReflectliteValue.elem, loadVar, isAgg, underlying, Tryz.underlying72, ha, Result.andThen, as_elem, as_mk]
theorem as_set (ta b : Addr) (e : Int) (old : Value) (W : World) (hb : W.cell? b = some (.int .i64 e)) (ht : W.cell? ta = some old) (hf : W.frozen? ta = false) : (ReflectliteValue.set #[.agg #[.pointer (some ⟨4, 34, none⟩), .pointer (some ta), .int .u64 386], .agg #[.pointer (some ⟨4, 34, none⟩), .pointer (some b), .int .u64 130]]).run Tryz.prog W = .ok (.tuple #[]) (W.setCell ta (.int .i64 e)) := by
  have hs := run_store Tryz.prog W ta (.int .i64 e) .plain (by rfl)
  show ((ReflectliteValue.parts (.agg #[.pointer (some ⟨4, 34, none⟩), .pointer (some ta), .int .u64 386])) >>= fun q => ReflectliteValue.parts (.agg #[.pointer (some ⟨4, 34, none⟩), .pointer (some b), .int .u64 130]) >>= _ : Sem Value).run Tryz.prog W = _
  simp only [Sem.run_bind, as_parts2, as_parts3, Result.andThen]
  simp [ReflectliteValue.flagAddr, loadVar, isAgg, underlying, Tryz.underlying34, hb, Result.andThen, as_direct, storeVar, Value.cells, storeCells, Addr.add, hs, ht, hf]
end Go.Proofs.YtengofkjlgajlaaGreatDoor
/-
  WHAT A CALLER TELLS OF AN ERROR: errors.As; Told.
-/
namespace Go.Proofs.YtengofkjlgajlaaGreatDoor
open Go Go.RowKit Go.Extern.Stop Go.Stop Go.Extern
theorem asM_kind (h : Value) (w : World) : (Go.method 353 165 (.agg #[h]) "Kind").run Tryz.prog w = .ok (185, h) w := by kernel_rfl
theorem asM_elem (h : Value) (w : World) : (Go.method 353 165 (.agg #[h]) "Elem").run Tryz.prog w = .ok (195, .agg #[h]) w := by kernel_rfl
theorem asM_impl (h : Value) (w : World) : (Go.method 353 165 (.agg #[h]) "Implements").run Tryz.prog w = .ok (196, .agg #[h]) w := by kernel_rfl
theorem asM_assign (h : Value) (w : World) : (Go.method 353 165 (.agg #[h]) "AssignableTo").run Tryz.prog w = .ok (193, .agg #[h]) w := by kernel_rfl
set_option maxHeartbeats 1000000 in
theorem as_hit (e : Int) (t : Addr) (old : Value) (w : World) (hg : w.cell? ⟨0, 0, none⟩ = some (.iface 165 (.agg #[.pointer (some ⟨4, 27, none⟩)]))) (ht0 : w.cell? t = some old) (hf0 : w.frozen? t = false) : Calls Tryz.prog 26 #[.iface 34 (.int .i64 e), .iface 72 (.pointer (some t))] w fun ev w' => ev = .returned (.bool true) ∧ w' = ((((w.alloc (.cells #[.pointer (some t)] 72)).alloc (.cells #[.pointer (some ⟨4, 72, none⟩), .pointer (some ⟨w.heap.size, 0, none⟩), .int .u64 150] 125)).alloc (.cells #[.pointer (some ⟨4, 72, none⟩), .pointer (some ⟨w.heap.size, 0, none⟩), .int .u64 150] 125)).alloc (.cells #[.int .i64 e] 34)).setCell t (.int .i64 e) := by
  have x1 := @run_callFunc_extern Tryz.prog 60 _ (fun args => ReflectliteValue.unpack (args.getD 0 (.tuple #[]))) Tryz.func60 (by kernel_rfl) (by kernel_rfl) (by kernel_rfl) (by kernel_rfl)
  have x2 := @run_callFunc_extern Tryz.prog 61 _ (ReflectliteValue.methodAny (ReflectliteValue.valueError "reflectlite.Value.Type" 0) (fun t _ _ _ => ReflectliteType.toType t)) Tryz.func61 (by kernel_rfl) (by kernel_rfl) (by kernel_rfl) (by kernel_rfl)
  have x3 := @run_callFunc_extern Tryz.prog 62 _ (ReflectliteValue.method (ReflectliteValue.valueError "reflectlite.Value.IsNil" 0) ReflectliteValue.isNil) Tryz.func62 (by kernel_rfl) (by kernel_rfl) (by kernel_rfl) (by kernel_rfl)
  have x4 := @run_callFunc_extern Tryz.prog 185 _ (ReflectliteType.abiMethod fun t => do pure (.int .u8 (← Rtype.kind t))) Tryz.func185 (by kernel_rfl) (by kernel_rfl) (by kernel_rfl) (by kernel_rfl)
  have x5 := @run_callFunc_extern Tryz.prog 195 _ (ReflectliteType.method ReflectliteType.elem) Tryz.func195 (by kernel_rfl) (by kernel_rfl) (by kernel_rfl) (by kernel_rfl)
  have x6 := @run_callFunc_extern Tryz.prog 196 _ (ReflectliteType.relation "Implements" ReflectliteType.implements_) Tryz.func196 (by kernel_rfl) (by kernel_rfl) (by kernel_rfl) (by kernel_rfl)
  have x7 := @run_callFunc_extern Tryz.prog 91 _ (ReflectliteType.typeOf) Tryz.func91 (by kernel_rfl) (by kernel_rfl) (by kernel_rfl) (by kernel_rfl)
  have x8 := @run_callFunc_extern Tryz.prog 193 _ (ReflectliteType.relation "AssignableTo" ReflectliteType.assignableTo) Tryz.func193 (by kernel_rfl) (by kernel_rfl) (by kernel_rfl) (by kernel_rfl)
  have x9 := @run_callFunc_extern Tryz.prog 92 _ (ReflectliteValue.method (ReflectliteValue.valueError "reflectlite.Value.Elem" 0) ReflectliteValue.elem) Tryz.func92 (by kernel_rfl) (by kernel_rfl) (by kernel_rfl) (by kernel_rfl)
  have x10 := @run_callFunc_extern Tryz.prog 93 _ (ReflectliteValue.set) Tryz.func93 (by kernel_rfl) (by kernel_rfl) (by kernel_rfl) (by kernel_rfl)
  have y0 := asV_ptr
  have y1 := asT_ptr
  have y2 := asK_ptr
  have y3 := asK_err
  have y4 := asE_ptr
  have y5 := asI_err
  have y6 := asO_err
  have y7 := asA_err
  have y8 := asV_err
  have y9 := asM_kind
  have y10 := asM_elem
  have y11 := asM_impl
  have y12 := asM_assign
  have hlt : 0 < w.heap.size := cell_here hg
  have htl : t.block < w.heap.size := by
    rcases Nat.lt_or_ge t.block w.heap.size with h | h
    · exact h
    · simp [World.cell?, Array.getElem?_eq_none h] at ht0
  have n8 := as_isNil ⟨w.heap.size, 0, none⟩ t ((w.alloc (.cells #[.pointer (some t)] 72)).alloc (.cells #[.pointer (some ⟨4, 72, none⟩), .pointer (some ⟨w.heap.size, 0, none⟩), .int .u64 150] 125)) ((alloc_old (by simp)).trans (by first | simp | exact World.cell?_alloc_new w _ _ 0))
  have hg2 : ((w.alloc (.cells #[.pointer (some t)] 72)).alloc (.cells #[.pointer (some ⟨4, 72, none⟩), .pointer (some ⟨w.heap.size, 0, none⟩), .int .u64 150] 125)).cell? ⟨0, 0, none⟩ = some (.iface 165 (.agg #[.pointer (some ⟨4, 27, none⟩)])) := (alloc_old (by simp <;> omega)).trans ((alloc_old hlt).trans hg)
  have el := as_elemV ⟨w.heap.size, 0, none⟩ t (((w.alloc (.cells #[.pointer (some t)] 72)).alloc (.cells #[.pointer (some ⟨4, 72, none⟩), .pointer (some ⟨w.heap.size, 0, none⟩), .int .u64 150] 125)).alloc (.cells #[.pointer (some ⟨4, 72, none⟩), .pointer (some ⟨w.heap.size, 0, none⟩), .int .u64 150] 125)) ((alloc_old (by simp <;> omega)).trans ((alloc_old (by simp)).trans (by first | simp | exact World.cell?_alloc_new w _ _ 0)))
  have st := as_set t ⟨w.heap.size + 1 + 1 + 1, 0, none⟩ e old ((((w.alloc (.cells #[.pointer (some t)] 72)).alloc (.cells #[.pointer (some ⟨4, 72, none⟩), .pointer (some ⟨w.heap.size, 0, none⟩), .int .u64 150] 125)).alloc (.cells #[.pointer (some ⟨4, 72, none⟩), .pointer (some ⟨w.heap.size, 0, none⟩), .int .u64 150] 125)).alloc (.cells #[.int .i64 e] 34)) (by first | simp | (rw [World.cell?_alloc_at _ _ _ _ (by simp)]; rfl)) ((alloc_old (by simp; omega)).trans ((alloc_old (by simp; omega)).trans ((alloc_old (by simp; omega)).trans ((alloc_old htl).trans ht0)))) ((alloc_oldf (by simp; omega)).trans ((alloc_oldf (by simp; omega)).trans ((alloc_oldf (by simp; omega)).trans ((alloc_oldf htl).trans hf0))))
  go_enter Tryz.func26, Tryz.ntmps26
  go_wp2
  refine wp_loop_rounds 1 ?_
  rw [rounds_succ]
  go_wp2
  go_ret
  exact ⟨rfl, rfl⟩
end Go.Proofs.YtengofkjlgajlaaGreatDoor
/-
  WHAT THE LAW'S OWN HELPERS ANSWER: Told, retired, regs.
-/
namespace Go.Proofs.YtengofkjlgajlaaGreatDoor
open Go Go.RowKit
theorem told_nil (w : World) : Calls Tryz.prog 7 #[.nilIface] w fun e w' => e = .returned (.int .i64 0) ∧ Below w.heap.size w w' := by
  go_enter Tryz.func7, Tryz.ntmps7
  go_wp2
  go_ret
  exact ⟨rfl, by first | exact Below.refl _ _ | exact (Below.refl _ _).alloc (Nat.le_refl _) _⟩
set_option maxHeartbeats 1000000 in
theorem told_err (k : Int) (w : World) (hg : w.cell? ⟨0, 0, none⟩ = some (.iface 165 (.agg #[.pointer (some ⟨4, 27, none⟩)]))) : Calls Tryz.prog 7 #[.iface 34 (.int .i64 k)] w fun e w' => e = .returned (.int .i64 k) ∧ Below w.heap.size w w' := by
  have h0 : 0 < w.heap.size := cell_here hg
  have hg1 : (w.alloc (.cells #[.int .i64 0] 34)).cell? ⟨0, 0, none⟩ = some (.iface 165 (.agg #[.pointer (some ⟨4, 27, none⟩)])) := (alloc_old h0).trans hg
  have HG := Hid.in hg1
  clear hg hg1
  go_enter Tryz.func7, Tryz.ntmps7
  go_wp2_with (go_at_call 26; refine (as_hit k ⟨w.heap.size, 0, none⟩ (.int .i64 0) _ HG.out (by first | simp | exact World.cell?_alloc_new w _ _ 0) (World.frozen?_alloc_at _ _ _ 0 rfl)).mono ?_; rintro e w1 ⟨rfl, hw1⟩; have c1 : w1.cell? ⟨w.heap.size, 0, none⟩ = some (.int .i64 k) := (by rw [hw1]; exact World.cell?_setCell_same _ _ _ ((alloc_old (by simp <;> omega)).trans ((alloc_old (by simp <;> omega)).trans ((alloc_old (by simp <;> omega)).trans ((alloc_old (by simp)).trans (World.cell?_alloc_new w _ _ 0)))))); have bl : Below w.heap.size w w1 := (by rw [hw1]; exact (((((((Below.refl _ _).alloc (Nat.le_refl _) _).alloc (by simp) _).alloc (by simp <;> omega) _).alloc (by simp <;> omega) _).alloc (by simp <;> omega) _).setCell (by exact Nat.le_refl _) _)); clear hw1)
  go_ret
  exact ⟨rfl, bl⟩
set_option maxHeartbeats 1000000 in
theorem retired_any (a b c d e f g : Int) (w : World) : Calls Tryz.prog 11 #[.agg #[.int .u32 a, .int .u32 b, .int .i64 c, .int .u32 d, .int .i64 e, .int .u32 f, .int .u32 g]] w fun r w' => r = .returned (.agg #[.int .u32 a, .int .u32 b, .int .i64 c, .int .u32 d, .int .i64 e, .int .u32 f, .int .u32 g]) ∧ Below w.heap.size w w' := by
  go_enter Tryz.func11, Tryz.ntmps11
  go_wp2
  refine bodyPost_ret (v := .agg #[.int .u32 a, .int .u32 b, .int .i64 c, .int .u32 d, .int .i64 e, .int .u32 f, .int .u32 g]) (by simp [results, Tryz.results11, go_sem]) rfl ⟨rfl, ?_⟩
  repeat (first | with_reducible exact Below.refl _ _ | with_reducible refine Below.drew ?_ | with_reducible refine Below.alloc ?_ (by simp <;> omega) _ | with_reducible refine Below.setCell ?_ (by first | exact Nat.le_refl _ | exact Nat.le_succ _) _)
end Go.Proofs.YtengofkjlgajlaaGreatDoor
/-
  THE LAW's HELPER regs: both harts' registers, place and end.
-/
namespace Go.Proofs.YtengofkjlgajlaaGreatDoor
open Go Go.RowKit
set_option maxHeartbeats 1000000 in
theorem regs_any (p b : Nat) (cv : Value) (S : HS) (w : World) (h : PH w p cv S) (k : RH w b S) : Calls Tryz.prog 16 #[.pointer (some ⟨p, 0, none⟩), .pointer (some ⟨b, 0, none⟩)] w fun e w' => e = .returned (.bool true) ∧ w' = w := by
  have cpc : w.cell? ⟨b, 3, none⟩ = some (.int .u32 S.pc) := k.cell 3 (by decide)
  have chalt : w.cell? ⟨b, 36, none⟩ = some (.bool S.halted) := k.cell 36 (by decide)
  have hb := k.here
  have HP : Hid (PH w p cv S) := h
  have HR : Hid (RH w b S) := k
  clear h k
  go_enter Tryz.func16, Tryz.ntmps16
  go_wp2_with fail
  go_loopw [5] (fun v wr => ∃ j : Nat, j ≤ 32 ∧ v = .int .i64 j ∧ wr = w) (fun v _ => 33 - (intOf v).toNat)
  case atStart => exact ⟨0, by omega, rfl, rfl⟩
  case round =>
    obtain ⟨j, hj, rfl, rfl⟩ := hrel
    by_cases hlt : j < 32
    · have creg : wr.cell? ⟨b, 4 + j, none⟩ = some (.int .u32 (S.regs j)) := HR.out.atReg j hlt
      go_wp2_with (go_at_call 33; refine (preg_any p cv S j _ HP.out hlt).mono ?_; rintro e w1 ⟨rfl, hw1⟩; have hw2 := hw1.symm; clear hw1; subst hw2)
      go_roundw
      case rel => exact ⟨j + 1, by omega, by go_num, by first | trivial | rfl⟩
      case measure => simp [intOf]; omega
    · have hj2 : j = 32 := by omega
      subst hj2
      go_wp2_with (first
        | (go_at_call 34; refine (ppc_any p cv S _ HP.out).mono ?_; rintro e w1 ⟨rfl, hw1⟩; have hw2 := hw1.symm; clear hw1; subst hw2)
        | (go_at_call 27; refine (phalted_any p cv S _ HP.out).mono ?_; rintro e w1 ⟨rfl, hw1⟩; have hw2 := hw1.symm; clear hw1; subst hw2))
      go_ret
      exact ⟨rfl, rfl⟩
end Go.Proofs.YtengofkjlgajlaaGreatDoor
