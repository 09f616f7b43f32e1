import Derived.Test.YtbbfocemgojngaaGreatDoorXu4
import Derived.LaidEql
import Derived.Stop.Asserts
import Derived.RowKitTokens
import Derived.Deep.Cut
import Derived.Deep.CutRange
import Derived.Deep.DeepCutAuto
import Derived.JoinedCond
import Derived.LaidHandle
/-
  WHAT A CALLER TELLS OF AN ERROR: errors.As at a target of the type Errno.
-/
namespace Go.Proofs.YtbbfocemgojngaaGreatDoor
open Go Go.RowKit Go.Extern.Stop Go.Stop Go.Extern
theorem asV_ptr (t : Addr) (w : World) : (ReflectliteValue.unpack (.iface 76 (.pointer (some t)))).run Tryz.prog w = .ok (.agg #[.pointer (some ⟨4, 76, none⟩), .pointer (some ⟨w.heap.size, 0, none⟩), .int .u64 150]) (w.alloc (.cells #[.pointer (some t)] 76)) := by kernel_rfl
theorem asT_ptr (a : Addr) (w : World) : (ReflectliteValue.methodAny (ReflectliteValue.valueError "reflectlite.Value.Type" 0) (fun t _ _ _ => ReflectliteType.toType t) #[.agg #[.pointer (some ⟨4, 76, none⟩), .pointer (some a), .int .u64 150]]).run Tryz.prog w = .ok (.iface 166 (.agg #[.pointer (some ⟨4, 76, none⟩)])) w := by kernel_rfl
theorem asK_ptr (w : World) : ((ReflectliteType.abiMethod fun t => (fun a : Nat => Value.int IntKind.u8 (a : Int)) <$> Rtype.kind t) #[.pointer (some ⟨4, 76, none⟩)]).run Tryz.prog w = .ok (.int .u8 22) w := by kernel_rfl
theorem asK_err (w : World) : ((ReflectliteType.abiMethod fun t => (fun a : Nat => Value.int IntKind.u8 (a : Int)) <$> Rtype.kind t) #[.pointer (some ⟨4, 34, none⟩)]).run Tryz.prog w = .ok (.int .u8 2) w := by kernel_rfl
theorem as_parts (a : Addr) (w : World) : (ReflectliteValue.parts (.agg #[.pointer (some ⟨4, 76, none⟩), .pointer (some a), .int .u64 150])).run Tryz.prog w = .ok (some (76, a, 150)) w := by kernel_rfl
theorem asE_ptr (w : World) : (ReflectliteType.method ReflectliteType.elem #[.agg #[.pointer (some ⟨4, 76, none⟩)]]).run Tryz.prog w = .ok (.iface 166 (.agg #[.pointer (some ⟨4, 34, none⟩)])) w := by kernel_rfl
theorem asI_err (w : World) : (ReflectliteType.relation "Implements" ReflectliteType.implements_ #[.agg #[.pointer (some ⟨4, 34, none⟩)], .iface 166 (.agg #[.pointer (some ⟨4, 27, none⟩)])]).run Tryz.prog w = .ok (.bool true) w := by kernel_rfl
theorem asO_err (v : Value) (w : World) : (ReflectliteType.typeOf #[.iface 34 v]).run Tryz.prog w = .ok (.iface 166 (.agg #[.pointer (some ⟨4, 34, none⟩)])) w := by kernel_rfl
theorem asA_err (w : World) : (ReflectliteType.relation "AssignableTo" ReflectliteType.assignableTo #[.agg #[.pointer (some ⟨4, 34, none⟩)], .iface 166 (.agg #[.pointer (some ⟨4, 34, none⟩)])]).run Tryz.prog w = .ok (.bool true) w := by kernel_rfl
theorem asV_err (e : Int) (w : World) : (ReflectliteValue.unpack (.iface 34 (.int .i64 e))).run Tryz.prog w = .ok (.agg #[.pointer (some ⟨4, 34, none⟩), .pointer (some ⟨w.heap.size, 0, none⟩), .int .u64 130]) (w.alloc (.cells #[.int .i64 e] 34)) := by kernel_rfl
theorem as_elem (w : World) : (Rtype.elem? 76).run Tryz.prog w = .ok (some 34) w := by kernel_rfl
theorem as_mk (p : Addr) (w : World) : (ReflectliteValue.mk 34 p ReflectliteValue.flagAddr).run Tryz.prog w = .ok (.agg #[.pointer (some ⟨4, 34, none⟩), .pointer (some p), .int .u64 386]) w := by kernel_rfl
theorem as_parts2 (a : Addr) (w : World) : (ReflectliteValue.parts (.agg #[.pointer (some ⟨4, 34, none⟩), .pointer (some a), .int .u64 386])).run Tryz.prog w = .ok (some (34, a, 386)) w := by kernel_rfl
theorem as_parts3 (a : Addr) (w : World) : (ReflectliteValue.parts (.agg #[.pointer (some ⟨4, 34, none⟩), .pointer (some a), .int .u64 130])).run Tryz.prog w = .ok (some (34, a, 130)) w := by kernel_rfl
theorem as_direct (w : World) : (Rtype.directlyAssignable 34 34).run Tryz.prog w = .ok true w := by kernel_rfl
theorem as_isNil (a p : Addr) (W : World) (ha : W.cell? a = some (.pointer (some p))) : (ReflectliteValue.method (ReflectliteValue.valueError "reflectlite.Value.IsNil" 0) ReflectliteValue.isNil #[.agg #[.pointer (some ⟨4, 76, none⟩), .pointer (some a), .int .u64 150]]).run Tryz.prog W = .ok (.bool false) W := by
  show ((ReflectliteValue.parts (.agg #[.pointer (some ⟨4, 76, none⟩), .pointer (some a), .int .u64 150])) >>= _ : Sem Value).run Tryz.prog W = _
  simp only [Sem.run_bind, as_parts, Result.andThen]
  simp [ReflectliteValue.isNil, loadVar, isAgg, underlying, Tryz.underlying76, ha, Result.andThen]
theorem as_elemV (a p : Addr) (W : World) (ha : W.cell? a = some (.pointer (some p))) : (ReflectliteValue.method (ReflectliteValue.valueError "reflectlite.Value.Elem" 0) ReflectliteValue.elem #[.agg #[.pointer (some ⟨4, 76, none⟩), .pointer (some a), .int .u64 150]]).run Tryz.prog W = .ok (.agg #[.pointer (some ⟨4, 34, none⟩), .pointer (some p), .int .u64 386]) W := by
  show ((ReflectliteValue.parts (.agg #[.pointer (some ⟨4, 76, none⟩), .pointer (some a), .int .u64 150])) >>= _ : Sem Value).run Tryz.prog W = _
  simp only [Sem.run_bind, as_parts, Result.andThen]
  simp [ReflectliteValue.elem, loadVar, isAgg, underlying, Tryz.underlying76, ha, Result.andThen, as_elem, as_mk]
theorem as_set (ta b : Addr) (e : Int) (old : Value) (W : World) (hb : W.cell? b = some (.int .i64 e)) (ht : W.cell? ta = some old) (hf : W.frozen? ta = false) : (ReflectliteValue.set #[.agg #[.pointer (some ⟨4, 34, none⟩), .pointer (some ta), .int .u64 386], .agg #[.pointer (some ⟨4, 34, none⟩), .pointer (some b), .int .u64 130]]).run Tryz.prog W = .ok (.tuple #[]) (W.setCell ta (.int .i64 e)) := by
  have hs := run_store Tryz.prog W ta (.int .i64 e) .plain (by rfl)
  show ((ReflectliteValue.parts (.agg #[.pointer (some ⟨4, 34, none⟩), .pointer (some ta), .int .u64 386])) >>= fun q => ReflectliteValue.parts (.agg #[.pointer (some ⟨4, 34, none⟩), .pointer (some b), .int .u64 130]) >>= _ : Sem Value).run Tryz.prog W = _
  simp only [Sem.run_bind, as_parts2, as_parts3, Result.andThen]
  simp [ReflectliteValue.flagAddr, loadVar, isAgg, underlying, Tryz.underlying34, hb, Result.andThen, as_direct, storeVar, Value.cells, storeCells, Addr.add, hs, ht, hf]
end Go.Proofs.YtbbfocemgojngaaGreatDoor
/-
  WHAT A CALLER TELLS OF AN ERROR: errors.As; Told.
-/
namespace Go.Proofs.YtbbfocemgojngaaGreatDoor
open Go Go.RowKit Go.Extern.Stop Go.Stop Go.Extern
theorem asM_kind (h : Value) (w : World) : (Go.method 354 166 (.agg #[h]) "Kind").run Tryz.prog w = .ok (186, h) w := by kernel_rfl
theorem asM_elem (h : Value) (w : World) : (Go.method 354 166 (.agg #[h]) "Elem").run Tryz.prog w = .ok (196, .agg #[h]) w := by kernel_rfl
theorem asM_impl (h : Value) (w : World) : (Go.method 354 166 (.agg #[h]) "Implements").run Tryz.prog w = .ok (197, .agg #[h]) w := by kernel_rfl
theorem asM_assign (h : Value) (w : World) : (Go.method 354 166 (.agg #[h]) "AssignableTo").run Tryz.prog w = .ok (194, .agg #[h]) w := by kernel_rfl
theorem as_nil (t : Value) (w : World) : Calls Tryz.prog 29 #[.nilIface, t] w fun e w' => e = .returned (.bool false) ∧ w' = w := by
  go_enter Tryz.func29, Tryz.ntmps29
  go_wp2
  go_ret
  exact ⟨rfl, rfl⟩
set_option maxHeartbeats 1000000 in
theorem as_hit (e : Int) (t : Addr) (old : Value) (w : World) (hg : w.cell? ⟨0, 0, none⟩ = some (.iface 166 (.agg #[.pointer (some ⟨4, 27, none⟩)]))) (ht0 : w.cell? t = some old) (hf0 : w.frozen? t = false) : Calls Tryz.prog 29 #[.iface 34 (.int .i64 e), .iface 76 (.pointer (some t))] w fun ev w' => ev = .returned (.bool true) ∧ w' = ((((w.alloc (.cells #[.pointer (some t)] 76)).alloc (.cells #[.pointer (some ⟨4, 76, none⟩), .pointer (some ⟨w.heap.size, 0, none⟩), .int .u64 150] 126)).alloc (.cells #[.pointer (some ⟨4, 76, none⟩), .pointer (some ⟨w.heap.size, 0, none⟩), .int .u64 150] 126)).alloc (.cells #[.int .i64 e] 34)).setCell t (.int .i64 e) := by
  have x1 := @run_callFunc_extern Tryz.prog 61 _ (fun args => ReflectliteValue.unpack (args.getD 0 (.tuple #[]))) Tryz.func61 (by kernel_rfl) (by kernel_rfl) (by kernel_rfl) (by kernel_rfl)
  have x2 := @run_callFunc_extern Tryz.prog 62 _ (ReflectliteValue.methodAny (ReflectliteValue.valueError "reflectlite.Value.Type" 0) (fun t _ _ _ => ReflectliteType.toType t)) Tryz.func62 (by kernel_rfl) (by kernel_rfl) (by kernel_rfl) (by kernel_rfl)
  have x3 := @run_callFunc_extern Tryz.prog 63 _ (ReflectliteValue.method (ReflectliteValue.valueError "reflectlite.Value.IsNil" 0) ReflectliteValue.isNil) Tryz.func63 (by kernel_rfl) (by kernel_rfl) (by kernel_rfl) (by kernel_rfl)
  have x4 := @run_callFunc_extern Tryz.prog 186 _ (ReflectliteType.abiMethod fun t => do pure (.int .u8 (← Rtype.kind t))) Tryz.func186 (by kernel_rfl) (by kernel_rfl) (by kernel_rfl) (by kernel_rfl)
  have x5 := @run_callFunc_extern Tryz.prog 196 _ (ReflectliteType.method ReflectliteType.elem) Tryz.func196 (by kernel_rfl) (by kernel_rfl) (by kernel_rfl) (by kernel_rfl)
  have x6 := @run_callFunc_extern Tryz.prog 197 _ (ReflectliteType.relation "Implements" ReflectliteType.implements_) Tryz.func197 (by kernel_rfl) (by kernel_rfl) (by kernel_rfl) (by kernel_rfl)
  have x7 := @run_callFunc_extern Tryz.prog 92 _ (ReflectliteType.typeOf) Tryz.func92 (by kernel_rfl) (by kernel_rfl) (by kernel_rfl) (by kernel_rfl)
  have x8 := @run_callFunc_extern Tryz.prog 194 _ (ReflectliteType.relation "AssignableTo" ReflectliteType.assignableTo) Tryz.func194 (by kernel_rfl) (by kernel_rfl) (by kernel_rfl) (by kernel_rfl)
  have x9 := @run_callFunc_extern Tryz.prog 93 _ (ReflectliteValue.method (ReflectliteValue.valueError "reflectlite.Value.Elem" 0) ReflectliteValue.elem) Tryz.func93 (by kernel_rfl) (by kernel_rfl) (by kernel_rfl) (by kernel_rfl)
  have x10 := @run_callFunc_extern Tryz.prog 94 _ (ReflectliteValue.set) Tryz.func94 (by kernel_rfl) (by kernel_rfl) (by kernel_rfl) (by kernel_rfl)
  have y0 := asV_ptr
  have y1 := asT_ptr
  have y2 := asK_ptr
  have y3 := asK_err
  have y4 := asE_ptr
  have y5 := asI_err
  have y6 := asO_err
  have y7 := asA_err
  have y8 := asV_err
  have y9 := asM_kind
  have y10 := asM_elem
  have y11 := asM_impl
  have y12 := asM_assign
  have hlt : 0 < w.heap.size := cell_here hg
  have htl : t.block < w.heap.size := by
    rcases Nat.lt_or_ge t.block w.heap.size with h | h
    · exact h
    · simp [World.cell?, Array.getElem?_eq_none h] at ht0
  have n8 := as_isNil ⟨w.heap.size, 0, none⟩ t ((w.alloc (.cells #[.pointer (some t)] 76)).alloc (.cells #[.pointer (some ⟨4, 76, none⟩), .pointer (some ⟨w.heap.size, 0, none⟩), .int .u64 150] 126)) ((alloc_old (by simp)).trans (by first | simp | exact World.cell?_alloc_new w _ _ 0))
  have hg2 : ((w.alloc (.cells #[.pointer (some t)] 76)).alloc (.cells #[.pointer (some ⟨4, 76, none⟩), .pointer (some ⟨w.heap.size, 0, none⟩), .int .u64 150] 126)).cell? ⟨0, 0, none⟩ = some (.iface 166 (.agg #[.pointer (some ⟨4, 27, none⟩)])) := (alloc_old (by simp <;> omega)).trans ((alloc_old hlt).trans hg)
  have el := as_elemV ⟨w.heap.size, 0, none⟩ t (((w.alloc (.cells #[.pointer (some t)] 76)).alloc (.cells #[.pointer (some ⟨4, 76, none⟩), .pointer (some ⟨w.heap.size, 0, none⟩), .int .u64 150] 126)).alloc (.cells #[.pointer (some ⟨4, 76, none⟩), .pointer (some ⟨w.heap.size, 0, none⟩), .int .u64 150] 126)) ((alloc_old (by simp <;> omega)).trans ((alloc_old (by simp)).trans (by first | simp | exact World.cell?_alloc_new w _ _ 0)))
  have st := as_set t ⟨w.heap.size + 1 + 1 + 1, 0, none⟩ e old ((((w.alloc (.cells #[.pointer (some t)] 76)).alloc (.cells #[.pointer (some ⟨4, 76, none⟩), .pointer (some ⟨w.heap.size, 0, none⟩), .int .u64 150] 126)).alloc (.cells #[.pointer (some ⟨4, 76, none⟩), .pointer (some ⟨w.heap.size, 0, none⟩), .int .u64 150] 126)).alloc (.cells #[.int .i64 e] 34)) (by first | simp | (rw [World.cell?_alloc_at _ _ _ _ (by simp)]; rfl)) ((alloc_old (by simp; omega)).trans ((alloc_old (by simp; omega)).trans ((alloc_old (by simp; omega)).trans ((alloc_old htl).trans ht0)))) ((alloc_oldf (by simp; omega)).trans ((alloc_oldf (by simp; omega)).trans ((alloc_oldf (by simp; omega)).trans ((alloc_oldf htl).trans hf0))))
  go_enter Tryz.func29, Tryz.ntmps29
  go_wp2
  refine wp_loop_rounds 1 ?_
  rw [rounds_succ]
  go_wp2
  go_ret
  exact ⟨rfl, rfl⟩
end Go.Proofs.YtbbfocemgojngaaGreatDoor
/-
  WHAT THE LAW'S OWN HELPERS ANSWER: Told, retired, regs.
-/
namespace Go.Proofs.YtbbfocemgojngaaGreatDoor
open Go Go.RowKit
theorem told_nil (w : World) : Calls Tryz.prog 8 #[.nilIface] w fun e w' => e = .returned (.int .i64 0) ∧ Below w.heap.size w w' := by
  go_enter Tryz.func8, Tryz.ntmps8
  go_wp2
  go_ret
  exact ⟨rfl, by first | exact Below.refl _ _ | exact (Below.refl _ _).alloc (Nat.le_refl _) _⟩
set_option maxHeartbeats 1000000 in
theorem told_err (k : Int) (w : World) (hg : w.cell? ⟨0, 0, none⟩ = some (.iface 166 (.agg #[.pointer (some ⟨4, 27, none⟩)]))) : Calls Tryz.prog 8 #[.iface 34 (.int .i64 k)] w fun e w' => e = .returned (.int .i64 k) ∧ Below w.heap.size w w' := by
  have h0 : 0 < w.heap.size := cell_here hg
  have hg1 : (w.alloc (.cells #[.int .i64 0] 34)).cell? ⟨0, 0, none⟩ = some (.iface 166 (.agg #[.pointer (some ⟨4, 27, none⟩)])) := (alloc_old h0).trans hg
  have HG := Hid.in hg1
  clear hg hg1
  go_enter Tryz.func8, Tryz.ntmps8
  go_wp2_with (go_at_call 29; refine (as_hit k ⟨w.heap.size, 0, none⟩ (.int .i64 0) _ HG.out (by first | simp | exact World.cell?_alloc_new w _ _ 0) (World.frozen?_alloc_at _ _ _ 0 rfl)).mono ?_; rintro e w1 ⟨rfl, hw1⟩; have c1 : w1.cell? ⟨w.heap.size, 0, none⟩ = some (.int .i64 k) := (by rw [hw1]; exact World.cell?_setCell_same _ _ _ ((alloc_old (by simp <;> omega)).trans ((alloc_old (by simp <;> omega)).trans ((alloc_old (by simp <;> omega)).trans ((alloc_old (by simp)).trans (World.cell?_alloc_new w _ _ 0)))))); have bl : Below w.heap.size w w1 := (by rw [hw1]; exact (((((((Below.refl _ _).alloc (Nat.le_refl _) _).alloc (by simp) _).alloc (by simp <;> omega) _).alloc (by simp <;> omega) _).alloc (by simp <;> omega) _).setCell (by exact Nat.le_refl _) _)); clear hw1)
  go_ret
  exact ⟨rfl, bl⟩
set_option maxHeartbeats 1000000 in
theorem retired_any (a b c d e f g : Int) (w : World) : Calls Tryz.prog 12 #[.agg #[.int .u32 a, .int .u32 b, .int .i64 c, .int .u32 d, .int .i64 e, .int .u32 f, .int .u32 g]] w fun r w' => r = .returned (.agg #[.int .u32 a, .int .u32 b, .int .i64 c, .int .u32 d, .int .i64 e, .int .u32 f, .int .u32 g]) ∧ Below w.heap.size w w' := by
  go_enter Tryz.func12, Tryz.ntmps12
  go_wp2
  refine bodyPost_ret (v := .agg #[.int .u32 a, .int .u32 b, .int .i64 c, .int .u32 d, .int .i64 e, .int .u32 f, .int .u32 g]) (by simp [results, Tryz.results12, go_sem]) rfl ⟨rfl, ?_⟩
  repeat (first | with_reducible exact Below.refl _ _ | with_reducible refine Below.drew ?_ | with_reducible refine Below.alloc ?_ (by simp <;> omega) _ | with_reducible refine Below.setCell ?_ (by first | exact Nat.le_refl _ | exact Nat.le_succ _) _)
end Go.Proofs.YtbbfocemgojngaaGreatDoor
/-
  THE LAW's HELPER regs: both harts' registers, place and end.
-/
namespace Go.Proofs.YtbbfocemgojngaaGreatDoor
open Go Go.RowKit
set_option maxHeartbeats 1000000 in
theorem regs_any (p b : Nat) (cv : Value) (S : HS) (w : World) (h : PH w p cv S) (k : RH w b S) : Calls Tryz.prog 17 #[.pointer (some ⟨p, 0, none⟩), .pointer (some ⟨b, 0, none⟩)] w fun e w' => e = .returned (.bool true) ∧ w' = w := by
  have cpc : w.cell? ⟨b, 3, none⟩ = some (.int .u32 S.pc) := k.cell 3 (by decide)
  have chalt : w.cell? ⟨b, 36, none⟩ = some (.bool S.halted) := k.cell 36 (by decide)
  have hb := k.here
  have HP : Hid (PH w p cv S) := h
  have HR : Hid (RH w b S) := k
  clear h k
  go_enter Tryz.func17, Tryz.ntmps17
  go_wp2_with fail
  go_loopw [5] (fun v wr => ∃ j : Nat, j ≤ 32 ∧ v = .int .i64 j ∧ wr = w) (fun v _ => 33 - (intOf v).toNat)
  case atStart => exact ⟨0, by omega, rfl, rfl⟩
  case round =>
    obtain ⟨j, hj, rfl, rfl⟩ := hrel
    by_cases hlt : j < 32
    · have creg : wr.cell? ⟨b, 4 + j, none⟩ = some (.int .u32 (S.regs j)) := HR.out.atReg j hlt
      go_wp2_with (go_at_call 27; refine (preg_any p cv S j _ HP.out hlt).mono ?_; rintro e w1 ⟨rfl, hw1⟩; have hw2 := hw1.symm; clear hw1; subst hw2)
      go_roundw
      case rel => exact ⟨j + 1, by omega, by go_num, by first | trivial | rfl⟩
      case measure => simp [intOf]; omega
    · have hj2 : j = 32 := by omega
      subst hj2
      go_wp2_with (first
        | (go_at_call 28; refine (ppc_any p cv S _ HP.out).mono ?_; rintro e w1 ⟨rfl, hw1⟩; have hw2 := hw1.symm; clear hw1; subst hw2)
        | (go_at_call 30; refine (phalted_any p cv S _ HP.out).mono ?_; rintro e w1 ⟨rfl, hw1⟩; have hw2 := hw1.symm; clear hw1; subst hw2))
      go_ret
      exact ⟨rfl, rfl⟩
end Go.Proofs.YtbbfocemgojngaaGreatDoor
/-
  ARCH's LAW ArchAsks: where there is no hart.
-/
namespace Go.Proofs.YtbbfocemgojngaaGreatDoor
open Go Go.RowKit
theorem pnew_bad (p : Option Addr) (n cp : Nat) (d num : Int) (w : World) (h : newE n d num ≠ 0) : Calls Tryz.prog 19 #[.slice p n cp, .int .i64 d, .int .i64 num] w fun e w' => e = .returned (.tuple #[.pointer none, .iface 34 (.int .i64 (newE n d num))]) ∧ w' = w := by
  unfold newE at h ⊢
  cases hi : imageB n d
  · rw [if_neg (by simp)]
    exact pnew_bad1 p n cp d num w hi
  · rw [hi, if_pos rfl] at h
    rw [if_pos rfl]
    by_cases hn : 0 ≤ num ∧ num < 2
    · rw [if_pos hn] at h
      exact absurd rfl h
    · rw [if_neg hn]
      exact pnew_bad3 p n cp d num w hi hn
set_option maxHeartbeats 1000000 in
theorem asks_bad (p : Option Addr) (n cp : Nat) (d num : Int) (av hv : Value) (steps : Int) (w : World) (h : newE n d num ≠ 0) (hg : w.cell? ⟨0, 0, none⟩ = some (.iface 166 (.agg #[.pointer (some ⟨4, 27, none⟩)]))) : Calls Tryz.prog 4 #[.slice p n cp, .int .i64 d, .int .i64 num, av, hv, .int .i64 steps] w fun e w' => e = .returned (.bool true) ∧ Below w.heap.size w w' := by
  obtain ⟨k, hk⟩ : ∃ k, newE n d num = k := ⟨_, rfl⟩
  have HK : Hid (newE n d num ≠ 0) := h
  have HG := Hid.in hg
  clear h hg
  go_enter Tryz.func4, Tryz.ntmps4
  go_wp2_with (first
    | (go_at_call 19; refine (pnew_bad _ _ _ _ _ _ HK.out).mono ?_; rintro e w1 ⟨rfl, hw1⟩; have hw2 := hw1.symm; clear hw1; subst hw2; rw [hk])
    | (go_at_call 20; refine (new_bad _ _ _ _ _ _ HK.out).mono ?_; rintro e w1 ⟨rfl, hw1⟩; have hw2 := hw1.symm; clear hw1; subst hw2; rw [hk])
    | (go_at_call 8; refine (told_err k _ HG.out).mono ?_; rintro e w1 ⟨rfl, hb1⟩))
  refine wp_loop_rounds 1 ?_
  rw [rounds_succ]
  go_wp2
  go_ret
  exact ⟨rfl, hb1⟩
end Go.Proofs.YtbbfocemgojngaaGreatDoor
/-
  ARCH's LAW ArchAsks: both harts side by side in memory.
-/
namespace Go.Proofs.YtbbfocemgojngaaGreatDoor
open Go Go.RowKit
/-- both harts in the world wr, w being the world of the call: the program's at p (its copy of the code at g) in the state S, the answer's at b in the state R -/
structure Both (w wr : World) (p b g cap cb co n cp : Nat) (f : Nat → Int) (S R : HS) : Prop where
  ph : PH wr p (.slice (some ⟨g, 0, none⟩) n cap) S
  rh : RH wr b R
  cg : CodeAt wr g 0 n f
  cc : CodeAt wr cb co n f
  gr : Below w.heap.size w wr
  p0 : w.heap.size ≤ p
  b0 : w.heap.size ≤ b
  g0 : w.heap.size ≤ g
  c0 : cb < w.heap.size
  pb : p ≠ b
  pg : p ≠ g
  bg : b ≠ g
theorem CodeAt.only {q : Nat} {x y : World} {cb co n : Nat} {f : Nat → Int} (h : CodeAt x cb co n f) (k : Only q x y) (ne : cb ≠ q) : CodeAt y cb co n f :=
  ⟨Nat.lt_of_lt_of_le h.here k.size, fun i hi => k.to_cell h.here ne (h.cell i hi), h.word⟩
theorem Both.below {w x y : World} {p b g cap cb co n cp : Nat} {f : Nat → Int} {S R : HS} (h : Both w x p b g cap cb co n cp f S R) (k : Below x.heap.size x y) : Both w y p b g cap cb co n cp f S R :=
  ⟨h.ph.below k, h.rh.below k, h.cg.below k, h.cc.below k, h.gr.trans (k.mono h.gr.size), h.p0, h.b0, h.g0, h.c0, h.pb, h.pg, h.bg⟩
theorem Both.onP {w x y : World} {p b g cap cb co n cp : Nat} {f : Nat → Int} {S R T : HS} (h : Both w x p b g cap cb co n cp f S R) (k : Only p x y) (q : PH y p (.slice (some ⟨g, 0, none⟩) n cap) T) : Both w y p b g cap cb co n cp f T R :=
  ⟨q, k.cells h.rh (fun e => h.pb e.symm), h.cg.only k (fun e => h.pg e.symm), h.cc.only k (by have := h.c0; have := h.p0; omega), h.gr.trans (k.below h.gr.size h.p0), h.p0, h.b0, h.g0, h.c0, h.pb, h.pg, h.bg⟩
theorem Both.onB {w x y : World} {p b g cap cb co n cp : Nat} {f : Nat → Int} {S R T : HS} (h : Both w x p b g cap cb co n cp f S R) (k : Only b x y) (q : RH y b T) : Both w y p b g cap cb co n cp f S T :=
  ⟨k.cells h.ph h.pb, q, h.cg.only k (fun e => h.bg e.symm), h.cc.only k (by have := h.c0; have := h.b0; omega), h.gr.trans (k.below h.gr.size h.b0), h.p0, h.b0, h.g0, h.c0, h.pb, h.pg, h.bg⟩
/-- what is so at the head of every step -/
structure Step (w wr : World) (p b g cap cb co n cp : Nat) (f : Nat → Int) (S : HS) : Prop where
  both : Both w wr p b g cap cb co n cp f S S
  code : S.code = .slice (some ⟨cb, co, none⟩) n cp
  fit : S.Fit
  size : S.size % 16 = 0
theorem kept_int (S : HS) : S.Kept (if S.mayI then S.trapped 2147483659 0 else S) := by
  split
  · exact kept_trapped S _ _
  · exact ⟨rfl, rfl, rfl⟩
theorem fit_int {S : HS} (h : S.Fit) : (if S.mayI then S.trapped 2147483659 0 else S).Fit := by
  split
  · exact Fit.trapped h _ _ u32_zero
  · exact h
theorem Step.next {w wr y : World} {p b g cap cb co n cp : Nat} {f : Nat → Int} {S T : HS} (h : Step w wr p b g cap cb co n cp f S) (q : Both w y p b g cap cb co n cp f T T) (k : S.Kept T) (hf : T.Fit) : Step w y p b g cap cb co n cp f T :=
  ⟨q, k.1.trans h.code, hf, by rw [k.2.1]; exact h.size⟩
end Go.Proofs.YtbbfocemgojngaaGreatDoor
/-
  ARCH's LAW ArchAsks: shapes of answers; interrupts, by whether they come.
-/
namespace Go.Proofs.YtbbfocemgojngaaGreatDoor
open Go Go.RowKit
theorem askQ_is (S : HS) (d : Dec) : ∃ a b c e : Int, S.askQ d = .agg #[.int .i64 a, .int .u32 b, .int .i64 c, .int .u32 e] := by
  unfold HS.askQ zeroQ
  split
  · exact ⟨_, _, _, _, rfl⟩
  · exact ⟨_, _, _, _, rfl⟩
theorem instrR_is (S : HS) (d : Dec) (word v : Int) (held : Bool) : IsRet (S.instrR d word v held) := by
  unfold HS.instrR
  repeat' split
  all_goals first | exact doneR_is _ _ _ _ _ | exact jumpR_is _ _ _ _ | exact sysR_is _ _ _ _ _ _ _ | exact memR_is _ _ _ _ _ _ _ _
theorem doR_is (S : HS) (D : Int → Dec) (n : Nat) (f : Nat → Int) (v : Int) (held : Bool) : IsRet (S.doR D n f v held) := by
  unfold HS.doR
  repeat' split
  all_goals first | exact instrR_is _ _ _ _ _ | exact trapR_is _ _ _ _ | exact ⟨_, _, _, _, _, _, _, rfl⟩
theorem pnew_ok (n : Nat) (d num : Int) (h : newE n d num = 0) : imageB n d = true ∧ 0 ≤ num ∧ num < 2 := by
  unfold newE at h
  cases hi : imageB n d
  · rw [hi, if_neg (by simp)] at h
    exact absurd h (by decide)
  · rw [hi, if_pos rfl] at h
    by_cases hn : 0 ≤ num ∧ num < 2
    · exact ⟨rfl, hn⟩
    · rw [if_neg hn] at h
      exact absurd h (by decide)
theorem pinterrupt_no (p : Nat) (cv : Value) (S : HS) (w : World) (h : PH w p cv S) (hm : S.mayI = false) : Calls Tryz.prog 23 #[.pointer (some ⟨p, 0, none⟩)] w fun e w' => e = .returned (.tuple #[.agg #[.int .u32 0, .int .u32 0, .int .i64 0, .int .u32 0, .int .i64 0, .int .u32 0, .int .u32 0], .bool false]) ∧ PH w' p cv S ∧ Only p w w' := by
  have q := pinterrupt_any p cv S w h
  rw [hm] at q
  exact q
theorem pinterrupt_yes (p : Nat) (cv : Value) (S : HS) (w : World) (h : PH w p cv S) (hm : S.mayI = true) : Calls Tryz.prog 23 #[.pointer (some ⟨p, 0, none⟩)] w fun e w' => e = .returned (.tuple #[.agg #[.int .u32 S.pc, .int .u32 0, .int .i64 0, .int .u32 0, .int .i64 2147483659, .int .u32 0, .int .u32 S.trapTo], .bool true]) ∧ PH w' p cv (S.trapped 2147483659 0) ∧ Only p w w' := by
  have q := pinterrupt_any p cv S w h
  rw [hm] at q
  exact q
theorem interrupt_no (p : Nat) (S : HS) (w : World) (h : RH w p S) (hm : S.mayI = false) : Calls Tryz.prog 24 #[.pointer (some ⟨p, 0, none⟩)] w fun e w' => e = .returned (.tuple #[.agg #[.int .u32 0, .int .u32 0, .int .i64 0, .int .u32 0, .int .i64 0, .int .u32 0, .int .u32 0], .bool false]) ∧ RH w' p S ∧ Only p w w' := by
  have q := interrupt_any p S w h
  rw [hm] at q
  exact q
theorem interrupt_yes (p : Nat) (S : HS) (w : World) (h : RH w p S) (hm : S.mayI = true) : Calls Tryz.prog 24 #[.pointer (some ⟨p, 0, none⟩)] w fun e w' => e = .returned (.tuple #[.agg #[.int .u32 S.pc, .int .u32 0, .int .i64 0, .int .u32 0, .int .i64 2147483659, .int .u32 0, .int .u32 S.trapTo], .bool true]) ∧ RH w' p (S.trapped 2147483659 0) ∧ Only p w w' := by
  have q := interrupt_any p S w h
  rw [hm] at q
  exact q
end Go.Proofs.YtbbfocemgojngaaGreatDoor
/-
  ARCH's LAW ArchAsks: the steps.
-/
namespace Go.Proofs.YtbbfocemgojngaaGreatDoor
open Go Go.RowKit
/-- words, numbers that were handed in -/
def Words (w : World) (p : Option Addr) (m : Nat) (g : Nat → Int) : Prop := ∀ i, i < m → ∃ b o, p = some ⟨b, o, none⟩ ∧ b < w.heap.size ∧ w.cell? ⟨b, o + i, none⟩ = some (.int .u32 (g i)) ∧ U32 (g i)
def Nums (w : World) (p : Option Addr) (m : Nat) (g : Nat → Int) : Prop := ∀ i, i < m → ∃ b o, p = some ⟨b, o, none⟩ ∧ b < w.heap.size ∧ w.cell? ⟨b, o + i, none⟩ = some (.int .i64 (g i))
set_option maxRecDepth 100000 in
set_option maxHeartbeats 4000000 in
theorem asks_good (cb co n cp : Nat) (d num : Int) (ap : Option Addr) (la ac : Nat) (af : Nat → Int) (hp : Option Addr) (m hc : Nat) (hf : Nat → Int) (steps : Int) (w : World) (h : newE n d num = 0) (hL : Laid w) (f : Nat → Int) (hC : CodeAt w cb co n f) (hA : Words w ap la af) (hla : la ≤ 9223372036854775807) (hH : Nums w hp m hf) (hm : m ≤ 9223372036854775807) : Calls Tryz.prog 4 #[.slice (some ⟨cb, co, none⟩) n cp, .int .i64 d, .int .i64 num, .slice ap la ac, .slice hp m hc, .int .i64 steps] w fun e w' => e = .returned (.bool true) ∧ Below w.heap.size w w' := by
  obtain ⟨hi, hn⟩ := pnew_ok n d num h
  have HI : Hid (newE n d num = 0 ∧ imageB n d = true ∧ 0 ≤ num ∧ num < 2) := ⟨h, hi, hn⟩
  have HL : Hid (Laid w) := hL
  have HC : Hid (CodeAt w cb co n f) := hC
  have HH := Hid.in hH
  have HA := Hid.in hA
  clear h hi hn hL hC hH hA
  go_enter Tryz.func4, Tryz.ntmps4
  go_wp2_with (first
    | (go_at_call 19; refine (pnew_good cb co n cp d num _ HI.out.2.1 HI.out.2.2 f HC.out).mono ?_; rintro e w1 ⟨p, g, cap, rfl, hP, hG, hp0, hg0, hpg, hb1⟩)
    | (go_at_call 20; refine (new_good (some ⟨cb, co, none⟩) n cp d num _ HI.out.1).mono ?_; rintro e w2 ⟨rfl, hR, hb2⟩)
    | (go_at_call 8; refine (told_nil _).mono ?_; rintro e w3 ⟨rfl, hb3⟩))
  have hB : Both w w3 p w1.heap.size g cap cb co n cp f (newH (.slice (some ⟨cb, co, none⟩) n cp) d num) (newH (.slice (some ⟨cb, co, none⟩) n cp) d num) := by
    have q : Both w w2 p w1.heap.size g cap cb co n cp f (newH (.slice (some ⟨cb, co, none⟩) n cp) d num) (newH (.slice (some ⟨cb, co, none⟩) n cp) d num) := by
      have c0 := HC.out.here
      have := hP.here
      have := hG.here
      exact ⟨hP.below hb2, hR, hG.below hb2, (HC.out.below hb1).below hb2, below2 hb1 hb2, hp0, hb1.size, hg0, c0, by omega, hpg, by omega⟩
    exact q.below hb3
  obtain ⟨i1, i2, i3, i4, i5⟩ := image_true n d HI.out.2.1
  have hS : Step w w3 p w1.heap.size g cap cb co n cp f (newH (.slice (some ⟨cb, co, none⟩) n cp) d num) := ⟨hB, rfl, new_fit _ d num ⟨i3, i4⟩, i5⟩
  have HS0 := Hid.in hS
  clear hB hS hP hG hp0 hg0 hpg hb1 hR hb2 hb3 i1 i3 i4 i5
  generalize w1.heap.size = b at HS0 ⊢
  clear w1 w2
  go_loopw [18] (fun v wr => ∃ k : Nat, v = .int .i64 k ∧ k ≤ 2000 ∧ ∃ S, Step w wr p b g cap cb co n cp f S) (fun v _ => 2001 - (intOf v).toNat)
  case atStart => exact ⟨0, rfl, by omega, _, HS0.out⟩
  case round =>
    obtain ⟨k, rfl, hk, S, hS⟩ := hrel
    have HS := Hid.in hS
    clear hS HS0
    by_cases h1 : (k : Int) < steps ∧ k < 2000
    · obtain ⟨q0, q1, q2, q3, hQ⟩ := askQ_is S (S.fetchD decD n f)
      obtain ⟨h1, h2⟩ := h1
      have h3 : (k : Int) < 2000 := by omega
      go_upto_if 101 with (first
        | (go_at_call 21; refine (pask_any pdecOk (fun x _ a c => dec_load x a c) p S g 0 n cap _ HS.out.both.ph i2 (HL.out.below HS.out.both.gr) f HS.out.both.cg HS.out.fit HS.out.size).mono ?_; rintro e v1 ⟨rfl, hb1⟩; rw [hQ]; have B1 := Hid.in (HS.out.both.below hb1); clear hb1)
        | (go_at_call 22; refine (ask_any decOk b S cb co n cp f _ (B1.out.rh.alloc _) HS.out.fit.ok.pc HS.out.code (B1.out.cc.below ((Below.refl _ _).alloc (Nat.le_refl _) _)) i2 HS.out.fit.ok).mono ?_; rintro e v2 ⟨rfl, hb2⟩; rw [hQ]; obtain ⟨k1, k2, k3, k4⟩ := keepB hb2; have B2 := Hid.in (B1.out.below k4); clear hb2))
      have B2x := Hid.in (B2.out.below ((Below.refl _ _).alloc (Nat.le_refl _) (.cells #[.int .i64 q0, .int .u32 q1, .int .i64 q2, .int .u32 q3] 64)))
      go_cut [21] (fun v wc => ∃ vv, v = .int .u32 vv ∧ U32 vv ∧ Both w wc p b g cap cb co n cp f S S)
      case first =>
        by_cases hz : 0 < la
        · have hmi : (k : Int).tmod (la : Int) = ((k % la : Nat) : Int) := by
            rw [Int.tmod_eq_emod_of_nonneg (by omega)]; exact (Int.natCast_emod k la).symm
          have hml : k % la < la := Nat.mod_lt _ hz
          obtain ⟨j, hj⟩ : ∃ j, j = k % la := ⟨_, rfl⟩
          rw [← hj] at hmi hml
          obtain ⟨ab, ao, rfl, ha1, ha2, ha3⟩ := HA.out j hml
          have hab : ab < v2.heap.size := Nat.lt_of_lt_of_le ha1 (Nat.le_trans B2.out.gr.size (Nat.le_refl _))
          have hac : v2.cell? ⟨ab, ao + j, none⟩ = some (.int .u32 (af j)) := (B2.out.gr.cell (p := ⟨ab, ao + j, none⟩) ha1).trans ha2
          have HU := Hid.in ha3
          clear ha1 ha2 ha3 hj
          go_wp2
          go_meet
          exact ⟨_, rfl, HU.out, B2x.out⟩
        · have hz2 : la = 0 := by omega
          subst hz2
          go_wp2
          go_meet
          exact ⟨0, rfl, u32_zero, B2x.out⟩
      case rest =>
        obtain ⟨vv, rfl, hU, hB2⟩ := hcut
        have HU := Hid.in hU
        have HB2 := Hid.in hB2
        clear hU hB2 B2x B2 B1 k1 k2 k3 k4
        go_wp2
        go_loopw [22, 23] (fun a c wr' => ∃ (hd : Bool) (j : Nat), a = .bool hd ∧ c = .int .i64 j ∧ j ≤ m ∧ Both w wr' p b g cap cb co n cp f S S) (fun _ c _ => m - (intOf c).toNat)
        case atStart => exact ⟨false, 0, rfl, rfl, by omega, HB2.out⟩
        case round =>
          obtain ⟨hd, j, rfl, rfl, hj, hB⟩ := hrel
          have HB := Hid.in hB
          clear hB HB2
          by_cases hjm : j < m
          · have HJ := Hid.in hjm
            obtain ⟨hb, ho, rfl, hh1, hh2⟩ := HH.out j hjm
            have hcell := (HB.out.gr.cell (p := ⟨hb, ho + j, none⟩) hh1).trans hh2
            clear hh1 hh2
            cases hd
            all_goals
              go_wp2
              go_roundw
              case rel => exact ⟨_, j + 1, rfl, by go_num, by have := HJ.out; omega, HB.out⟩
              case measure => have := HJ.out; simp [intOf]; omega
          · have hjm2 : j = m := by omega
            subst hjm2
            have e7 : (k : Int).tmod 7 = (k : Int) % 7 := Int.tmod_eq_emod_of_nonneg (by omega)
            go_upto_if 126 with fail
            go_cut [24, 25, 26, 27] (fun _ _ _ _ wc => ∃ T, Step w wc p b g cap cb co n cp f T)
            case first =>
              by_cases h7 : (k : Int) % 7 = 3
              · cases hmay : S.mayI
                · have hu : undef = Value.tuple #[] := rfl
                  go_wp2_with (first
                    | (go_at_call 23; refine (pinterrupt_no p _ S _ HB.out.ph hmay).mono ?_; rintro e v6 ⟨rfl, hP6, hO6⟩; have B6 := Hid.in (HB.out.onP hO6 hP6); clear hP6 hO6)
                    | (go_at_call 24; refine (interrupt_no b S _ (B6.out.rh.alloc _) hmay).mono ?_; rintro e v7 ⟨rfl, hR7, hO7⟩; obtain ⟨k71, k72, k73, k74⟩ := keepO hO7 B6.out.rh.here; have B7 := Hid.in (B6.out.onB k74 hR7); clear hR7 hO7))
                  go_region
                  all_goals (try go_wp2)
                  all_goals
                    go_meet
                    exact ⟨S, HS.out.next (by first | exact B7.out | exact (B7.out.below ((Below.refl _ _).alloc (Nat.le_refl _) _)).below (Below.refl _ _).drew | exact (B7.out.below ((Below.refl _ _).alloc (Nat.le_refl _) _))) ⟨rfl, rfl, rfl⟩ HS.out.fit⟩
                · go_wp2_with (first
                    | (go_at_call 23; refine (pinterrupt_yes p _ S _ HB.out.ph hmay).mono ?_; rintro e v6 ⟨rfl, hP6, hO6⟩; have B6 := Hid.in (HB.out.onP hO6 hP6); clear hP6 hO6)
                    | (go_at_call 24; refine (interrupt_yes b S _ (B6.out.rh.alloc _) hmay).mono ?_; rintro e v7 ⟨rfl, hR7, hO7⟩; obtain ⟨k71, k72, k73, k74⟩ := keepO hO7 B6.out.rh.here; have B7 := Hid.in (B6.out.onB k74 hR7); clear hR7 hO7))
                  first
                    | go_region_with (go_at_call 12; refine (retired_any _ _ _ _ _ _ _ _).mono ?_; rintro e v8 ⟨rfl, hb8⟩; obtain ⟨k81, k82, k83, k84⟩ := keepB (belowU hb8); have B8 := Hid.in (B7.out.below k84); have k91 : ∀ i, v8.cell? ⟨v6.heap.size, i, none⟩ = _ := fun i => (k84.cell (p := ⟨v6.heap.size, i, none⟩) k73).trans (k71 i))
                    | fail
                  all_goals (try go_wp2)
                  all_goals
                    go_meet
                    exact ⟨_, HS.out.next (by first | exact B8.out | exact B8.out.below (Below.refl _ _).drew) (kept_trapped S 2147483659 0) (Fit.trapped HS.out.fit 2147483659 0 u32_zero)⟩
              · go_wp2
                go_meet
                exact ⟨S, HS.out.next HB.out ⟨rfl, rfl, rfl⟩ HS.out.fit⟩
            case rest =>
              obtain ⟨T, hT⟩ := hcut
              have HT := Hid.in hT
              clear hT
              obtain ⟨r0, r1, r2, r3, r4, r5, r6, hR⟩ := doR_is T decD n f vv hd
              go_wp2_with (first
                | (go_at_call 25; refine (pdo_any pdecOk p T g 0 n cap vv hd _ HT.out.both.ph i2 (HL.out.below HT.out.both.gr) f HT.out.both.cg HT.out.fit HT.out.size).mono ?_; rintro e v3 ⟨rfl, hP3, hO3⟩; rw [hR]; have B3 := Hid.in (HT.out.both.onP hO3 hP3); clear hP3 hO3)
                | (go_at_call 26; refine (do_any decOk b T cb co n cp f _ (B3.out.rh.alloc _) HT.out.code (B3.out.cc.below ((Below.refl _ _).alloc (Nat.le_refl _) _)) i2 vv hd HT.out.fit.ok HU.out).mono ?_; rintro e v4 ⟨rfl, hR4, hO4⟩; rw [hR]; obtain ⟨k41, k42, k43, k44⟩ := keepO hO4 B3.out.rh.here; have B4 := Hid.in (B3.out.onB k44 hR4)))
              first
                | go_region_with (go_at_call 12; refine (retired_any _ _ _ _ _ _ _ _).mono ?_; rintro e v5 ⟨rfl, hb5⟩; obtain ⟨k51, k52, k53, k54⟩ := keepB (belowU hb5); have B5 := Hid.in (B4.out.below k54); have k61 : ∀ i, v5.cell? ⟨v3.heap.size, i, none⟩ = _ := fun i => (k54.cell (p := ⟨v3.heap.size, i, none⟩) k43).trans (k41 i))
                | fail
              all_goals (try go_wp2)
              all_goals
                go_roundw
                case measure => simp [intOf]; omega
                case rel =>
                  exact ⟨k + 1, by go_num, by omega, _, HT.out.next (by first | exact B5.out | exact B5.out.below (Below.refl _ _).drew) (kept_doS T decD n f vv hd) (Fit.doS HT.out.fit decOk n f vv hd HT.out.both.cc.word i2 HU.out)⟩
    · have h2 : ¬ (k : Int) < steps ∨ k = 2000 := by omega
      rcases h2 with h2 | rfl
      all_goals
        go_wp2_with (go_at_call 17; refine (regs_any p b _ S _ HS.out.both.ph HS.out.both.rh).mono ?_; rintro e w9 ⟨rfl, hw9⟩; have hw8 := hw9.symm; clear hw9; subst hw8)
        all_goals
          go_ret
          exact ⟨rfl, HS.out.both.gr⟩
end Go.Proofs.YtbbfocemgojngaaGreatDoor
/-
  THE LAWS' ROWS: the four listed variables; what is handed in.
-/
namespace Go.Proofs.YtbbfocemgojngaaGreatDoor
open Go Go.ChangeShapes Go.WideShapes Go.ChangeAt Go.RowKit
abbrev laid4 : List (String × DataW Unit) := ("errors.errorType", Rows.laid_errors_errorType) :: laid3
theorem laidOut : laidOutB Tryz.prog = true := by kernel_rfl
theorem et : Tryz.prog.globalNamed "errors.errorType" = some 0 := by kernel_rfl
theorem rt : (Tryz.prog.cutTypes.find? (·.1 == "internal/reflectlite.rtype")).map (·.2) = some 166 := by kernel_rfl
theorem oneRow : ((List.range 254).filter fun t => Tryz.prog.rowNamed t [101, 114, 114, 111, 114]) = [27] := by kernel_rfl
theorem tsize : Tryz.prog.types.size = 254 := by kernel_rfl
theorem parts_of_laid {W : World} (h : laidMetH Tryz.prog laid4 W) : Laid W ∧ W.cell? ⟨0, 0, none⟩ = some (.iface 166 (.agg #[.pointer (some ⟨4, 27, none⟩)])) := by
  have h' : laidMet Tryz.prog laid3 W ∧ handlesMet Tryz.prog [("errors.errorType", Rows.laid_errors_errorType)] W := h
  refine ⟨of_laid (by rw [MakeChecks.laidMetH_plain _ _ _ (by kernel_rfl)]; exact h'.1), ?_⟩
  obtain ⟨name, u, ty, e1, e2, e3, e4, e5⟩ := h'.2 _ (List.mem_singleton.2 rfl)
  have en : name = [101, 114, 114, 111, 114] := (Option.some.inj e1).symm
  subst en
  obtain rfl := Option.some.inj (rt.symm.trans e2)
  have hm : ty ∈ (List.range 254).filter fun t => Tryz.prog.rowNamed t [101, 114, 114, 111, 114] := List.mem_filter.2 ⟨List.mem_range.2 (by rw [← tsize]; exact e3), e4⟩
  rw [oneRow] at hm
  obtain rfl := List.mem_singleton.1 hm
  have hh : typeHandle Tryz.prog 27 = .pointer (some ⟨4, 27, none⟩) := by kernel_rfl
  rw [hh] at e5
  simpa using World.var?_cell et e5 0
theorem u32_of {x : Int} (h : (Lit.int .u32 x).wf = true) : U32 x := by
  unfold U32
  simp [Lit.wf, IntKind.min, IntKind.max, IntKind.signed, IntKind.bits] at h
  omega
set_option maxRecDepth 100000 in
theorem view_words {H : Type} {enc : TypeId × Value → H} {W : World} {base : Nat} {v : Value} {d : DataW H} {ps : List MemPlace} (hv : Value.okWide Tryz.prog W .any base 22 v) (h : DataW.Trod enc Tryz.prog W 0 (fun _ => true) true 22 v d ps) : ∃ p m c g, v = .slice p m c ∧ Words W p m g ∧ m ≤ 9223372036854775807 := by
  obtain ⟨fuel, hf⟩ := h
  obtain ⟨a0, len, cap, rfl⟩ := okWide_slice Tryz.underlying22 hv
  rcases open_ints Tryz.underlying22 Tryz.underlying33 (show Tryz.prog.cellsOf 33 = 1 by kernel_rfl) hf with ⟨hcs, hx⟩ | ⟨a, len', cap', zs, hcs, _, hl, hm, hz, hx, hcell, hwz⟩
  · simp [Value.cells] at hcs
    obtain ⟨rfl, rfl, rfl⟩ := hcs
    exact ⟨none, 0, 0, fun _ => 0, rfl, fun i hi => absurd hi (by omega), by omega⟩
  · simp [Value.cells] at hcs
    obtain ⟨rfl, rfl, rfl⟩ := hcs
    simp only [if_true] at hz
    refine ⟨_, _, _, fun i => zs.getD i 0, rfl, fun i hi => ?_, ?_⟩
    · have hp : 0 < zs.length := by omega
      obtain ⟨b, off, rfl, hc⟩ := ints_at hcell hp
      have hci := hc i (by omega)
      refine ⟨b, off, rfl, cell_here hci, hci, u32_of (hwz _ ?_)⟩
      have hil : i < zs.length := by omega
      show zs.getD i 0 ∈ zs
      rw [List.getD_eq_getElem?_getD, List.getElem?_eq_getElem hil]
      exact List.getElem_mem hil
    · have := hm
      unfold maxLen at this
      omega
set_option maxRecDepth 100000 in
theorem view_nums {H : Type} {enc : TypeId × Value → H} {W : World} {base : Nat} {v : Value} {d : DataW H} {ps : List MemPlace} (hv : Value.okWide Tryz.prog W .any base 24 v) (h : DataW.Trod enc Tryz.prog W 0 (fun _ => true) true 24 v d ps) : ∃ p m c g, v = .slice p m c ∧ Nums W p m g ∧ m ≤ 9223372036854775807 := by
  obtain ⟨fuel, hf⟩ := h
  obtain ⟨a0, len, cap, rfl⟩ := okWide_slice Tryz.underlying24 hv
  rcases open_ints Tryz.underlying24 Tryz.underlying3 (show Tryz.prog.cellsOf 3 = 1 by kernel_rfl) hf with ⟨hcs, hx⟩ | ⟨a, len', cap', zs, hcs, _, hl, hm, hz, hx, hcell, hwz⟩
  · simp [Value.cells] at hcs
    obtain ⟨rfl, rfl, rfl⟩ := hcs
    exact ⟨none, 0, 0, fun _ => 0, rfl, fun i hi => absurd hi (by omega), by omega⟩
  · simp [Value.cells] at hcs
    obtain ⟨rfl, rfl, rfl⟩ := hcs
    simp only [if_true] at hz
    refine ⟨_, _, _, fun i => zs.getD i 0, rfl, fun i hi => ?_, ?_⟩
    · have hp : 0 < zs.length := by omega
      obtain ⟨b, off, rfl, hc⟩ := ints_at hcell hp
      have hci := hc i (by omega)
      exact ⟨b, off, rfl, cell_here hci, hci⟩
    · have := hm
      unfold maxLen at this
      omega
theorem code_of {W : World} {p : Option Addr} {n : Nat} {g : Nat → Int} (h : Words W p n g) (hn : 1 ≤ n) : ∃ cb co, p = some ⟨cb, co, none⟩ ∧ CodeAt W cb co n g := by
  obtain ⟨b, o, rfl, h1, h2, h3⟩ := h 0 (by omega)
  refine ⟨b, o, rfl, h1, fun i hi => ?_, fun i hi => ?_⟩
  · obtain ⟨b', o', e, k1, k2, k3⟩ := h i hi
    cases e
    exact k2
  · obtain ⟨b', o', e, k1, k2, k3⟩ := h i hi
    exact k3
theorem asks_all (cp0 : Option Addr) (n cp : Nat) (f : Nat → Int) (d num : Int) (ap : Option Addr) (la ac : Nat) (af : Nat → Int) (hp : Option Addr) (m hc : Nat) (hf : Nat → Int) (steps : Int) (w : World) (hL : laidMetH Tryz.prog laid4 w) (hC : Words w cp0 n f) (hA : Words w ap la af) (hla : la ≤ 9223372036854775807) (hH : Nums w hp m hf) (hm : m ≤ 9223372036854775807) : Calls Tryz.prog 4 #[.slice cp0 n cp, .int .i64 d, .int .i64 num, .slice ap la ac, .slice hp m hc, .int .i64 steps] w fun e w' => e = .returned (.bool true) ∧ Below w.heap.size w w' := by
  obtain ⟨l1, l2⟩ := parts_of_laid hL
  by_cases h : newE n d num = 0
  · obtain ⟨i1, _⟩ := pnew_ok n d num h
    obtain ⟨cb, co, rfl, hcode⟩ := code_of hC (image_true n d i1).1
    exact asks_good cb co n cp d num ap la ac af hp m hc hf steps w h l1 f hcode hA hla hH hm
  · exact asks_bad cp0 n cp d num _ _ steps w h l2
end Go.Proofs.YtbbfocemgojngaaGreatDoor
