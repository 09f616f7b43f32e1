import Derived.Test.YtlogdmnhngbkaaaDoorY14
import Derived.Test.YtlogdmnhngbkaaaDoorY11
import Derived.Test.YtlogdmnhngbkaaaDoorY00
import Derived.LaidEql
import Derived.Stop.Asserts
import Derived.RowKitTokens
import Derived.Stop.BytesEq
/-
  CACHE: New, refused; the answer's New.
-/
namespace Go.Proofs.YtlogdmnhngbkaaaDoor
open Go Go.RowKit
def isN (n : Int) : Prop := n = 1 ∨ n = 2 ∨ n = 4 ∨ n = 8 ∨ n = 16
set_option maxRecDepth 100000 in
set_option maxHeartbeats 2000000 in
theorem isShape_bad (n k : Int) (w : World) (hn63 : -9223372036854775808 ≤ n ∧ n ≤ 9223372036854775807) (h : ¬ (isN n ∧ 1 ≤ k ∧ k ≤ 4)) : Calls Tryd.prog 64 #[.agg #[.int .i64 n, .int .i64 k]] w fun e w' => e = .returned (.bool false) ∧ Below w.heap.size w w' := by
  have hu : undef = Value.tuple #[] := rfl
  have main : n ≤ 0 ∨ 16 < n ∨ (n = 3 ∨ n = 5 ∨ n = 6 ∨ n = 7 ∨ n = 9 ∨ n = 10 ∨ n = 11 ∨ n = 12 ∨ n = 13 ∨ n = 14 ∨ n = 15) ∨ (isN n ∧ k < 1) ∨ (isN n ∧ 1 ≤ k ∧ 4 < k) := by
    unfold isN at *
    omega
  obtain ⟨hn1, hn2⟩ := hn63
  rcases main with h0 | h0 | h0 | ⟨h0, hk⟩ | ⟨h0, hk, hk4⟩
  · have hd : decide (0 < n) = false := by simp; omega
    go_enter Tryd.func64, Tryd.ntmps64
    go_wp2
    go_ret
    exact ⟨by simp, (Below.refl _ _).alloc (Nat.le_refl _) _⟩
  · have hd : decide (0 < n) = true := by simp; omega
    have hd2 : decide (n ≤ 16) = false := by simp; omega
    obtain ⟨y, hy⟩ : ∃ y, bits .and .i64 n (n - 1) = y := ⟨_, rfl⟩
    by_cases hy0 : y = 0
    · subst hy0
      go_enter Tryd.func64, Tryd.ntmps64
      go_wp2
      go_ret
      exact ⟨by simp, (Below.refl _ _).alloc (Nat.le_refl _) _⟩
    · have hyd : (y == 0) = false := by simp [hy0]
      go_enter Tryd.func64, Tryd.ntmps64
      go_wp2
      go_ret
      exact ⟨by simp, (Below.refl _ _).alloc (Nat.le_refl _) _⟩
  · have e3 : (bits .and .i64 3 2 == 0) = false := by decide +kernel
    have e5 : (bits .and .i64 5 4 == 0) = false := by decide +kernel
    have e6 : (bits .and .i64 6 5 == 0) = false := by decide +kernel
    have e7 : (bits .and .i64 7 6 == 0) = false := by decide +kernel
    have e9 : (bits .and .i64 9 8 == 0) = false := by decide +kernel
    have e10 : (bits .and .i64 10 9 == 0) = false := by decide +kernel
    have e11 : (bits .and .i64 11 10 == 0) = false := by decide +kernel
    have e12 : (bits .and .i64 12 11 == 0) = false := by decide +kernel
    have e13 : (bits .and .i64 13 12 == 0) = false := by decide +kernel
    have e14 : (bits .and .i64 14 13 == 0) = false := by decide +kernel
    have e15 : (bits .and .i64 15 14 == 0) = false := by decide +kernel
    rcases h0 with rfl | rfl | rfl | rfl | rfl | rfl | rfl | rfl | rfl | rfl | rfl
    all_goals
      go_enter Tryd.func64, Tryd.ntmps64
      go_wp2
      go_ret
      exact ⟨by simp, (Below.refl _ _).alloc (Nat.le_refl _) _⟩
  · have e1 : bits .and .i64 1 0 = 0 := by decide +kernel
    have e2 : bits .and .i64 2 1 = 0 := by decide +kernel
    have e4 : bits .and .i64 4 3 = 0 := by decide +kernel
    have e8 : bits .and .i64 8 7 = 0 := by decide +kernel
    have e16 : bits .and .i64 16 15 = 0 := by decide +kernel
    have hkd : decide (1 ≤ k) = false := by simp; omega
    rcases h0 with rfl | rfl | rfl | rfl | rfl
    all_goals
      go_enter Tryd.func64, Tryd.ntmps64
      go_wp2
      go_ret
      exact ⟨by simp, (Below.refl _ _).alloc (Nat.le_refl _) _⟩
  · have e1 : bits .and .i64 1 0 = 0 := by decide +kernel
    have e2 : bits .and .i64 2 1 = 0 := by decide +kernel
    have e4 : bits .and .i64 4 3 = 0 := by decide +kernel
    have e8 : bits .and .i64 8 7 = 0 := by decide +kernel
    have e16 : bits .and .i64 16 15 = 0 := by decide +kernel
    have hkd : decide (1 ≤ k) = true := by simp; omega
    have hkd4 : decide (k ≤ 4) = false := by simp; omega
    rcases h0 with rfl | rfl | rfl | rfl | rfl
    all_goals
      go_enter Tryd.func64, Tryd.ntmps64
      go_wp2
      go_ret
      exact ⟨by simp, (Below.refl _ _).alloc (Nat.le_refl _) _⟩
set_option maxRecDepth 100000 in
set_option maxHeartbeats 2000000 in
theorem new_bad (n k : Int) (w : World) (hn63 : -9223372036854775808 ≤ n ∧ n ≤ 9223372036854775807) (h : ¬ (isN n ∧ 1 ≤ k ∧ k ≤ 4)) : Calls Tryd.prog 40 #[.agg #[.int .i64 n, .int .i64 k]] w fun e w' => e = .returned (.tuple #[.pointer none, errV 2]) ∧ Below w.heap.size w w' := by
  have HN := Hid.in hn63
  have HH := Hid.in h
  have HB0 := Hid.in ((Below.refl _ w).alloc (Nat.le_refl _) (.cells #[.int .i64 n, .int .i64 k] 56))
  clear hn63 h
  go_enter Tryd.func40, Tryd.ntmps40
  go_wp2_with (go_at_call 64; refine (isShape_bad n k _ HN.out HH.out).mono ?_; rintro e w1 ⟨rfl, hb⟩; have HB := Hid.in hb; clear hb)
  refine bodyPost_ret (results_tmp2 Tryd.results40 _ _ _) rfl ?_
  exact ⟨rfl, HB0.out.trans (HB.out.mono HB0.out.size)⟩
set_option maxRecDepth 100000 in
set_option maxHeartbeats 2000000 in
theorem rnew_good (B n k : Nat) (w : World) (hB : B ≤ w.heap.size) (hn : n = 1 ∨ n = 2 ∨ n = 4 ∨ n = 8 ∨ n = 16) (hk : 1 ≤ k ∧ k ≤ 4) : Calls Tryd.prog 42 #[.int .i64 n, .int .i64 k] w fun e w' => e = .returned (.tuple #[.pointer (some ⟨w.heap.size, 0, none⟩), .int .i64 0]) ∧ RC w' B w.heap.size (.slice none 0 0) n k [] ∧ Below w.heap.size w w' := by
  have hu : undef = Value.tuple #[] := rfl
  have HF : Hid (RC (w.alloc (.cells #[.int .i64 n, .int .i64 k, .slice none 0 0] 102)) B w.heap.size (.slice none 0 0) n k [] ∧ Below w.heap.size w (w.alloc (.cells #[.int .i64 n, .int .i64 k, .slice none 0 0] 102))) := by
    refine ⟨⟨cells_new w (fun i hi => ?_), World.ownsRow_nil _ _ _ _, by simp [Value.ownBlock], by simp; omega, hB⟩, (Below.refl _ _).alloc (Nat.le_refl _) _⟩
    match i, hi with
    | 0, _ => rfl
    | 1, _ => rfl
    | 2, _ => rfl
  obtain ⟨k1, k4⟩ := hk
  have hd1 : decide ((k : Int) < 1) = false := by simp; omega
  have hd4 : decide ((4 : Int) < k) = false := by simp; omega
  rcases hn with rfl | rfl | rfl | rfl | rfl
  all_goals
    go_enter Tryd.func42, Tryd.ntmps42
    go_wp2
    refine bodyPost_ret (results_tmp2 Tryd.results42 _ _ _) rfl ?_
    exact ⟨rfl, HF.out⟩
set_option maxRecDepth 100000 in
set_option maxHeartbeats 2000000 in
theorem rnew_bad (n k : Int) (w : World) (h : ¬ (isN n ∧ 1 ≤ k ∧ k ≤ 4)) : Calls Tryd.prog 42 #[.int .i64 n, .int .i64 k] w fun e w' => e = .returned (.tuple #[.pointer none, .int .i64 2]) ∧ w' = w := by
  have hu : undef = Value.tuple #[] := rfl
  by_cases hn : isN n
  · have hk : k < 1 ∨ (1 ≤ k ∧ 4 < k) := by
      have : ¬ (1 ≤ k ∧ k ≤ 4) := fun q => h ⟨hn, q⟩
      omega
    rcases hk with hk | ⟨hk, hk4⟩
    · have hd1 : decide (k < 1) = true := by simp [hk]
      rcases hn with rfl | rfl | rfl | rfl | rfl
      all_goals
        go_enter Tryd.func42, Tryd.ntmps42
        go_wp2
        refine bodyPost_ret (results_tmp2 Tryd.results42 _ _ _) rfl ?_
        exact ⟨rfl, rfl⟩
    · have hd1 : decide (k < 1) = false := by simp; omega
      have hd4 : decide (4 < k) = true := by simp [hk4]
      rcases hn with rfl | rfl | rfl | rfl | rfl
      all_goals
        go_enter Tryd.func42, Tryd.ntmps42
        go_wp2
        refine bodyPost_ret (results_tmp2 Tryd.results42 _ _ _) rfl ?_
        exact ⟨rfl, rfl⟩
  · have d1 : (n != 1) = true := by unfold isN at hn; simp; omega
    have d2 : (n != 2) = true := by unfold isN at hn; simp; omega
    have d4 : (n != 4) = true := by unfold isN at hn; simp; omega
    have d8 : (n != 8) = true := by unfold isN at hn; simp; omega
    have d16 : (n != 16) = true := by unfold isN at hn; simp; omega
    clear hn h
    go_enter Tryd.func42, Tryd.ntmps42
    go_wp2
    refine bodyPost_ret (results_tmp2 Tryd.results42 _ _ _) rfl ?_
    exact ⟨rfl, rfl⟩
end Go.Proofs.YtlogdmnhngbkaaaDoor
/-
  WHAT A CALLER TELLS OF AN ERROR: errors.As at a target of the type Errno.
-/
namespace Go.Proofs.YtlogdmnhngbkaaaDoor
open Go Go.RowKit Go.Extern.Stop Go.Stop Go.Extern
theorem alloc_old {W : World} {o : Obj} {a : Addr} (h : a.block < W.heap.size) : (W.alloc o).cell? a = W.cell? a := ((Below.refl _ _).alloc (Nat.le_refl _) o).cell h
theorem alloc_oldf {W : World} {o : Obj} {a : Addr} (h : a.block < W.heap.size) : (W.alloc o).frozen? a = W.frozen? a := ((Below.refl _ _).alloc (Nat.le_refl _) o).frozen h
theorem asV_ptr (t : Addr) (w : World) : (ReflectliteValue.unpack (.iface 112 (.pointer (some t)))).run Tryd.prog w = .ok (.agg #[.pointer (some ⟨1, 112, none⟩), .pointer (some ⟨w.heap.size, 0, none⟩), .int .u64 150]) (w.alloc (.cells #[.pointer (some t)] 112)) := by kernel_rfl
theorem asT_ptr (a : Addr) (w : World) : (ReflectliteValue.methodAny (ReflectliteValue.valueError "reflectlite.Value.Type" 0) (fun t _ _ _ => ReflectliteType.toType t) #[.agg #[.pointer (some ⟨1, 112, none⟩), .pointer (some a), .int .u64 150]]).run Tryd.prog w = .ok (.iface 156 (.agg #[.pointer (some ⟨1, 112, none⟩)])) w := by kernel_rfl
theorem asK_ptr (w : World) : ((ReflectliteType.abiMethod fun t => (fun a : Nat => Value.int IntKind.u8 (a : Int)) <$> Rtype.kind t) #[.pointer (some ⟨1, 112, none⟩)]).run Tryd.prog w = .ok (.int .u8 22) w := by kernel_rfl
theorem asK_err (w : World) : ((ReflectliteType.abiMethod fun t => (fun a : Nat => Value.int IntKind.u8 (a : Int)) <$> Rtype.kind t) #[.pointer (some ⟨1, 62, none⟩)]).run Tryd.prog w = .ok (.int .u8 2) w := by kernel_rfl
theorem as_parts (a : Addr) (w : World) : (ReflectliteValue.parts (.agg #[.pointer (some ⟨1, 112, none⟩), .pointer (some a), .int .u64 150])).run Tryd.prog w = .ok (some (112, a, 150)) w := by kernel_rfl
theorem asE_ptr (w : World) : (ReflectliteType.method ReflectliteType.elem #[.agg #[.pointer (some ⟨1, 112, none⟩)]]).run Tryd.prog w = .ok (.iface 156 (.agg #[.pointer (some ⟨1, 62, none⟩)])) w := by kernel_rfl
theorem asI_err (w : World) : (ReflectliteType.relation "Implements" ReflectliteType.implements_ #[.agg #[.pointer (some ⟨1, 62, none⟩)], .iface 156 (.agg #[.pointer (some ⟨1, 33, none⟩)])]).run Tryd.prog w = .ok (.bool true) w := by kernel_rfl
theorem asO_err (v : Value) (w : World) : (ReflectliteType.typeOf #[.iface 62 v]).run Tryd.prog w = .ok (.iface 156 (.agg #[.pointer (some ⟨1, 62, none⟩)])) w := by kernel_rfl
theorem asA_err (w : World) : (ReflectliteType.relation "AssignableTo" ReflectliteType.assignableTo #[.agg #[.pointer (some ⟨1, 62, none⟩)], .iface 156 (.agg #[.pointer (some ⟨1, 62, none⟩)])]).run Tryd.prog w = .ok (.bool true) w := by kernel_rfl
theorem asV_err (e : Int) (w : World) : (ReflectliteValue.unpack (.iface 62 (.int .i64 e))).run Tryd.prog w = .ok (.agg #[.pointer (some ⟨1, 62, none⟩), .pointer (some ⟨w.heap.size, 0, none⟩), .int .u64 130]) (w.alloc (.cells #[.int .i64 e] 62)) := by kernel_rfl
theorem as_elem (w : World) : (Rtype.elem? 112).run Tryd.prog w = .ok (some 62) w := by kernel_rfl
theorem as_mk (p : Addr) (w : World) : (ReflectliteValue.mk 62 p ReflectliteValue.flagAddr).run Tryd.prog w = .ok (.agg #[.pointer (some ⟨1, 62, none⟩), .pointer (some p), .int .u64 386]) w := by kernel_rfl
theorem as_parts2 (a : Addr) (w : World) : (ReflectliteValue.parts (.agg #[.pointer (some ⟨1, 62, none⟩), .pointer (some a), .int .u64 386])).run Tryd.prog w = .ok (some (62, a, 386)) w := by kernel_rfl
theorem as_parts3 (a : Addr) (w : World) : (ReflectliteValue.parts (.agg #[.pointer (some ⟨1, 62, none⟩), .pointer (some a), .int .u64 130])).run Tryd.prog w = .ok (some (62, a, 130)) w := by kernel_rfl
theorem as_direct (w : World) : (Rtype.directlyAssignable 62 62).run Tryd.prog w = .ok true w := by kernel_rfl
theorem as_isNil (a p : Addr) (W : World) (ha : W.cell? a = some (.pointer (some p))) : (ReflectliteValue.method (ReflectliteValue.valueError "reflectlite.Value.IsNil" 0) ReflectliteValue.isNil #[.agg #[.pointer (some ⟨1, 112, none⟩), .pointer (some a), .int .u64 150]]).run Tryd.prog W = .ok (.bool false) W := by
  show ((ReflectliteValue.parts (.agg #[.pointer (some ⟨1, 112, none⟩), .pointer (some a), .int .u64 150])) >>= _ : Sem Value).run Tryd.prog W = _
  simp only [Sem.run_bind, as_parts, Result.andThen]
  simp [ReflectliteValue.isNil, loadVar, isAgg, underlying, Tryd.underlying112, ha, Result.andThen]
theorem as_elemV (a p : Addr) (W : World) (ha : W.cell? a = some (.pointer (some p))) : (ReflectliteValue.method (ReflectliteValue.valueError "reflectlite.Value.Elem" 0) ReflectliteValue.elem #[.agg #[.pointer (some ⟨1, 112, none⟩), .pointer (some a), .int .u64 150]]).run Tryd.prog W = .ok (.agg #[.pointer (some ⟨1, 62, none⟩), .pointer (some p), .int .u64 386]) W := by
  show ((ReflectliteValue.parts (.agg #[.pointer (some ⟨1, 112, none⟩), .pointer (some a), .int .u64 150])) >>= _ : Sem Value).run Tryd.prog W = _
  simp only [Sem.run_bind, as_parts, Result.andThen]
  simp [ReflectliteValue.elem, loadVar, isAgg, underlying, Tryd.underlying112, ha, Result.andThen, as_elem, as_mk]
theorem as_set (ta b : Addr) (e : Int) (old : Value) (W : World) (hb : W.cell? b = some (.int .i64 e)) (ht : W.cell? ta = some old) (hf : W.frozen? ta = false) : (ReflectliteValue.set #[.agg #[.pointer (some ⟨1, 62, none⟩), .pointer (some ta), .int .u64 386], .agg #[.pointer (some ⟨1, 62, none⟩), .pointer (some b), .int .u64 130]]).run Tryd.prog W = .ok (.tuple #[]) (W.setCell ta (.int .i64 e)) := by
  have hs := run_store Tryd.prog W ta (.int .i64 e) .plain (by rfl)
  show ((ReflectliteValue.parts (.agg #[.pointer (some ⟨1, 62, none⟩), .pointer (some ta), .int .u64 386])) >>= fun q => ReflectliteValue.parts (.agg #[.pointer (some ⟨1, 62, none⟩), .pointer (some b), .int .u64 130]) >>= _ : Sem Value).run Tryd.prog W = _
  simp only [Sem.run_bind, as_parts2, as_parts3, Result.andThen]
  simp [ReflectliteValue.flagAddr, loadVar, isAgg, underlying, Tryd.underlying62, hb, Result.andThen, as_direct, storeVar, Value.cells, storeCells, Addr.add, hs, ht, hf]
end Go.Proofs.YtlogdmnhngbkaaaDoor
/-
  WHAT A CALLER TELLS OF AN ERROR: errors.As; Told.
-/
namespace Go.Proofs.YtlogdmnhngbkaaaDoor
open Go Go.RowKit Go.Extern.Stop Go.Stop Go.Extern
theorem asM_kind (h : Value) (w : World) : (Go.method 298 156 (.agg #[h]) "Kind").run Tryd.prog w = .ok (88, h) w := by kernel_rfl
theorem asM_elem (h : Value) (w : World) : (Go.method 298 156 (.agg #[h]) "Elem").run Tryd.prog w = .ok (98, .agg #[h]) w := by kernel_rfl
theorem asM_impl (h : Value) (w : World) : (Go.method 298 156 (.agg #[h]) "Implements").run Tryd.prog w = .ok (99, .agg #[h]) w := by kernel_rfl
theorem asM_assign (h : Value) (w : World) : (Go.method 298 156 (.agg #[h]) "AssignableTo").run Tryd.prog w = .ok (96, .agg #[h]) w := by kernel_rfl
theorem as_nil (t : Value) (w : World) : Calls Tryd.prog 44 #[.nilIface, t] w fun e w' => e = .returned (.bool false) ∧ w' = w := by
  go_enter Tryd.func44, Tryd.ntmps44
  go_wp2
  go_ret
  exact ⟨rfl, rfl⟩
set_option maxHeartbeats 1000000 in
theorem as_hit (e : Int) (t : Addr) (old : Value) (w : World) (hg : w.cell? ⟨0, 0, none⟩ = some (.iface 156 (.agg #[.pointer (some ⟨1, 33, none⟩)]))) (ht0 : w.cell? t = some old) (hf0 : w.frozen? t = false) : Calls Tryd.prog 44 #[.iface 62 (.int .i64 e), .iface 112 (.pointer (some t))] w fun ev w' => ev = .returned (.bool true) ∧ w' = ((((w.alloc (.cells #[.pointer (some t)] 112)).alloc (.cells #[.pointer (some ⟨1, 112, none⟩), .pointer (some ⟨w.heap.size, 0, none⟩), .int .u64 150] 145)).alloc (.cells #[.pointer (some ⟨1, 112, none⟩), .pointer (some ⟨w.heap.size, 0, none⟩), .int .u64 150] 145)).alloc (.cells #[.int .i64 e] 62)).setCell t (.int .i64 e) := by
  have x1 := @run_callFunc_extern Tryd.prog 65 _ (fun args => ReflectliteValue.unpack (args.getD 0 (.tuple #[]))) Tryd.func65 (by kernel_rfl) (by kernel_rfl) (by kernel_rfl) (by kernel_rfl)
  have x2 := @run_callFunc_extern Tryd.prog 66 _ (ReflectliteValue.methodAny (ReflectliteValue.valueError "reflectlite.Value.Type" 0) (fun t _ _ _ => ReflectliteType.toType t)) Tryd.func66 (by kernel_rfl) (by kernel_rfl) (by kernel_rfl) (by kernel_rfl)
  have x3 := @run_callFunc_extern Tryd.prog 67 _ (ReflectliteValue.method (ReflectliteValue.valueError "reflectlite.Value.IsNil" 0) ReflectliteValue.isNil) Tryd.func67 (by kernel_rfl) (by kernel_rfl) (by kernel_rfl) (by kernel_rfl)
  have x4 := @run_callFunc_extern Tryd.prog 88 _ (ReflectliteType.abiMethod fun t => do pure (.int .u8 (← Rtype.kind t))) Tryd.func88 (by kernel_rfl) (by kernel_rfl) (by kernel_rfl) (by kernel_rfl)
  have x5 := @run_callFunc_extern Tryd.prog 98 _ (ReflectliteType.method ReflectliteType.elem) Tryd.func98 (by kernel_rfl) (by kernel_rfl) (by kernel_rfl) (by kernel_rfl)
  have x6 := @run_callFunc_extern Tryd.prog 99 _ (ReflectliteType.relation "Implements" ReflectliteType.implements_) Tryd.func99 (by kernel_rfl) (by kernel_rfl) (by kernel_rfl) (by kernel_rfl)
  have x7 := @run_callFunc_extern Tryd.prog 71 _ (ReflectliteType.typeOf) Tryd.func71 (by kernel_rfl) (by kernel_rfl) (by kernel_rfl) (by kernel_rfl)
  have x8 := @run_callFunc_extern Tryd.prog 96 _ (ReflectliteType.relation "AssignableTo" ReflectliteType.assignableTo) Tryd.func96 (by kernel_rfl) (by kernel_rfl) (by kernel_rfl) (by kernel_rfl)
  have x9 := @run_callFunc_extern Tryd.prog 72 _ (ReflectliteValue.method (ReflectliteValue.valueError "reflectlite.Value.Elem" 0) ReflectliteValue.elem) Tryd.func72 (by kernel_rfl) (by kernel_rfl) (by kernel_rfl) (by kernel_rfl)
  have x10 := @run_callFunc_extern Tryd.prog 73 _ (ReflectliteValue.set) Tryd.func73 (by kernel_rfl) (by kernel_rfl) (by kernel_rfl) (by kernel_rfl)
  have y0 := asV_ptr
  have y1 := asT_ptr
  have y2 := asK_ptr
  have y3 := asK_err
  have y4 := asE_ptr
  have y5 := asI_err
  have y6 := asO_err
  have y7 := asA_err
  have y8 := asV_err
  have y9 := asM_kind
  have y10 := asM_elem
  have y11 := asM_impl
  have y12 := asM_assign
  have hlt : 0 < w.heap.size := cell_here hg
  have htl : t.block < w.heap.size := by
    rcases Nat.lt_or_ge t.block w.heap.size with h | h
    · exact h
    · simp [World.cell?, Array.getElem?_eq_none h] at ht0
  have n8 := as_isNil ⟨w.heap.size, 0, none⟩ t ((w.alloc (.cells #[.pointer (some t)] 112)).alloc (.cells #[.pointer (some ⟨1, 112, none⟩), .pointer (some ⟨w.heap.size, 0, none⟩), .int .u64 150] 145)) ((alloc_old (by simp)).trans (by first | simp | exact World.cell?_alloc_new w _ _ 0))
  have hg2 : ((w.alloc (.cells #[.pointer (some t)] 112)).alloc (.cells #[.pointer (some ⟨1, 112, none⟩), .pointer (some ⟨w.heap.size, 0, none⟩), .int .u64 150] 145)).cell? ⟨0, 0, none⟩ = some (.iface 156 (.agg #[.pointer (some ⟨1, 33, none⟩)])) := (alloc_old (by simp <;> omega)).trans ((alloc_old hlt).trans hg)
  have el := as_elemV ⟨w.heap.size, 0, none⟩ t (((w.alloc (.cells #[.pointer (some t)] 112)).alloc (.cells #[.pointer (some ⟨1, 112, none⟩), .pointer (some ⟨w.heap.size, 0, none⟩), .int .u64 150] 145)).alloc (.cells #[.pointer (some ⟨1, 112, none⟩), .pointer (some ⟨w.heap.size, 0, none⟩), .int .u64 150] 145)) ((alloc_old (by simp <;> omega)).trans ((alloc_old (by simp)).trans (by first | simp | exact World.cell?_alloc_new w _ _ 0)))
  have st := as_set t ⟨w.heap.size + 1 + 1 + 1, 0, none⟩ e old ((((w.alloc (.cells #[.pointer (some t)] 112)).alloc (.cells #[.pointer (some ⟨1, 112, none⟩), .pointer (some ⟨w.heap.size, 0, none⟩), .int .u64 150] 145)).alloc (.cells #[.pointer (some ⟨1, 112, none⟩), .pointer (some ⟨w.heap.size, 0, none⟩), .int .u64 150] 145)).alloc (.cells #[.int .i64 e] 62)) (by first | simp | (rw [World.cell?_alloc_at _ _ _ _ (by simp)]; rfl)) ((alloc_old (by simp; omega)).trans ((alloc_old (by simp; omega)).trans ((alloc_old (by simp; omega)).trans ((alloc_old htl).trans ht0)))) ((alloc_oldf (by simp; omega)).trans ((alloc_oldf (by simp; omega)).trans ((alloc_oldf (by simp; omega)).trans ((alloc_oldf htl).trans hf0))))
  go_enter Tryd.func44, Tryd.ntmps44
  go_wp2
  refine wp_loop_rounds 1 ?_
  rw [rounds_succ]
  go_wp2
  go_ret
  exact ⟨rfl, rfl⟩
end Go.Proofs.YtlogdmnhngbkaaaDoor
/-
  WHAT THE LAW'S OWN HELPERS ANSWER: Told, retired, regs.
-/
namespace Go.Proofs.YtlogdmnhngbkaaaDoor
open Go Go.RowKit
theorem told_nil (w : World) : Calls Tryd.prog 27 #[.nilIface] w fun e w' => e = .returned (.int .i64 0) ∧ Below w.heap.size w w' := by
  go_enter Tryd.func27, Tryd.ntmps27
  go_wp2
  go_ret
  exact ⟨rfl, by first | exact Below.refl _ _ | exact (Below.refl _ _).alloc (Nat.le_refl _) _⟩
set_option maxHeartbeats 1000000 in
theorem told_err (k : Int) (w : World) (hg : w.cell? ⟨0, 0, none⟩ = some (.iface 156 (.agg #[.pointer (some ⟨1, 33, none⟩)]))) : Calls Tryd.prog 27 #[.iface 62 (.int .i64 k)] w fun e w' => e = .returned (.int .i64 k) ∧ Below w.heap.size w w' := by
  have h0 : 0 < w.heap.size := cell_here hg
  have hg1 : (w.alloc (.cells #[.int .i64 0] 62)).cell? ⟨0, 0, none⟩ = some (.iface 156 (.agg #[.pointer (some ⟨1, 33, none⟩)])) := (alloc_old h0).trans hg
  have HG := Hid.in hg1
  clear hg hg1
  go_enter Tryd.func27, Tryd.ntmps27
  go_wp2_with (go_at_call 44; refine (as_hit k ⟨w.heap.size, 0, none⟩ (.int .i64 0) _ HG.out (by first | simp | exact World.cell?_alloc_new w _ _ 0) (World.frozen?_alloc_at _ _ _ 0 rfl)).mono ?_; rintro e w1 ⟨rfl, hw1⟩; have c1 : w1.cell? ⟨w.heap.size, 0, none⟩ = some (.int .i64 k) := (by rw [hw1]; exact World.cell?_setCell_same _ _ _ ((alloc_old (by simp <;> omega)).trans ((alloc_old (by simp <;> omega)).trans ((alloc_old (by simp <;> omega)).trans ((alloc_old (by simp)).trans (World.cell?_alloc_new w _ _ 0)))))); have bl : Below w.heap.size w w1 := (by rw [hw1]; exact (((((((Below.refl _ _).alloc (Nat.le_refl _) _).alloc (by simp) _).alloc (by simp <;> omega) _).alloc (by simp <;> omega) _).alloc (by simp <;> omega) _).setCell (by exact Nat.le_refl _) _)); clear hw1)
  go_ret
  exact ⟨rfl, bl⟩
end Go.Proofs.YtlogdmnhngbkaaaDoor
/-
  CACHE's LAW CacheSteps: its own helpers: told, line, made.
-/
namespace Go.Proofs.YtlogdmnhngbkaaaDoor
open Go Go.RowKit
def handleAt (w : World) : Prop := w.cell? ⟨0, 0, none⟩ = some (.iface 156 (.agg #[.pointer (some ⟨1, 33, none⟩)]))
def errOf (er : Int) : Value := if er = 0 then .nilIface else errV er
theorem errOf_ne {er : Int} (h : er ≠ 0) : errOf er = errV er := by simp [errOf, h]
theorem bvs_cell (b : Nat → Nat) (hb : ∀ j, j < 16 → b j < 256) : bvs b = ((List.range 16).map (fun j => UInt8.ofNat (b j))).map Extern.Stop.cell := by
  unfold bvs
  rw [List.map_map]
  refine List.map_congr_left (fun j hj => ?_)
  have hj' : j < 16 := by simpa using hj
  show Value.int .u8 (b j) = Extern.Stop.cell (UInt8.ofNat (b j))
  unfold Extern.Stop.cell
  have : (UInt8.ofNat (b j)).toNat = b j := by
    rw [UInt8.toNat_ofNat']
    exact Nat.mod_eq_of_lt (hb j hj')
  rw [this]
  rfl
theorem eq_bytes (w : World) (b : Nat → Nat) (hb : ∀ j, j < 16 → b j < 256) : (Op.equalIn 10000 98 (.agg (bvs b).toArray) (.agg (bvs b).toArray)).run Tryd.prog w = .ok true w := by
  have hsz : ∀ w, (sizeOf 5).run Tryd.prog w = .ok 1 w := fun w => by
    obtain ⟨i, hi, h2⟩ : ∃ i, Tryd.prog.info? 5 = some i ∧ i.size = 1 := by
      have h : (Tryd.prog.info? 5).map (·.size) = some 1 := by kernel_rfl
      cases q : Tryd.prog.info? 5 with
      | none => rw [q] at h; simp at h
      | some i => rw [q] at h; exact ⟨i, rfl, by simpa using h⟩
    simp [sizeOf, typeInfo, hi, h2]
  rw [bvs_cell b hb]
  have := run_equalIn_bytes (P := Tryd.prog) w 9998 98 5 16 Tryd.underlying98 Tryd.underlying5 hsz ((List.range 16).map (fun j => UInt8.ofNat (b j))) ((List.range 16).map (fun j => UInt8.ofNat (b j))) (by simp) (by simp)
  rw [this]
  simp
end Go.Proofs.YtlogdmnhngbkaaaDoor
/-
  CACHE's LAW CacheSteps: made.
-/
namespace Go.Proofs.YtlogdmnhngbkaaaDoor
open Go Go.RowKit
def mkI (n : Int) (k : Nat) : Int := (wrap64 (n / 2 ^ (k % 8) + 17 * k)) % 256
def mk (n : Int) (k : Nat) : Nat := (mkI n k).toNat
theorem mk_is (n : Int) (k : Nat) : mkI n k = (mk n k : Int) := by
  unfold mk mkI
  omega
theorem mk_lt (n : Int) (k : Nat) : mk n k < 256 := by
  unfold mk mkI
  omega
theorem arr_one (b : Nat → Nat) : (bvs b).toArray.all (·.oneCell') = true := all_oneCell_toArray (bvs_one b)
theorem st_arr {ops : Array Oper} {rest : List Oper} {op : Oper} {a : Act} {w : World} {Q : Exit → Act → World → Prop} (g o : Nat) (b : Nat → Nat) (hc : w.there g o 16) (hgd : op.guard = none) (hds : op.dst = none) (x y : Operand) (ho : op.op = .store 98 x y) (hx : a.eval x = .pointer (some ⟨g, o, none⟩)) (hy : a.eval y = .agg (bvs b).toArray) (h : wpList Tryd.prog ops Q rest a (w.setCells g o (bvs b))) : wpList Tryd.prog ops Q (op :: rest) a w := by
  refine wpList_store_mid hgd _ x y ho g o (bvs b).toArray hx hy (by simp [bvs_len]; exact hc) (by rw [arr_info]; simp [bvs_len]) (arr_one b) ?_
  rw [hds]
  exact (by simpa using h : wpList Tryd.prog ops Q rest a (w.setCells g o (bvs b).toArray.toList))
theorem ld_arr {ops : Array Oper} {rest : List Oper} {op : Oper} {a : Act} {w : World} {Q : Exit → Act → World → Prop} (g o : Nat) (b : Nat → Nat) (hc : w.rangeAt g o (bvs b)) (hgd : op.guard = none) (x : Operand) (ho : op.op = .load 98 x) (hx : a.eval x = .pointer (some ⟨g, o, none⟩)) (h : wpList Tryd.prog ops Q rest (a.put op.dst (.agg (bvs b).toArray)) w) : wpList Tryd.prog ops Q (op :: rest) a w :=
  wpList_load_mid hgd _ x ho g o hx (bvs b) _ hc Tryd.underlying98 rfl (by rw [arr_info, bvs_len]) h
theorem results_arr {fn : Func} {p : Tmp} (h : fn.results = #[.cell p 98]) (tmps : Array Value) (w : World) (g : Nat) (b : Nat → Nat) (hp : tmps.getD p undef = .pointer (some ⟨g, 0, none⟩)) (hg : w.rangeAt g 0 (bvs b)) : (results fn tmps).run Tryd.prog w = .ok (.agg (bvs b).toArray) w := by
  have hp' : tmps[p]?.getD undef = .pointer (some ⟨g, 0, none⟩) := by simpa using hp
  have hl := run_loadVar_mid (P := Tryd.prog) w g 0 98 (bvs b) _ hg Tryd.underlying98 rfl (by rw [arr_info, bvs_len])
  simp [results, h, hp', asAddr, hl]
end Go.Proofs.YtlogdmnhngbkaaaDoor
