import Derived.Test.YtemamhkhjijdlaaGreatDoorY03
import Derived.Test.YtemamhkhjijdlaaGreatDoorY18
import Derived.Test.YtemamhkhjijdlaaGreatDoorY13
import Derived.Deep.RegionHeld3
import Derived.Deep.DeepMust
import Derived.Deep.CutBlock
import Derived.BigRegion
/-
  CACHE: New, refused; the answer's New.
-/
namespace Go.Proofs.YtemamhkhjijdlaaGreatDoor
open Go Go.RowKit
def isN (n : Int) : Prop := n = 1 ∨ n = 2 ∨ n = 4 ∨ n = 8 ∨ n = 16
set_option maxRecDepth 100000 in
set_option maxHeartbeats 2000000 in
theorem isShape_bad (n k : Int) (w : World) (hn63 : -9223372036854775808 ≤ n ∧ n ≤ 9223372036854775807) (h : ¬ (isN n ∧ 1 ≤ k ∧ k ≤ 4)) : Calls Tryz.prog 97 #[.agg #[.int .i64 n, .int .i64 k]] w fun e w' => e = .returned (.bool false) ∧ Below w.heap.size w w' := by
  have hu : undef = Value.tuple #[] := rfl
  have main : n ≤ 0 ∨ 16 < n ∨ (n = 3 ∨ n = 5 ∨ n = 6 ∨ n = 7 ∨ n = 9 ∨ n = 10 ∨ n = 11 ∨ n = 12 ∨ n = 13 ∨ n = 14 ∨ n = 15) ∨ (isN n ∧ k < 1) ∨ (isN n ∧ 1 ≤ k ∧ 4 < k) := by
    unfold isN at *
    omega
  obtain ⟨hn1, hn2⟩ := hn63
  rcases main with h0 | h0 | h0 | ⟨h0, hk⟩ | ⟨h0, hk, hk4⟩
  · have hd : decide (0 < n) = false := by simp; omega
    go_enter Tryz.func97, Tryz.ntmps97
    go_wp2
    go_ret
    exact ⟨by simp, (Below.refl _ _).alloc (Nat.le_refl _) _⟩
  · have hd : decide (0 < n) = true := by simp; omega
    have hd2 : decide (n ≤ 16) = false := by simp; omega
    obtain ⟨y, hy⟩ : ∃ y, bits .and .i64 n (n - 1) = y := ⟨_, rfl⟩
    by_cases hy0 : y = 0
    · subst hy0
      go_enter Tryz.func97, Tryz.ntmps97
      go_wp2
      go_ret
      exact ⟨by simp, (Below.refl _ _).alloc (Nat.le_refl _) _⟩
    · have hyd : (y == 0) = false := by simp [hy0]
      go_enter Tryz.func97, Tryz.ntmps97
      go_wp2
      go_ret
      exact ⟨by simp, (Below.refl _ _).alloc (Nat.le_refl _) _⟩
  · have e3 : (bits .and .i64 3 2 == 0) = false := by decide +kernel
    have e5 : (bits .and .i64 5 4 == 0) = false := by decide +kernel
    have e6 : (bits .and .i64 6 5 == 0) = false := by decide +kernel
    have e7 : (bits .and .i64 7 6 == 0) = false := by decide +kernel
    have e9 : (bits .and .i64 9 8 == 0) = false := by decide +kernel
    have e10 : (bits .and .i64 10 9 == 0) = false := by decide +kernel
    have e11 : (bits .and .i64 11 10 == 0) = false := by decide +kernel
    have e12 : (bits .and .i64 12 11 == 0) = false := by decide +kernel
    have e13 : (bits .and .i64 13 12 == 0) = false := by decide +kernel
    have e14 : (bits .and .i64 14 13 == 0) = false := by decide +kernel
    have e15 : (bits .and .i64 15 14 == 0) = false := by decide +kernel
    rcases h0 with rfl | rfl | rfl | rfl | rfl | rfl | rfl | rfl | rfl | rfl | rfl
    all_goals
      go_enter Tryz.func97, Tryz.ntmps97
      go_wp2
      go_ret
      exact ⟨by simp, (Below.refl _ _).alloc (Nat.le_refl _) _⟩
  · have e1 : bits .and .i64 1 0 = 0 := by decide +kernel
    have e2 : bits .and .i64 2 1 = 0 := by decide +kernel
    have e4 : bits .and .i64 4 3 = 0 := by decide +kernel
    have e8 : bits .and .i64 8 7 = 0 := by decide +kernel
    have e16 : bits .and .i64 16 15 = 0 := by decide +kernel
    have hkd : decide (1 ≤ k) = false := by simp; omega
    rcases h0 with rfl | rfl | rfl | rfl | rfl
    all_goals
      go_enter Tryz.func97, Tryz.ntmps97
      go_wp2
      go_ret
      exact ⟨by simp, (Below.refl _ _).alloc (Nat.le_refl _) _⟩
  · have e1 : bits .and .i64 1 0 = 0 := by decide +kernel
    have e2 : bits .and .i64 2 1 = 0 := by decide +kernel
    have e4 : bits .and .i64 4 3 = 0 := by decide +kernel
    have e8 : bits .and .i64 8 7 = 0 := by decide +kernel
    have e16 : bits .and .i64 16 15 = 0 := by decide +kernel
    have hkd : decide (1 ≤ k) = true := by simp; omega
    have hkd4 : decide (k ≤ 4) = false := by simp; omega
    rcases h0 with rfl | rfl | rfl | rfl | rfl
    all_goals
      go_enter Tryz.func97, Tryz.ntmps97
      go_wp2
      go_ret
      exact ⟨by simp, (Below.refl _ _).alloc (Nat.le_refl _) _⟩
set_option maxRecDepth 100000 in
set_option maxHeartbeats 2000000 in
theorem new_bad_bus (n k : Int) (w : World) (hn63 : -9223372036854775808 ≤ n ∧ n ≤ 9223372036854775807) (h : ¬ (isN n ∧ 1 ≤ k ∧ k ≤ 4)) : Calls Tryz.prog 57 #[.agg #[.int .i64 n, .int .i64 k]] w fun e w' => e = .returned (.tuple #[.pointer none, errV 2]) ∧ Below w.heap.size w w' := by
  have HN := Hid.in hn63
  have HH := Hid.in h
  have HB0 := Hid.in ((Below.refl _ w).alloc (Nat.le_refl _) (.cells #[.int .i64 n, .int .i64 k] 27))
  clear hn63 h
  go_enter Tryz.func57, Tryz.ntmps57
  go_wp2_with (go_at_call 97; refine (isShape_bad n k _ HN.out HH.out).mono ?_; rintro e w1 ⟨rfl, hb⟩; have HB := Hid.in hb; clear hb)
  refine bodyPost_ret (results_tmp2 Tryz.results57 _ _ _) rfl ?_
  exact ⟨rfl, HB0.out.trans (HB.out.mono HB0.out.size)⟩
end Go.Proofs.YtemamhkhjijdlaaGreatDoor
/-
  CORE: which configurations are taken.
-/
namespace Go.Proofs.YtemamhkhjijdlaaGreatDoor
open Go Go.RowKit
def Cf.arr (c : Cf) : Array Value := #[.int .i64 c.width, .int .i64 c.window, .int .i64 c.queue, .int .i64 c.regs, .int .i64 c.units, .int .i64 c.mul, .bool c.bold, .int .i64 c.kind, .int .i64 c.bits, .int .i64 c.hist, .int .i64 c.tg, .int .i64 c.ret, .int .i64 c.sets, .int .i64 c.ways, .int .i64 c.bus]
def Cf.inB (c : Cf) : Bool := decide (1 ≤ c.width ∧ c.width ≤ 4) && decide (1 ≤ c.units ∧ c.units ≤ 4) && decide (1 ≤ c.mul ∧ c.mul ≤ 10) && decide (0 ≤ c.bus ∧ c.bus ≤ 10)
def okB (c : Cf) : Prop := isN c.sets ∧ 1 ≤ c.ways ∧ c.ways ≤ 4 ∧ 0 ≤ c.bus ∧ c.bus ≤ 10
def okC (c : Cf) : Prop := c.inB = true ∧ gOk c.kind c.bits c.hist c.tg c.ret = true ∧ (34 ≤ c.regs ∧ c.regs ≤ 128) ∧ (2 ≤ c.window ∧ c.window ≤ 64) ∧ (1 ≤ c.queue ∧ c.queue ≤ 32)
end Go.Proofs.YtemamhkhjijdlaaGreatDoor
/-
  CORE's LAW: pick, Config.
-/
namespace Go.Proofs.YtemamhkhjijdlaaGreatDoor
open Go Go.RowKit
def I64 (c : Int) : Prop := -9223372036854775808 ≤ c ∧ c ≤ 9223372036854775807
/-- the law's choice -/
def pkI (c n : Int) : Int := (if c < 0 then -(c + 1) else c) % n
theorem pkI_in (c n : Int) (h : 1 ≤ n) : 0 ≤ pkI c n ∧ pkI c n < n := ⟨Int.emod_nonneg _ (by omega), Int.emod_lt_of_pos _ (by omega)⟩
set_option maxHeartbeats 1000000 in
theorem pick_g (c n : Int) (w : World) (hc : I64 c) (hn : 1 ≤ n) : Calls Tryz.prog 8 #[.int .i64 c, .int .i64 n] w fun e w' => e = .returned (.int .i64 (pkI c n)) ∧ w' = w := by
  obtain ⟨hc1, hc2⟩ := hc
  have hz : (n == 0) = false := by simp; omega
  have hz2 : ¬ n = 0 := by omega
  have hz3 : ¬ n = -1 := by omega
  by_cases h0 : c < 0
  · have he : (-(c + 1)).tmod n = pkI c n := by
      unfold pkI
      rw [if_pos h0, Int.tmod_eq_emod_of_nonneg (by omega)]
    obtain ⟨k, hk⟩ : ∃ k, pkI c n = k := ⟨_, rfl⟩
    rw [hk] at he ⊢
    clear hk
    go_enter Tryz.func8, Tryz.ntmps8
    go_wp2
    go_ret
    exact ⟨rfl, rfl⟩
  · have he : c.tmod n = pkI c n := by
      unfold pkI
      rw [if_neg h0, Int.tmod_eq_emod_of_nonneg (by omega)]
    obtain ⟨k, hk⟩ : ∃ k, pkI c n = k := ⟨_, rfl⟩
    rw [hk] at he ⊢
    clear hk
    go_enter Tryz.func8, Tryz.ntmps8
    go_wp2
    go_ret
    exact ⟨rfl, rfl⟩
def zcf : Cf := ⟨0, 0, 0, 0, 0, 0, false, 0, 0, 0, 0, 0, 0, 0, 0⟩
theorem cf_new (c : Cf) : ∀ i, i < 15 → (#[.int .i64 c.width, .int .i64 c.window, .int .i64 c.queue, .int .i64 c.regs, .int .i64 c.units, .int .i64 c.mul, .bool c.bold, .int .i64 c.kind, .int .i64 c.bits, .int .i64 c.hist, .int .i64 c.tg, .int .i64 c.ret, .int .i64 c.sets, .int .i64 c.ways, .int .i64 c.bus] : Array Value)[i]? = some (c.at i) := fun i hi => range_of 15 (fun i => (#[.int .i64 c.width, .int .i64 c.window, .int .i64 c.queue, .int .i64 c.regs, .int .i64 c.units, .int .i64 c.mul, .bool c.bold, .int .i64 c.kind, .int .i64 c.bits, .int .i64 c.hist, .int .i64 c.tg, .int .i64 c.ret, .int .i64 c.sets, .int .i64 c.ways, .int .i64 c.bus] : Array Value)[i]?) (fun i => some (c.at i)) (by kernel_rfl) i hi
theorem cells15 {x : World} {b : Nat} {c : Cf} (h : CellsAt 15 x b c.at) : x.cell? ⟨b, 0, none⟩ = some (.int .i64 c.width) ∧ x.cell? ⟨b, 1, none⟩ = some (.int .i64 c.window) ∧ x.cell? ⟨b, 2, none⟩ = some (.int .i64 c.queue) ∧ x.cell? ⟨b, 3, none⟩ = some (.int .i64 c.regs) ∧ x.cell? ⟨b, 4, none⟩ = some (.int .i64 c.units) ∧ x.cell? ⟨b, 5, none⟩ = some (.int .i64 c.mul) ∧ x.cell? ⟨b, 6, none⟩ = some (.bool c.bold) ∧ x.cell? ⟨b, 7, none⟩ = some (.int .i64 c.kind) ∧ x.cell? ⟨b, 8, none⟩ = some (.int .i64 c.bits) ∧ x.cell? ⟨b, 9, none⟩ = some (.int .i64 c.hist) ∧ x.cell? ⟨b, 10, none⟩ = some (.int .i64 c.tg) ∧ x.cell? ⟨b, 11, none⟩ = some (.int .i64 c.ret) ∧ x.cell? ⟨b, 12, none⟩ = some (.int .i64 c.sets) ∧ x.cell? ⟨b, 13, none⟩ = some (.int .i64 c.ways) ∧ x.cell? ⟨b, 14, none⟩ = some (.int .i64 c.bus) := ⟨h.cell 0 (by decide), h.cell 1 (by decide), h.cell 2 (by decide), h.cell 3 (by decide), h.cell 4 (by decide), h.cell 5 (by decide), h.cell 6 (by decide), h.cell 7 (by decide), h.cell 8 (by decide), h.cell 9 (by decide), h.cell 10 (by decide), h.cell 11 (by decide), h.cell 12 (by decide), h.cell 13 (by decide), h.cell 14 (by decide)⟩
theorem abs_w {Q : Exit → Act → World → Prop} {e : Exit} {a : Act} {w : World} (P : World → Prop) (hp : P w) (h : ∀ v, P v → Q e a v) : Q e a w := h w hp
theorem cf_set {x : World} {b : Nat} {c0 : Cf} (h : CellsAt 15 x b c0.at) (c : Cf) : CellsAt 15 (((((((((((((((x.setCell ⟨b, 0, none⟩ (.int .i64 c.width)).setCell ⟨b, 1, none⟩ (.int .i64 c.window)).setCell ⟨b, 2, none⟩ (.int .i64 c.queue)).setCell ⟨b, 3, none⟩ (.int .i64 c.regs)).setCell ⟨b, 4, none⟩ (.int .i64 c.units)).setCell ⟨b, 5, none⟩ (.int .i64 c.mul)).setCell ⟨b, 6, none⟩ (.bool c.bold)).setCell ⟨b, 7, none⟩ (.int .i64 c.kind)).setCell ⟨b, 8, none⟩ (.int .i64 c.bits)).setCell ⟨b, 9, none⟩ (.int .i64 c.hist)).setCell ⟨b, 10, none⟩ (.int .i64 c.tg)).setCell ⟨b, 11, none⟩ (.int .i64 c.ret)).setCell ⟨b, 12, none⟩ (.int .i64 c.sets)).setCell ⟨b, 13, none⟩ (.int .i64 c.ways)).setCell ⟨b, 14, none⟩ (.int .i64 c.bus)) b c.at := ((((((((((((((((h.set 0 (by decide) _).set 1 (by decide) _).set 2 (by decide) _).set 3 (by decide) _).set 4 (by decide) _).set 5 (by decide) _).set 6 (by decide) _).set 7 (by decide) _).set 8 (by decide) _).set 9 (by decide) _).set 10 (by decide) _).set 11 (by decide) _).set 12 (by decide) _).set 13 (by decide) _).set 14 (by decide) _)).ext (fun i hi => range_of 15 (fun i => (upd (upd (upd (upd (upd (upd (upd (upd (upd (upd (upd (upd (upd (upd (upd c0.at 0 (.int .i64 c.width)) 1 (.int .i64 c.window)) 2 (.int .i64 c.queue)) 3 (.int .i64 c.regs)) 4 (.int .i64 c.units)) 5 (.int .i64 c.mul)) 6 (.bool c.bold)) 7 (.int .i64 c.kind)) 8 (.int .i64 c.bits)) 9 (.int .i64 c.hist)) 10 (.int .i64 c.tg)) 11 (.int .i64 c.ret)) 12 (.int .i64 c.sets)) 13 (.int .i64 c.ways)) 14 (.int .i64 c.bus)) i) (fun i => c.at i) (by kernel_rfl) i hi)
theorem cf_below {w x : World} {n b : Nat} (h : Below n w x) (hb : n ≤ b) (c : Cf) : Below n w (((((((((((((((x.setCell ⟨b, 0, none⟩ (.int .i64 c.width)).setCell ⟨b, 1, none⟩ (.int .i64 c.window)).setCell ⟨b, 2, none⟩ (.int .i64 c.queue)).setCell ⟨b, 3, none⟩ (.int .i64 c.regs)).setCell ⟨b, 4, none⟩ (.int .i64 c.units)).setCell ⟨b, 5, none⟩ (.int .i64 c.mul)).setCell ⟨b, 6, none⟩ (.bool c.bold)).setCell ⟨b, 7, none⟩ (.int .i64 c.kind)).setCell ⟨b, 8, none⟩ (.int .i64 c.bits)).setCell ⟨b, 9, none⟩ (.int .i64 c.hist)).setCell ⟨b, 10, none⟩ (.int .i64 c.tg)).setCell ⟨b, 11, none⟩ (.int .i64 c.ret)).setCell ⟨b, 12, none⟩ (.int .i64 c.sets)).setCell ⟨b, 13, none⟩ (.int .i64 c.ways)).setCell ⟨b, 14, none⟩ (.int .i64 c.bus)) := (((((((((((((((h.setCell (show n ≤ b from hb) _).setCell (show n ≤ b from hb) _).setCell (show n ≤ b from hb) _).setCell (show n ≤ b from hb) _).setCell (show n ≤ b from hb) _).setCell (show n ≤ b from hb) _).setCell (show n ≤ b from hb) _).setCell (show n ≤ b from hb) _).setCell (show n ≤ b from hb) _).setCell (show n ≤ b from hb) _).setCell (show n ≤ b from hb) _).setCell (show n ≤ b from hb) _).setCell (show n ≤ b from hb) _).setCell (show n ≤ b from hb) _).setCell (show n ≤ b from hb) _)
end Go.Proofs.YtemamhkhjijdlaaGreatDoor
/-
  CORE's LAW: Turned.
-/
namespace Go.Proofs.YtemamhkhjijdlaaGreatDoor
open Go Go.RowKit
/-- one number turned -/
def Cf.turn (c : Cf) (v : Int) : Nat → Cf
  | 0 => { c with width := v }
  | 1 => { c with window := v }
  | 2 => { c with queue := v }
  | 3 => { c with regs := v }
  | 4 => { c with units := v }
  | 5 => { c with mul := v }
  | 6 => { c with kind := v }
  | 7 => { c with bits := v }
  | 8 => { c with hist := v }
  | 9 => { c with tg := v }
  | 10 => { c with ret := v }
  | 11 => { c with sets := v }
  | 12 => { c with ways := v }
  | _ => { c with bus := v }
def lowN : Nat → Int
  | 0 => 1
  | 1 => 2
  | 2 => 1
  | 3 => 34
  | 4 => 1
  | 5 => 1
  | 6 => 0
  | 7 => 1
  | 8 => 0
  | 9 => 0
  | 10 => 1
  | 11 => 1
  | 12 => 1
  | _ => 0
def highN (c : Cf) : Nat → Int
  | 0 => 4
  | 1 => 64
  | 2 => 32
  | 3 => 128
  | 4 => 4
  | 5 => 10
  | 6 => 3
  | 7 => 10
  | 8 => c.bits
  | 9 => 8
  | 10 => 16
  | 11 => 16
  | 12 => 4
  | _ => 10
theorem low_new : ∀ i, i < 14 → (#[.int .i64 1, .int .i64 2, .int .i64 1, .int .i64 34, .int .i64 1, .int .i64 1, .int .i64 0, .int .i64 1, .int .i64 0, .int .i64 0, .int .i64 1, .int .i64 1, .int .i64 1, .int .i64 0] : Array Value)[i]? = some (.int .i64 (lowN i)) := fun i hi => range_of 14 (fun i => (#[.int .i64 1, .int .i64 2, .int .i64 1, .int .i64 34, .int .i64 1, .int .i64 1, .int .i64 0, .int .i64 1, .int .i64 0, .int .i64 0, .int .i64 1, .int .i64 1, .int .i64 1, .int .i64 0] : Array Value)[i]?) (fun i => some (.int .i64 (lowN i))) (by kernel_rfl) i hi
theorem high_new (c : Cf) : ∀ i, i < 14 → (#[.int .i64 4, .int .i64 64, .int .i64 32, .int .i64 128, .int .i64 4, .int .i64 10, .int .i64 3, .int .i64 10, .int .i64 c.bits, .int .i64 8, .int .i64 16, .int .i64 16, .int .i64 4, .int .i64 10] : Array Value)[i]? = some (.int .i64 (highN c i)) := fun i hi => range_of 14 (fun i => (#[.int .i64 4, .int .i64 64, .int .i64 32, .int .i64 128, .int .i64 4, .int .i64 10, .int .i64 3, .int .i64 10, .int .i64 c.bits, .int .i64 8, .int .i64 16, .int .i64 16, .int .i64 4, .int .i64 10] : Array Value)[i]?) (fun i => some (.int .i64 (highN c i))) (by kernel_rfl) i hi
theorem two_is (v : Int) (h1 : 1 ≤ v) (h2 : v ≤ 16) : ((bits BinOp.and IntKind.i64 v (wrap64 (v - 1)) == 0) = true ↔ isN v) := by
  have : v = 1 ∨ v = 2 ∨ v = 3 ∨ v = 4 ∨ v = 5 ∨ v = 6 ∨ v = 7 ∨ v = 8 ∨ v = 9 ∨ v = 10 ∨ v = 11 ∨ v = 12 ∨ v = 13 ∨ v = 14 ∨ v = 15 ∨ v = 16 := by omega
  unfold isN
  rcases this with rfl | rfl | rfl | rfl | rfl | rfl | rfl | rfl | rfl | rfl | rfl | rfl | rfl | rfl | rfl | rfl <;> first
    | exact iff_of_true (by kernel_rfl) (by omega)
    | exact iff_of_false (fun q => Bool.noConfusion (q.symm.trans (by kernel_rfl : _ = false))) (by omega)
/-- what Turned comes to -/
def TuR (c : Cf) (v : Int) (w : World) (e : Ending) (y : World) : Prop := ∃ (k : Nat) (two : Bool), k < 14 ∧ (k ≠ 11 → two = true) ∧ (1 ≤ v → v ≤ 16 → k = 11 → (two = true ↔ isN v)) ∧ e = .returned (.tuple #[.agg (c.turn v k).arr, .bool (decide (lowN k ≤ v) && decide (v ≤ highN c k) && two && decide ((c.turn v k).hist ≤ (c.turn v k).bits))]) ∧ Below w.heap.size w y
/-- the memory of Turned behind its switch -/
structure TuM (w : World) (c : Cf) (v : Int) (k cb rb lb hb : Nat) (y : World) : Prop where
  cc : CellsAt 15 y cb (c.turn v k).at
  rr : CellsAt 15 y rb zcf.at
  ll : CellsAt 14 y lb (fun i => .int .i64 (lowN i))
  hh : CellsAt 14 y hb (fun i => .int .i64 (highN c i))
  bb : Below w.heap.size w y
  nn : rb ≠ cb ∧ rb ≠ lb ∧ rb ≠ hb
  zz : w.heap.size ≤ rb ∧ w.heap.size ≤ cb
theorem tum_of {w X : World} {c : Cf} {v : Int} {k cb rb lb hb : Nat} (hM : CellsAt 15 X cb c.at ∧ CellsAt 15 X rb zcf.at ∧ CellsAt 14 X lb (fun i => .int .i64 (lowN i)) ∧ CellsAt 14 X hb (fun i => .int .i64 (highN c i)) ∧ Below cb w X ∧ (rb ≠ cb ∧ rb ≠ lb ∧ rb ≠ hb ∧ cb ≠ lb ∧ cb ≠ hb) ∧ (cb ≤ rb ∧ cb ≤ cb)) (hcb : w.heap.size = cb) (o : Nat) (ho : o < 15) (he : ∀ i, i < 15 → upd c.at o (.int .i64 v) i = (c.turn v k).at i) : TuM w c v k cb rb lb hb (X.setCell ⟨cb, o, none⟩ (.int .i64 v)) := by
  subst hcb
  obtain ⟨kc, kr, kl, kh, bX, hne, hge⟩ := hM
  exact ⟨(kc.set o ho _).ext he, kr.setOther o _ hne.1, kl.setOther o _ (Ne.symm hne.2.2.2.1), kh.setOther o _ (Ne.symm hne.2.2.2.2), bX.setCell (Nat.le_refl _) _, ⟨hne.1, hne.2.1, hne.2.2.1⟩, hge⟩
def tlU (f : Func) : Code := match f.body with
  | some (.seq _ (.seq _ (.seq _ (.seq _ (.seq _ (.seq _ r)))))) => r
  | _ => .skip
end Go.Proofs.YtemamhkhjijdlaaGreatDoor
/-
  CORE's LAW: Turned: the end.
-/
namespace Go.Proofs.YtemamhkhjijdlaaGreatDoor
open Go Go.RowKit
set_option maxRecDepth 100000 in
set_option maxHeartbeats 4000000 in
theorem tuP1 {u0 u1 u4 u5 u7 u12 u13 u14 u15 u16 u17 u18 u19 u20 u21 u22 u23 u24 u25 u26 u27 u28 u29 u30 u31 u32 u33 u34 u35 u36 u37 u38 u39 u40 u41 u42 u43 u44 u45 u46 u47 u48 u49 u50 u51 u52 u53 u54 u55 u56 u57 u58 u59 u60 u61 u62 u63 u64 u65 u66 u67 u68 u69 u70 u71 u72 u73 u74 u75 u76 u77 u78 u79 u80 u81 u82 u83 u84 u85 u86 u87 u88 u89 u90 u91 u92 u93 u94 u95 u96 u97 u98 u99 u100 u101 u102 u103 u104 u105 u106 u107 u108 u109 u110 u111 u112 u113 u114 u115 u116 u117 u118 : Value} {w wc : World} {c : Cf} {v : Int} {k cb rb lb hb : Nat} {two : Bool} (hT : TuM w c v k cb rb lb hb wc) (hk14 : k < 14) (hw1 : k ≠ 11 → two = true) (hw2 : 1 ≤ v → v ≤ 16 → k = 11 → (two = true ↔ isN v)) (q1 : ¬ lowN k ≤ v) : Code.wp Tryz.prog (tlU Tryz.f4) (bodyPost Tryz.prog Tryz.f4 fun e y => TuR c v w e y) { tmps := #[u0, u1, .int .i64 v, .pointer (some ⟨cb, 0, none⟩), u4, u5, .pointer (some ⟨rb, 0, none⟩), u7, .int .i64 (k : Int), .slice (some ⟨lb, 0, none⟩) 14 14, .slice (some ⟨hb, 0, none⟩) 14 14, .bool two, u12, u13, u14, u15, u16, u17, u18, u19, u20, u21, u22, u23, u24, u25, u26, u27, u28, u29, u30, u31, u32, u33, u34, u35, u36, u37, u38, u39, u40, u41, u42, u43, u44, u45, u46, u47, u48, u49, u50, u51, u52, u53, u54, u55, u56, u57, u58, u59, u60, u61, u62, u63, u64, u65, u66, u67, u68, u69, u70, u71, u72, u73, u74, u75, u76, u77, u78, u79, u80, u81, u82, u83, u84, u85, u86, u87, u88, u89, u90, u91, u92, u93, u94, u95, u96, u97, u98, u99, u100, u101, u102, u103, u104, u105, u106, u107, u108, u109, u110, u111, u112, u113, u114, u115, u116, u117, u118], defers := [] } wc := by
  obtain ⟨kc, kr, kl, kh, bX, hne, hge⟩ := hT
  obtain ⟨t, ht⟩ : ∃ t, c.turn v k = t := ⟨_, rfl⟩
  obtain ⟨lo, hlo⟩ : ∃ lo, lowN k = lo := ⟨_, rfl⟩
  obtain ⟨hi, hhi⟩ : ∃ hi, highN c k = hi := ⟨_, rfl⟩
  rw [ht] at kc
  rw [hlo] at q1
  obtain ⟨a0, a1, a2, a3, a4, a5, a6, a7, a8, a9, a10, a11, a12, a13, a14⟩ := cells15 kc
  obtain ⟨r0, r1, r2, r3, r4, r5, r6, r7, r8, r9, r10, r11, r12, r13, r14⟩ := cells15 kr
  have l0 : wc.cell? ⟨lb, k, none⟩ = some (.int .i64 lo) := by rw [← hlo]; exact kl.cell k hk14
  have h0 : wc.cell? ⟨hb, k, none⟩ = some (.int .i64 hi) := by rw [← hhi]; exact kh.cell k hk14
  have ah := kc.here
  have rh := kr.here
  have rf := kr.free
  have lh := kl.here
  have hh := kh.here
  have i1 : (k : Int) < 14 := by omega
  have HKR := Hid.in kr
  have HB := Hid.in bX
  have HG := Hid.in hge
  have HT := Hid.in ht
  have HLO := Hid.in hlo
  have HHI := Hid.in hhi
  have HW1 := Hid.in hw1
  have HW2 := Hid.in hw2
  have HK14 := Hid.in hk14
  obtain ⟨n1, n2, n3⟩ := hne
  clear kc kr kl kh bX hge ht hlo hhi hw1 hw2 hk14
  have d1 : decide (lo ≤ v) = false := decide_eq_false q1
  dsimp only [tlU, Tryz.f4]
  go_upto_region 34 with fail
  go_region
  refine abs_w (fun v => CellsAt 15 v rb t.at ∧ Below w.heap.size w v) ⟨(cf_set HKR.out t).drew, (cf_below HB.out HG.out.1 t).drew⟩ ?_
  rintro V ⟨kv, bv⟩
  obtain ⟨c0, c1, c2, c3, c4, c5, c6, c7, c8, c9, c10, c11, c12, c13, c14⟩ := cells15 kv
  have HV := Hid.in bv
  clear kv bv a0 a1 a2 a3 a4 a5 a6 a7 a8 a9 a10 a11 a12 a13 a14 r0 r1 r2 r3 r4 r5 r6 r7 r8 r9 r10 r11 r12 r13 r14 l0 h0
  go_wp2_with fail
  refine bodyPost_ret (v := .tuple #[.agg t.arr, .bool false]) (by simp [results, go_sem, Cf.arr, *]) rfl ⟨k, two, HK14.out, HW1.out, HW2.out, ?_, HV.out⟩
  rw [HT.out, HLO.out, HHI.out, d1]
  simp [Cf.arr]
end Go.Proofs.YtemamhkhjijdlaaGreatDoor
/-
  CORE's LAW: Turned: the end.
-/
namespace Go.Proofs.YtemamhkhjijdlaaGreatDoor
open Go Go.RowKit
set_option maxRecDepth 100000 in
set_option maxHeartbeats 4000000 in
theorem tuP5 {u0 u1 u4 u5 u7 u12 u13 u14 u15 u16 u17 u18 u19 u20 u21 u22 u23 u24 u25 u26 u27 u28 u29 u30 u31 u32 u33 u34 u35 u36 u37 u38 u39 u40 u41 u42 u43 u44 u45 u46 u47 u48 u49 u50 u51 u52 u53 u54 u55 u56 u57 u58 u59 u60 u61 u62 u63 u64 u65 u66 u67 u68 u69 u70 u71 u72 u73 u74 u75 u76 u77 u78 u79 u80 u81 u82 u83 u84 u85 u86 u87 u88 u89 u90 u91 u92 u93 u94 u95 u96 u97 u98 u99 u100 u101 u102 u103 u104 u105 u106 u107 u108 u109 u110 u111 u112 u113 u114 u115 u116 u117 u118 : Value} {w wc : World} {c : Cf} {v : Int} {k cb rb lb hb : Nat} (hT : TuM w c v k cb rb lb hb wc) (hk14 : k < 14) (hw1 : k ≠ 11 → true = true) (hw2 : 1 ≤ v → v ≤ 16 → k = 11 → (true = true ↔ isN v)) (q1 : lowN k ≤ v) (q2 : v ≤ highN c k) (q4 : (c.turn v k).hist ≤ (c.turn v k).bits) : Code.wp Tryz.prog (tlU Tryz.f4) (bodyPost Tryz.prog Tryz.f4 fun e y => TuR c v w e y) { tmps := #[u0, u1, .int .i64 v, .pointer (some ⟨cb, 0, none⟩), u4, u5, .pointer (some ⟨rb, 0, none⟩), u7, .int .i64 (k : Int), .slice (some ⟨lb, 0, none⟩) 14 14, .slice (some ⟨hb, 0, none⟩) 14 14, .bool true, u12, u13, u14, u15, u16, u17, u18, u19, u20, u21, u22, u23, u24, u25, u26, u27, u28, u29, u30, u31, u32, u33, u34, u35, u36, u37, u38, u39, u40, u41, u42, u43, u44, u45, u46, u47, u48, u49, u50, u51, u52, u53, u54, u55, u56, u57, u58, u59, u60, u61, u62, u63, u64, u65, u66, u67, u68, u69, u70, u71, u72, u73, u74, u75, u76, u77, u78, u79, u80, u81, u82, u83, u84, u85, u86, u87, u88, u89, u90, u91, u92, u93, u94, u95, u96, u97, u98, u99, u100, u101, u102, u103, u104, u105, u106, u107, u108, u109, u110, u111, u112, u113, u114, u115, u116, u117, u118], defers := [] } wc := by
  obtain ⟨kc, kr, kl, kh, bX, hne, hge⟩ := hT
  obtain ⟨t, ht⟩ : ∃ t, c.turn v k = t := ⟨_, rfl⟩
  obtain ⟨lo, hlo⟩ : ∃ lo, lowN k = lo := ⟨_, rfl⟩
  obtain ⟨hi, hhi⟩ : ∃ hi, highN c k = hi := ⟨_, rfl⟩
  rw [ht] at kc q4
  rw [hlo] at q1
  rw [hhi] at q2
  obtain ⟨a0, a1, a2, a3, a4, a5, a6, a7, a8, a9, a10, a11, a12, a13, a14⟩ := cells15 kc
  obtain ⟨r0, r1, r2, r3, r4, r5, r6, r7, r8, r9, r10, r11, r12, r13, r14⟩ := cells15 kr
  have l0 : wc.cell? ⟨lb, k, none⟩ = some (.int .i64 lo) := by rw [← hlo]; exact kl.cell k hk14
  have h0 : wc.cell? ⟨hb, k, none⟩ = some (.int .i64 hi) := by rw [← hhi]; exact kh.cell k hk14
  have ah := kc.here
  have rh := kr.here
  have rf := kr.free
  have lh := kl.here
  have hh := kh.here
  have i1 : (k : Int) < 14 := by omega
  have HKR := Hid.in kr
  have HB := Hid.in bX
  have HG := Hid.in hge
  have HT := Hid.in ht
  have HLO := Hid.in hlo
  have HHI := Hid.in hhi
  have HW1 := Hid.in hw1
  have HW2 := Hid.in hw2
  have HK14 := Hid.in hk14
  obtain ⟨n1, n2, n3⟩ := hne
  clear kc kr kl kh bX hge ht hlo hhi hw1 hw2 hk14
  dsimp only [tlU, Tryz.f4]
  go_upto_region 34 with fail
  go_region
  refine abs_w (fun v => CellsAt 15 v rb t.at ∧ Below w.heap.size w v) ⟨(cf_set HKR.out t).drew, (cf_below HB.out HG.out.1 t).drew⟩ ?_
  rintro V ⟨kv, bv⟩
  obtain ⟨c0, c1, c2, c3, c4, c5, c6, c7, c8, c9, c10, c11, c12, c13, c14⟩ := cells15 kv
  have HV := Hid.in bv
  clear kv bv a0 a1 a2 a3 a4 a5 a6 a7 a8 a9 a10 a11 a12 a13 a14 r0 r1 r2 r3 r4 r5 r6 r7 r8 r9 r10 r11 r12 r13 r14 l0 h0
  go_wp2_with fail
  refine bodyPost_ret (v := .tuple #[.agg t.arr, .bool true]) (by simp [results, go_sem, Cf.arr, *]) rfl ⟨k, true, HK14.out, fun _ => rfl, fun a b d => by simpa using HW2.out a b d, ?_, HV.out⟩
  rw [HT.out, HLO.out, HHI.out]
  simp [Cf.arr, q1, q2, q4]
end Go.Proofs.YtemamhkhjijdlaaGreatDoor
