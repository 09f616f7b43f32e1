/-
  PREDICT: the answer's predictor in memory; how it goes on.
-/
import Derived.Test.YtaioaakaffafoaaDoorDp
namespace Go.Proofs.YtaioaakaffafoaaDoor
open Go Go.RowKit
def encR (kd : Int) (bits hb tb hist gc nc gt nt gs ns top : Nat) : Nat → Value
  | 0 => .int .i64 kd
  | 1 => .int .i64 bits
  | 2 => .int .i64 hb
  | 3 => .int .i64 tb
  | 4 => .int .i64 ns
  | 5 => .int .i64 hist
  | 6 => .slice (some ⟨gc, 0, none⟩) nc nc
  | 7 => .slice (some ⟨gt, 0, none⟩) nt nt
  | 8 => .slice (some ⟨gs, 0, none⟩) ns ns
  | _ => .int .i64 top
structure Rp (w : World) (G : PG) (kd : Int) (bits hb tb : Nat) (S : PS) : Prop where
  cells : CellsAt 10 w G.p (encR kd bits hb tb S.hist G.gc G.nc G.gt G.nt G.gs G.ns S.top)
  tgt : CellsAt (G.nt * 3) w G.gt (encG S.tf S.tp S.tt)
  stk : CellsAt G.ns w G.gs (fun k => .int .u32 (S.stack k))
  ctr : CellsAt G.nc w G.gc (fun k => .int .i64 (S.ctr k))
  ne : G.p ≠ G.gt ∧ G.p ≠ G.gs ∧ G.p ≠ G.gc ∧ G.gt ≠ G.gs ∧ G.gt ≠ G.gc ∧ G.gs ≠ G.gc
  low : S.top < G.ns ∧ S.hist ≤ G.mask
  size : 1 ≤ G.nt ∧ G.nt ≤ 256 ∧ 1 ≤ G.ns ∧ G.ns ≤ 16 ∧ 1 ≤ G.nc ∧ G.nc ≤ 1024 ∧ G.mask ≤ 1023
  le : ∀ k, k < G.nc → S.ctr k ≤ 3
  pw : G.mask + 1 = 2 ^ hb
  hb10 : hb ≤ 10
theorem Rp.turned {Q : Nat → Prop} {w w' : World} {G : PG} {kd : Int} {bits hb tb : Nat} {S : PS} (h : Rp w G kd bits hb tb S) (c : Turned Q w w') (h1 : ¬ Q G.p) (h2 : ¬ Q G.gt) (h3 : ¬ Q G.gs) (h4 : ¬ Q G.gc) : Rp w' G kd bits hb tb S :=
  ⟨c.cells h.cells h1, c.cells h.tgt h2, c.cells h.stk h3, c.cells h.ctr h4, h.ne, h.low, h.size, h.le, h.pw, h.hb10⟩
theorem Rp.below {w w' : World} {G : PG} {kd : Int} {bits hb tb : Nat} {S : PS} (h : Rp w G kd bits hb tb S) (c : Below w.heap.size w w') : Rp w' G kd bits hb tb S := h.turned (Q := fun _ => False) (Turned.of_below c) (fun q => q) (fun q => q) (fun q => q) (fun q => q)
theorem Rp.drew {w : World} {G : PG} {kd : Int} {bits hb tb : Nat} {S : PS} (h : Rp w G kd bits hb tb S) : Rp w.drew G kd bits hb tb S := h.below (Below.refl _ _).drew
theorem cr_hist {w : World} {p : Nat} {kd : Int} {b1 b2 b3 h gc nc gt nt gs ns t : Nat} (hc : CellsAt 10 w p (encR kd b1 b2 b3 h gc nc gt nt gs ns t)) (v : Nat) : CellsAt 10 (w.setCell ⟨p, 5, none⟩ (.int .i64 v)) p (encR kd b1 b2 b3 v gc nc gt nt gs ns t) := by
  refine (hc.set 5 (by omega) _).ext fun o ho => ?_
  match o, ho with
  | 0, _ => rfl
  | 1, _ => rfl
  | 2, _ => rfl
  | 3, _ => rfl
  | 4, _ => rfl
  | 5, _ => rfl
  | 6, _ => rfl
  | 7, _ => rfl
  | 8, _ => rfl
  | 9, _ => rfl
theorem cr_top {w : World} {p : Nat} {kd : Int} {b1 b2 b3 h gc nc gt nt gs ns t : Nat} (hc : CellsAt 10 w p (encR kd b1 b2 b3 h gc nc gt nt gs ns t)) (v : Nat) : CellsAt 10 (w.setCell ⟨p, 9, none⟩ (.int .i64 v)) p (encR kd b1 b2 b3 h gc nc gt nt gs ns v) := by
  refine (hc.set 9 (by omega) _).ext fun o ho => ?_
  match o, ho with
  | 0, _ => rfl
  | 1, _ => rfl
  | 2, _ => rfl
  | 3, _ => rfl
  | 4, _ => rfl
  | 5, _ => rfl
  | 6, _ => rfl
  | 7, _ => rfl
  | 8, _ => rfl
  | 9, _ => rfl
theorem Rp.setHist {w : World} {G : PG} {kd : Int} {bits hb tb : Nat} {S : PS} (h : Rp w G kd bits hb tb S) (v : Nat) (h1 : v ≤ G.mask) : Rp (w.setCell ⟨G.p, 5, none⟩ (.int .i64 v)) G kd bits hb tb { S with hist := v } := by
  obtain ⟨a1, a2, a3, a4, a5, a6, a7, a8, a9, a10⟩ := h
  exact ⟨cr_hist a1 v, a2.setOther _ _ (fun e => a5.1 e.symm), a3.setOther _ _ (fun e => a5.2.1 e.symm), a4.setOther _ _ (fun e => a5.2.2.1 e.symm), a5, ⟨a6.1, h1⟩, a7, a8, a9, a10⟩
theorem Rp.setTop {w : World} {G : PG} {kd : Int} {bits hb tb : Nat} {S : PS} (h : Rp w G kd bits hb tb S) (t : Nat) (h1 : t < G.ns) : Rp (w.setCell ⟨G.p, 9, none⟩ (.int .i64 t)) G kd bits hb tb { S with top := t } := by
  obtain ⟨a1, a2, a3, a4, a5, a6, a7, a8, a9, a10⟩ := h
  exact ⟨cr_top a1 t, a2.setOther _ _ (fun e => a5.1 e.symm), a3.setOther _ _ (fun e => a5.2.1 e.symm), a4.setOther _ _ (fun e => a5.2.2.1 e.symm), a5, ⟨h1, a6.2⟩, a7, a8, a9, a10⟩
theorem Rp.setStk {w : World} {G : PG} {kd : Int} {bits hb tb : Nat} {S : PS} (h : Rp w G kd bits hb tb S) (t : Nat) (h2 : t < G.ns) (v : Int) : Rp (w.setCell ⟨G.gs, t, none⟩ (.int .u32 v)) G kd bits hb tb { S with stack := upd S.stack t v } := by
  obtain ⟨a1, a2, a3, a4, a5, a6, a7, a8, a9, a10⟩ := h
  refine ⟨a1.setOther _ _ a5.2.1, a2.setOther _ _ a5.2.2.2.1, ?_, a4.setOther _ _ (fun e => a5.2.2.2.2.2 e.symm), a5, a6, a7, a8, a9, a10⟩
  refine (a3.set t h2 _).to ?_
  funext k
  show upd (fun k => Value.int .u32 (S.stack k)) t _ k = Value.int .u32 (upd S.stack t _ k)
  by_cases e : k = t
  · rw [e, upd_same, upd_same]
  · rw [upd_other _ _ _ _ e, upd_other _ _ _ _ e]
def rN (kd pc h : Int) : Int := if kd = 3 then mixN pc h else pc / 4
theorem xor_same (a b : Nat) (ha : a < 2 ^ 31) (hb : b < 2 ^ 31) : bits .xor .i64 (a : Int) (b : Int) = bits .xor .u32 (a : Int) (b : Int) := by
  have e1 : (BitVec.ofInt 64 (a : Int)).toNat = a := ofInt_64 a (by omega)
  have e2 : (BitVec.ofInt 64 (b : Int)).toNat = b := ofInt_64 b (by omega)
  have e3 : (BitVec.ofInt 32 (a : Int)).toNat = a := by rw [BitVec.ofInt_natCast, BitVec.toNat_ofNat]; exact Nat.mod_eq_of_lt (by omega)
  have e4 : (BitVec.ofInt 32 (b : Int)).toNat = b := by rw [BitVec.ofInt_natCast, BitVec.toNat_ofNat]; exact Nat.mod_eq_of_lt (by omega)
  have hx : a ^^^ b < 2 ^ 31 := Nat.xor_lt_two_pow ha hb
  show IntKind.i64.wrap ((BitVec.ofInt 64 (a : Int) ^^^ BitVec.ofInt 64 (b : Int)).toNat : Int) = IntKind.u32.wrap ((BitVec.ofInt 32 (a : Int) ^^^ BitVec.ofInt 32 (b : Int)).toNat : Int)
  rw [BitVec.toNat_xor, BitVec.toNat_xor, e1, e2, e3, e4, IntKind.wrap_i64, IntKind.wrap_u32]
  omega
theorem xor_mix (pc h : Int) (hp : 0 ≤ pc ∧ pc < 4294967296) (hh : 0 ≤ h ∧ h ≤ 1023) : bits .xor .i64 (pc / 4) h = mixN pc h := by
  have q := xor_same (pc / 4).toNat h.toNat (by omega) (by omega)
  have e1 : (((pc / 4).toNat : Nat) : Int) = pc / 4 := by omega
  have e2 : ((h.toNat : Nat) : Int) = h := by omega
  rw [e1, e2] at q
  exact q
set_option maxHeartbeats 1000000 in
theorem rindex_any (G : PG) (kd : Int) (bits hb tb : Nat) (S : PS) (pc h : Int) (w : World) (hr : Rp w G kd bits hb tb S) (hp : 0 ≤ pc ∧ pc < 4294967296) (hh : 0 ≤ h ∧ h ≤ 1023) : Calls Tryd.prog 26 #[.pointer (some ⟨G.p, 0, none⟩), .int .u32 pc, .int .i64 h] w fun e w' => e = .returned (.int .i64 (cix G.nc (rN kd pc h))) ∧ w' = w := by
  have c0 : w.cell? ⟨G.p, 0, none⟩ = some (.int .i64 kd) := hr.cells.cell 0 (by decide)
  have c6 : w.cell? ⟨G.p, 6, none⟩ = some (.slice (some ⟨G.gc, 0, none⟩) G.nc G.nc) := hr.cells.cell 6 (by decide)
  have h3 := hr.cells.here
  obtain ⟨s1, s2, s3, s4, s5, s6, s7⟩ := hr.size
  have e1 := (cix_is G.nc (rN kd pc h) s5).1
  have hn : 0 ≤ rN kd pc h := by
    unfold rN
    split
    · exact (mixN_is pc h).1
    · omega
  have HE : Hid ((rN kd pc h).tmod (G.nc : Int) = (cix G.nc (rN kd pc h) : Int)) := by show _ = _; rw [Int.tmod_eq_emod_of_nonneg hn]; exact e1
  have hx := xor_mix pc h hp hh
  have HX := Hid.in hx
  generalize cix G.nc (rN kd pc h) = k at HE ⊢
  have hz : ¬ (G.nc : Int) = 0 := by omega
  have hz2 : ¬ (G.nc : Int) = -1 := by omega
  obtain ⟨p1, p2⟩ := hp
  obtain ⟨q1, q2⟩ := hh
  clear hr e1 hn hx
  by_cases hk : kd = 3
  · subst hk
    have he := HE.out
    unfold rN at he
    rw [if_pos rfl, ← HX.out] at he
    go_enter Tryd.func26, Tryd.ntmps26
    go_wp2
    go_ret
    exact ⟨rfl, rfl⟩
  · have he := HE.out
    unfold rN at he
    rw [if_neg hk] at he
    have hk2 : (kd == 3) = false := by simpa using hk
    go_enter Tryd.func26, Tryd.ntmps26
    go_wp2
    go_ret
    exact ⟨rfl, rfl⟩
end Go.Proofs.YtaioaakaffafoaaDoor
