/-
  PREDICT: the program's predictor in memory; how it goes on.
-/
import Derived.Test.YtaioaakaffafoaaDoorDb
import Derived.Deep.RegionWith
import Derived.Deep.RegionHeld3
namespace Go.Proofs.YtaioaakaffafoaaDoor
open Go Go.RowKit
/-- a predictor's state -/
structure PS where
  hist : Nat
  top : Nat
  stack : Nat → Int
  tf : Nat → Bool
  tp : Nat → Int
  tt : Nat → Int
  ctr : Nat → Nat
def encD (dv : Value) (hist mask gt nt gs ns top : Nat) : Nat → Value
  | 0 => dv
  | 1 => .int .i64 hist
  | 2 => .int .i64 mask
  | 3 => .slice (some ⟨gt, 0, none⟩) nt nt
  | 4 => .slice (some ⟨gs, 0, none⟩) ns ns
  | _ => .int .i64 top
def encG (tf : Nat → Bool) (tp tt : Nat → Int) (o : Nat) : Value := if o % 3 = 0 then .bool (tf (o / 3)) else if o % 3 = 1 then .int .u32 (tp (o / 3)) else .int .u32 (tt (o / 3))
/-- where it lies, and how great it is -/
structure PG where
  p : Nat
  gt : Nat
  nt : Nat
  gs : Nat
  ns : Nat
  gc : Nat
  nc : Nat
  mask : Nat
  dv : Value
structure Pr (w : World) (G : PG) (S : PS) : Prop where
  cells : CellsAt 6 w G.p (encD G.dv S.hist G.mask G.gt G.nt G.gs G.ns S.top)
  tgt : CellsAt (G.nt * 3) w G.gt (encG S.tf S.tp S.tt)
  stk : CellsAt G.ns w G.gs (fun k => .int .u32 (S.stack k))
  ctr : CellsAt G.nc w G.gc (fun k => .int .u8 (S.ctr k))
  ne : G.p ≠ G.gt ∧ G.p ≠ G.gs ∧ G.p ≠ G.gc ∧ G.gt ≠ G.gs ∧ G.gt ≠ G.gc ∧ G.gs ≠ G.gc
  low : S.top < G.ns ∧ S.hist ≤ G.mask
  size : 1 ≤ G.nt ∧ G.nt ≤ 256 ∧ 1 ≤ G.ns ∧ G.ns ≤ 16 ∧ G.nc ≤ 1024 ∧ G.mask ≤ 1023
  msk : ∀ y, y &&& G.mask = y % (G.mask + 1)
def G.own (G : PG) (k : Nat) : Prop := k = G.p ∨ k = G.gt ∨ k = G.gs ∨ k = G.gc
theorem Pr.turned {Q : Nat → Prop} {w w' : World} {G : PG} {S : PS} (h : Pr w G S) (c : Turned Q w w') (h1 : ¬ Q G.p) (h2 : ¬ Q G.gt) (h3 : ¬ Q G.gs) (h4 : ¬ Q G.gc) : Pr w' G S :=
  ⟨c.cells h.cells h1, c.cells h.tgt h2, c.cells h.stk h3, c.cells h.ctr h4, h.ne, h.low, h.size, h.msk⟩
theorem Pr.below {w w' : World} {G : PG} {S : PS} (h : Pr w G S) (c : Below w.heap.size w w') : Pr w' G S := h.turned (Q := fun _ => False) (Turned.of_below c) (fun q => q) (fun q => q) (fun q => q) (fun q => q)
def plc (G : PG) (pc : Int) : Nat := ((pc / 4) % (G.nt : Int)).toNat
theorem plc_is (G : PG) (pc : Int) (h1 : 1 ≤ G.nt) : (pc / 4) % (G.nt : Int) = (plc G pc : Int) ∧ plc G pc < G.nt := by
  have h2 := Int.emod_nonneg (pc / 4) (show (G.nt : Int) ≠ 0 by omega)
  have h3 := Int.emod_lt_of_pos (pc / 4) (show (0 : Int) < (G.nt : Int) by omega)
  unfold plc
  omega
theorem placeOf_any (G : PG) (S : PS) (pc : Int) (w : World) (h : Pr w G S) (hpc : 0 ≤ pc ∧ pc < 4294967296) : Calls Tryd.prog 31 #[.pointer (some ⟨G.p, 0, none⟩), .int .u32 pc] w fun e w' => e = .returned (.int .u32 (plc G pc)) ∧ w' = w := by
  have c3 : w.cell? ⟨G.p, 3, none⟩ = some (.slice (some ⟨G.gt, 0, none⟩) G.nt G.nt) := h.cells.cell 3 (by decide)
  have h3 := h.cells.here
  have hs := h.size
  obtain ⟨s1, s2, s3, s4, s5⟩ := hs
  obtain ⟨e1, e2⟩ := plc_is G pc s1
  generalize plc G pc = k at e1 e2 ⊢
  obtain ⟨p1, p2⟩ := hpc
  generalize G.nt = nt at *
  have hz : ¬ (nt : Int) = 0 := by omega
  have hw : (nt : Int) % 4294967296 = (nt : Int) := by omega
  clear h
  go_enter Tryd.func31, Tryd.ntmps31
  go_wp2
  go_ret
  exact ⟨by show Ending.returned (Value.int .u32 (pc / 4 % (nt : Int))) = _; rw [e1], rfl⟩
theorem CD.hist {w : World} {p : Nat} {dv : Value} {h m gt nt gs ns t : Nat} (hc : CellsAt 6 w p (encD dv h m gt nt gs ns t)) (v : Nat) : CellsAt 6 (w.setCell ⟨p, 1, none⟩ (.int .i64 v)) p (encD dv v m gt nt gs ns t) := by
  refine (hc.set 1 (by omega) _).ext fun o ho => ?_
  match o, ho with
  | 0, _ => rfl
  | 1, _ => rfl
  | 2, _ => rfl
  | 3, _ => rfl
  | 4, _ => rfl
  | 5, _ => rfl
theorem CD.top {w : World} {p : Nat} {dv : Value} {h m gt nt gs ns t : Nat} (hc : CellsAt 6 w p (encD dv h m gt nt gs ns t)) (v : Nat) : CellsAt 6 (w.setCell ⟨p, 5, none⟩ (.int .i64 v)) p (encD dv h m gt nt gs ns v) := by
  refine (hc.set 5 (by omega) _).ext fun o ho => ?_
  match o, ho with
  | 0, _ => rfl
  | 1, _ => rfl
  | 2, _ => rfl
  | 3, _ => rfl
  | 4, _ => rfl
  | 5, _ => rfl
theorem ofInt_64 (a : Nat) (ha : a < 9223372036854775808) : (BitVec.ofInt 64 (a : Int)).toNat = a := by
  rw [BitVec.ofInt_natCast, BitVec.toNat_ofNat]; exact Nat.mod_eq_of_lt (by omega)
theorem i64_and_nat (a b : Nat) (ha : a < 9223372036854775808) (hb : b < 9223372036854775808) : bits .and .i64 (a : Int) (b : Int) = ((a &&& b : Nat) : Int) := by
  have hx : a &&& b < 2 ^ 63 := Nat.and_lt_two_pow _ (by omega)
  show IntKind.i64.wrap ((BitVec.ofInt 64 (a : Int) &&& BitVec.ofInt 64 (b : Int)).toNat : Int) = _
  rw [BitVec.toNat_and, ofInt_64 a ha, ofInt_64 b hb, IntKind.wrap_i64]
  omega
set_option maxHeartbeats 1000000 in
theorem goOn_ret (G : PG) (S : PS) (op rd rs1 rs2 imm pc : Int) (taken : Bool) (w : World) (h : Pr w G S) (hL : Laid w) (hb : brB op = false) (hr : retB op rd rs1 = true) : Calls Tryd.prog 25 #[.pointer (some ⟨G.p, 0, none⟩), .int .u32 pc, .agg #[.int .i64 op, .int .i64 rd, .int .i64 rs1, .int .i64 rs2, .int .i64 imm], .bool taken] w fun e w' => e = .returned (.tuple #[]) ∧ Pr w' G { S with top := (S.top + G.ns - 1) % G.ns } ∧ Turned (· = G.p) w w' := by
  have HL : Hid (∀ o, Laid (w.alloc o)) := fun o => hL.alloc o
  have HP := Hid.in h
  have HB := Hid.in hb
  have HR := Hid.in hr
  have c4 : w.cell? ⟨G.p, 4, none⟩ = some (.slice (some ⟨G.gs, 0, none⟩) G.ns G.ns) := h.cells.cell 4 (by decide)
  have c5 : w.cell? ⟨G.p, 5, none⟩ = some (.int .i64 S.top) := h.cells.cell 5 (by decide)
  have h3 := h.cells.here
  have h4 := h.cells.free
  obtain ⟨s1, s2, s3, s4, s5⟩ := h.size
  obtain ⟨l1, l2⟩ := h.low
  obtain ⟨t, ht⟩ : ∃ t, t = (S.top + G.ns - 1) % G.ns := ⟨_, rfl⟩
  have htm : ((S.top : Int) + (G.ns : Int) - 1).tmod (G.ns : Int) = (t : Int) := by
    rw [Int.tmod_eq_emod_of_nonneg (by omega), ht]
    have e : (S.top : Int) + (G.ns : Int) - 1 = ((S.top + G.ns - 1 : Nat) : Int) := by omega
    rw [e]
    exact (Int.natCast_emod _ _).symm
  rw [← ht]
  have HT : Hid (t < G.ns) := by show _ < _; rw [ht]; exact Nat.mod_lt _ (by omega)
  have hz : ¬ (G.ns : Int) = 0 := by omega
  clear h hL hb hr ht
  go_enter Tryd.func25, Tryd.ntmps25
  go_wp2_with (first
    | (go_at_call 23; refine (isBranch_any op rd rs1 rs2 imm _ (HL.out _)).mono ?_; rintro e w1 ⟨rfl, hb1⟩; rw [HB.out]; obtain ⟨k1, k2, k3, k4⟩ := keepB hb1; have c41 := (k4.cell (p := ⟨G.p, 4, none⟩) h3).trans c4; have c51 := (k4.cell (p := ⟨G.p, 5, none⟩) h3).trans c5; have h31 := Nat.lt_of_lt_of_le h3 k4.size; have h41 : ∀ o, w1.frozen? ⟨G.p, o, none⟩ = false := fun o => (k4.frozen (p := ⟨G.p, o, none⟩) h3).trans (h4 o))
    | (go_at_call 39; refine (isReturn_any op rd rs1 rs2 imm _).mono ?_; rintro e w2 ⟨rfl, hb2⟩; rw [HR.out]; have c42 := (hb2.cell (p := ⟨G.p, 4, none⟩) h31).trans c41; have c52 := (hb2.cell (p := ⟨G.p, 5, none⟩) h31).trans c51; have h32 := Nat.lt_of_lt_of_le h31 hb2.size; have h42 : ∀ o, w2.frozen? ⟨G.p, o, none⟩ = false := fun o => (hb2.frozen (p := ⟨G.p, o, none⟩) h31).trans (h41 o)))
  have hb12 := below2 k4 hb2
  have HP2 := HP.out.below hb12
  refine bodyPost_end (results_none Tryd.results25 _ _ _) rfl ⟨rfl, ?_, ?_⟩
  · obtain ⟨a1, a2, a3, a4, a5, a6, a7, a8⟩ := HP2
    exact ⟨CD.top a1 t, a2.setOther _ _ (fun e => a5.1 e.symm), a3.setOther _ _ (fun e => a5.2.1 e.symm), a4.setOther _ _ (fun e => a5.2.2.1 e.symm), a5, ⟨HT.out, a6.2⟩, a7, a8⟩
  · exact (Turned.of_below (Q := (· = G.p)) hb12).set (b := G.p) rfl _ _
set_option maxHeartbeats 1000000 in
theorem goOn_none (G : PG) (S : PS) (op rd rs1 rs2 imm pc : Int) (taken : Bool) (w : World) (h : Pr w G S) (hL : Laid w) (hb : brB op = false) (hr : retB op rd rs1 = false) (hc : callB op rd = false) : Calls Tryd.prog 25 #[.pointer (some ⟨G.p, 0, none⟩), .int .u32 pc, .agg #[.int .i64 op, .int .i64 rd, .int .i64 rs1, .int .i64 rs2, .int .i64 imm], .bool taken] w fun e w' => e = .returned (.tuple #[]) ∧ Pr w' G S ∧ Turned (· = G.p) w w' := by
  have HL : Hid (∀ o, Laid (w.alloc o)) := fun o => hL.alloc o
  have HLL : Hid (∀ y, Below w.heap.size w y → Laid y) := fun y hy => hL.below hy
  have HP := Hid.in h
  have HB := Hid.in hb
  have c4 : w.cell? ⟨G.p, 4, none⟩ = some (.slice (some ⟨G.gs, 0, none⟩) G.ns G.ns) := h.cells.cell 4 (by decide)
  have c5 : w.cell? ⟨G.p, 5, none⟩ = some (.int .i64 S.top) := h.cells.cell 5 (by decide)
  have h3 := h.cells.here
  have h4 := h.cells.free
  obtain ⟨s1, s2, s3, s4, s5⟩ := h.size
  obtain ⟨l1, l2⟩ := h.low
  have HR := Hid.in hr
  have HC := Hid.in hc
  clear h hL hb hr hc
  go_enter Tryd.func25, Tryd.ntmps25
  go_wp2_with (first
    | (go_at_call 23; refine (isBranch_any op rd rs1 rs2 imm _ (HL.out _)).mono ?_; rintro e w1 ⟨rfl, hb1⟩; rw [HB.out]; obtain ⟨k1, k2, k3, k4⟩ := keepB hb1; have c41 := (k4.cell (p := ⟨G.p, 4, none⟩) h3).trans c4; have c51 := (k4.cell (p := ⟨G.p, 5, none⟩) h3).trans c5; have h31 := Nat.lt_of_lt_of_le h3 k4.size; have h41 : ∀ o, w1.frozen? ⟨G.p, o, none⟩ = false := fun o => (k4.frozen (p := ⟨G.p, o, none⟩) h3).trans (h4 o))
    | (go_at_call 39; refine (isReturn_any op rd rs1 rs2 imm _).mono ?_; rintro e w2 ⟨rfl, hb2⟩; rw [HR.out]; have c42 := (hb2.cell (p := ⟨G.p, 4, none⟩) h31).trans c41; have c52 := (hb2.cell (p := ⟨G.p, 5, none⟩) h31).trans c51; have h32 := Nat.lt_of_lt_of_le h31 hb2.size; have h42 : ∀ o, w2.frozen? ⟨G.p, o, none⟩ = false := fun o => (hb2.frozen (p := ⟨G.p, o, none⟩) h31).trans (h41 o); have k12 := fun i => (hb2.cell (p := ⟨w.heap.size, i, none⟩) k3).trans (k1 i); have k32 := Nat.lt_of_lt_of_le k3 hb2.size)
    | (go_at_call 40; refine (isCall_any op rd rs1 rs2 imm _ (HLL.out _ (below2 k4 hb2))).mono ?_; rintro e w3 ⟨rfl, hb3⟩; rw [HC.out]; have c43 := (hb3.cell (p := ⟨G.p, 4, none⟩) h32).trans c42; have c53 := (hb3.cell (p := ⟨G.p, 5, none⟩) h32).trans c52; have h33 := Nat.lt_of_lt_of_le h32 hb3.size; have h43 : ∀ o, w3.frozen? ⟨G.p, o, none⟩ = false := fun o => (hb3.frozen (p := ⟨G.p, o, none⟩) h32).trans (h42 o)))
  have hb13 := below2 (below2 k4 hb2) hb3
  exact bodyPost_end (results_none Tryd.results25 _ _ _) rfl ⟨rfl, HP.out.below hb13, Turned.of_below hb13⟩
set_option maxHeartbeats 1000000 in
theorem goOn_call (G : PG) (S : PS) (op rd rs1 rs2 imm pc : Int) (taken : Bool) (w : World) (h : Pr w G S) (hL : Laid w) (hpc : 0 ≤ pc ∧ pc < 4294967296) (hb : brB op = false) (hr : retB op rd rs1 = false) (hc : callB op rd = true) : Calls Tryd.prog 25 #[.pointer (some ⟨G.p, 0, none⟩), .int .u32 pc, .agg #[.int .i64 op, .int .i64 rd, .int .i64 rs1, .int .i64 rs2, .int .i64 imm], .bool taken] w fun e w' => e = .returned (.tuple #[]) ∧ Pr w' G { S with top := (S.top + 1) % G.ns, stack := upd S.stack ((S.top + 1) % G.ns) ((pc + 4) % 4294967296) } ∧ Turned (fun k => k = G.p ∨ k = G.gs) w w' := by
  have HL : Hid (∀ o, Laid (w.alloc o)) := fun o => hL.alloc o
  have HLL : Hid (∀ y, Below w.heap.size w y → Laid y) := fun y hy => hL.below hy
  have HP := Hid.in h
  have HB := Hid.in hb
  have c4 : w.cell? ⟨G.p, 4, none⟩ = some (.slice (some ⟨G.gs, 0, none⟩) G.ns G.ns) := h.cells.cell 4 (by decide)
  have c5 : w.cell? ⟨G.p, 5, none⟩ = some (.int .i64 S.top) := h.cells.cell 5 (by decide)
  have h3 := h.cells.here
  have h4 := h.cells.free
  obtain ⟨s1, s2, s3, s4, s5⟩ := h.size
  obtain ⟨l1, l2⟩ := h.low
  have HR := Hid.in hr
  have HC := Hid.in hc
  obtain ⟨t, ht⟩ : ∃ t, t = (S.top + 1) % G.ns := ⟨_, rfl⟩
  have htm : ((S.top : Int) + 1).tmod (G.ns : Int) = (t : Int) := by
    rw [Int.tmod_eq_emod_of_nonneg (by omega), ht]
    have e : (S.top : Int) + 1 = ((S.top + 1 : Nat) : Int) := by omega
    rw [e]
    exact (Int.natCast_emod _ _).symm
  rw [← ht]
  have ht2 : t < G.ns := by rw [ht]; exact Nat.mod_lt _ (by omega)
  have hz : ¬ (G.ns : Int) = 0 := by omega
  have hne : G.p ≠ G.gs := h.ne.2.1
  have cs := h.stk.cell t ht2
  have hsh := h.stk.here
  have hsf := h.stk.free
  obtain ⟨p1, p2⟩ := hpc
  clear h hL hb hr hc ht
  go_enter Tryd.func25, Tryd.ntmps25
  go_wp2_with (first
    | (go_at_call 23; refine (isBranch_any op rd rs1 rs2 imm _ (HL.out _)).mono ?_; rintro e w1 ⟨rfl, hb1⟩; rw [HB.out]; obtain ⟨k1, k2, k3, k4⟩ := keepB hb1; have c41 := (k4.cell (p := ⟨G.p, 4, none⟩) h3).trans c4; have c51 := (k4.cell (p := ⟨G.p, 5, none⟩) h3).trans c5; have h31 := Nat.lt_of_lt_of_le h3 k4.size; have h41 : ∀ o, w1.frozen? ⟨G.p, o, none⟩ = false := fun o => (k4.frozen (p := ⟨G.p, o, none⟩) h3).trans (h4 o))
    | (go_at_call 39; refine (isReturn_any op rd rs1 rs2 imm _).mono ?_; rintro e w2 ⟨rfl, hb2⟩; rw [HR.out]; have c42 := (hb2.cell (p := ⟨G.p, 4, none⟩) h31).trans c41; have c52 := (hb2.cell (p := ⟨G.p, 5, none⟩) h31).trans c51; have h32 := Nat.lt_of_lt_of_le h31 hb2.size; have h42 : ∀ o, w2.frozen? ⟨G.p, o, none⟩ = false := fun o => (hb2.frozen (p := ⟨G.p, o, none⟩) h31).trans (h41 o); have k12 := fun i => (hb2.cell (p := ⟨w.heap.size, i, none⟩) k3).trans (k1 i); have k32 := Nat.lt_of_lt_of_le k3 hb2.size)
    | (go_at_call 40; refine (isCall_any op rd rs1 rs2 imm _ (HLL.out _ (below2 k4 hb2))).mono ?_; rintro e w3 ⟨rfl, hb3⟩; rw [HC.out]; have c43 := (hb3.cell (p := ⟨G.p, 4, none⟩) h32).trans c42; have c53 := (hb3.cell (p := ⟨G.p, 5, none⟩) h32).trans c52; have h33 := Nat.lt_of_lt_of_le h32 hb3.size; have h43 : ∀ o, w3.frozen? ⟨G.p, o, none⟩ = false := fun o => (hb3.frozen (p := ⟨G.p, o, none⟩) h32).trans (h42 o); have hb13 := below2 (below2 k4 hb2) hb3; have cs3 := (hb13.cell (p := ⟨G.gs, t, none⟩) hsh).trans cs; have hsh3 := Nat.lt_of_lt_of_le hsh hb13.size; have hsf3 : ∀ o, w3.frozen? ⟨G.gs, o, none⟩ = false := fun o => (hb13.frozen (p := ⟨G.gs, o, none⟩) hsh).trans (hsf o)))
  go_region
  all_goals (try go_wp2)
  have HP3 := HP.out.below hb13
  refine bodyPost_end (results_none Tryd.results25 _ _ _) rfl ⟨rfl, ?_, ?_⟩
  · obtain ⟨a1, a2, a3, a4, a5, a6, a7, a8⟩ := HP3
    refine ⟨((CD.top a1 t).setOther _ _ hne).drew, ((a2.setOther _ _ (fun e => a5.1 e.symm)).setOther _ _ (fun e => a5.2.2.2.1 e)).drew, ?_, ((a4.setOther _ _ (fun e => a5.2.2.1 e.symm)).setOther _ _ (fun e => a5.2.2.2.2.2 e.symm)).drew, a5, ⟨ht2, a6.2⟩, a7, a8⟩
    refine ((((a3.setOther _ _ (fun e => a5.2.1 e.symm)).set t ht2 _)).to ?_).drew
    funext k
    show upd (fun k => Value.int .u32 (S.stack k)) t _ k = Value.int .u32 (upd S.stack t _ k)
    by_cases e : k = t
    · rw [e, upd_same, upd_same]
    · rw [upd_other _ _ _ _ e, upd_other _ _ _ _ e]
  · exact ((((Turned.of_below (Q := fun k => k = G.p ∨ k = G.gs) hb13).set (b := G.p) (Or.inl rfl) _ _).set (b := G.gs) (Or.inr rfl) _ _)).drew
set_option maxHeartbeats 1000000 in
theorem goOn_br (G : PG) (S : PS) (op rd rs1 rs2 imm pc : Int) (taken : Bool) (w : World) (h : Pr w G S) (hL : Laid w) (hb : brB op = true) : Calls Tryd.prog 25 #[.pointer (some ⟨G.p, 0, none⟩), .int .u32 pc, .agg #[.int .i64 op, .int .i64 rd, .int .i64 rs1, .int .i64 rs2, .int .i64 imm], .bool taken] w fun e w' => e = .returned (.tuple #[]) ∧ Pr w' G { S with hist := (S.hist * 2 + (if taken then 1 else 0)) % (G.mask + 1) } ∧ Turned (· = G.p) w w' := by
  have HL : Hid (∀ o, Laid (w.alloc o)) := fun o => hL.alloc o
  have HP := Hid.in h
  have HB := Hid.in hb
  have c1 : w.cell? ⟨G.p, 1, none⟩ = some (.int .i64 S.hist) := h.cells.cell 1 (by decide)
  have c2 : w.cell? ⟨G.p, 2, none⟩ = some (.int .i64 G.mask) := h.cells.cell 2 (by decide)
  have c4 : w.cell? ⟨G.p, 4, none⟩ = some (.slice (some ⟨G.gs, 0, none⟩) G.ns G.ns) := h.cells.cell 4 (by decide)
  have h3 := h.cells.here
  have h4 := h.cells.free
  obtain ⟨s1, s2, s3, s4, s5, s6⟩ := h.size
  obtain ⟨l1, l2⟩ := h.low
  have hm := h.msk
  obtain ⟨t, ht⟩ : ∃ t, t = (S.hist * 2 + (if taken then 1 else 0)) % (G.mask + 1) := ⟨_, rfl⟩
  rw [← ht]
  have HT : Hid (t ≤ G.mask) := by
    have := Nat.mod_lt (S.hist * 2 + (if taken then 1 else 0)) (show 0 < G.mask + 1 by omega)
    show _ ≤ _
    omega
  have hA : ∀ d : Nat, d ≤ 1 → bits .and .i64 (((S.hist * 2 + d : Nat)) : Int) (G.mask : Int) = (((S.hist * 2 + d) % (G.mask + 1) : Nat) : Int) := by
    intro d hd
    rw [i64_and_nat _ _ (by omega) (by omega), hm]
  cases taken
  · have hA0 : bits .and .i64 ((S.hist : Int) * 2) (G.mask : Int) = (t : Int) := by
      have q := hA 0 (by omega)
      rw [ht]
      simpa using q
    clear h hL hb ht hA hm
    go_enter Tryd.func25, Tryd.ntmps25
    go_wp2_with (go_at_call 23; refine (isBranch_any op rd rs1 rs2 imm _ (HL.out _)).mono ?_; rintro e w1 ⟨rfl, hb1⟩; rw [HB.out]; obtain ⟨k1, k2, k3, k4⟩ := keepB hb1; have c11 := (k4.cell (p := ⟨G.p, 1, none⟩) h3).trans c1; have c21 := (k4.cell (p := ⟨G.p, 2, none⟩) h3).trans c2; have h31 := Nat.lt_of_lt_of_le h3 k4.size; have h41 : ∀ o, w1.frozen? ⟨G.p, o, none⟩ = false := fun o => (k4.frozen (p := ⟨G.p, o, none⟩) h3).trans (h4 o))
    go_region
    all_goals (try go_wp2)
    have HP1 := HP.out.below k4
    refine bodyPost_end (results_none Tryd.results25 _ _ _) rfl ⟨rfl, ?_, ?_⟩
    · obtain ⟨a1, a2, a3, a4, a5, a6, a7, a8⟩ := HP1
      exact ⟨(CD.hist (CD.hist a1 (S.hist * 2)) t).drew, ((a2.setOther _ _ (fun e => a5.1 e.symm)).setOther _ _ (fun e => a5.1 e.symm)).drew, ((a3.setOther _ _ (fun e => a5.2.1 e.symm)).setOther _ _ (fun e => a5.2.1 e.symm)).drew, ((a4.setOther _ _ (fun e => a5.2.2.1 e.symm)).setOther _ _ (fun e => a5.2.2.1 e.symm)).drew, a5, ⟨a6.1, HT.out⟩, a7, a8⟩
    · exact (((Turned.of_below (Q := (· = G.p)) k4).set (b := G.p) rfl _ _).set (b := G.p) rfl _ _).drew
  · have hA1 : bits .and .i64 ((S.hist : Int) * 2 + 1) (G.mask : Int) = (t : Int) := by
      have q := hA 1 (by omega)
      rw [ht]
      simpa using q
    clear h hL hb ht hA hm
    go_enter Tryd.func25, Tryd.ntmps25
    go_wp2_with (go_at_call 23; refine (isBranch_any op rd rs1 rs2 imm _ (HL.out _)).mono ?_; rintro e w1 ⟨rfl, hb1⟩; rw [HB.out]; obtain ⟨k1, k2, k3, k4⟩ := keepB hb1; have c11 := (k4.cell (p := ⟨G.p, 1, none⟩) h3).trans c1; have c21 := (k4.cell (p := ⟨G.p, 2, none⟩) h3).trans c2; have h31 := Nat.lt_of_lt_of_le h3 k4.size; have h41 : ∀ o, w1.frozen? ⟨G.p, o, none⟩ = false := fun o => (k4.frozen (p := ⟨G.p, o, none⟩) h3).trans (h4 o))
    go_region
    all_goals (try go_wp2)
    have HP1 := HP.out.below k4
    refine bodyPost_end (results_none Tryd.results25 _ _ _) rfl ⟨rfl, ?_, ?_⟩
    · obtain ⟨a1, a2, a3, a4, a5, a6, a7, a8⟩ := HP1
      exact ⟨(CD.hist (CD.hist (CD.hist a1 (S.hist * 2)) (S.hist * 2 + 1)) t).drew, (((a2.setOther _ _ (fun e => a5.1 e.symm)).setOther _ _ (fun e => a5.1 e.symm)).setOther _ _ (fun e => a5.1 e.symm)).drew, (((a3.setOther _ _ (fun e => a5.2.1 e.symm)).setOther _ _ (fun e => a5.2.1 e.symm)).setOther _ _ (fun e => a5.2.1 e.symm)).drew, (((a4.setOther _ _ (fun e => a5.2.2.1 e.symm)).setOther _ _ (fun e => a5.2.2.1 e.symm)).setOther _ _ (fun e => a5.2.2.1 e.symm)).drew, a5, ⟨a6.1, HT.out⟩, a7, a8⟩
    · exact ((((Turned.of_below (Q := (· = G.p)) k4).set (b := G.p) rfl _ _).set (b := G.p) rfl _ _).set (b := G.p) rfl _ _).drew
end Go.Proofs.YtaioaakaffafoaaDoor
