/-
  PREDICT: Restore and Learn with any mark; where the numbers do not fit.
-/
import Derived.Test.YtaioaakaffafoaaDoorFn
import Derived.Test.YtaioaakaffafoaaDoorFl
import Derived.Test.YtaioaakaffafoaaDoorFm
import Derived.Test.YtaioaakaffafoaaDoorKc
namespace Go.Proofs.YtaioaakaffafoaaDoor
open Go Go.RowKit
theorem own_nat (G : PG) (mh mt : Int) (h : ownB G mh mt = true) : mh = (mh.toNat : Int) ∧ mt = (mt.toNat : Int) ∧ mh.toNat ≤ G.mask ∧ mt.toNat < G.ns := by
  unfold ownB at h
  simp at h
  omega
def rst (G : PG) (S : PS) (mh mt mv op rd rs1 pc : Int) (taken : Bool) : PS := if ownB G mh mt then goS G { S with hist := mh.toNat, top := mt.toNat, stack := upd S.stack mt.toNat mv } op rd rs1 pc taken else S
theorem prestore_any (G : PG) (S : PS) (mh mt mv op rd rs1 rs2 imm pc : Int) (taken : Bool) (w : World) (h : Pr w G S) (hL : Laid w) (hoff : Off G) (hpc : 0 ≤ pc ∧ pc < 4294967296) : Calls Tryd.prog 14 #[.pointer (some ⟨G.p, 0, none⟩), .agg #[.int .i64 mh, .int .i64 mt, .int .u32 mv], .int .u32 pc, .agg #[.int .i64 op, .int .i64 rd, .int .i64 rs1, .int .i64 rs2, .int .i64 imm], .bool taken] w fun e w' => e = .returned (.tuple #[]) ∧ Pr w' G (rst G S mh mt mv op rd rs1 pc taken) ∧ Turned (fun k => k = G.p ∨ k = G.gs) w w' := by
  unfold rst
  cases ho : ownB G mh mt
  · exact (restore_no G S mh mt mv op rd rs1 rs2 imm pc taken w h ho).mono fun e w' ⟨a1, a2⟩ => ⟨a1, h.below a2, Turned.of_below a2⟩
  · obtain ⟨e1, e2, e3, e4⟩ := own_nat G mh mt ho
    have q := restore_yes G S mh.toNat mt.toNat mv op rd rs1 rs2 imm pc taken w h hL hoff hpc e3 e4
    rw [← e1, ← e2] at q
    exact q
theorem rrestore_any (G : PG) (kd : Int) (bits hb tb : Nat) (S : PS) (mh mt mv what rd rs1 imm pc : Int) (taken : Bool) (w : World) (h : Rp w G kd bits hb tb S) (hw : What what) (hpc : 0 ≤ pc ∧ pc < 4294967296) : Calls Tryd.prog 15 #[.pointer (some ⟨G.p, 0, none⟩), .agg #[.int .i64 mh, .int .i64 mt, .int .u32 mv], .int .u32 pc, .agg #[.int .i64 what, .int .i64 rd, .int .i64 rs1, .int .i64 imm], .bool taken] w fun e w' => e = .returned (.tuple #[]) ∧ Rp w' G kd bits hb tb (rst G S mh mt mv (opW what) rd rs1 pc taken) ∧ Turned (fun k => k = G.p ∨ k = G.gs) w w' := by
  unfold rst
  cases ho : ownB G mh mt
  · exact (rrestore_no G kd bits hb tb S mh mt mv what rd rs1 imm pc taken w h ho).mono fun e w' ⟨a1, a2⟩ => ⟨a1, h.below a2, Turned.of_below a2⟩
  · obtain ⟨e1, e2, e3, e4⟩ := own_nat G mh mt ho
    have q := rrestore_yes G kd bits hb tb S mh.toNat mt.toNat mv what rd rs1 imm pc taken w h hw hpc e3 e4
    rw [← e1, ← e2] at q
    exact q
def lr (kind : Int) (G : PG) (S : PS) (mh mt op rd rs1 pc : Int) (taken : Bool) (tg : Int) : PS := if ownB G mh mt then lrn kind G S mh op rd rs1 pc taken tg else S
def lrR (kind : Int) (G : PG) (S : PS) (mh mt op rd rs1 pc : Int) (taken : Bool) (tg : Int) : PS := if ownB G mh mt then lrnR kind G S mh op rd rs1 pc taken tg else S
theorem plearn_any (kind : Int) (G : PG) (S : PS) (mh mt mv op rd rs1 rs2 imm pc tg : Int) (taken : Bool) (w : World) (hk : DK kind G) (h : Pr w G S) (hL : Laid w) (hf3 : ∀ k, k < G.nc → S.ctr k ≤ 3) (hpc : 0 ≤ pc ∧ pc < 4294967296) : Calls Tryd.prog 16 #[.pointer (some ⟨G.p, 0, none⟩), .agg #[.int .i64 mh, .int .i64 mt, .int .u32 mv], .int .u32 pc, .agg #[.int .i64 op, .int .i64 rd, .int .i64 rs1, .int .i64 rs2, .int .i64 imm], .bool taken, .int .u32 tg] w fun e w' => e = .returned (.tuple #[]) ∧ Pr w' G (lr kind G S mh mt op rd rs1 pc taken tg) ∧ Turned (fun k => k = G.gt ∨ k = G.gc) w w' := by
  unfold lr
  cases ho : ownB G mh mt
  · exact (learn_no G S mh mt mv op rd rs1 rs2 imm pc tg taken w h ho).mono fun e w' ⟨a1, a2⟩ => ⟨a1, h.below a2, Turned.of_below a2⟩
  · obtain ⟨e1, e2, e3, e4⟩ := own_nat G mh mt ho
    have q := learn_any kind G S mh.toNat mt.toNat mv op rd rs1 rs2 imm pc tg taken w hk h hL hf3 hpc e3 e4
    rw [← e1, ← e2] at q
    exact q
theorem rlearn_all (G : PG) (kd : Int) (bits hb tb : Nat) (S : PS) (mh mt mv what rd rs1 imm pc tg : Int) (taken : Bool) (w : World) (h : Rp w G kd bits hb tb S) (hpc : 0 ≤ pc ∧ pc < 4294967296) (hw : What what) : Calls Tryd.prog 17 #[.pointer (some ⟨G.p, 0, none⟩), .agg #[.int .i64 mh, .int .i64 mt, .int .u32 mv], .int .u32 pc, .agg #[.int .i64 what, .int .i64 rd, .int .i64 rs1, .int .i64 imm], .bool taken, .int .u32 tg] w fun e w' => e = .returned (.tuple #[]) ∧ Rp w' G kd bits hb tb (lrR kd G S mh mt (opW what) rd rs1 pc taken tg) ∧ Turned (fun k => k = G.gt ∨ k = G.gc) w w' := by
  unfold lrR
  cases ho : ownB G mh mt
  · exact (rlearn_no G kd bits hb tb S mh mt mv what rd rs1 imm pc tg taken w h ho).mono fun e w' ⟨a1, a2⟩ => ⟨a1, h.below a2, Turned.of_below a2⟩
  · obtain ⟨e1, e2, e3, e4⟩ := own_nat G mh mt ho
    have q := rlearn_any G kd bits hb tb S mh.toNat mt.toNat mv what rd rs1 imm pc tg taken w h hpc hw e3 e4
    rw [← e1, ← e2] at q
    exact q
theorem Same.rst {kind : Int} {G R : PG} {S T : PS} (h : Same kind G R S T) (mh mt mv op rd rs1 pc : Int) (taken : Bool) : Same kind G R (rst G S mh mt mv op rd rs1 pc taken) (rst R T mh mt mv op rd rs1 pc taken) := by
  unfold Go.Proofs.YtaioaakaffafoaaDoor.rst
  rw [h.own]
  cases ownB R mh mt
  · exact h
  · exact (h.back mh.toNat mt.toNat mv).go op rd rs1 pc taken
theorem Same.lr {kind : Int} {G R : PG} {S T : PS} (h : Same kind G R S T) (mh mt op rd rs1 pc : Int) (taken : Bool) (tg : Int) : Same kind G R (lr kind G S mh mt op rd rs1 pc taken tg) (lrR kind R T mh mt op rd rs1 pc taken tg) := by
  unfold Go.Proofs.YtaioaakaffafoaaDoor.lr lrR
  rw [h.own]
  cases ownB R mh mt
  · exact h
  · exact h.lrn mh op rd rs1 pc taken tg
theorem rst_ctr (G : PG) (S : PS) (mh mt mv op rd rs1 pc : Int) (taken : Bool) : (rst G S mh mt mv op rd rs1 pc taken).ctr = S.ctr := by
  unfold rst
  split
  · rw [goS_ctr]
  · rfl
theorem lr_le (kind : Int) (G : PG) (S : PS) (mh mt op rd rs1 pc : Int) (taken : Bool) (tg : Int) (h : ∀ k, k < G.nc → S.ctr k ≤ 3) : ∀ k, k < G.nc → (lr kind G S mh mt op rd rs1 pc taken tg).ctr k ≤ 3 := by
  unfold lr
  split
  · exact lrn_le kind G S mh op rd rs1 pc taken tg h
  · exact h
set_option maxRecDepth 20000 in
set_option maxHeartbeats 2000000 in
theorem guesses_bad (kind bits hist tg ret : Int) (sp : Option Addr) (m1 c1 : Nat) (w : World) (h : gOk kind bits hist tg ret = false) (hg : w.cell? ⟨0, 0, none⟩ = some (.iface 120 (.agg #[.pointer (some ⟨4, 27, none⟩)]))) : Calls Tryd.prog 3 #[.int .i64 kind, .int .i64 bits, .int .i64 hist, .int .i64 tg, .int .i64 ret, .slice sp m1 c1] w fun e w' => e = .returned (.bool true) ∧ Below w.heap.size w w' := by
  have HK := Hid.in h
  have HG : Hid (∀ y, Below w.heap.size w y → y.cell? ⟨0, 0, none⟩ = some (.iface 120 (.agg #[.pointer (some ⟨4, 27, none⟩)]))) := fun y hy => (hy.cell (p := ⟨0, 0, none⟩) (cell_here hg)).trans hg
  have hu : undef = Value.tuple #[] := rfl
  clear h hg
  by_cases hm : (0 : Int) < (m1 : Int)
  all_goals
    go_enter Tryd.func3, Tryd.ntmps3
    go_wp2_with (first
      | (go_at_call 7; refine (guessing_any kind bits hist tg ret _).mono ?_; rintro e w1 ⟨rfl, hb1⟩; obtain ⟨k1, k2, k3, k4⟩ := keepB hb1; clear hb1 k2)
      | (go_at_call 6; refine (new_bad kind bits hist tg ret _ HK.out).mono ?_; rintro e w2 ⟨rfl, hb2⟩; have k12 := fun i => (hb2.cell (p := ⟨w.heap.size, i, none⟩) k3).trans (k1 i); have k32 := Nat.lt_of_lt_of_le k3 hb2.size; have HB2 := Hid.in (k4.trans (hb2.mono k4.size)); clear hb2)
      | (go_at_call 8; refine (rnew_bad kind bits hist tg ret _ HK.out).mono ?_; rintro e w3 ⟨rfl, hb3⟩; have HB3 := Hid.in (HB2.out.trans (hb3.mono HB2.out.size)); clear hb3)
      | (go_at_call 9; refine (told_err 2 _ (HG.out _ HB3.out)).mono ?_; rintro e w4 ⟨rfl, hb4⟩; have HB4 := Hid.in (HB3.out.trans (hb4.mono HB3.out.size)); clear hb4))
    refine wp_loop_rounds 1 ?_
    rw [rounds_succ]
    go_wp2
    go_ret
    exact ⟨rfl, HB4.out⟩
end Go.Proofs.YtaioaakaffafoaaDoor
