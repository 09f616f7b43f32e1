import Derived.Test.YtemamhkhjijdlaaGreatDoorY12
import Derived.Laws.MakeOwn
import Derived.OwnWalk
/-
  PREDICT: marks; the program's predictor goes back.
-/
namespace Go.Proofs.YtemamhkhjijdlaaGreatDoor
open Go Go.RowKit
theorem next_any (G : PG) (S : PS) (op rd rs1 rs2 imm pc : Int) (taken : Bool) (w : World) (h : Pr w G S) (hpc : 0 ≤ pc ∧ pc < 4294967296) : Calls Tryz.prog 223 #[.pointer (some ⟨G.p, 0, none⟩), .int .u32 pc, .agg #[.int .i64 op, .int .i64 rd, .int .i64 rs1, .int .i64 rs2, .int .i64 imm], .bool taken] w fun e w' => e = .returned (.int .u32 (nextV G S op rd rs1 imm pc taken)) ∧ Below w.heap.size w w' := by
  unfold nextV
  cases ht : (taken || op == 3)
  · cases hr : retB op rd rs1
    · cases hf : farB op rd rs1
      · exact next_none G S op rd rs1 rs2 imm pc taken w h ht hr hf
      · exact next_far G S op rd rs1 rs2 imm pc taken w h hpc ht hr hf
    · exact next_ret G S op rd rs1 rs2 imm pc taken w h ht hr
  · exact next_jump G op rd rs1 rs2 imm pc taken w ht
theorem within_is (x a b : Int) (c : Bool) (h : (decide (a ≤ x) && decide (x ≤ b)) = c) (w : World) : Calls Tryz.prog 98 #[.int .i64 x, .int .i64 a, .int .i64 b] w fun e w' => e = .returned (.bool c) ∧ w' = w := by
  subst h; exact within_any x a b w
def ownB (G : PG) (mh mt : Int) : Bool := (decide (0 ≤ mh) && decide (mh ≤ (G.mask : Int))) && (decide (0 ≤ mt) && decide (mt ≤ (G.ns : Int) - 1))
set_option maxHeartbeats 2000000 in
theorem owns_any (G : PG) (S : PS) (mh mt mv : Int) (w : World) (h : Pr w G S) : Calls Tryz.prog 190 #[.pointer (some ⟨G.p, 0, none⟩), .agg #[.int .i64 mh, .int .i64 mt, .int .u32 mv]] w fun e w' => e = .returned (.bool (ownB G mh mt)) ∧ Below w.heap.size w w' := by
  have c2 : w.cell? ⟨G.p, 2, none⟩ = some (.int .i64 G.mask) := h.cells.cell 2 (by decide)
  have c4 : w.cell? ⟨G.p, 4, none⟩ = some (.slice (some ⟨G.gs, 0, none⟩) G.ns G.ns) := h.cells.cell 4 (by decide)
  have h3 := h.cells.here
  obtain ⟨s1, s2, s3, s4, s5⟩ := h.size
  unfold ownB
  generalize ha : (decide (0 ≤ mh) && decide (mh ≤ (G.mask : Int))) = a
  generalize hb : (decide (0 ≤ mt) && decide (mt ≤ (G.ns : Int) - 1)) = b
  have HA := Hid.in ha
  have HB := Hid.in hb
  clear h ha hb
  cases a
  · have hu : undef = Value.tuple #[] := rfl
    go_enter Tryz.func190, Tryz.ntmps190
    go_wp2
    go_quiet (first | (go_at_call 98; with_reducible exact Calls.quiet_of_same (within_is mh 0 _ _ HA.out _)) | (go_at_call 98; with_reducible exact Calls.quiet_of_same (within_is mt 0 _ _ HB.out _)))
    go_wp2
    go_ret
    exact ⟨rfl, below_drewN ((Below.refl _ _).alloc (Nat.le_refl _) _) _⟩
  · cases b
    all_goals
      go_enter Tryz.func190, Tryz.ntmps190
      go_wp2
      go_quiet (first | (go_at_call 98; with_reducible exact Calls.quiet_of_same (within_is mh 0 _ _ HA.out _)) | (go_at_call 98; with_reducible exact Calls.quiet_of_same (within_is mt 0 _ _ HB.out _)))
      go_wp2
      go_ret
      exact ⟨rfl, below_drewN ((Below.refl _ _).alloc (Nat.le_refl _) _) _⟩
end Go.Proofs.YtemamhkhjijdlaaGreatDoor
/-
  PREDICT: the program's predictor goes back.
-/
namespace Go.Proofs.YtemamhkhjijdlaaGreatDoor
open Go Go.RowKit
theorem Pr.drew {w : World} {G : PG} {S : PS} (h : Pr w G S) : Pr w.drew G S := h.below (Below.refl _ _).drew
theorem Pr.setHist {w : World} {G : PG} {S : PS} (h : Pr w G S) (hh : Nat) (h1 : hh ≤ G.mask) : Pr (w.setCell ⟨G.p, 1, none⟩ (.int .i64 hh)) G { S with hist := hh } := by
  obtain ⟨a1, a2, a3, a4, a5, a6, a7, a8⟩ := h
  exact ⟨CD.hist a1 hh, a2.setOther _ _ (fun e => a5.1 e.symm), a3.setOther _ _ (fun e => a5.2.1 e.symm), a4.setOther _ _ (fun e => a5.2.2.1 e.symm), a5, ⟨a6.1, h1⟩, a7, a8⟩
theorem Pr.setTop {w : World} {G : PG} {S : PS} (h : Pr w G S) (t : Nat) (h1 : t < G.ns) : Pr (w.setCell ⟨G.p, 5, none⟩ (.int .i64 t)) G { S with top := t } := by
  obtain ⟨a1, a2, a3, a4, a5, a6, a7, a8⟩ := h
  exact ⟨CD.top a1 t, a2.setOther _ _ (fun e => a5.1 e.symm), a3.setOther _ _ (fun e => a5.2.1 e.symm), a4.setOther _ _ (fun e => a5.2.2.1 e.symm), a5, ⟨h1, a6.2⟩, a7, a8⟩
theorem Pr.setStk {w : World} {G : PG} {S : PS} (h : Pr w G S) (t : Nat) (h2 : t < G.ns) (v : Int) : Pr (w.setCell ⟨G.gs, t, none⟩ (.int .u32 v)) G { S with stack := upd S.stack t v } := by
  obtain ⟨a1, a2, a3, a4, a5, a6, a7, a8⟩ := h
  refine ⟨a1.setOther _ _ a5.2.1, a2.setOther _ _ a5.2.2.2.1, ?_, a4.setOther _ _ (fun e => a5.2.2.2.2.2 e.symm), a5, a6, a7, a8⟩
  refine (a3.set t h2 _).to ?_
  funext k
  show upd (fun k => Value.int .u32 (S.stack k)) t _ k = Value.int .u32 (upd S.stack t _ k)
  by_cases e : k = t
  · rw [e, upd_same, upd_same]
  · rw [upd_other _ _ _ _ e, upd_other _ _ _ _ e]
def Off (G : PG) : Prop := ∀ k, k = 1 ∨ k = 2 ∨ k = 3 → k ≠ G.p ∧ k ≠ G.gt ∧ k ≠ G.gs ∧ k ≠ G.gc
theorem Laid.turned {Q : Nat → Prop} {w w' : World} (h : Laid w) (t : Turned Q w w') (q : ∀ k, k = 1 ∨ k = 2 ∨ k = 3 → ¬ Q k) : Laid w' := by
  have c : ∀ b o v, (b = 1 ∨ b = 2 ∨ b = 3) → w.cell? ⟨b, o, none⟩ = some v → w'.cell? ⟨b, o, none⟩ = some v := fun b o v hb hv => t.to_cell (cell_here hv) (q b hb) hv
  have B := fun o v => c 1 o v (Or.inl rfl)
  have O := fun o v => c 2 o v (Or.inr (Or.inl rfl))
  have L := fun o v => c 3 o v (Or.inr (Or.inr rfl))
  exact ⟨fun k hk => B _ _ (h.b0 k hk), fun k hk => B _ _ (h.b1 k hk), fun k hk => B _ _ (h.b2 k hk), fun k hk => B _ _ (h.b3 k hk),
    fun k hk => O _ _ (h.o0 k hk), fun k hk => O _ _ (h.o1 k hk), fun k hk => O _ _ (h.o2 k hk), fun k hk => O _ _ (h.o3 k hk),
    fun k hk => L _ _ (h.l0 k hk), fun k hk => L _ _ (h.l1 k hk), fun k hk => L _ _ (h.l2 k hk), fun k hk => L _ _ (h.l3 k hk), fun k hk => L _ _ (h.l4 k hk),
    fun k hk => L _ _ (h.l5 k hk), fun k hk => L _ _ (h.l6 k hk), fun k hk => L _ _ (h.l7 k hk), fun k hk => L _ _ (h.l8 k hk), Nat.lt_of_lt_of_le h.zb t.size, Nat.lt_of_lt_of_le h.zo t.size, Nat.lt_of_lt_of_le h.zl t.size⟩
theorem keepB2 {w w2 : World} {c d : Array Value} {t u : TypeId} (hb : Below ((w.alloc (.cells c t)).alloc (.cells d u)).heap.size ((w.alloc (.cells c t)).alloc (.cells d u)) w2) :
    (∀ i, w2.cell? ⟨w.heap.size, i, none⟩ = c[i]?) ∧ (∀ i, w2.cell? ⟨w.heap.size + 1, i, none⟩ = d[i]?) ∧ w.heap.size + 1 < w2.heap.size ∧ Below w.heap.size w w2 := by
  have hs := hb.size
  simp only [World.size_alloc] at hs
  obtain ⟨k1, k2, k3, k4⟩ := keepB hb
  simp only [World.size_alloc] at k1 k3
  refine ⟨fun i => ?_, k1, k3, ((Below.refl _ _).alloc (Nat.le_refl _) _).trans (k4.mono (by simp))⟩
  rw [k4.cell (p := ⟨w.heap.size, i, none⟩) (by simp)]
  exact World.cell?_alloc_new w c t i
set_option maxHeartbeats 4000000 in
theorem restore_yes (G : PG) (S : PS) (hh t : Nat) (mv op rd rs1 rs2 imm pc : Int) (taken : Bool) (w : World) (h : Pr w G S) (hL : Laid w) (hoff : Off G) (hpc : 0 ≤ pc ∧ pc < 4294967296) (h1 : hh ≤ G.mask) (h2 : t < G.ns) : Calls Tryz.prog 130 #[.pointer (some ⟨G.p, 0, none⟩), .agg #[.int .i64 hh, .int .i64 t, .int .u32 mv], .int .u32 pc, .agg #[.int .i64 op, .int .i64 rd, .int .i64 rs1, .int .i64 rs2, .int .i64 imm], .bool taken] w fun e w' => e = .returned (.tuple #[]) ∧ Pr w' G (goS G { S with hist := hh, top := t, stack := upd S.stack t mv } op rd rs1 pc taken) ∧ Turned (fun k => k = G.p ∨ k = G.gs) w w' := by
  have HO : Hid (ownB G hh t = true) := by unfold ownB; show _ = _; simp; omega
  have HP : Hid (∀ y, Below w.heap.size w y → Pr y G S) := fun y hy => h.below hy
  have HLL : Hid (∀ y, Turned (fun k => k = G.p ∨ k = G.gs) w y → Laid y) := fun y hy => hL.turned hy (fun k hk hq => by have := hoff k hk; omega)
  have HPC := Hid.in hpc
  have hne : G.p ≠ G.gs := h.ne.2.1
  have hne2 : G.gs ≠ G.p := fun e => hne e.symm
  have hp9 := h.cells.here
  have hs9 := h.stk.here
  clear h hL hpc
  go_enter Tryz.func130, Tryz.ntmps130
  go_wp2_with (go_at_call 190; go_loud (refine (owns_any G S hh t mv _ (HP.out _ (((Below.refl _ _).alloc (Nat.le_refl _) _).alloc (by simp) _))).mono ?_; rintro e w1 ⟨rfl, hb1⟩; rw [HO.out]; obtain ⟨k1, k2, k3, k4⟩ := keepB2 hb1; have hP1 := HP.out _ k4; have c1 : w1.cell? ⟨G.p, 1, none⟩ = some (.int .i64 S.hist) := hP1.cells.cell 1 (by decide); have c4 : w1.cell? ⟨G.p, 4, none⟩ = some (.slice (some ⟨G.gs, 0, none⟩) G.ns G.ns) := hP1.cells.cell 4 (by decide); have c5 : w1.cell? ⟨G.p, 5, none⟩ = some (.int .i64 S.top) := hP1.cells.cell 5 (by decide); have h3 := hP1.cells.here; have h4 := hP1.cells.free; have cs := hP1.stk.cell t h2; have hsh := hP1.stk.here; have hsf := hP1.stk.free; have n1 : ¬ G.p = w.heap.size := (by omega); have n2 : ¬ G.gs = w.heap.size := (by omega); have n3 : ¬ G.p = w.heap.size + 1 := (by omega); have n4 : ¬ G.gs = w.heap.size + 1 := (by omega); have HP1 := Hid.in hP1; have HK := Hid.in k4; clear hb1 hP1 k4))
  go_region
  all_goals (try go_wp2)
  go_region
  go_wp2_with (go_at_call 191; go_loud (have hP2 := (((HP1.out.setHist hh h1).setTop t h2).setStk t h2 mv).drew.drew; have hT2 := ((((Turned.of_below (Q := fun k => k = G.p ∨ k = G.gs) HK.out).set (b := G.p) (Or.inl rfl) 1 (.int .i64 hh)).set (b := G.p) (Or.inl rfl) 5 (.int .i64 t)).set (b := G.gs) (Or.inr rfl) t (.int .u32 mv)).drew.drew; refine (goOn_any G _ op rd rs1 rs2 imm pc taken _ hP2 (HLL.out _ hT2) HPC.out).mono ?_; rintro e w3 ⟨rfl, hp3, ht3⟩))
  exact bodyPost_end (results_none Tryz.results130 _ _ _) rfl ⟨rfl, hp3, hT2.trans ht3⟩
end Go.Proofs.YtemamhkhjijdlaaGreatDoor
/-
  PREDICT: counters that say whether a branch is likely.
-/
namespace Go.Proofs.YtemamhkhjijdlaaGreatDoor
open Go Go.RowKit
/-- counters in memory -/
structure Ct (w : World) (gc nc : Nat) (f : Nat → Nat) : Prop where
  cells : CellsAt nc w gc (fun k => .int .u8 (f k))
  one : 1 ≤ nc
  most : nc ≤ 1024
theorem Ct.below {w w' : World} {gc nc : Nat} {f : Nat → Nat} (h : Ct w gc nc f) (c : Below w.heap.size w w') : Ct w' gc nc f := ⟨(Turned.of_below (Q := fun _ => False) c).cells h.cells (fun q => q), h.one, h.most⟩
def cnt (f : Nat → Nat) (k : Nat) (taken : Bool) : Nat → Nat := if taken then (if f k < 3 then upd f k (f k + 1) else f) else (if 0 < f k then upd f k (f k - 1) else f)
theorem Ct.set {w : World} {gc nc : Nat} {f : Nat → Nat} (h : Ct w gc nc f) (k : Nat) (hk : k < nc) (v : Nat) : Ct (w.setCell ⟨gc, k, none⟩ (.int .u8 v)) gc nc (upd f k v) := by
  refine ⟨(h.cells.set k hk _).to ?_, h.one, h.most⟩
  funext j
  show upd (fun k => Value.int .u8 (f k)) k _ j = Value.int .u8 ((upd f k v j : Nat) : Int)
  by_cases e : j = k
  · rw [e, upd_same, upd_same]
  · rw [upd_other _ _ _ _ e, upd_other _ _ _ _ e]
end Go.Proofs.YtemamhkhjijdlaaGreatDoor
/-
  PREDICT: the four ways to guess a branch.
-/
namespace Go.Proofs.YtemamhkhjijdlaaGreatDoor
open Go Go.RowKit
end Go.Proofs.YtemamhkhjijdlaaGreatDoor
/-
  PREDICT: counters by place and history.
-/
namespace Go.Proofs.YtemamhkhjijdlaaGreatDoor
open Go Go.RowKit
end Go.Proofs.YtemamhkhjijdlaaGreatDoor
/-
  PREDICT: Learn of a jump; of anything else.
-/
namespace Go.Proofs.YtemamhkhjijdlaaGreatDoor
open Go Go.RowKit
end Go.Proofs.YtemamhkhjijdlaaGreatDoor
/-
  PREDICT: how counters are made.
-/
namespace Go.Proofs.YtemamhkhjijdlaaGreatDoor
open Go Go.RowKit
theorem make_run_prd {P : Program} (t e : TypeId) (z : Value) (bytes : Nat) (ht : P.underlying t = some (.slice e)) (hi : (P.info? e).map (fun i => (i.zero, i.size, i.bytes)) = some (some z, 1, bytes)) (hz : z.cells = #[z]) (n : Nat) (hb : (bytes : Int) * n ≤ 281474976710656) (hn : n ≤ 9223372036854775807) : ∀ u : World, (Instr.makeSlice t (.int .i64 n) (.int .i64 n)).run P u = .ok (.slice (some ⟨u.heap.size, 0, none⟩) n n) (u.alloc (.cells (madeCells #[z] n) e)) := fun u => by
  obtain ⟨i, h1, h2, h3, h4⟩ := info_parts hi
  have q := run_make (P := P) u t e i z ht h1 h2 .i64 .i64 n n (by omega) (Int.le_refl _) (by rw [h4]; exact hb) (by omega)
  simpa [h3, hz] using q
theorem made_cell_prd (z : Value) (n i : Nat) (h : i < n) : (madeCells #[z] n)[i]? = some z := by
  simp [madeCells, h, Nat.mod_one]
theorem shl_is (k : Nat) (h : k ≤ 10) (m : Nat) (hm : m = 2 ^ k) : wrap64 ((2 : Int) ^ min k 64) = (m : Int) := by
  subst hm
  rw [Nat.min_eq_left (by omega)]
  have : k = 0 ∨ k = 1 ∨ k = 2 ∨ k = 3 ∨ k = 4 ∨ k = 5 ∨ k = 6 ∨ k = 7 ∨ k = 8 ∨ k = 9 ∨ k = 10 := by omega
  rcases this with rfl | rfl | rfl | rfl | rfl | rfl | rfl | rfl | rfl | rfl | rfl <;> decide +kernel
theorem pow_le10 (k : Nat) (h : k ≤ 10) : 1 ≤ 2 ^ k ∧ 2 ^ k ≤ 1024 := ⟨Nat.one_le_two_pow, Nat.pow_le_pow_right (n := 2) (by omega) h⟩
set_option maxRecDepth 20000 in
set_option maxHeartbeats 400000 in
theorem newCounted_any (bits nc : Nat) (hnc : nc = 2 ^ bits) (w : World) (h2 : bits ≤ 10) : Calls Tryz.prog 99 #[.int .i64 bits] w fun e w' => e = .returned (.agg #[.slice (some ⟨w.heap.size + 1, 0, none⟩) nc nc]) ∧ CellsAt nc w' (w.heap.size + 1) (fun _ => .int .u8 1) ∧ Below w.heap.size w w' := by
  have hsh := shl_is bits h2 nc hnc
  obtain ⟨b1, b2⟩ : 1 ≤ nc ∧ nc ≤ 1024 := hnc ▸ pow_le10 bits h2
  have hmk := make_run_prd (P := Tryz.prog) 36 5 (.int .u8 0) 1 Tryz.underlying36 (by kernel_rfl) rfl nc (by omega) (by omega)
  clear hnc h2
  go_enter Tryz.func99, Tryz.ntmps99
  go_wp2
  obtain ⟨w0, hw0⟩ : ∃ x, x = (((w.alloc (.cells #[.slice none 0 0] 248)).alloc (.cells (madeCells #[.int .u8 0] nc) 5)).alloc (.cells #[.slice (some ⟨w.heap.size + 1, 0, none⟩) nc nc] 248)) := ⟨_, rfl⟩
  rw [← hw0]
  obtain ⟨A1, A2, A3, A4⟩ : Hid (CellsAt nc w0 (w.heap.size + 1) (fun _ => .int .u8 0)) ∧ Hid (CellsAt 1 w0 (w.heap.size + 1 + 1) (fun _ => .slice (some ⟨w.heap.size + 1, 0, none⟩) nc nc)) ∧ Hid (CellsAt 1 w0 w.heap.size (fun _ => .slice none 0 0)) ∧ Hid (Below w.heap.size w w0) := by
    subst hw0
    refine ⟨?_, ?_, ?_, (((Below.refl _ _).alloc (Nat.le_refl _) _).alloc (by simp) _).alloc (by simp; omega) _⟩
    · have q := cells_new (t := 5) (w.alloc (.cells #[.slice none 0 0] 248)) (made_cell_prd (.int .u8 0) nc)
      rw [World.size_alloc] at q
      exact q.alloc _
    · have q := cells_new (n := 1) (g := fun _ => .slice (some ⟨w.heap.size + 1, 0, none⟩) nc nc) (t := 248) (c := #[.slice (some ⟨w.heap.size + 1, 0, none⟩) nc nc]) ((w.alloc (.cells #[.slice none 0 0] 248)).alloc (.cells (madeCells #[.int .u8 0] nc) 5)) (fun i hi => by
        have : i = 0 := by omega
        subst this; rfl)
      rw [World.size_alloc, World.size_alloc] at q
      exact q
    · exact ((cells_new (n := 1) (g := fun _ => .slice none 0 0) (t := 248) (c := #[.slice none 0 0]) w (fun i hi => by
        have : i = 0 := by omega
        subst this; rfl)).alloc _).alloc _
  obtain ⟨g, hg⟩ : ∃ g, g = w.heap.size + 1 := ⟨_, rfl⟩
  obtain ⟨c, hc⟩ : ∃ c, c = w.heap.size + 1 + 1 := ⟨_, rfl⟩
  obtain ⟨r, hr⟩ : ∃ r, r = w.heap.size := ⟨_, rfl⟩
  have n1 : ¬ c = g := by omega
  have n2 : ¬ g = c := by omega
  have n3 : ¬ r = g := by omega
  have n4 : ¬ r = c := by omega
  have HG : Hid (w.heap.size ≤ g ∧ w.heap.size ≤ r) := by show _ ∧ _; omega
  have HWS : Hid (w.heap.size ≤ w0.heap.size) := A4.out.size
  rw [← hc, ← hg] at A2
  rw [← hc, ← hg, ← hr]
  rw [← hg] at A1
  rw [← hr] at A3
  have HGG := Hid.in hg
  clear hg hc hr hw0 hmk hsh
  go_loopw [12] (fun v wr => ∃ k : Nat, v = .int .i64 k ∧ k ≤ nc ∧ CellsAt nc wr g (fun o => .int .u8 (if o < k then 1 else 0)) ∧ Turned (· = g) w0 wr) (fun v _ => nc + 1 - (intOf v).toNat)
  case atStart => exact ⟨0, rfl, by omega, A1.out.ext (fun o ho => by simp), Turned.refl _ _⟩
  case round =>
    obtain ⟨k, rfl, hk, hcl, ht⟩ := hrel
    have hC := ht.cells A2.out (by show ¬ c = g; exact n1)
    have hR := ht.cells A3.out (by show ¬ r = g; exact n3)
    have c0 : wr.cell? ⟨c, 0, none⟩ = some (.slice (some ⟨g, 0, none⟩) nc nc) := hC.cell 0 (by decide)
    have c9 := hC.here
    have r0 : wr.cell? ⟨r, 0, none⟩ = some (.slice none 0 0) := hR.cell 0 (by decide)
    have r9 := hR.here
    have rf := hR.free
    have g9 := hcl.here
    have gf := hcl.free
    have HC := Hid.in hcl
    have HT := Hid.in ht
    by_cases hk2 : k < nc
    · have ck : wr.cell? ⟨g, k, none⟩ = some (.int .u8 0) := by
        rw [hcl.cell k hk2, if_neg (by omega)]
      clear hcl ht hC hR
      go_wp2
      go_roundw
      case rel =>
        refine ⟨k + 1, by go_num, by omega, ?_, HT.out.set rfl _ _⟩
        refine (HC.out.set k hk2 _).ext fun o ho => ?_
        show (if o = k then _ else _) = _
        by_cases q : o = k
        · subst q; simp
        · by_cases q2 : o < k
          · rw [if_neg q]; show Value.int _ (if o < k then _ else _) = _; rw [if_pos q2, if_pos (by omega)]
          · rw [if_neg q]; show Value.int _ (if o < k then _ else _) = _; rw [if_neg q2, if_neg (by omega)]
      case measure => simp [intOf]; omega
    · have hk3 : k = nc := by omega
      have HK3 := Hid.in hk3
      clear hcl ht hC hR hk3
      go_wp2
      refine bodyPost_ret (v := .agg #[.slice (some ⟨g, 0, none⟩) nc nc]) (by simp [results, Tryz.results99, go_sem, *]) rfl ⟨by rw [HGG.out], ?_, ?_⟩
      · have q : CellsAt nc wr g (fun _ => .int .u8 1) := HC.out.ext fun o ho => by
          rw [if_pos (by have := HK3.out; omega)]
        rw [← HGG.out]
        exact q.setOther _ _ (fun e => n3 e.symm)
      · exact (A4.out.trans (HT.out.below (B := w.heap.size) HWS.out (by rintro k rfl; exact HG.out.1))).setCell (p := ⟨r, 0, none⟩) HG.out.2 _
end Go.Proofs.YtemamhkhjijdlaaGreatDoor
/-
  PREDICT: whether numbers are a predictor's; its directions.
-/
namespace Go.Proofs.YtemamhkhjijdlaaGreatDoor
open Go Go.RowKit
def gOk (kind bits hist tg ret : Int) : Bool := (((((decide (0 ≤ kind) && decide (kind ≤ 3)) && (decide (1 ≤ bits) && decide (bits ≤ 10))) && (decide (0 ≤ hist) && decide (hist ≤ bits))) && (decide (0 ≤ tg) && decide (tg ≤ 8))) && (decide (1 ≤ ret) && decide (ret ≤ 16)))
set_option maxHeartbeats 2000000 in
theorem isGuessing_any (kind bits hist tg ret : Int) (w : World) : Calls Tryz.prog 59 #[.agg #[.int .i64 kind, .int .i64 bits, .int .i64 hist, .int .i64 tg, .int .i64 ret]] w fun e w' => e = .returned (.bool (gOk kind bits hist tg ret)) ∧ Below w.heap.size w w' := by
  unfold gOk
  generalize h0 : (decide (0 ≤ kind) && decide (kind ≤ 3)) = c0
  generalize h1 : (decide (1 ≤ bits) && decide (bits ≤ 10)) = c1
  generalize h2 : (decide (0 ≤ hist) && decide (hist ≤ bits)) = c2
  generalize h3 : (decide (0 ≤ tg) && decide (tg ≤ 8)) = c3
  generalize h4 : (decide (1 ≤ ret) && decide (ret ≤ 16)) = c4
  have H0 := Hid.in h0
  have H1 := Hid.in h1
  have H2 := Hid.in h2
  have H3 := Hid.in h3
  have H4 := Hid.in h4
  clear h0 h1 h2 h3 h4
  have hu : undef = Value.tuple #[] := rfl
  cases c0
  ·
    go_enter Tryz.func59, Tryz.ntmps59
    go_wp2_with (first
        | (go_at_call 98; with_reducible refine (within_is kind 0 _ _ H0.out _).mono ?_; rintro e w1 ⟨rfl, rfl⟩)
        | (go_at_call 98; with_reducible refine (within_is bits 1 _ _ H1.out _).mono ?_; rintro e w1 ⟨rfl, rfl⟩)
        | (go_at_call 98; with_reducible refine (within_is hist 0 _ _ H2.out _).mono ?_; rintro e w1 ⟨rfl, rfl⟩)
        | (go_at_call 98; with_reducible refine (within_is tg 0 _ _ H3.out _).mono ?_; rintro e w1 ⟨rfl, rfl⟩)
        | (go_at_call 98; with_reducible refine (within_is ret 1 _ _ H4.out _).mono ?_; rintro e w1 ⟨rfl, rfl⟩))
    go_ret
    exact ⟨by simp, (Below.refl _ _).alloc (Nat.le_refl _) _⟩
  ·
    cases c1
    ·
      go_enter Tryz.func59, Tryz.ntmps59
      go_wp2_with (first
          | (go_at_call 98; with_reducible refine (within_is kind 0 _ _ H0.out _).mono ?_; rintro e w1 ⟨rfl, rfl⟩)
          | (go_at_call 98; with_reducible refine (within_is bits 1 _ _ H1.out _).mono ?_; rintro e w1 ⟨rfl, rfl⟩)
          | (go_at_call 98; with_reducible refine (within_is hist 0 _ _ H2.out _).mono ?_; rintro e w1 ⟨rfl, rfl⟩)
          | (go_at_call 98; with_reducible refine (within_is tg 0 _ _ H3.out _).mono ?_; rintro e w1 ⟨rfl, rfl⟩)
          | (go_at_call 98; with_reducible refine (within_is ret 1 _ _ H4.out _).mono ?_; rintro e w1 ⟨rfl, rfl⟩))
      go_ret
      exact ⟨by simp, (Below.refl _ _).alloc (Nat.le_refl _) _⟩
    ·
      cases c2
      ·
        go_enter Tryz.func59, Tryz.ntmps59
        go_wp2_with (first
            | (go_at_call 98; with_reducible refine (within_is kind 0 _ _ H0.out _).mono ?_; rintro e w1 ⟨rfl, rfl⟩)
            | (go_at_call 98; with_reducible refine (within_is bits 1 _ _ H1.out _).mono ?_; rintro e w1 ⟨rfl, rfl⟩)
            | (go_at_call 98; with_reducible refine (within_is hist 0 _ _ H2.out _).mono ?_; rintro e w1 ⟨rfl, rfl⟩)
            | (go_at_call 98; with_reducible refine (within_is tg 0 _ _ H3.out _).mono ?_; rintro e w1 ⟨rfl, rfl⟩)
            | (go_at_call 98; with_reducible refine (within_is ret 1 _ _ H4.out _).mono ?_; rintro e w1 ⟨rfl, rfl⟩))
        go_ret
        exact ⟨by simp, (Below.refl _ _).alloc (Nat.le_refl _) _⟩
      ·
        cases c3
        ·
          go_enter Tryz.func59, Tryz.ntmps59
          go_wp2_with (first
              | (go_at_call 98; with_reducible refine (within_is kind 0 _ _ H0.out _).mono ?_; rintro e w1 ⟨rfl, rfl⟩)
              | (go_at_call 98; with_reducible refine (within_is bits 1 _ _ H1.out _).mono ?_; rintro e w1 ⟨rfl, rfl⟩)
              | (go_at_call 98; with_reducible refine (within_is hist 0 _ _ H2.out _).mono ?_; rintro e w1 ⟨rfl, rfl⟩)
              | (go_at_call 98; with_reducible refine (within_is tg 0 _ _ H3.out _).mono ?_; rintro e w1 ⟨rfl, rfl⟩)
              | (go_at_call 98; with_reducible refine (within_is ret 1 _ _ H4.out _).mono ?_; rintro e w1 ⟨rfl, rfl⟩))
          go_ret
          exact ⟨by simp, (Below.refl _ _).alloc (Nat.le_refl _) _⟩
        ·
          cases c4
          ·
            go_enter Tryz.func59, Tryz.ntmps59
            go_wp2_with (first
                | (go_at_call 98; with_reducible refine (within_is kind 0 _ _ H0.out _).mono ?_; rintro e w1 ⟨rfl, rfl⟩)
                | (go_at_call 98; with_reducible refine (within_is bits 1 _ _ H1.out _).mono ?_; rintro e w1 ⟨rfl, rfl⟩)
                | (go_at_call 98; with_reducible refine (within_is hist 0 _ _ H2.out _).mono ?_; rintro e w1 ⟨rfl, rfl⟩)
                | (go_at_call 98; with_reducible refine (within_is tg 0 _ _ H3.out _).mono ?_; rintro e w1 ⟨rfl, rfl⟩)
                | (go_at_call 98; with_reducible refine (within_is ret 1 _ _ H4.out _).mono ?_; rintro e w1 ⟨rfl, rfl⟩))
            go_ret
            exact ⟨by simp, (Below.refl _ _).alloc (Nat.le_refl _) _⟩
          ·
            go_enter Tryz.func59, Tryz.ntmps59
            go_wp2_with (first
                | (go_at_call 98; with_reducible refine (within_is kind 0 _ _ H0.out _).mono ?_; rintro e w1 ⟨rfl, rfl⟩)
                | (go_at_call 98; with_reducible refine (within_is bits 1 _ _ H1.out _).mono ?_; rintro e w1 ⟨rfl, rfl⟩)
                | (go_at_call 98; with_reducible refine (within_is hist 0 _ _ H2.out _).mono ?_; rintro e w1 ⟨rfl, rfl⟩)
                | (go_at_call 98; with_reducible refine (within_is tg 0 _ _ H3.out _).mono ?_; rintro e w1 ⟨rfl, rfl⟩)
                | (go_at_call 98; with_reducible refine (within_is ret 1 _ _ H4.out _).mono ?_; rintro e w1 ⟨rfl, rfl⟩))
            go_ret
            exact ⟨by simp, (Below.refl _ _).alloc (Nat.le_refl _) _⟩
def dTy (kind : Int) : TypeId := if kind = 1 then 246 else if kind = 2 then 248 else if kind = 3 then 251 else 252
def dVal (kind : Int) (gc nc : Nat) : Value := if kind = 2 ∨ kind = 3 then .agg #[.slice (some ⟨gc, 0, none⟩) nc nc] else .agg #[]
set_option maxHeartbeats 1000000 in
theorem directionOf_any (kind hist tg ret : Int) (bits : Nat) (w : World) (hk : 0 ≤ kind ∧ kind ≤ 3) (h2 : bits ≤ 10) : Calls Tryz.prog 60 #[.agg #[.int .i64 kind, .int .i64 bits, .int .i64 hist, .int .i64 tg, .int .i64 ret]] w fun e w' => ∃ gc nc, e = .returned (.iface (dTy kind) (dVal kind gc nc)) ∧ CellsAt nc w' gc (fun _ => .int .u8 1) ∧ w.heap.size ≤ gc ∧ nc ≤ 1024 ∧ (2 ≤ kind → nc = 2 ^ bits) ∧ Below w.heap.size w w' := by
  have c9 : CellsAt 0 (w.alloc (.cells #[.int .i64 kind, .int .i64 bits, .int .i64 hist, .int .i64 tg, .int .i64 ret] 25)) w.heap.size (fun _ => .int .u8 1) := cells_new w (fun i hi => by omega)
  have b9 : Below w.heap.size w (w.alloc (.cells #[.int .i64 kind, .int .i64 bits, .int .i64 hist, .int .i64 tg, .int .i64 ret] 25)) := (Below.refl _ _).alloc (Nat.le_refl _) _
  have C9 := Hid.in c9
  have B9 := Hid.in b9
  clear c9 b9
  by_cases k1 : kind = 1
  · subst k1
    go_enter Tryz.func60, Tryz.ntmps60
    go_wp2
    go_ret
    exact ⟨w.heap.size, 0, rfl, C9.out, Nat.le_refl _, by omega, fun h => by omega, B9.out⟩
  by_cases k2 : kind = 2
  · subst k2
    go_enter Tryz.func60, Tryz.ntmps60
    go_wp2_with (go_at_call 99; refine (newCounted_any bits _ rfl _ h2).mono ?_; rintro e w2 ⟨rfl, hc2, hb2⟩)
    go_ret
    rw [World.size_alloc] at hc2
    exact ⟨_, _, rfl, hc2, by omega, (pow_le10 bits h2).2, fun _ => rfl, B9.out.trans (hb2.mono (by simp))⟩
  by_cases k3 : kind = 3
  · subst k3
    go_enter Tryz.func60, Tryz.ntmps60
    go_wp2_with (go_at_call 99; refine (newCounted_any bits _ rfl _ h2).mono ?_; rintro e w2 ⟨rfl, hc2, hb2⟩)
    go_ret
    rw [World.size_alloc] at hc2
    exact ⟨_, _, rfl, hc2, by omega, (pow_le10 bits h2).2, fun _ => rfl, B9.out.trans (hb2.mono (by simp))⟩
  · have k0 : kind = 0 := by omega
    subst k0
    go_enter Tryz.func60, Tryz.ntmps60
    go_wp2
    go_ret
    exact ⟨w.heap.size, 0, rfl, C9.out, Nat.le_refl _, by omega, fun h => by omega, B9.out⟩
end Go.Proofs.YtemamhkhjijdlaaGreatDoor
