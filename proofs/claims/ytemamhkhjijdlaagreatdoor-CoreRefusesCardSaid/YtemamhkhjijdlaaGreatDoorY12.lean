import Derived.Test.YtemamhkhjijdlaaGreatDoorY11
/-
  PREDICT: how the program's predictor goes on, whatever comes; where the next instruction stands.
-/
namespace Go.Proofs.YtemamhkhjijdlaaGreatDoor
open Go Go.RowKit
def goS (G : PG) (S : PS) (op rd rs1 pc : Int) (taken : Bool) : PS :=
  if brB op then { S with hist := (S.hist * 2 + (if taken then 1 else 0)) % (G.mask + 1) }
  else if retB op rd rs1 then { S with top := (S.top + G.ns - 1) % G.ns }
  else if callB op rd then { S with top := (S.top + 1) % G.ns, stack := upd S.stack ((S.top + 1) % G.ns) ((pc + 4) % 4294967296) }
  else S
theorem goOn_any (G : PG) (S : PS) (op rd rs1 rs2 imm pc : Int) (taken : Bool) (w : World) (h : Pr w G S) (hL : Laid w) (hpc : 0 ≤ pc ∧ pc < 4294967296) : Calls Tryz.prog 191 #[.pointer (some ⟨G.p, 0, none⟩), .int .u32 pc, .agg #[.int .i64 op, .int .i64 rd, .int .i64 rs1, .int .i64 rs2, .int .i64 imm], .bool taken] w fun e w' => e = .returned (.tuple #[]) ∧ Pr w' G (goS G S op rd rs1 pc taken) ∧ Turned (fun k => k = G.p ∨ k = G.gs) w w' := by
  unfold goS
  cases hb : brB op
  · cases hr : retB op rd rs1
    · cases hc : callB op rd
      · exact (goOn_none G S op rd rs1 rs2 imm pc taken w h hL hb hr hc).mono fun e w' ⟨h1, h2, h3⟩ => ⟨h1, h2, h3.mono fun _ => Or.inl⟩
      · exact goOn_call G S op rd rs1 rs2 imm pc taken w h hL hpc hb hr hc
    · exact (goOn_ret G S op rd rs1 rs2 imm pc taken w h hL hb hr).mono fun e w' ⟨h1, h2, h3⟩ => ⟨h1, h2, h3.mono fun _ => Or.inl⟩
  · exact (goOn_br G S op rd rs1 rs2 imm pc taken w h hL hb).mono fun e w' ⟨h1, h2, h3⟩ => ⟨h1, h2, h3.mono fun _ => Or.inl⟩
def farV (G : PG) (S : PS) (pc : Int) : Int := if S.tf (plc G pc) && S.tp (plc G pc) == pc then S.tt (plc G pc) else (pc + 4) % 4294967296
def nextV (G : PG) (S : PS) (op rd rs1 imm pc : Int) (taken : Bool) : Int :=
  if taken || op == 3 then (pc + imm % 4294967296) % 4294967296 else if retB op rd rs1 then S.stack S.top else if farB op rd rs1 then farV G S pc else (pc + 4) % 4294967296
set_option maxHeartbeats 1000000 in
theorem next_jump (G : PG) (op rd rs1 rs2 imm pc : Int) (taken : Bool) (w : World) (ht : (taken || op == 3) = true) : Calls Tryz.prog 223 #[.pointer (some ⟨G.p, 0, none⟩), .int .u32 pc, .agg #[.int .i64 op, .int .i64 rd, .int .i64 rs1, .int .i64 rs2, .int .i64 imm], .bool taken] w fun e w' => e = .returned (.int .u32 ((pc + imm % 4294967296) % 4294967296)) ∧ Below w.heap.size w w' := by
  have hu : undef = Value.tuple #[] := rfl
  cases taken
  · have h3 : (op == 3) = true := by simpa using ht
    clear ht
    go_enter Tryz.func223, Tryz.ntmps223
    go_wp2
    go_ret
    exact ⟨rfl, (Below.refl _ _).alloc (Nat.le_refl _) _⟩
  · clear ht
    go_enter Tryz.func223, Tryz.ntmps223
    go_wp2
    go_ret
    exact ⟨rfl, (Below.refl _ _).alloc (Nat.le_refl _) _⟩
set_option maxHeartbeats 2000000 in
theorem next_ret (G : PG) (S : PS) (op rd rs1 rs2 imm pc : Int) (taken : Bool) (w : World) (h : Pr w G S) (ht : (taken || op == 3) = false) (hr : retB op rd rs1 = true) : Calls Tryz.prog 223 #[.pointer (some ⟨G.p, 0, none⟩), .int .u32 pc, .agg #[.int .i64 op, .int .i64 rd, .int .i64 rs1, .int .i64 rs2, .int .i64 imm], .bool taken] w fun e w' => e = .returned (.int .u32 (S.stack S.top)) ∧ Below w.heap.size w w' := by
  obtain ⟨ht1, ht2⟩ : taken = false ∧ (op == 3) = false := by simpa using ht
  subst ht1
  have HR := Hid.in hr
  have c3 : w.cell? ⟨G.p, 3, none⟩ = some (.slice (some ⟨G.gt, 0, none⟩) G.nt G.nt) := h.cells.cell 3 (by decide)
  have c4 : w.cell? ⟨G.p, 4, none⟩ = some (.slice (some ⟨G.gs, 0, none⟩) G.ns G.ns) := h.cells.cell 4 (by decide)
  have c5 : w.cell? ⟨G.p, 5, none⟩ = some (.int .i64 S.top) := h.cells.cell 5 (by decide)
  have h3 := h.cells.here
  have l1 := h.low.1
  have cs := h.stk.cell S.top l1
  have hsh := h.stk.here
  clear h ht hr
  go_enter Tryz.func223, Tryz.ntmps223
  go_wp2_with (go_at_call 244; refine (isReturn_any op rd rs1 rs2 imm _).mono ?_; rintro e w1 ⟨rfl, hb1⟩; rw [HR.out]; obtain ⟨k1, k2, k3, k4⟩ := keepB hb1; have c41 := (k4.cell (p := ⟨G.p, 4, none⟩) h3).trans c4; have c51 := (k4.cell (p := ⟨G.p, 5, none⟩) h3).trans c5; have c31 := (k4.cell (p := ⟨G.p, 3, none⟩) h3).trans c3; have cs1 := (k4.cell (p := ⟨G.gs, S.top, none⟩) hsh).trans cs; have h31 := Nat.lt_of_lt_of_le h3 k4.size; have hsh1 := Nat.lt_of_lt_of_le hsh k4.size)
  go_region
  all_goals (try go_wp2)
  go_ret
  exact ⟨rfl, k4.drew⟩
set_option maxHeartbeats 2000000 in
theorem next_none (G : PG) (S : PS) (op rd rs1 rs2 imm pc : Int) (taken : Bool) (w : World) (h : Pr w G S) (ht : (taken || op == 3) = false) (hr : retB op rd rs1 = false) (hf : farB op rd rs1 = false) : Calls Tryz.prog 223 #[.pointer (some ⟨G.p, 0, none⟩), .int .u32 pc, .agg #[.int .i64 op, .int .i64 rd, .int .i64 rs1, .int .i64 rs2, .int .i64 imm], .bool taken] w fun e w' => e = .returned (.int .u32 ((pc + 4) % 4294967296)) ∧ Below w.heap.size w w' := by
  obtain ⟨ht1, ht2⟩ : taken = false ∧ (op == 3) = false := by simpa using ht
  subst ht1
  have HR := Hid.in hr
  have HFR := Hid.in hf
  have c3 : w.cell? ⟨G.p, 3, none⟩ = some (.slice (some ⟨G.gt, 0, none⟩) G.nt G.nt) := h.cells.cell 3 (by decide)
  have c4 : w.cell? ⟨G.p, 4, none⟩ = some (.slice (some ⟨G.gs, 0, none⟩) G.ns G.ns) := h.cells.cell 4 (by decide)
  have c5 : w.cell? ⟨G.p, 5, none⟩ = some (.int .i64 S.top) := h.cells.cell 5 (by decide)
  have h3 := h.cells.here
  have l1 := h.low.1
  have cs := h.stk.cell S.top l1
  have hsh := h.stk.here
  clear h ht hr hf
  go_enter Tryz.func223, Tryz.ntmps223
  go_wp2_with (first
    | (go_at_call 244; refine (isReturn_any op rd rs1 rs2 imm _).mono ?_; rintro e w1 ⟨rfl, hb1⟩; rw [HR.out]; obtain ⟨k1, k2, k3, k4⟩ := keepB hb1; have c41 := (k4.cell (p := ⟨G.p, 4, none⟩) h3).trans c4; have c51 := (k4.cell (p := ⟨G.p, 5, none⟩) h3).trans c5; have c31 := (k4.cell (p := ⟨G.p, 3, none⟩) h3).trans c3; have cs1 := (k4.cell (p := ⟨G.gs, S.top, none⟩) hsh).trans cs; have h31 := Nat.lt_of_lt_of_le h3 k4.size; have hsh1 := Nat.lt_of_lt_of_le hsh k4.size)
    | (go_at_call 266; refine (isFar_any op rd rs1 rs2 imm _).mono ?_; rintro e w2 ⟨rfl, hb2⟩; rw [HFR.out]; have k12 := fun i => (hb2.cell (p := ⟨w.heap.size, i, none⟩) k3).trans (k1 i); have c32 := (hb2.cell (p := ⟨G.p, 3, none⟩) h31).trans c31; have h32 := Nat.lt_of_lt_of_le h31 hb2.size; have HB2 := Hid.in (below2 k4 hb2)))
  go_ret
  exact ⟨rfl, HB2.out⟩
set_option maxHeartbeats 4000000 in
theorem next_far (G : PG) (S : PS) (op rd rs1 rs2 imm pc : Int) (taken : Bool) (w : World) (h : Pr w G S) (hpc : 0 ≤ pc ∧ pc < 4294967296) (ht : (taken || op == 3) = false) (hr : retB op rd rs1 = false) (hf : farB op rd rs1 = true) : Calls Tryz.prog 223 #[.pointer (some ⟨G.p, 0, none⟩), .int .u32 pc, .agg #[.int .i64 op, .int .i64 rd, .int .i64 rs1, .int .i64 rs2, .int .i64 imm], .bool taken] w fun e w' => e = .returned (.int .u32 (farV G S pc)) ∧ Below w.heap.size w w' := by
  obtain ⟨ht1, ht2⟩ : taken = false ∧ (op == 3) = false := by simpa using ht
  subst ht1
  have HR := Hid.in hr
  have HFR := Hid.in hf
  have HP := Hid.in h
  have HPC := Hid.in hpc
  have c3 : w.cell? ⟨G.p, 3, none⟩ = some (.slice (some ⟨G.gt, 0, none⟩) G.nt G.nt) := h.cells.cell 3 (by decide)
  have c4 : w.cell? ⟨G.p, 4, none⟩ = some (.slice (some ⟨G.gs, 0, none⟩) G.ns G.ns) := h.cells.cell 4 (by decide)
  have c5 : w.cell? ⟨G.p, 5, none⟩ = some (.int .i64 S.top) := h.cells.cell 5 (by decide)
  have h3 := h.cells.here
  have l1 := h.low.1
  have cs := h.stk.cell S.top l1
  have hsh := h.stk.here
  have hth := h.tgt.here
  obtain ⟨q1, q2⟩ := plc_is G pc h.size.1
  unfold farV
  have HK : Hid (plc G pc = plc G pc) := rfl
  have t0 : w.cell? ⟨G.gt, plc G pc * 3, none⟩ = some (.bool (S.tf (plc G pc))) := by
    rw [h.tgt.cell (plc G pc * 3) (by omega)]
    unfold encG
    rw [if_pos (by omega)]
    have : plc G pc * 3 / 3 = plc G pc := by omega
    rw [this]
  have t1 : w.cell? ⟨G.gt, plc G pc * 3 + 1, none⟩ = some (.int .u32 (S.tp (plc G pc))) := by
    rw [h.tgt.cell (plc G pc * 3 + 1) (by omega)]
    unfold encG
    rw [if_neg (by omega), if_pos (by omega)]
    have : (plc G pc * 3 + 1) / 3 = plc G pc := by omega
    rw [this]
  have t2 : w.cell? ⟨G.gt, plc G pc * 3 + 2, none⟩ = some (.int .u32 (S.tt (plc G pc))) := by
    rw [h.tgt.cell (plc G pc * 3 + 2) (by omega)]
    unfold encG
    rw [if_neg (by omega), if_neg (by omega)]
    have : (plc G pc * 3 + 2) / 3 = plc G pc := by omega
    rw [this]
  have hnt := h.size.2.1
  generalize hk : plc G pc = k at t0 t1 t2 q2 ⊢
  have HKK := Hid.in hk
  generalize S.tf k = tf at t0 ⊢
  generalize S.tp k = tp at t1 ⊢
  generalize S.tt k = tt at t2 ⊢
  clear h ht hr hf hk q1 HK hpc
  cases tf
  all_goals
    cases hq : (tp == pc)
    all_goals
      go_enter Tryz.func223, Tryz.ntmps223
      go_wp2_with (first
        | (go_at_call 244; refine (isReturn_any op rd rs1 rs2 imm _).mono ?_; rintro e w1 ⟨rfl, hb1⟩; rw [HR.out]; obtain ⟨k1, k2, k3, k4⟩ := keepB hb1; have c41 := (k4.cell (p := ⟨G.p, 4, none⟩) h3).trans c4; have c51 := (k4.cell (p := ⟨G.p, 5, none⟩) h3).trans c5; have c31 := (k4.cell (p := ⟨G.p, 3, none⟩) h3).trans c3; have cs1 := (k4.cell (p := ⟨G.gs, S.top, none⟩) hsh).trans cs; have h31 := Nat.lt_of_lt_of_le h3 k4.size; have hsh1 := Nat.lt_of_lt_of_le hsh k4.size)
        | (go_at_call 266; refine (isFar_any op rd rs1 rs2 imm _).mono ?_; rintro e w2 ⟨rfl, hb2⟩; rw [HFR.out]; have k12 := fun i => (hb2.cell (p := ⟨w.heap.size, i, none⟩) k3).trans (k1 i); have c32 := (hb2.cell (p := ⟨G.p, 3, none⟩) h31).trans c31; have h32 := Nat.lt_of_lt_of_le h31 hb2.size; have HB2 := Hid.in (below2 k4 hb2)))
      first
        | go_region_with (go_at_call 267; refine (placeOf_any G S pc _ (by first | exact (HP.out.below HB2.out).below (Below.refl _ _).drew | exact ((HP.out.below HB2.out).below ((Below.refl _ _).alloc (Nat.le_refl _) _)).below (Below.refl _ _).drew) HPC.out).mono ?_; rintro e w4 ⟨rfl, hw⟩; rw [HKK.out]; have hw2 := hw.symm; clear hw; subst hw2; have t02 := (HB2.out.cell (p := ⟨G.gt, k * 3, none⟩) hth).trans t0; have t12 := (HB2.out.cell (p := ⟨G.gt, k * 3 + 1, none⟩) hth).trans t1; have t22 := (HB2.out.cell (p := ⟨G.gt, k * 3 + 2, none⟩) hth).trans t2; have hth2 := Nat.lt_of_lt_of_le hth HB2.out.size)
        | fail
      all_goals go_wp2
      all_goals
        go_ret
        exact ⟨rfl, by first | exact (HB2.out.alloc HB2.out.size _).drew | exact HB2.out.drew⟩
end Go.Proofs.YtemamhkhjijdlaaGreatDoor
