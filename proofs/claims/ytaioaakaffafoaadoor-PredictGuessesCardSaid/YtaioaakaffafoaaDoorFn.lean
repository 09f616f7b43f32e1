/-
  PREDICT: the answer's Guess and Learn, whatever comes; both predictors side by side.
-/
import Derived.Test.YtaioaakaffafoaaDoorFe
import Derived.Test.YtaioaakaffafoaaDoorFf
import Derived.Test.YtaioaakaffafoaaDoorFg
import Derived.Test.YtaioaakaffafoaaDoorFh
import Derived.Test.YtaioaakaffafoaaDoorFi
import Derived.Test.YtaioaakaffafoaaDoorFj
namespace Go.Proofs.YtaioaakaffafoaaDoor
open Go Go.RowKit
theorem tk_no (kd : Int) (G : PG) (S : PS) (op imm pc : Int) (h : brB op = false) : tkV kd G S op imm pc = false := by
  unfold tkV; rw [h]; rfl
theorem rguess_any (G : PG) (kd : Int) (bits hb tb : Nat) (S : PS) (what rd rs1 imm pc : Int) (w : World) (h : Rp w G kd bits hb tb S) (hpc : 0 ≤ pc ∧ pc < 4294967296) (hw : What what) (hk : 0 ≤ kd ∧ kd ≤ 3) : Calls Tryd.prog 12 #[.pointer (some ⟨G.p, 0, none⟩), .int .u32 pc, .agg #[.int .i64 what, .int .i64 rd, .int .i64 rs1, .int .i64 imm]] w fun e w' => e = .returned (.tuple #[.int .u32 (nextV G S (opW what) rd rs1 imm pc (tkV kd G S (opW what) imm pc)), .agg #[.int .i64 S.hist, .int .i64 S.top, .int .u32 (S.stack S.top)]]) ∧ Rp w' G kd bits hb tb (goS G S (opW what) rd rs1 pc (tkV kd G S (opW what) imm pc)) ∧ Turned (fun k => k = G.p ∨ k = G.gs) w w' := by
  rcases hw with rfl | rfl | rfl | rfl
  · have e : tkV kd G S (opW 0) imm pc = false := tk_no kd G S 28 imm pc brW28
    have e2 : nextV G S (opW 0) rd rs1 imm pc false = (pc + 4) % 4294967296 := nextV_no G S 28 rd rs1 imm pc rfl rfl
    rw [e, e2]
    exact rg_other G kd bits hb tb S rd rs1 imm pc w h hpc
  · have en : nextV G S (opW 1) rd rs1 imm pc false = (pc + 4) % 4294967296 := nextV_no G S 8 rd rs1 imm pc rfl rfl
    have et : nextV G S (opW 1) rd rs1 imm pc true = (pc + imm % 4294967296) % 4294967296 := by unfold nextV; rfl
    by_cases k1 : kd = 1
    · cases q : decide (imm < 0)
      · have e : tkV kd G S (opW 1) imm pc = false := by
          show tkV kd G S 8 imm pc = false
          unfold tkV; rw [brW8, k1]; exact q
        rw [e, en]
        exact rg_back_f G kd bits hb tb S rd rs1 imm pc w h hpc k1 q
      · have e : tkV kd G S (opW 1) imm pc = true := by
          show tkV kd G S 8 imm pc = true
          unfold tkV; rw [brW8, k1]; exact q
        rw [e, et]
        exact rg_back_t G kd bits hb tb S rd rs1 imm pc w h hpc k1 (of_decide_eq_true q)
    by_cases k2 : kd = 2
    · have er : rN kd pc S.hist = pc / 4 := by unfold rN; rw [if_neg (by omega)]
      have e : tkV kd G S (opW 1) imm pc = decide ((2 : Int) ≤ (S.ctr (cix G.nc (rN kd pc S.hist)) : Int)) := by
        rw [er]
        show tkV kd G S 8 imm pc = _
        unfold tkV; rw [brW8, k2]; rfl
      by_cases q : 2 ≤ S.ctr (cix G.nc (rN kd pc S.hist))
      · rw [e, decide_eq_true (by omega), et]
        exact rg_ctr2_true G kd bits hb tb S rd rs1 imm pc w h hpc k2 q
      · rw [e, decide_eq_false (by omega), en]
        exact rg_ctr2_false G kd bits hb tb S rd rs1 imm pc w h hpc k2 q
    by_cases k3 : kd = 3
    · have er : rN kd pc S.hist = mixN pc S.hist := by unfold rN; rw [if_pos k3]
      have e : tkV kd G S (opW 1) imm pc = decide ((2 : Int) ≤ (S.ctr (cix G.nc (rN kd pc S.hist)) : Int)) := by
        rw [er]
        show tkV kd G S 8 imm pc = _
        unfold tkV; rw [brW8, k3]; rfl
      by_cases q : 2 ≤ S.ctr (cix G.nc (rN kd pc S.hist))
      · rw [e, decide_eq_true (by omega), et]
        exact rg_ctr3_true G kd bits hb tb S rd rs1 imm pc w h hpc k3 q
      · rw [e, decide_eq_false (by omega), en]
        exact rg_ctr3_false G kd bits hb tb S rd rs1 imm pc w h hpc k3 q
    · have k0 : kd = 0 := by omega
      have e : tkV kd G S (opW 1) imm pc = false := by
        show tkV kd G S 8 imm pc = false
        unfold tkV; rw [brW8, k0]; rfl
      rw [e, en]
      exact rg_never G kd bits hb tb S rd rs1 imm pc w h hpc k0
  · have e : tkV kd G S (opW 2) imm pc = false := tk_no kd G S 3 imm pc brW3
    have e2 : nextV G S (opW 2) rd rs1 imm pc false = (pc + imm % 4294967296) % 4294967296 := by unfold nextV; rfl
    rw [e, e2]
    exact rg_jal G kd bits hb tb S rd rs1 imm pc w h hpc
  · have e : tkV kd G S (opW 3) imm pc = false := tk_no kd G S 4 imm pc brW4
    rw [e]
    have ef : nextV G S (opW 3) rd rs1 imm pc false = if retB 4 rd rs1 then S.stack S.top else farV G S pc := by
      show nextV G S 4 rd rs1 imm pc false = _
      unfold nextV farB
      cases retB 4 rd rs1 <;> rfl
    rw [ef]
    cases hr : retB 4 rd rs1
    · have hcase : (rs1 == 1) = false ∨ ((rs1 == 1) = true ∧ (rd == 0) = false) := by
        unfold retB at hr
        cases q : (rs1 == 1)
        · exact Or.inl rfl
        · rw [q] at hr
          exact Or.inr ⟨rfl, by simpa using hr⟩
      simp only [Bool.false_eq_true, if_false]
      unfold farV
      cases q1 : S.tf (plc G pc)
      · simp only [Bool.false_and, Bool.false_eq_true, if_false]
        rcases hcase with c1 | ⟨c1, c2⟩
        · exact rg_n1_no G kd bits hb tb S rd rs1 imm pc w h hpc c1 q1
        · exact rg_n2_no G kd bits hb tb S rd rs1 imm pc w h hpc c1 c2 q1
      · cases q2 : (S.tp (plc G pc) == pc)
        · simp only [Bool.and_false, Bool.false_eq_true, if_false]
          rcases hcase with c1 | ⟨c1, c2⟩
          · exact rg_n1_ne G kd bits hb tb S rd rs1 imm pc w h hpc c1 q1 q2
          · exact rg_n2_ne G kd bits hb tb S rd rs1 imm pc w h hpc c1 c2 q1 q2
        · simp only [Bool.and_self, if_true]
          rcases hcase with c1 | ⟨c1, c2⟩
          · exact rg_n1_eq G kd bits hb tb S rd rs1 imm pc w h hpc c1 q1 q2
          · exact rg_n2_eq G kd bits hb tb S rd rs1 imm pc w h hpc c1 c2 q1 q2
    · obtain ⟨rfl, rfl⟩ : rs1 = 1 ∧ rd = 0 := by unfold retB at hr; simpa using hr
      simp only [if_true]
      cases q1 : S.tf (plc G pc)
      · exact rg_ret_no G kd bits hb tb S imm pc w h hpc q1
      · cases q2 : (S.tp (plc G pc) == pc)
        · exact rg_ret_ne G kd bits hb tb S imm pc w h hpc q1 q2
        · exact rg_ret_eq G kd bits hb tb S imm pc w h hpc q1 q2
def lrnR (kd : Int) (G : PG) (S : PS) (hh op rd rs1 pc : Int) (taken : Bool) (tg : Int) : PS :=
  if brB op then { S with ctr := cnt S.ctr (cix G.nc (rN kd pc hh)) taken }
  else if farB op rd rs1 then { S with tf := upd S.tf (plc G pc) true, tp := upd S.tp (plc G pc) pc, tt := upd S.tt (plc G pc) tg } else S
theorem rlearn_any (G : PG) (kd : Int) (bits hb tb : Nat) (S : PS) (hh t : Nat) (mv what rd rs1 imm pc tg : Int) (taken : Bool) (w : World) (h : Rp w G kd bits hb tb S) (hpc : 0 ≤ pc ∧ pc < 4294967296) (hw : What what) (h1 : hh ≤ G.mask) (h2 : t < G.ns) : Calls Tryd.prog 17 #[.pointer (some ⟨G.p, 0, none⟩), .agg #[.int .i64 hh, .int .i64 t, .int .u32 mv], .int .u32 pc, .agg #[.int .i64 what, .int .i64 rd, .int .i64 rs1, .int .i64 imm], .bool taken, .int .u32 tg] w fun e w' => e = .returned (.tuple #[]) ∧ Rp w' G kd bits hb tb (lrnR kd G S hh (opW what) rd rs1 pc taken tg) ∧ Turned (fun k => k = G.gt ∨ k = G.gc) w w' := by
  rcases hw with rfl | rfl | rfl | rfl
  · have e : lrnR kd G S hh (opW 0) rd rs1 pc taken tg = S := by
      show lrnR kd G S hh 28 rd rs1 pc taken tg = S
      unfold lrnR; rw [brW28]; rfl
    rw [e]
    exact (rlearn_other G kd bits hb tb S hh t mv rd rs1 imm pc tg taken w h h1 h2).mono fun e w' ⟨a1, a2⟩ => ⟨a1, h.below a2, Turned.of_below a2⟩
  · have e : lrnR kd G S hh (opW 1) rd rs1 pc taken tg = { S with ctr := cnt S.ctr (cix G.nc (rN kd pc hh)) taken } := by
      show lrnR kd G S hh 8 rd rs1 pc taken tg = _
      unfold lrnR; rw [brW8]; rfl
    rw [e, cnt_upd]
    obtain ⟨k0, hk0⟩ : ∃ k0, k0 = cix G.nc (rN kd pc hh) := ⟨_, rfl⟩
    rw [← hk0]
    cases taken
    · by_cases q : 0 < S.ctr k0
      · simp only [Bool.false_eq_true, if_false, q, if_true]
        exact (rlearn_nd G kd bits hb tb S hh t mv rd rs1 imm pc tg w h hpc h1 h2 k0 hk0 q).mono fun e w' ⟨a1, a2, a3⟩ => ⟨a1, a2, a3.mono fun _ => Or.inr⟩
      · have q0 : S.ctr k0 = 0 := by omega
        simp only [Bool.false_eq_true, if_false, q0, Nat.lt_irrefl]
        exact (rlearn_nn G kd bits hb tb S hh t mv rd rs1 imm pc tg w h hpc h1 h2 k0 hk0 q0).mono fun e w' ⟨a1, a2, a3⟩ => ⟨a1, a2, a3.mono fun _ => Or.inr⟩
    · by_cases q : S.ctr k0 < 3
      · simp only [if_true, q]
        exact (rlearn_tu G kd bits hb tb S hh t mv rd rs1 imm pc tg w h hpc h1 h2 k0 hk0 q).mono fun e w' ⟨a1, a2, a3⟩ => ⟨a1, a2, a3.mono fun _ => Or.inr⟩
      · simp only [if_true, q, if_false]
        exact (rlearn_tn G kd bits hb tb S hh t mv rd rs1 imm pc tg w h hpc h1 h2 k0 hk0 q).mono fun e w' ⟨a1, a2, a3⟩ => ⟨a1, a2, a3.mono fun _ => Or.inr⟩
  · have e : lrnR kd G S hh (opW 2) rd rs1 pc taken tg = S := by
      show lrnR kd G S hh 3 rd rs1 pc taken tg = S
      unfold lrnR; rw [brW3]; rfl
    rw [e]
    exact (rlearn_jal G kd bits hb tb S hh t mv rd rs1 imm pc tg taken w h h1 h2).mono fun e w' ⟨a1, a2⟩ => ⟨a1, h.below a2, Turned.of_below a2⟩
  · have ef : lrnR kd G S hh (opW 3) rd rs1 pc taken tg = if retB 4 rd rs1 then S else { S with tf := upd S.tf (plc G pc) true, tp := upd S.tp (plc G pc) pc, tt := upd S.tt (plc G pc) tg } := by
      show lrnR kd G S hh 4 rd rs1 pc taken tg = _
      unfold lrnR farB; rw [brW4]
      cases retB 4 rd rs1 <;> rfl
    rw [ef]
    cases hr : retB 4 rd rs1
    · simp only [Bool.false_eq_true, if_false]
      cases q : (rs1 == 1)
      · exact (rlearn_far1 G kd bits hb tb S hh t mv rd rs1 imm pc tg taken w h hpc h1 h2 _ rfl q).mono fun e w' ⟨a1, a2, a3⟩ => ⟨a1, a2, a3.mono fun _ => Or.inl⟩
      · have c2 : (rd == 0) = false := by
          unfold retB at hr
          rw [q] at hr
          simpa using hr
        obtain rfl : rs1 = 1 := by simpa using q
        exact (rlearn_far2 G kd bits hb tb S hh t mv rd imm pc tg taken w h hpc h1 h2 _ rfl c2).mono fun e w' ⟨a1, a2, a3⟩ => ⟨a1, a2, a3.mono fun _ => Or.inl⟩
    · obtain ⟨rfl, rfl⟩ : rs1 = 1 ∧ rd = 0 := by unfold retB at hr; simpa using hr
      simp only [if_true]
      exact (rlearn_ret G kd bits hb tb S hh t mv imm pc tg taken w h h1 h2).mono fun e w' ⟨a1, a2⟩ => ⟨a1, h.below a2, Turned.of_below a2⟩
/-- both are alike -/
structure Same (kind : Int) (G R : PG) (S T : PS) : Prop where
  hist : S.hist = T.hist
  top : S.top = T.top
  stack : S.stack = T.stack
  tf : S.tf = T.tf
  tp : S.tp = T.tp
  tt : S.tt = T.tt
  ctr : 2 ≤ kind → S.ctr = T.ctr
  ns : G.ns = R.ns
  nt : G.nt = R.nt
  mask : G.mask = R.mask
  nc : 2 ≤ kind → G.nc = R.nc
  k : 0 ≤ kind ∧ kind ≤ 3
theorem Same.tk {kind : Int} {G R : PG} {S T : PS} (h : Same kind G R S T) (op imm pc : Int) : tkV kind G S op imm pc = tkV kind R T op imm pc := by
  unfold tkV
  by_cases k2 : 2 ≤ kind
  · rw [h.ctr k2, h.nc k2, h.hist]
  · rw [if_neg (show ¬ kind = 2 by omega), if_neg (show ¬ kind = 3 by omega), if_neg (show ¬ kind = 2 by omega), if_neg (show ¬ kind = 3 by omega)]
theorem Same.plc {kind : Int} {G R : PG} {S T : PS} (h : Same kind G R S T) (pc : Int) : plc G pc = plc R pc := by
  unfold Go.Proofs.YtaioaakaffafoaaDoor.plc; rw [h.nt]
theorem Same.next {kind : Int} {G R : PG} {S T : PS} (h : Same kind G R S T) (op rd rs1 imm pc : Int) (tk : Bool) : nextV G S op rd rs1 imm pc tk = nextV R T op rd rs1 imm pc tk := by
  unfold nextV farV
  rw [h.plc, h.stack, h.top, h.tf, h.tp, h.tt]
theorem Same.go {kind : Int} {G R : PG} {S T : PS} (h : Same kind G R S T) (op rd rs1 pc : Int) (tk : Bool) : Same kind G R (goS G S op rd rs1 pc tk) (goS R T op rd rs1 pc tk) := by
  obtain ⟨h1, h2, h3, h4, h5, h6, h7, h8, h9, h10, h11, h12⟩ := h
  unfold goS
  cases brB op
  · cases retB op rd rs1
    · cases callB op rd
      · exact ⟨h1, h2, h3, h4, h5, h6, h7, h8, h9, h10, h11, h12⟩
      · exact ⟨h1, by show (S.top + 1) % G.ns = (T.top + 1) % R.ns; rw [h2, h8], by show upd S.stack ((S.top + 1) % G.ns) _ = upd T.stack ((T.top + 1) % R.ns) _; rw [h2, h3, h8], h4, h5, h6, h7, h8, h9, h10, h11, h12⟩
    · exact ⟨h1, by show (S.top + G.ns - 1) % G.ns = (T.top + R.ns - 1) % R.ns; rw [h2, h8], h3, h4, h5, h6, h7, h8, h9, h10, h11, h12⟩
  · exact ⟨by show (S.hist * 2 + _) % (G.mask + 1) = (T.hist * 2 + _) % (R.mask + 1); rw [h1, h10], h2, h3, h4, h5, h6, h7, h8, h9, h10, h11, h12⟩
theorem Same.back {kind : Int} {G R : PG} {S T : PS} (h : Same kind G R S T) (hh t : Nat) (mv : Int) : Same kind G R { S with hist := hh, top := t, stack := upd S.stack t mv } { T with hist := hh, top := t, stack := upd T.stack t mv } := by
  obtain ⟨h1, h2, h3, h4, h5, h6, h7, h8, h9, h10, h11, h12⟩ := h
  exact ⟨rfl, rfl, by show upd S.stack t mv = upd T.stack t mv; rw [h3], h4, h5, h6, h7, h8, h9, h10, h11, h12⟩
theorem Same.own {kind : Int} {G R : PG} {S T : PS} (h : Same kind G R S T) (mh mt : Int) : ownB G mh mt = ownB R mh mt := by
  unfold ownB; rw [h.mask, h.ns]
theorem Same.lrn {kind : Int} {G R : PG} {S T : PS} (h : Same kind G R S T) (hh op rd rs1 pc : Int) (taken : Bool) (tg : Int) : Same kind G R (lrn kind G S hh op rd rs1 pc taken tg) (lrnR kind R T hh op rd rs1 pc taken tg) := by
  have hp := h.plc pc
  obtain ⟨h1, h2, h3, h4, h5, h6, h7, h8, h9, h10, h11, h12⟩ := h
  unfold Go.Proofs.YtaioaakaffafoaaDoor.lrn lrnR
  cases brB op
  · cases farB op rd rs1
    · exact ⟨h1, h2, h3, h4, h5, h6, h7, h8, h9, h10, h11, h12⟩
    · exact ⟨h1, h2, h3, by show upd S.tf _ _ = upd T.tf _ _; rw [h4, hp], by show upd S.tp _ _ = upd T.tp _ _; rw [h5, hp], by show upd S.tt _ _ = upd T.tt _ _; rw [h6, hp], h7, h8, h9, h10, h11, h12⟩
  · refine ⟨h1, h2, h3, h4, h5, h6, fun k2 => ?_, h8, h9, h10, h11, h12⟩
    show (if kind = 2 then _ else if kind = 3 then _ else S.ctr : Nat → Nat) = cnt T.ctr (cix R.nc (rN kind pc hh)) taken
    by_cases q2 : kind = 2
    · have er : rN kind pc hh = pc / 4 := by unfold rN; rw [if_neg (by omega)]
      rw [if_pos q2, h7 k2, h11 k2, er]
    · have q3 : kind = 3 := by omega
      have er : rN kind pc hh = mixN pc hh := by unfold rN; rw [if_pos q3]
      rw [if_neg q2, if_pos q3, h7 k2, h11 k2, er]
end Go.Proofs.YtaioaakaffafoaaDoor
