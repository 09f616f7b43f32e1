import Derived.Test.YtengofkjlgajlaaGreatDoorGm1
import Derived.Test.YtengofkjlgajlaaGreatDoorGa5
/-
  THE MACHINE, EXACTLY: a step.
-/
namespace Go.Proofs.YtengofkjlgajlaaGreatDoor
open Go Go.RowKit
theorem asked_nat (S : HS) (d : Dec) (len : Nat) (hs : S.size = len) (hd : d.op ≤ 67) (hF : 0 ≤ S.regs d.rs2) : ∃ (op ad : Int) (sz da : Nat), S.askQ d = qV op ad sz (da : Nat) ∧ Asked op ad sz len := by
  have hnn : 0 ≤ S.askV d := by
    unfold HS.askV
    have := hF
    repeat' split
    all_goals omega
  unfold HS.askQ
  by_cases h : S.asks d = true
  · rw [if_pos h]
    obtain ⟨sz, h5, hsz⟩ := szN_all d.op (by omega)
    refine ⟨d.op, S.whereI d.op d.rs1 d.imm, sz, (S.askV d).toNat, by rw [hsz, Int.toNat_of_nonneg hnn]; rfl, ?_⟩
    unfold HS.asks at h
    simp only [Bool.and_eq_true, bne_iff_ne, beq_iff_eq, Bool.not_eq_true'] at h
    obtain ⟨⟨-, h2⟩, h3⟩ := h
    rw [hsz] at h2
    unfold HS.faultI faultN at h3
    rw [hsz] at h3
    generalize S.whereI d.op d.rs1 d.imm = x at h3
    split at h3
    · split at h3 <;> omega
    · split at h3
      · rename_i hg
        rw [Bool.or_eq_true] at hg
        refine Or.inr ⟨⟨by omega, by omega⟩, ?_⟩
        rcases hg with hg | hg
        · unfold HS.inB at hg
          simp only [Bool.and_eq_true, decide_eq_true_eq] at hg
          refine Or.inl ⟨(x - 65536).toNat, by omega, by omega⟩
        · unfold devB at hg
          simp only [Bool.and_eq_true, decide_eq_true_eq, beq_iff_eq] at hg
          exact Or.inr ⟨hg.1.1, hg.1.2⟩
      · split at h3 <;> omega
  · rw [if_neg h]
    exact ⟨0, 0, 0, 0, rfl, Or.inl (by decide)⟩
set_option maxRecDepth 100000 in
set_option maxHeartbeats 2000000 in
theorem xstep_go {w0 w : World} {B p hq cg n cap len : Nat} {dv ov : Value} {S : HS} {f : Nat → Int} {M : MS} (k : Mx w0 w B p hq cg n cap dv ov S len f M) (hli : M.line = false) (hh : S.halted = false) (hF : S.Fit) (hsz : S.size = len) {op ad : Int} {sz da : Nat} (hq1 : S.askQ (S.fetchD decD n f) = qV op ad sz (da : Nat)) (hq2 : Asked op ad sz len) (h16 : len % 16 = 0) (hn : n ≤ 4096) (hl : len ≤ 4096) (hol : M.out.length ≤ 5000) (hLd : ∀ y, Below B w0 y → Laid y) : Calls Tryz.prog 9 #[.pointer (some ⟨p, 0, none⟩)] w fun e w' => e = .returned (.tuple #[S.doR decD n f (M.srvV op ad sz : Nat) (M.srvH op ad), .bool true]) ∧ (∃ ov', Fr ov ov' w.heap.size ∧ Mx w0 w' B p hq cg n cap dv ov' (S.doS decD n f (M.srvV op ad sz : Nat) (M.srvH op ad)) len f (M.srv op ad sz da)) ∧ Turned (fun j => Mine p dv ov j ∨ j = hq) w w' := by
  obtain ⟨X, hX, bX, sX, cR, kR⟩ := boxW7 w 41
  have kX := k.below bX
  have c := kX.c
  have HH : Hid (Calls Tryz.prog 27 #[.pointer (some ⟨hq, 0, none⟩)] X fun e w' => e = .returned (.bool false) ∧ w' = X) := by
    have := phalted_any hq _ S X kX.h
    rw [hh] at this
    exact this
  have c0 : X.cell? ⟨p, 0, none⟩ = some (.pointer (some ⟨hq, 0, none⟩)) := c.cell 0 (by decide)
  have c4 : X.cell? ⟨p, 4, none⟩ = some (.bool false) := by rw [← hli]; exact c.cell 4 (by decide)
  have hpX := c.here
  have hs16 : S.size % 16 = 0 := by rw [hsz]; omega
  have HA : Hid (Calls Tryz.prog 20 #[.pointer (some ⟨hq, 0, none⟩)] X fun e w' => e = .returned (qV op ad sz (da : Nat)) ∧ Below X.heap.size X w') := by
    have := pask_any pdecOk (fun x hx h1 h2 => dec_load x h1 h2) hq S cg 0 n cap X kX.h hn (hLd X kX.low) f kX.code hF hs16
    rw [hq1] at this
    exact this
  have HS2 : Hid (∀ x, Below X.heap.size X x → Calls Tryz.prog 28 #[.pointer (some ⟨p, 0, none⟩), qV op ad sz (da : Nat)] x fun e w' => e = .returned (.tuple #[.int .u32 (M.srvV op ad sz : Nat), .bool (M.srvH op ad)]) ∧ (∃ ov', Fr ov ov' x.heap.size ∧ Mx w0 w' B p hq cg n cap dv ov' S len f (M.srv op ad sz da)) ∧ Turned (Mine p dv ov) x w') := fun x hx => xserve_any (kX.below hx) (Nat.le_trans kX.lo.1 (Nat.le_of_lt (kX.below hx).at.1)) hol (hLd x (kX.below hx).low) op ad sz da hl hq2
  have HD : Hid (∀ x ov' M' (v : Int) (held : Bool), Mx w0 x B p hq cg n cap dv ov' S len f M' → Calls Tryz.prog 24 #[.pointer (some ⟨hq, 0, none⟩), .int .u32 v, .bool held] x fun e w' => e = .returned (S.doR decD n f v held) ∧ Mx w0 w' B p hq cg n cap dv ov' (S.doS decD n f v held) len f M' ∧ Only hq x w') := fun x ov' M' v held kx => (pdo_any pdecOk hq S cg 0 n cap v held x kx.h hn (hLd x kx.low) f kx.code hF hs16).mono fun e w' h => ⟨h.1, kx.hart h.2.2 h.2.1, h.2.2⟩
  have HTO : Hid (∀ v held, Told1 S (S.doS decD n f v held) (S.doR decD n f v held)) := fun v held => told_do hF n f hn k.code.word v held hh
  have HKR := Hid.in kR
  have HBX := Hid.in bX
  have HNE : Hid (¬ (Mine p dv ov w.heap.size ∨ w.heap.size = hq)) := by
    rintro ((h | h | h) | h)
    · have := k.at.1; omega
    · rcases k.d with h0 | ⟨db, dc, e1, -, e3, -⟩
      · rw [h0.2] at h
        cases h
      · rw [e1] at h
        have h' : db = w.heap.size := Option.some.inj h
        have := e3.here
        omega
    · have := (own_base k.o _ h).2
      omega
    · have := k.at.2.1; omega
  obtain ⟨zb, hzb⟩ : ∃ zb, w.heap.size = zb := ⟨_, rfl⟩
  have HCG : Hid (cg ≠ w.heap.size) := fun e => by have := k.at.2.2; omega
  have HLO : Hid (B ≤ w.heap.size) := Nat.le_trans k.lo.1 (Nat.le_of_lt k.at.1)
  rw [hzb] at HKR HNE sX HCG HLO
  have HZB := Hid.in hzb
  generalize M.srv op ad sz da = M' at HS2 ⊢
  generalize M.srvV op ad sz = v at HS2 ⊢
  generalize M.srvH op ad = held at HS2 ⊢
  clear k kX c kR hF hsz h16 hn hl hol hLd hh hq1 hq2 hs16 hli
  unfold qV at HA HS2
  go_enter Tryz.func9, Tryz.ntmps9
  go_upto_region 1 with fail
  try rw [hX, hzb]
  clear hX hzb bX
  go_wp2_with (first
    | (go_at_call 27; refine HH.out.mono ?_; rintro e x ⟨rfl, hx⟩; have hx2 := hx.symm; clear hx; subst hx2)
    | (go_at_call 20; refine HA.out.mono ?_; rintro e X1 ⟨rfl, hb⟩; have HB1 := Hid.in hb; clear hb)
    | (go_at_call 28; refine (HS2.out _ HB1.out).mono ?_; rintro e X2 ⟨rfl, ⟨ov', hfr, hM⟩, hT⟩; have HFR := Hid.in hfr; clear hfr; have HM := Hid.in hM; have HT := Hid.in hT; clear hM hT; have d := HM.out.c; have d0 : X2.cell? ⟨p, 0, none⟩ = some (.pointer (some ⟨hq, 0, none⟩)) := d.cell 0 (by decide); have dp := d.here; clear d)
    | (go_at_call 24; refine (HD.out _ _ _ _ _ HM.out).mono ?_; rintro e X3 ⟨rfl, hM3, hO3⟩; have HM3 := Hid.in hM3; have HO3 := Hid.in hO3; clear hM3 hO3; obtain ⟨word, val, cause, tval, r, hR, -⟩ := HTO.out (v : Nat) held; have k3 := (Turned.of_only HO3.out).cells (HT.out.cells (HKR.out.below HB1.out) (fun q => HNE.out (Or.inl q))) (fun q => HNE.out (Or.inr q)); have t0 := k3.cell 0 (by decide); have t1 := k3.cell 1 (by decide); have t2 := k3.cell 2 (by decide); have t3 := k3.cell 3 (by decide); have t4 := k3.cell 4 (by decide); have t5 := k3.cell 5 (by decide); have t6 := k3.cell 6 (by decide); have g0 := k3.free 0; have g1 := k3.free 1; have g2 := k3.free 2; have g3 := k3.free 3; have g4 := k3.free 4; have g5 := k3.free 5; have g6 := k3.free 6; have z3 := k3.here; have HK3 := Hid.in k3; clear k3))
  have c7 := set7_cells HK3.out (.int .u32 S.pc) (.int .u32 word) (.int .i64 r) (.int .u32 val) (.int .i64 cause) (.int .u32 tval) (.int .u32 (S.doS decD n f v held).pc)
  have t7 : Turned (fun j => j = zb) X3 (((((((X3.setCell ⟨zb, 0, none⟩ (.int .u32 S.pc)).setCell ⟨zb, 1, none⟩ (.int .u32 word)).setCell ⟨zb, 2, none⟩ (.int .i64 r)).setCell ⟨zb, 3, none⟩ (.int .u32 val)).setCell ⟨zb, 4, none⟩ (.int .i64 cause)).setCell ⟨zb, 5, none⟩ (.int .u32 tval)).setCell ⟨zb, 6, none⟩ (.int .u32 (S.doS decD n f v held).pc)) := Turned.of_only (((((((Only.refl zb X3).set 0 _).set 1 _).set 2 _).set 3 _).set 4 _).set 5 _ |>.set 6 _)
  refine bodyPost_ret (results_ret2 Tryz.results9 _ _ zb _ _ _ _ _ _ _ _ rfl rfl (c7.cell 0 (by decide)) (c7.cell 1 (by decide)) (c7.cell 2 (by decide)) (c7.cell 3 (by decide)) (c7.cell 4 (by decide)) (c7.cell 5 (by decide)) (c7.cell 6 (by decide))) rfl ⟨(by rw [hR]; rfl), ⟨ov', ?_, HM3.out.other t7 ?_ ?_ ?_ ?_ ?_ ?_⟩, ?_⟩
  · exact HFR.out.mono (Nat.le_trans HBX.out.size HB1.out.size)
  · exact fun e => HNE.out (Or.inl (Or.inl e.symm))
  · exact fun e => HNE.out (Or.inr e.symm)
  · exact fun e => HCG.out e
  · exact fun e => HNE.out (Or.inl (Or.inr (Or.inl e)))
  · intro e
    rcases HFR.out with q | ⟨g, q1, q2⟩
    · exact HNE.out (Or.inl (Or.inr (Or.inr (by rw [← q]; exact e))))
    · rw [e] at q1
      have := Option.some.inj q1
      have := HB1.out.size
      omega
  · exact HLO.out
  · have tA : Turned (fun j => Mine p dv ov j ∨ j = hq) w X3 := (((Turned.of_below HBX.out).trans (Turned.of_below HB1.out)).trans (HT.out.mono (fun j q => Or.inl q))).trans ((Turned.of_only HO3.out).mono (fun j q => Or.inr q))
    exact ⟨t7.os.trans tA.os, t7.tape.trans tA.tape, t7.output.trans tA.output, Nat.le_trans tA.size t7.size, fun j hj hm => (t7.block j (Nat.lt_of_lt_of_le hj tA.size) (fun e => by rw [HZB.out] at hj; omega)).trans (tA.block j hj hm)⟩
end Go.Proofs.YtengofkjlgajlaaGreatDoor
/-
  THE MACHINE, EXACTLY: a step with its line on.
-/
namespace Go.Proofs.YtengofkjlgajlaaGreatDoor
open Go Go.RowKit
set_option maxRecDepth 100000 in
set_option maxHeartbeats 2000000 in
theorem xstep_on {w0 w : World} {B p hq cg n cap len : Nat} {dv ov : Value} {S : HS} {f : Nat → Int} {M : MS} (k : Mx w0 w B p hq cg n cap dv ov S len f M) (hli : M.line = true) (hmi : S.mayI = false) (hh : S.halted = false) (hF : S.Fit) (hsz : S.size = len) {op ad : Int} {sz da : Nat} (hq1 : S.askQ (S.fetchD decD n f) = qV op ad sz (da : Nat)) (hq2 : Asked op ad sz len) (h16 : len % 16 = 0) (hn : n ≤ 4096) (hl : len ≤ 4096) (hol : M.out.length ≤ 5000) (hLd : ∀ y, Below B w0 y → Laid y) : Calls Tryz.prog 9 #[.pointer (some ⟨p, 0, none⟩)] w fun e w' => e = .returned (.tuple #[S.doR decD n f (M.srvV op ad sz : Nat) (M.srvH op ad), .bool true]) ∧ (∃ ov', Fr ov ov' w.heap.size ∧ Mx w0 w' B p hq cg n cap dv ov' (S.doS decD n f (M.srvV op ad sz : Nat) (M.srvH op ad)) len f (M.srv op ad sz da)) ∧ Turned (fun j => Mine p dv ov j ∨ j = hq) w w' := by
  obtain ⟨X, hX, bX, sX, cR, kR⟩ := boxW7 w 41
  have kX := k.below bX
  have c := kX.c
  have HH : Hid (Calls Tryz.prog 27 #[.pointer (some ⟨hq, 0, none⟩)] X fun e w' => e = .returned (.bool false) ∧ w' = X) := by
    have := phalted_any hq _ S X kX.h
    rw [hh] at this
    exact this
  have c0 : X.cell? ⟨p, 0, none⟩ = some (.pointer (some ⟨hq, 0, none⟩)) := c.cell 0 (by decide)
  have c4 : X.cell? ⟨p, 4, none⟩ = some (.bool true) := by rw [← hli]; exact c.cell 4 (by decide)
  have hpX := c.here
  have hs16 : S.size % 16 = 0 := by rw [hsz]; omega
  have HI : Hid (Calls Tryz.prog 22 #[.pointer (some ⟨hq, 0, none⟩)] X fun e w' => e = .returned (.tuple #[zeroR, .bool false]) ∧ Mx w0 w' B p hq cg n cap dv ov S len f M ∧ Only hq X w') := by
    have := pinterrupt_any hq _ S X kX.h
    rw [hmi] at this
    simp only [Bool.false_eq_true, if_false] at this
    exact this.mono fun e w' h => ⟨h.1, kX.hart h.2.2 h.2.1, h.2.2⟩
  have HA : Hid (∀ x, Mx w0 x B p hq cg n cap dv ov S len f M → Calls Tryz.prog 20 #[.pointer (some ⟨hq, 0, none⟩)] x fun e w' => e = .returned (qV op ad sz (da : Nat)) ∧ Below x.heap.size x w') := by
    intro x kx
    have := pask_any pdecOk (fun x hx h1 h2 => dec_load x h1 h2) hq S cg 0 n cap x kx.h hn (hLd x kx.low) f kx.code hF hs16
    rw [hq1] at this
    exact this
  have HS2 : Hid (∀ x, Mx w0 x B p hq cg n cap dv ov S len f M → Calls Tryz.prog 28 #[.pointer (some ⟨p, 0, none⟩), qV op ad sz (da : Nat)] x fun e w' => e = .returned (.tuple #[.int .u32 (M.srvV op ad sz : Nat), .bool (M.srvH op ad)]) ∧ (∃ ov', Fr ov ov' x.heap.size ∧ Mx w0 w' B p hq cg n cap dv ov' S len f (M.srv op ad sz da)) ∧ Turned (Mine p dv ov) x w') := fun x kx => xserve_any kx (Nat.le_trans kx.lo.1 (Nat.le_of_lt kx.at.1)) hol (hLd x kx.low) op ad sz da hl hq2
  have HD : Hid (∀ x ov' M' (v : Int) (held : Bool), Mx w0 x B p hq cg n cap dv ov' S len f M' → Calls Tryz.prog 24 #[.pointer (some ⟨hq, 0, none⟩), .int .u32 v, .bool held] x fun e w' => e = .returned (S.doR decD n f v held) ∧ Mx w0 w' B p hq cg n cap dv ov' (S.doS decD n f v held) len f M' ∧ Only hq x w') := fun x ov' M' v held kx => (pdo_any pdecOk hq S cg 0 n cap v held x kx.h hn (hLd x kx.low) f kx.code hF hs16).mono fun e w' h => ⟨h.1, kx.hart h.2.2 h.2.1, h.2.2⟩
  have HTO : Hid (∀ v held, Told1 S (S.doS decD n f v held) (S.doR decD n f v held)) := fun v held => told_do hF n f hn k.code.word v held hh
  have HKR := Hid.in kR
  have HBX := Hid.in bX
  have HNE : Hid (¬ (Mine p dv ov w.heap.size ∨ w.heap.size = hq)) := by
    rintro ((h | h | h) | h)
    · have := k.at.1; omega
    · rcases k.d with h0 | ⟨db, dc, e1, -, e3, -⟩
      · rw [h0.2] at h
        cases h
      · rw [e1] at h
        have h' : db = w.heap.size := Option.some.inj h
        have := e3.here
        omega
    · have := (own_base k.o _ h).2
      omega
    · have := k.at.2.1; omega
  obtain ⟨zb, hzb⟩ : ∃ zb, w.heap.size = zb := ⟨_, rfl⟩
  have HCG : Hid (cg ≠ w.heap.size) := fun e => by have := k.at.2.2; omega
  have HLO : Hid (B ≤ w.heap.size) := Nat.le_trans k.lo.1 (Nat.le_of_lt k.at.1)
  rw [hzb] at HKR HNE sX HCG HLO
  have HZB := Hid.in hzb
  generalize M.srv op ad sz da = M' at HS2 ⊢
  generalize M.srvV op ad sz = v at HS2 ⊢
  generalize M.srvH op ad = held at HS2 ⊢
  clear k kX c kR hF hsz h16 hn hl hol hLd hh hq1 hq2 hs16 hli hmi
  unfold qV at HA HS2
  unfold zeroR at HI
  go_enter Tryz.func9, Tryz.ntmps9
  go_upto_region 1 with fail
  try rw [hX, hzb]
  clear hX hzb bX
  go_upto_region 7 with (first
    | (go_at_call 27; refine HH.out.mono ?_; rintro e x ⟨rfl, hx⟩; have hx2 := hx.symm; clear hx; subst hx2)
    | (go_at_call 22; refine HI.out.mono ?_; rintro e XI ⟨rfl, hMI, hOI⟩; have HMI := Hid.in hMI; have HOI := Hid.in hOI; clear hMI hOI))
  obtain ⟨XA, hXA⟩ : ∃ XA, XI.alloc (.cells #[.int .u32 0, .int .u32 0, .int .i64 0, .int .u32 0, .int .i64 0, .int .u32 0, .int .u32 0] 41) = XA := ⟨_, rfl⟩
  have bA : Below XI.heap.size XI XA := by rw [← hXA]; exact (Below.refl _ _).alloc (Nat.le_refl _) _
  rw [hXA]
  clear hXA
  have HMA := Hid.in (HMI.out.below bA)
  have HTA : Hid (Turned (fun j => j = hq) X XA) := Hid.in ((Turned.of_only HOI.out).trans (Turned.of_below bA))
  have HKA := Hid.in (HTA.out.cells HKR.out (fun q => HNE.out (Or.inr q)))
  have cA := HMA.out.c
  have e0 : XA.cell? ⟨p, 0, none⟩ = some (.pointer (some ⟨hq, 0, none⟩)) := cA.cell 0 (by decide)
  have eP := cA.here
  clear cA c0 c4 hpX bA HMI HOI
  go_wp2_with (first
    | (go_at_call 20; refine (HA.out _ HMA.out).mono ?_; rintro e X1 ⟨rfl, hb⟩; have HB1 := Hid.in hb; clear hb)
    | (go_at_call 28; refine (HS2.out _ (HMA.out.below HB1.out)).mono ?_; rintro e X2 ⟨rfl, ⟨ov', hfr, hM⟩, hT⟩; have HFR := Hid.in hfr; clear hfr; have HM := Hid.in hM; have HT := Hid.in hT; clear hM hT; have d := HM.out.c; have d0 : X2.cell? ⟨p, 0, none⟩ = some (.pointer (some ⟨hq, 0, none⟩)) := d.cell 0 (by decide); have dp := d.here; clear d)
    | (go_at_call 24; refine (HD.out _ _ _ _ _ HM.out).mono ?_; rintro e X3 ⟨rfl, hM3, hO3⟩; have HM3 := Hid.in hM3; have HO3 := Hid.in hO3; clear hM3 hO3; obtain ⟨word, val, cause, tval, r, hR, -⟩ := HTO.out (v : Nat) held; have k3 := (Turned.of_only HO3.out).cells (HT.out.cells (HKA.out.below HB1.out) (fun q => HNE.out (Or.inl q))) (fun q => HNE.out (Or.inr q)); have t0 := k3.cell 0 (by decide); have t1 := k3.cell 1 (by decide); have t2 := k3.cell 2 (by decide); have t3 := k3.cell 3 (by decide); have t4 := k3.cell 4 (by decide); have t5 := k3.cell 5 (by decide); have t6 := k3.cell 6 (by decide); have g0 := k3.free 0; have g1 := k3.free 1; have g2 := k3.free 2; have g3 := k3.free 3; have g4 := k3.free 4; have g5 := k3.free 5; have g6 := k3.free 6; have z3 := k3.here; have HK3 := Hid.in k3; clear k3))
  have c7 := set7_cells HK3.out (.int .u32 S.pc) (.int .u32 word) (.int .i64 r) (.int .u32 val) (.int .i64 cause) (.int .u32 tval) (.int .u32 (S.doS decD n f v held).pc)
  have t7 : Turned (fun j => j = zb) X3 (((((((X3.setCell ⟨zb, 0, none⟩ (.int .u32 S.pc)).setCell ⟨zb, 1, none⟩ (.int .u32 word)).setCell ⟨zb, 2, none⟩ (.int .i64 r)).setCell ⟨zb, 3, none⟩ (.int .u32 val)).setCell ⟨zb, 4, none⟩ (.int .i64 cause)).setCell ⟨zb, 5, none⟩ (.int .u32 tval)).setCell ⟨zb, 6, none⟩ (.int .u32 (S.doS decD n f v held).pc)) := Turned.of_only (((((((Only.refl zb X3).set 0 _).set 1 _).set 2 _).set 3 _).set 4 _).set 5 _ |>.set 6 _)
  refine bodyPost_ret (results_ret2 Tryz.results9 _ _ zb _ _ _ _ _ _ _ _ rfl rfl (c7.cell 0 (by decide)) (c7.cell 1 (by decide)) (c7.cell 2 (by decide)) (c7.cell 3 (by decide)) (c7.cell 4 (by decide)) (c7.cell 5 (by decide)) (c7.cell 6 (by decide))) rfl ⟨(by rw [hR]; rfl), ⟨ov', ?_, HM3.out.other t7 ?_ ?_ ?_ ?_ ?_ ?_⟩, ?_⟩
  · exact HFR.out.mono (Nat.le_trans HBX.out.size (Nat.le_trans HTA.out.size HB1.out.size))
  · exact fun e => HNE.out (Or.inl (Or.inl e.symm))
  · exact fun e => HNE.out (Or.inr e.symm)
  · exact fun e => HCG.out e
  · exact fun e => HNE.out (Or.inl (Or.inr (Or.inl e)))
  · intro e
    rcases HFR.out with q | ⟨g, q1, q2⟩
    · exact HNE.out (Or.inl (Or.inr (Or.inr (by rw [← q]; exact e))))
    · rw [e] at q1
      have := Option.some.inj q1
      have := HB1.out.size
      have := HTA.out.size
      omega
  · exact HLO.out
  · have tA : Turned (fun j => Mine p dv ov j ∨ j = hq) w X3 := ((((Turned.of_below HBX.out).trans (HTA.out.mono (fun j q => Or.inr q))).trans (Turned.of_below HB1.out)).trans (HT.out.mono (fun j q => Or.inl q))).trans ((Turned.of_only HO3.out).mono (fun j q => Or.inr q))
    exact ⟨t7.os.trans tA.os, t7.tape.trans tA.tape, t7.output.trans tA.output, Nat.le_trans tA.size t7.size, fun j hj hm => (t7.block j (Nat.lt_of_lt_of_le hj tA.size) (fun e => by rw [HZB.out] at hj; omega)).trans (tA.block j hj hm)⟩
end Go.Proofs.YtengofkjlgajlaaGreatDoor
/-
  THE MACHINE, EXACTLY: a step that is none; a step that is an interrupt.
-/
namespace Go.Proofs.YtengofkjlgajlaaGreatDoor
open Go Go.RowKit
set_option maxRecDepth 100000 in
set_option maxHeartbeats 1000000 in
theorem xstep_halted {w0 w : World} {B p hq cg n cap len : Nat} {dv ov : Value} {S : HS} {f : Nat → Int} {M : MS} (k : Mx w0 w B p hq cg n cap dv ov S len f M) (hh : S.halted = true) : Calls Tryz.prog 9 #[.pointer (some ⟨p, 0, none⟩)] w fun e w' => e = .returned (.tuple #[zeroR, .bool false]) ∧ Mx w0 w' B p hq cg n cap dv ov S len f M ∧ Below w.heap.size w w' := by
  have c := k.c
  have HH : Hid (∀ x, Below w.heap.size w x → Calls Tryz.prog 27 #[.pointer (some ⟨hq, 0, none⟩)] x fun e w' => e = .returned (.bool true) ∧ w' = x) := fun x hx => by
    have := phalted_any hq _ S x (k.h.below hx)
    rw [hh] at this
    exact this
  have c0 : w.cell? ⟨p, 0, none⟩ = some (.pointer (some ⟨hq, 0, none⟩)) := c.cell 0 (by decide)
  have hp := c.here
  have hp1 : p < w.heap.size + 1 := by omega
  have HK := Hid.in k
  clear k c hh
  go_enter Tryz.func9, Tryz.ntmps9
  go_wp2_with (go_at_call 27; refine (HH.out _ ((Below.refl _ _).alloc (Nat.le_refl _) _)).mono ?_; rintro e x ⟨rfl, hx⟩; have hx2 := hx.symm; clear hx; subst hx2)
  exact bodyPost_ret (results_ret2 Tryz.results9 _ _ w.heap.size _ _ _ _ _ _ _ _ rfl rfl (by rw [World.cell?_alloc_new]; rfl) (by rw [World.cell?_alloc_new]; rfl) (by rw [World.cell?_alloc_new]; rfl) (by rw [World.cell?_alloc_new]; rfl) (by rw [World.cell?_alloc_new]; rfl) (by rw [World.cell?_alloc_new]; rfl) (by rw [World.cell?_alloc_new]; rfl)) rfl ⟨rfl, HK.out.below ((Below.refl _ _).alloc (Nat.le_refl _) _), (Below.refl _ _).alloc (Nat.le_refl _) _⟩
set_option maxRecDepth 100000 in
set_option maxHeartbeats 2000000 in
theorem xstep_int {w0 w : World} {B p hq cg n cap len : Nat} {dv ov : Value} {S : HS} {f : Nat → Int} {M : MS} (k : Mx w0 w B p hq cg n cap dv ov S len f M) (hli : M.line = true) (hmi : S.mayI = true) (hh : S.halted = false) : Calls Tryz.prog 9 #[.pointer (some ⟨p, 0, none⟩)] w fun e w' => e = .returned (.tuple #[S.trapR 0 2147483659 0, .bool true]) ∧ Mx w0 w' B p hq cg n cap dv ov (S.trapped 2147483659 0) len f M ∧ Turned (fun j => j = hq) w w' := by
  obtain ⟨X, hX, bX, sX, cR, kR⟩ := boxW7 w 41
  have kX := k.below bX
  have c := kX.c
  have HH : Hid (Calls Tryz.prog 27 #[.pointer (some ⟨hq, 0, none⟩)] X fun e w' => e = .returned (.bool false) ∧ w' = X) := by
    have := phalted_any hq _ S X kX.h
    rw [hh] at this
    exact this
  have c0 : X.cell? ⟨p, 0, none⟩ = some (.pointer (some ⟨hq, 0, none⟩)) := c.cell 0 (by decide)
  have c4 : X.cell? ⟨p, 4, none⟩ = some (.bool true) := by rw [← hli]; exact c.cell 4 (by decide)
  have hpX := c.here
  have HI : Hid (Calls Tryz.prog 22 #[.pointer (some ⟨hq, 0, none⟩)] X fun e w' => e = .returned (.tuple #[.agg #[.int .u32 S.pc, .int .u32 0, .int .i64 0, .int .u32 0, .int .i64 2147483659, .int .u32 0, .int .u32 S.trapTo], .bool true]) ∧ Mx w0 w' B p hq cg n cap dv ov (S.trapped 2147483659 0) len f M ∧ Only hq X w') := by
    have := pinterrupt_any hq _ S X kX.h
    rw [hmi] at this
    simp only [if_true] at this
    exact this.mono fun e w' h => ⟨h.1, kX.hart h.2.2 h.2.1, h.2.2⟩
  have HKR := Hid.in kR
  have HBX := Hid.in bX
  have HNE : Hid (¬ (Mine p dv ov w.heap.size ∨ w.heap.size = hq)) := by
    rintro ((h | h | h) | h)
    · have := k.at.1; omega
    · rcases k.d with h0 | ⟨db, dc, e1, -, e3, -⟩
      · rw [h0.2] at h
        cases h
      · rw [e1] at h
        have h' : db = w.heap.size := Option.some.inj h
        have := e3.here
        omega
    · have := (own_base k.o _ h).2
      omega
    · have := k.at.2.1; omega
  obtain ⟨zb, hzb⟩ : ∃ zb, w.heap.size = zb := ⟨_, rfl⟩
  have HCG : Hid (cg ≠ w.heap.size) := fun e => by have := k.at.2.2; omega
  have HLO : Hid (B ≤ w.heap.size) := Nat.le_trans k.lo.1 (Nat.le_of_lt k.at.1)
  rw [hzb] at HKR HNE sX HCG HLO
  have HZB := Hid.in hzb
  clear k kX c kR hh hli hmi
  unfold HS.trapR
  go_enter Tryz.func9, Tryz.ntmps9
  go_upto_region 1 with fail
  try rw [hX, hzb]
  clear hX hzb bX
  go_upto_region 6 with (first
    | (go_at_call 27; refine HH.out.mono ?_; rintro e x ⟨rfl, hx⟩; have hx2 := hx.symm; clear hx; subst hx2)
    | (go_at_call 22; refine HI.out.mono ?_; rintro e XI ⟨rfl, hMI, hOI⟩; have HMI := Hid.in hMI; have HOI := Hid.in hOI; clear hMI hOI))
  have q0 : (XI.alloc (.cells #[.int .u32 S.pc, .int .u32 0, .int .i64 0, .int .u32 0, .int .i64 2147483659, .int .u32 0, .int .u32 S.trapTo] 41)).cell? ⟨XI.heap.size, 0, none⟩ = some (.int .u32 S.pc) := by rw [World.cell?_alloc_new]; rfl
  have q1 : (XI.alloc (.cells #[.int .u32 S.pc, .int .u32 0, .int .i64 0, .int .u32 0, .int .i64 2147483659, .int .u32 0, .int .u32 S.trapTo] 41)).cell? ⟨XI.heap.size, 1, none⟩ = some (.int .u32 0) := by rw [World.cell?_alloc_new]; rfl
  have q2 : (XI.alloc (.cells #[.int .u32 S.pc, .int .u32 0, .int .i64 0, .int .u32 0, .int .i64 2147483659, .int .u32 0, .int .u32 S.trapTo] 41)).cell? ⟨XI.heap.size, 2, none⟩ = some (.int .i64 0) := by rw [World.cell?_alloc_new]; rfl
  have q3 : (XI.alloc (.cells #[.int .u32 S.pc, .int .u32 0, .int .i64 0, .int .u32 0, .int .i64 2147483659, .int .u32 0, .int .u32 S.trapTo] 41)).cell? ⟨XI.heap.size, 3, none⟩ = some (.int .u32 0) := by rw [World.cell?_alloc_new]; rfl
  have q4 : (XI.alloc (.cells #[.int .u32 S.pc, .int .u32 0, .int .i64 0, .int .u32 0, .int .i64 2147483659, .int .u32 0, .int .u32 S.trapTo] 41)).cell? ⟨XI.heap.size, 4, none⟩ = some (.int .i64 2147483659) := by rw [World.cell?_alloc_new]; rfl
  have q5 : (XI.alloc (.cells #[.int .u32 S.pc, .int .u32 0, .int .i64 0, .int .u32 0, .int .i64 2147483659, .int .u32 0, .int .u32 S.trapTo] 41)).cell? ⟨XI.heap.size, 5, none⟩ = some (.int .u32 0) := by rw [World.cell?_alloc_new]; rfl
  have q6 : (XI.alloc (.cells #[.int .u32 S.pc, .int .u32 0, .int .i64 0, .int .u32 0, .int .i64 2147483659, .int .u32 0, .int .u32 S.trapTo] 41)).cell? ⟨XI.heap.size, 6, none⟩ = some (.int .u32 S.trapTo) := by rw [World.cell?_alloc_new]; rfl
  have bA : Below XI.heap.size XI (XI.alloc (.cells #[.int .u32 S.pc, .int .u32 0, .int .i64 0, .int .u32 0, .int .i64 2147483659, .int .u32 0, .int .u32 S.trapTo] 41)) := (Below.refl _ _).alloc (Nat.le_refl _) _
  have hxb : XI.heap.size < (XI.alloc (.cells #[.int .u32 S.pc, .int .u32 0, .int .i64 0, .int .u32 0, .int .i64 2147483659, .int .u32 0, .int .u32 S.trapTo] 41)).heap.size := by simp
  generalize XI.alloc (.cells #[.int .u32 S.pc, .int .u32 0, .int .i64 0, .int .u32 0, .int .i64 2147483659, .int .u32 0, .int .u32 S.trapTo] 41) = XA at q0 q1 q2 q3 q4 q5 q6 bA hxb ⊢
  have HMA := Hid.in (HMI.out.below bA)
  have HTA : Hid (Turned (fun j => j = hq) X XA) := Hid.in ((Turned.of_only HOI.out).trans (Turned.of_below bA))
  clear bA HMI HOI c0 c4 hpX
  generalize XI.heap.size = xb at q0 q1 q2 q3 q4 q5 q6 hxb ⊢
  have k3 := HTA.out.cells HKR.out (fun q => HNE.out (Or.inr q))
  have t0 := k3.cell 0 (by decide)
  have t1 := k3.cell 1 (by decide)
  have t2 := k3.cell 2 (by decide)
  have t3 := k3.cell 3 (by decide)
  have t4 := k3.cell 4 (by decide)
  have t5 := k3.cell 5 (by decide)
  have t6 := k3.cell 6 (by decide)
  have g0 := k3.free 0
  have g1 := k3.free 1
  have g2 := k3.free 2
  have g3 := k3.free 3
  have g4 := k3.free 4
  have g5 := k3.free 5
  have g6 := k3.free 6
  have z3 := k3.here
  have HK3 := Hid.in k3
  clear k3
  go_wp2
  have c7 := set7_cells HK3.out (.int .u32 S.pc) (.int .u32 0) (.int .i64 0) (.int .u32 0) (.int .i64 2147483659) (.int .u32 0) (.int .u32 S.trapTo)
  have t7 : Turned (fun j => j = zb) XA (((((((XA.setCell ⟨zb, 0, none⟩ (.int .u32 S.pc)).setCell ⟨zb, 1, none⟩ (.int .u32 0)).setCell ⟨zb, 2, none⟩ (.int .i64 0)).setCell ⟨zb, 3, none⟩ (.int .u32 0)).setCell ⟨zb, 4, none⟩ (.int .i64 2147483659)).setCell ⟨zb, 5, none⟩ (.int .u32 0)).setCell ⟨zb, 6, none⟩ (.int .u32 S.trapTo)) := Turned.of_only (((((((Only.refl zb XA).set 0 _).set 1 _).set 2 _).set 3 _).set 4 _).set 5 _ |>.set 6 _)
  refine bodyPost_ret (results_ret2 Tryz.results9 _ _ zb _ _ _ _ _ _ _ _ rfl rfl (c7.cell 0 (by decide)) (c7.cell 1 (by decide)) (c7.cell 2 (by decide)) (c7.cell 3 (by decide)) (c7.cell 4 (by decide)) (c7.cell 5 (by decide)) (c7.cell 6 (by decide))) rfl ⟨rfl, HMA.out.other t7 ?_ ?_ ?_ ?_ ?_ ?_, ?_⟩
  · exact fun e => HNE.out (Or.inl (Or.inl e.symm))
  · exact fun e => HNE.out (Or.inr e.symm)
  · exact fun e => HCG.out e
  · exact fun e => HNE.out (Or.inl (Or.inr (Or.inl e)))
  · exact fun e => HNE.out (Or.inl (Or.inr (Or.inr e)))
  · exact HLO.out
  · have tA : Turned (fun j => j = hq) w XA := (Turned.of_below HBX.out).trans HTA.out
    exact ⟨t7.os.trans tA.os, t7.tape.trans tA.tape, t7.output.trans tA.output, Nat.le_trans tA.size t7.size, fun j hj hm => (t7.block j (Nat.lt_of_lt_of_le hj tA.size) (fun e => by rw [HZB.out] at hj; omega)).trans (tA.block j hj hm)⟩
end Go.Proofs.YtengofkjlgajlaaGreatDoor
