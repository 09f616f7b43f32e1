/-
  THE ANSWER's MACHINE: a step.
-/
import Derived.Test.YtengofkjlgajlaaGreatDoorMr5
import Derived.BigQuiet
import Derived.StillTailTactics
namespace Go.Proofs.YtengofkjlgajlaaGreatDoor
open Go Go.RowKit
set_option maxRecDepth 100000 in
set_option maxHeartbeats 2000000 in
theorem rstep_atomic {w : World} {p hq db len dc cb co n cp : Nat} {S : HS} {M : MS} {f : Nat → Int} (k : Rx w p hq db len dc S M) (hli : M.line = false) (hh : S.halted = false) (hF : S.Fit) (hco : S.code = .slice (some ⟨cb, co, none⟩) n cp) (hC : CodeAt w cb co n f) (hcd : cb ≠ db) (hch : cb ≠ hq) (hcp : cb ≠ p) (hn : n ≤ 4096) {op ad : Int} {sz da : Nat} (hq1 : S.askQ (S.fetchD decD n f) = qV op ad sz (da : Nat)) (hop : ¬ op = 0) (hcl : clR op = 6) (v : Nat) (held : Bool) (rs : Int) (mem' : Nat → Nat) (hv : U32 (v : Nat)) (hAT : ∀ x, Rx x p hq db len dc S M → Calls Tryz.prog 32 #[.slice (some ⟨db, 0, none⟩) len dc, .agg #[.int .i64 op, .int .u32 ad, .int .i64 sz, .int .u32 da], .int .u32 M.res] x fun e w' => e = .returned (.tuple #[.int .u32 (v : Nat), .bool held, .int .u32 rs]) ∧ Rx w' p hq db len dc S { M with mem := mem' } ∧ Turned (fun j => j = db) x w') : Calls Tryz.prog 10 #[.pointer (some ⟨p, 0, none⟩)] w fun e w' => e = .returned (.tuple #[S.doR decD n f (v : Nat) held, .bool true]) ∧ Rx w' p hq db len dc (S.doS decD n f (v : Nat) held) { M with mem := mem', res := rs } ∧ Turned (fun j => (j = p ∨ j = db) ∨ j = hq) w w' := by
  obtain ⟨X, hX, bX, sX, cR, kR⟩ := boxW7 w 44
  have kX := k.below bX
  have c0 : X.cell? ⟨p, 0, none⟩ = some (.pointer (some ⟨hq, 0, none⟩)) := kX.c.cell 0 (by decide)
  have c3 : X.cell? ⟨p, 3, none⟩ = some (.bool false) := by rw [← hli]; exact kX.c.cell 3 (by decide)
  have h36 : X.cell? ⟨hq, 36, none⟩ = some (.bool false) := by rw [← hh]; exact kX.h.cell 36 (by decide)
  have hp := kX.c.here
  have hhq := kX.h.here
  have HKR := Hid.in kR
  have HBX := Hid.in bX
  obtain ⟨zb, hzb⟩ : ∃ zb, w.heap.size = zb := ⟨_, rfl⟩
  have HNE : Hid (p ≠ zb ∧ hq ≠ zb ∧ db ≠ zb) := by
    obtain ⟨a1, a2, a3⟩ := k.at
    exact ⟨by omega, by omega, by omega⟩
  have HCP := Hid.in hcp
  have HCZ : Hid (cb ≠ zb) := fun e => by have := hC.here; omega
  have HZB := Hid.in hzb
  have HK := Hid.in kX
  have HCX := Hid.in (hC.below bX)
  rw [hzb] at HKR sX
  have HA : Hid (∀ x, Rx x p hq db len dc S M → CodeAt x cb co n f → Calls Tryz.prog 21 #[.pointer (some ⟨hq, 0, none⟩)] x fun e w' => e = .returned (.agg #[.int .i64 op, .int .u32 ad, .int .i64 sz, .int .u32 da]) ∧ Below x.heap.size x w') := by
    intro x kx hc
    have := ask_any decOk hq S cb co n cp f x kx.h hF.ok.pc hco hc hn hF.ok
    rw [hq1] at this
    exact this
  have HD : Hid (∀ x M' (v : Int) (held : Bool), U32 v → Rx x p hq db len dc S M' → CodeAt x cb co n f → Calls Tryz.prog 25 #[.pointer (some ⟨hq, 0, none⟩), .int .u32 v, .bool held] x fun e w' => e = .returned (S.doR decD n f v held) ∧ Rx w' p hq db len dc (S.doS decD n f v held) M' ∧ Only hq x w') := fun x M' v held hv kx hc => (do_any decOk hq S cb co n cp f x kx.h hco hc hn v held hF.ok hv).mono fun e w' h => ⟨h.1, kx.hart h.2.2 h.2.1, h.2.2⟩
  have HTO : Hid (∀ v held, Told1 S (S.doS decD n f v held) (S.doR decD n f v held)) := fun v held => told_do hF n f hn hC.word v held hh
  have HAT := Hid.in hAT
  have HUV := Hid.in hv
  obtain ⟨c, hc⟩ : ∃ c, clR op = c := ⟨_, rfl⟩
  have HCL : Hid (∀ x, Calls Tryz.prog 29 #[.int .i64 op] x fun e w' => e = .returned (.int .i64 c) ∧ Below x.heap.size x w') := fun x => by
    have := clsR_any op x
    rw [hc] at this
    exact this
  rw [hc] at hcl
  subst hcl
  have HCD : Hid (cb ≠ db ∧ cb ≠ hq) := ⟨hcd, hch⟩
  clear hAT hv hc
  clear hcp k kX kR hh hli hF hco hC hn hq1 hcd hch
  go_enter Tryz.func10, Tryz.ntmps10
  go_upto_region 1 with fail
  try rw [hX, hzb]
  clear hX hzb bX
  go_upto_region 7 with fail
  have HMA := HK
  have HTA : Hid (Turned (fun j => (j = p ∨ j = db) ∨ j = hq) X X) := Hid.in (Turned.of_below (Below.refl _ _))
  have HKA := HKR
  have HCA := HCX
  obtain ⟨XA, hXA⟩ : ∃ XA, X = XA := ⟨_, rfl⟩
  rw [hXA] at c0 hp ⊢
  have HMA : Hid (Rx XA p hq db len dc S M) := by rw [← hXA]; exact HK
  have HTA : Hid (Turned (fun j => (j = p ∨ j = db) ∨ j = hq) X XA) := by rw [← hXA]; exact Turned.of_below (Below.refl _ _)
  have HKA : Hid (CellsAt 7 XA zb cR) := by rw [← hXA]; exact HKR
  have HCA : Hid (CodeAt XA cb co n f) := by rw [← hXA]; exact HCX
  clear hXA c3 h36 hhq
  go_upto_region 8 with (go_at_call 21; refine (HA.out _ HMA.out HCA.out).mono ?_; rintro e X1 ⟨rfl, hb⟩; have HB1 := Hid.in hb; clear hb)
  have q0 : (X1.alloc (.cells #[.int .i64 op, .int .u32 ad, .int .i64 sz, .int .u32 da] 64)).cell? ⟨X1.heap.size, 0, none⟩ = some (.int .i64 op) := by rw [World.cell?_alloc_new]; rfl
  have q1 : (X1.alloc (.cells #[.int .i64 op, .int .u32 ad, .int .i64 sz, .int .u32 da] 64)).cell? ⟨X1.heap.size, 1, none⟩ = some (.int .u32 ad) := by rw [World.cell?_alloc_new]; rfl
  have q2 : (X1.alloc (.cells #[.int .i64 op, .int .u32 ad, .int .i64 sz, .int .u32 da] 64)).cell? ⟨X1.heap.size, 2, none⟩ = some (.int .i64 sz) := by rw [World.cell?_alloc_new]; rfl
  have q3 : (X1.alloc (.cells #[.int .i64 op, .int .u32 ad, .int .i64 sz, .int .u32 da] 64)).cell? ⟨X1.heap.size, 3, none⟩ = some (.int .u32 da) := by rw [World.cell?_alloc_new]; rfl
  have bQ : Below X1.heap.size X1 (X1.alloc (.cells #[.int .i64 op, .int .u32 ad, .int .i64 sz, .int .u32 da] 64)) := (Below.refl _ _).alloc (Nat.le_refl _) _
  have hqb : X1.heap.size < (X1.alloc (.cells #[.int .i64 op, .int .u32 ad, .int .i64 sz, .int .u32 da] 64)).heap.size := by simp
  generalize X1.alloc (.cells #[.int .i64 op, .int .u32 ad, .int .i64 sz, .int .u32 da] 64) = X2 at q0 q1 q2 q3 bQ hqb ⊢
  have HB2 := Hid.in (below2 HB1.out bQ)
  clear bQ
  have HQD : Hid (db ≠ X1.heap.size ∧ p ≠ X1.heap.size) := by
    have h1 := HMA.out.d.here
    have h3 := HMA.out.c.here
    have h2 := HB1.out.size
    exact ⟨by omega, by omega⟩
  generalize X1.heap.size = qb at q0 q1 q2 q3 hqb HQD ⊢
  clear c0 hp
  go_upto_region 12 with (go_at_call 29; refine (HCL.out _).mono ?_; rintro e X3 ⟨rfl, hb⟩; have HB3 := Hid.in hb; clear hb)
  have y0 := (HB3.out.cell (p := ⟨qb, 0, none⟩) hqb).trans q0
  have y1 := (HB3.out.cell (p := ⟨qb, 1, none⟩) hqb).trans q1
  have y2 := (HB3.out.cell (p := ⟨qb, 2, none⟩) hqb).trans q2
  have y3 := (HB3.out.cell (p := ⟨qb, 3, none⟩) hqb).trans q3
  have hqb3 := Nat.lt_of_lt_of_le hqb HB3.out.size
  have HB4 := Hid.in (below2 HB2.out HB3.out)
  have HM3 := Hid.in (HMA.out.below HB4.out)
  have c0 : X3.cell? ⟨p, 0, none⟩ = some (.pointer (some ⟨hq, 0, none⟩)) := HM3.out.c.cell 0 (by decide)
  have c1 : X3.cell? ⟨p, 1, none⟩ = some (.slice (some ⟨db, 0, none⟩) len dc) := HM3.out.c.cell 1 (by decide)
  have hp := HM3.out.c.here
  have HT3 : Hid (Turned (fun j => (j = p ∨ j = db) ∨ j = hq) w X3) := Hid.in (((Turned.of_below HBX.out).trans HTA.out).trans (Turned.of_below HB4.out))
  have HK3 := Hid.in (HKA.out.below HB4.out)
  have HC3 := Hid.in (HCA.out.below HB4.out)
  clear q0 q1 q2 q3 hqb
  go_upto_region 11 with fail
  have bD : Below X3.heap.size X3 X3.drew := ⟨rfl, rfl, rfl, Nat.le_refl _, fun _ _ => rfl⟩
  have HM4 := Hid.in (HM3.out.below bD)
  have HT4 : Hid (Turned (fun j => (j = p ∨ j = db) ∨ j = hq) w X3.drew) := Hid.in (HT3.out.trans (Turned.of_below bD))
  have HK4 := Hid.in (HK3.out.below bD)
  have HC4 := Hid.in (HC3.out.below bD)
  clear bD
  have c4 : X3.cell? ⟨p, 4, none⟩ = some (.int .u32 M.res) := HM3.out.c.cell 4 (by decide)
  have hf4 := HM3.out.c.free 4
  have hpq := HQD.out.2
  have hqp := hpq.symm
  go_region_with ((go_at_call 32; refine (HAT.out _ HM4.out).mono ?_; rintro e XW ⟨rfl, hMW, hOW⟩; have HMW := Hid.in (hMW.res rs); have HTW : Hid (Turned (fun j => (j = p ∨ j = db) ∨ j = hq) w (XW.setCell ⟨p, 4, none⟩ (.int .u32 rs))) := Hid.in ((HT4.out.trans (hOW.mono (fun j e => Or.inl (Or.inr e)))).set (Or.inl (Or.inl rfl)) 4 _); have HKW := Hid.in ((Turned.of_only ((Only.refl p XW).set 4 (.int .u32 rs))).cells (hOW.cells HK4.out (fun q => HNE.out.2.2 q.symm)) (fun q => HNE.out.1 q.symm)); have HCW := Hid.in ((HC4.out.turned hOW HCD.out.1).turned (Turned.of_only ((Only.refl p XW).set 4 (.int .u32 rs))) HCP.out); have d0 : XW.cell? ⟨p, 0, none⟩ = some (.pointer (some ⟨hq, 0, none⟩)) := hMW.c.cell 0 (by decide); have d4 : XW.cell? ⟨p, 4, none⟩ = some (.int .u32 M.res) := hMW.c.cell 4 (by decide); have df := hMW.c.free 4; have dp := hMW.c.here; have d0s : (XW.setCell ⟨p, 4, none⟩ (.int .u32 rs)).cell? ⟨p, 0, none⟩ = some (.pointer (some ⟨hq, 0, none⟩)) := HMW.out.c.cell 0 (by decide); have eb : XW.heap[qb]? = X3.heap[qb]? := hOW.block qb hqb3 (fun e => HQD.out.1 e.symm); have b0 : XW.cell? ⟨qb, 0, none⟩ = some (.int .i64 op) := (by simp only [World.cell?, eb]; simpa only [World.cell?] using y0); clear hMW hOW eb))
  all_goals
    (
      go_upto_region 20 with (first
        | (go_at_call 25; refine (HD.out _ _ _ _ HUV.out HMW.out HCW.out).mono ?_; rintro e X5 ⟨rfl, hM5, hO5⟩; have HM5 := Hid.in hM5; have HT5 : Hid (Turned (fun j => (j = p ∨ j = db) ∨ j = hq) w X5) := Hid.in (HTW.out.trans ((Turned.of_only hO5).mono (fun j e => Or.inr e))); have HK5 := Hid.in ((Turned.of_only hO5).cells HKW.out (fun q => HNE.out.2.1 q.symm)); clear hM5 hO5; obtain ⟨word, val, cause, tval, r, hR, -⟩ := HTO.out (v : Nat) held))
      have q0 : (X5.alloc (.cells #[.int .u32 S.pc, .int .u32 word, .int .i64 r, .int .u32 val, .int .i64 cause, .int .u32 tval, .int .u32 (S.doS decD n f (v : Nat) held).pc] 44)).cell? ⟨X5.heap.size, 0, none⟩ = some (.int .u32 S.pc) := by rw [World.cell?_alloc_new]; rfl
      have q1 : (X5.alloc (.cells #[.int .u32 S.pc, .int .u32 word, .int .i64 r, .int .u32 val, .int .i64 cause, .int .u32 tval, .int .u32 (S.doS decD n f (v : Nat) held).pc] 44)).cell? ⟨X5.heap.size, 1, none⟩ = some (.int .u32 word) := by rw [World.cell?_alloc_new]; rfl
      have q2 : (X5.alloc (.cells #[.int .u32 S.pc, .int .u32 word, .int .i64 r, .int .u32 val, .int .i64 cause, .int .u32 tval, .int .u32 (S.doS decD n f (v : Nat) held).pc] 44)).cell? ⟨X5.heap.size, 2, none⟩ = some (.int .i64 r) := by rw [World.cell?_alloc_new]; rfl
      have q3 : (X5.alloc (.cells #[.int .u32 S.pc, .int .u32 word, .int .i64 r, .int .u32 val, .int .i64 cause, .int .u32 tval, .int .u32 (S.doS decD n f (v : Nat) held).pc] 44)).cell? ⟨X5.heap.size, 3, none⟩ = some (.int .u32 val) := by rw [World.cell?_alloc_new]; rfl
      have q4 : (X5.alloc (.cells #[.int .u32 S.pc, .int .u32 word, .int .i64 r, .int .u32 val, .int .i64 cause, .int .u32 tval, .int .u32 (S.doS decD n f (v : Nat) held).pc] 44)).cell? ⟨X5.heap.size, 4, none⟩ = some (.int .i64 cause) := by rw [World.cell?_alloc_new]; rfl
      have q5 : (X5.alloc (.cells #[.int .u32 S.pc, .int .u32 word, .int .i64 r, .int .u32 val, .int .i64 cause, .int .u32 tval, .int .u32 (S.doS decD n f (v : Nat) held).pc] 44)).cell? ⟨X5.heap.size, 5, none⟩ = some (.int .u32 tval) := by rw [World.cell?_alloc_new]; rfl
      have q6 : (X5.alloc (.cells #[.int .u32 S.pc, .int .u32 word, .int .i64 r, .int .u32 val, .int .i64 cause, .int .u32 tval, .int .u32 (S.doS decD n f (v : Nat) held).pc] 44)).cell? ⟨X5.heap.size, 6, none⟩ = some (.int .u32 (S.doS decD n f (v : Nat) held).pc) := by rw [World.cell?_alloc_new]; rfl
      have bA : Below X5.heap.size X5 (X5.alloc (.cells #[.int .u32 S.pc, .int .u32 word, .int .i64 r, .int .u32 val, .int .i64 cause, .int .u32 tval, .int .u32 (S.doS decD n f (v : Nat) held).pc] 44)) := (Below.refl _ _).alloc (Nat.le_refl _) _
      have hxb : X5.heap.size < (X5.alloc (.cells #[.int .u32 S.pc, .int .u32 word, .int .i64 r, .int .u32 val, .int .i64 cause, .int .u32 tval, .int .u32 (S.doS decD n f (v : Nat) held).pc] 44)).heap.size := by simp
      generalize X5.alloc (.cells #[.int .u32 S.pc, .int .u32 word, .int .i64 r, .int .u32 val, .int .i64 cause, .int .u32 tval, .int .u32 (S.doS decD n f (v : Nat) held).pc] 44) = X6 at q0 q1 q2 q3 q4 q5 q6 bA hxb ⊢
      have k3 := HK5.out.below bA
      have HBA := Hid.in bA
      clear bA
      generalize X5.heap.size = xb at q0 q1 q2 q3 q4 q5 q6 hxb ⊢
      have t0 := k3.cell 0 (by decide)
      have t1 := k3.cell 1 (by decide)
      have t2 := k3.cell 2 (by decide)
      have t3 := k3.cell 3 (by decide)
      have t4 := k3.cell 4 (by decide)
      have t5 := k3.cell 5 (by decide)
      have t6 := k3.cell 6 (by decide)
      have g0 := k3.free 0
      have g1 := k3.free 1
      have g2 := k3.free 2
      have g3 := k3.free 3
      have g4 := k3.free 4
      have g5 := k3.free 5
      have g6 := k3.free 6
      have z3 := k3.here
      have HK6 := Hid.in k3
      clear k3
      go_wp2
      have c7 := set7_cells HK6.out (.int .u32 S.pc) (.int .u32 word) (.int .i64 r) (.int .u32 val) (.int .i64 cause) (.int .u32 tval) (.int .u32 (S.doS decD n f (v : Nat) held).pc)
      have hf := rx_fin (HM5.out.below HBA.out) HNE.out (HT5.out.trans (Turned.of_below HBA.out)) HZB.out (.int .u32 S.pc) (.int .u32 word) (.int .i64 r) (.int .u32 val) (.int .i64 cause) (.int .u32 tval) (.int .u32 (S.doS decD n f (v : Nat) held).pc)
      exact bodyPost_ret (results_retR Tryz.results10 _ _ zb _ _ _ _ _ _ _ _ rfl rfl (c7.cell 0 (by decide)) (c7.cell 1 (by decide)) (c7.cell 2 (by decide)) (c7.cell 3 (by decide)) (c7.cell 4 (by decide)) (c7.cell 5 (by decide)) (c7.cell 6 (by decide))) rfl ⟨(by rw [hR]; rfl), hf⟩
    )
set_option maxRecDepth 100000 in
set_option maxHeartbeats 2000000 in
theorem rstep_atomic_on {w : World} {p hq db len dc cb co n cp : Nat} {S : HS} {M : MS} {f : Nat → Int} (k : Rx w p hq db len dc S M) (hli : M.line = true) (hmi : S.mayI = false) (hh : S.halted = false) (hF : S.Fit) (hco : S.code = .slice (some ⟨cb, co, none⟩) n cp) (hC : CodeAt w cb co n f) (hcd : cb ≠ db) (hch : cb ≠ hq) (hcp : cb ≠ p) (hn : n ≤ 4096) {op ad : Int} {sz da : Nat} (hq1 : S.askQ (S.fetchD decD n f) = qV op ad sz (da : Nat)) (hop : ¬ op = 0) (hcl : clR op = 6) (v : Nat) (held : Bool) (rs : Int) (mem' : Nat → Nat) (hv : U32 (v : Nat)) (hAT : ∀ x, Rx x p hq db len dc S M → Calls Tryz.prog 32 #[.slice (some ⟨db, 0, none⟩) len dc, .agg #[.int .i64 op, .int .u32 ad, .int .i64 sz, .int .u32 da], .int .u32 M.res] x fun e w' => e = .returned (.tuple #[.int .u32 (v : Nat), .bool held, .int .u32 rs]) ∧ Rx w' p hq db len dc S { M with mem := mem' } ∧ Turned (fun j => j = db) x w') : Calls Tryz.prog 10 #[.pointer (some ⟨p, 0, none⟩)] w fun e w' => e = .returned (.tuple #[S.doR decD n f (v : Nat) held, .bool true]) ∧ Rx w' p hq db len dc (S.doS decD n f (v : Nat) held) { M with mem := mem', res := rs } ∧ Turned (fun j => (j = p ∨ j = db) ∨ j = hq) w w' := by
  obtain ⟨X, hX, bX, sX, cR, kR⟩ := boxW7 w 44
  have kX := k.below bX
  have c0 : X.cell? ⟨p, 0, none⟩ = some (.pointer (some ⟨hq, 0, none⟩)) := kX.c.cell 0 (by decide)
  have c3 : X.cell? ⟨p, 3, none⟩ = some (.bool true) := by rw [← hli]; exact kX.c.cell 3 (by decide)
  have h36 : X.cell? ⟨hq, 36, none⟩ = some (.bool false) := by rw [← hh]; exact kX.h.cell 36 (by decide)
  have hp := kX.c.here
  have hhq := kX.h.here
  have HKR := Hid.in kR
  have HBX := Hid.in bX
  obtain ⟨zb, hzb⟩ : ∃ zb, w.heap.size = zb := ⟨_, rfl⟩
  have HNE : Hid (p ≠ zb ∧ hq ≠ zb ∧ db ≠ zb) := by
    obtain ⟨a1, a2, a3⟩ := k.at
    exact ⟨by omega, by omega, by omega⟩
  have HCP := Hid.in hcp
  have HCZ : Hid (cb ≠ zb) := fun e => by have := hC.here; omega
  have HZB := Hid.in hzb
  have HK := Hid.in kX
  have HCX := Hid.in (hC.below bX)
  rw [hzb] at HKR sX
  have HA : Hid (∀ x, Rx x p hq db len dc S M → CodeAt x cb co n f → Calls Tryz.prog 21 #[.pointer (some ⟨hq, 0, none⟩)] x fun e w' => e = .returned (.agg #[.int .i64 op, .int .u32 ad, .int .i64 sz, .int .u32 da]) ∧ Below x.heap.size x w') := by
    intro x kx hc
    have := ask_any decOk hq S cb co n cp f x kx.h hF.ok.pc hco hc hn hF.ok
    rw [hq1] at this
    exact this
  have HD : Hid (∀ x M' (v : Int) (held : Bool), U32 v → Rx x p hq db len dc S M' → CodeAt x cb co n f → Calls Tryz.prog 25 #[.pointer (some ⟨hq, 0, none⟩), .int .u32 v, .bool held] x fun e w' => e = .returned (S.doR decD n f v held) ∧ Rx w' p hq db len dc (S.doS decD n f v held) M' ∧ Only hq x w') := fun x M' v held hv kx hc => (do_any decOk hq S cb co n cp f x kx.h hco hc hn v held hF.ok hv).mono fun e w' h => ⟨h.1, kx.hart h.2.2 h.2.1, h.2.2⟩
  have HTO : Hid (∀ v held, Told1 S (S.doS decD n f v held) (S.doR decD n f v held)) := fun v held => told_do hF n f hn hC.word v held hh
  have HAT := Hid.in hAT
  have HUV := Hid.in hv
  obtain ⟨c, hc⟩ : ∃ c, clR op = c := ⟨_, rfl⟩
  have HCL : Hid (∀ x, Calls Tryz.prog 29 #[.int .i64 op] x fun e w' => e = .returned (.int .i64 c) ∧ Below x.heap.size x w') := fun x => by
    have := clsR_any op x
    rw [hc] at this
    exact this
  rw [hc] at hcl
  subst hcl
  have HCD : Hid (cb ≠ db ∧ cb ≠ hq) := ⟨hcd, hch⟩
  clear hAT hv hc
  have HI : Hid (Calls Tryz.prog 23 #[.pointer (some ⟨hq, 0, none⟩)] X fun e w' => e = .returned (.tuple #[zeroR, .bool false]) ∧ Rx w' p hq db len dc S M ∧ Only hq X w') := by
    have := interrupt_any hq S X kX.h
    rw [hmi] at this
    simp only [Bool.false_eq_true, if_false] at this
    exact this.mono fun e w' h => ⟨h.1, kX.hart h.2.2 h.2.1, h.2.2⟩
  unfold zeroR at HI
  clear hcp k kX kR hh hli hF hco hC hn hq1 hcd hch hmi
  go_enter Tryz.func10, Tryz.ntmps10
  go_upto_region 1 with fail
  try rw [hX, hzb]
  clear hX hzb bX
  go_upto_region 7 with (go_at_call 23; refine HI.out.mono ?_; rintro e XI ⟨rfl, hMI, hOI⟩; have HMI := Hid.in hMI; have HOI := Hid.in hOI; clear hMI hOI)
  obtain ⟨XA, hXA⟩ : ∃ XA, XI.alloc (.cells #[.int .u32 0, .int .u32 0, .int .i64 0, .int .u32 0, .int .i64 0, .int .u32 0, .int .u32 0] 44) = XA := ⟨_, rfl⟩
  have bA : Below XI.heap.size XI XA := by rw [← hXA]; exact (Below.refl _ _).alloc (Nat.le_refl _) _
  rw [hXA]
  clear hXA
  have HMA := Hid.in (HMI.out.below bA)
  have HTA : Hid (Turned (fun j => (j = p ∨ j = db) ∨ j = hq) X XA) := Hid.in (((Turned.of_only HOI.out).mono (fun j e => Or.inr e)).trans (Turned.of_below bA))
  have HKA := Hid.in (HTA.out.cells HKR.out (by rintro ((q | q) | q); exact HNE.out.1 q.symm; exact HNE.out.2.2 q.symm; exact HNE.out.2.1 q.symm))
  have HCA := Hid.in (HCX.out.turned HTA.out (by rintro ((q | q) | q); exact HCP.out q; exact HCD.out.1 q; exact HCD.out.2 q))
  clear c0 c3 h36 hp hhq bA HMI HOI
  have c0 : XA.cell? ⟨p, 0, none⟩ = some (.pointer (some ⟨hq, 0, none⟩)) := HMA.out.c.cell 0 (by decide)
  have hp := HMA.out.c.here
  go_upto_region 8 with (go_at_call 21; refine (HA.out _ HMA.out HCA.out).mono ?_; rintro e X1 ⟨rfl, hb⟩; have HB1 := Hid.in hb; clear hb)
  have q0 : (X1.alloc (.cells #[.int .i64 op, .int .u32 ad, .int .i64 sz, .int .u32 da] 64)).cell? ⟨X1.heap.size, 0, none⟩ = some (.int .i64 op) := by rw [World.cell?_alloc_new]; rfl
  have q1 : (X1.alloc (.cells #[.int .i64 op, .int .u32 ad, .int .i64 sz, .int .u32 da] 64)).cell? ⟨X1.heap.size, 1, none⟩ = some (.int .u32 ad) := by rw [World.cell?_alloc_new]; rfl
  have q2 : (X1.alloc (.cells #[.int .i64 op, .int .u32 ad, .int .i64 sz, .int .u32 da] 64)).cell? ⟨X1.heap.size, 2, none⟩ = some (.int .i64 sz) := by rw [World.cell?_alloc_new]; rfl
  have q3 : (X1.alloc (.cells #[.int .i64 op, .int .u32 ad, .int .i64 sz, .int .u32 da] 64)).cell? ⟨X1.heap.size, 3, none⟩ = some (.int .u32 da) := by rw [World.cell?_alloc_new]; rfl
  have bQ : Below X1.heap.size X1 (X1.alloc (.cells #[.int .i64 op, .int .u32 ad, .int .i64 sz, .int .u32 da] 64)) := (Below.refl _ _).alloc (Nat.le_refl _) _
  have hqb : X1.heap.size < (X1.alloc (.cells #[.int .i64 op, .int .u32 ad, .int .i64 sz, .int .u32 da] 64)).heap.size := by simp
  generalize X1.alloc (.cells #[.int .i64 op, .int .u32 ad, .int .i64 sz, .int .u32 da] 64) = X2 at q0 q1 q2 q3 bQ hqb ⊢
  have HB2 := Hid.in (below2 HB1.out bQ)
  clear bQ
  have HQD : Hid (db ≠ X1.heap.size ∧ p ≠ X1.heap.size) := by
    have h1 := HMA.out.d.here
    have h3 := HMA.out.c.here
    have h2 := HB1.out.size
    exact ⟨by omega, by omega⟩
  generalize X1.heap.size = qb at q0 q1 q2 q3 hqb HQD ⊢
  clear c0 hp
  go_upto_region 12 with (go_at_call 29; refine (HCL.out _).mono ?_; rintro e X3 ⟨rfl, hb⟩; have HB3 := Hid.in hb; clear hb)
  have y0 := (HB3.out.cell (p := ⟨qb, 0, none⟩) hqb).trans q0
  have y1 := (HB3.out.cell (p := ⟨qb, 1, none⟩) hqb).trans q1
  have y2 := (HB3.out.cell (p := ⟨qb, 2, none⟩) hqb).trans q2
  have y3 := (HB3.out.cell (p := ⟨qb, 3, none⟩) hqb).trans q3
  have hqb3 := Nat.lt_of_lt_of_le hqb HB3.out.size
  have HB4 := Hid.in (below2 HB2.out HB3.out)
  have HM3 := Hid.in (HMA.out.below HB4.out)
  have c0 : X3.cell? ⟨p, 0, none⟩ = some (.pointer (some ⟨hq, 0, none⟩)) := HM3.out.c.cell 0 (by decide)
  have c1 : X3.cell? ⟨p, 1, none⟩ = some (.slice (some ⟨db, 0, none⟩) len dc) := HM3.out.c.cell 1 (by decide)
  have hp := HM3.out.c.here
  have HT3 : Hid (Turned (fun j => (j = p ∨ j = db) ∨ j = hq) w X3) := Hid.in (((Turned.of_below HBX.out).trans HTA.out).trans (Turned.of_below HB4.out))
  have HK3 := Hid.in (HKA.out.below HB4.out)
  have HC3 := Hid.in (HCA.out.below HB4.out)
  clear q0 q1 q2 q3 hqb
  go_upto_region 11 with fail
  have bD : Below X3.heap.size X3 X3.drew := ⟨rfl, rfl, rfl, Nat.le_refl _, fun _ _ => rfl⟩
  have HM4 := Hid.in (HM3.out.below bD)
  have HT4 : Hid (Turned (fun j => (j = p ∨ j = db) ∨ j = hq) w X3.drew) := Hid.in (HT3.out.trans (Turned.of_below bD))
  have HK4 := Hid.in (HK3.out.below bD)
  have HC4 := Hid.in (HC3.out.below bD)
  clear bD
  have c4 : X3.cell? ⟨p, 4, none⟩ = some (.int .u32 M.res) := HM3.out.c.cell 4 (by decide)
  have hf4 := HM3.out.c.free 4
  have hpq := HQD.out.2
  have hqp := hpq.symm
  go_region_with ((go_at_call 32; refine (HAT.out _ HM4.out).mono ?_; rintro e XW ⟨rfl, hMW, hOW⟩; have HMW := Hid.in (hMW.res rs); have HTW : Hid (Turned (fun j => (j = p ∨ j = db) ∨ j = hq) w (XW.setCell ⟨p, 4, none⟩ (.int .u32 rs))) := Hid.in ((HT4.out.trans (hOW.mono (fun j e => Or.inl (Or.inr e)))).set (Or.inl (Or.inl rfl)) 4 _); have HKW := Hid.in ((Turned.of_only ((Only.refl p XW).set 4 (.int .u32 rs))).cells (hOW.cells HK4.out (fun q => HNE.out.2.2 q.symm)) (fun q => HNE.out.1 q.symm)); have HCW := Hid.in ((HC4.out.turned hOW HCD.out.1).turned (Turned.of_only ((Only.refl p XW).set 4 (.int .u32 rs))) HCP.out); have d0 : XW.cell? ⟨p, 0, none⟩ = some (.pointer (some ⟨hq, 0, none⟩)) := hMW.c.cell 0 (by decide); have d4 : XW.cell? ⟨p, 4, none⟩ = some (.int .u32 M.res) := hMW.c.cell 4 (by decide); have df := hMW.c.free 4; have dp := hMW.c.here; have d0s : (XW.setCell ⟨p, 4, none⟩ (.int .u32 rs)).cell? ⟨p, 0, none⟩ = some (.pointer (some ⟨hq, 0, none⟩)) := HMW.out.c.cell 0 (by decide); have eb : XW.heap[qb]? = X3.heap[qb]? := hOW.block qb hqb3 (fun e => HQD.out.1 e.symm); have b0 : XW.cell? ⟨qb, 0, none⟩ = some (.int .i64 op) := (by simp only [World.cell?, eb]; simpa only [World.cell?] using y0); clear hMW hOW eb))
  all_goals
    (
      go_upto_region 20 with (first
        | (go_at_call 25; refine (HD.out _ _ _ _ HUV.out HMW.out HCW.out).mono ?_; rintro e X5 ⟨rfl, hM5, hO5⟩; have HM5 := Hid.in hM5; have HT5 : Hid (Turned (fun j => (j = p ∨ j = db) ∨ j = hq) w X5) := Hid.in (HTW.out.trans ((Turned.of_only hO5).mono (fun j e => Or.inr e))); have HK5 := Hid.in ((Turned.of_only hO5).cells HKW.out (fun q => HNE.out.2.1 q.symm)); clear hM5 hO5; obtain ⟨word, val, cause, tval, r, hR, -⟩ := HTO.out (v : Nat) held))
      have q0 : (X5.alloc (.cells #[.int .u32 S.pc, .int .u32 word, .int .i64 r, .int .u32 val, .int .i64 cause, .int .u32 tval, .int .u32 (S.doS decD n f (v : Nat) held).pc] 44)).cell? ⟨X5.heap.size, 0, none⟩ = some (.int .u32 S.pc) := by rw [World.cell?_alloc_new]; rfl
      have q1 : (X5.alloc (.cells #[.int .u32 S.pc, .int .u32 word, .int .i64 r, .int .u32 val, .int .i64 cause, .int .u32 tval, .int .u32 (S.doS decD n f (v : Nat) held).pc] 44)).cell? ⟨X5.heap.size, 1, none⟩ = some (.int .u32 word) := by rw [World.cell?_alloc_new]; rfl
      have q2 : (X5.alloc (.cells #[.int .u32 S.pc, .int .u32 word, .int .i64 r, .int .u32 val, .int .i64 cause, .int .u32 tval, .int .u32 (S.doS decD n f (v : Nat) held).pc] 44)).cell? ⟨X5.heap.size, 2, none⟩ = some (.int .i64 r) := by rw [World.cell?_alloc_new]; rfl
      have q3 : (X5.alloc (.cells #[.int .u32 S.pc, .int .u32 word, .int .i64 r, .int .u32 val, .int .i64 cause, .int .u32 tval, .int .u32 (S.doS decD n f (v : Nat) held).pc] 44)).cell? ⟨X5.heap.size, 3, none⟩ = some (.int .u32 val) := by rw [World.cell?_alloc_new]; rfl
      have q4 : (X5.alloc (.cells #[.int .u32 S.pc, .int .u32 word, .int .i64 r, .int .u32 val, .int .i64 cause, .int .u32 tval, .int .u32 (S.doS decD n f (v : Nat) held).pc] 44)).cell? ⟨X5.heap.size, 4, none⟩ = some (.int .i64 cause) := by rw [World.cell?_alloc_new]; rfl
      have q5 : (X5.alloc (.cells #[.int .u32 S.pc, .int .u32 word, .int .i64 r, .int .u32 val, .int .i64 cause, .int .u32 tval, .int .u32 (S.doS decD n f (v : Nat) held).pc] 44)).cell? ⟨X5.heap.size, 5, none⟩ = some (.int .u32 tval) := by rw [World.cell?_alloc_new]; rfl
      have q6 : (X5.alloc (.cells #[.int .u32 S.pc, .int .u32 word, .int .i64 r, .int .u32 val, .int .i64 cause, .int .u32 tval, .int .u32 (S.doS decD n f (v : Nat) held).pc] 44)).cell? ⟨X5.heap.size, 6, none⟩ = some (.int .u32 (S.doS decD n f (v : Nat) held).pc) := by rw [World.cell?_alloc_new]; rfl
      have bA : Below X5.heap.size X5 (X5.alloc (.cells #[.int .u32 S.pc, .int .u32 word, .int .i64 r, .int .u32 val, .int .i64 cause, .int .u32 tval, .int .u32 (S.doS decD n f (v : Nat) held).pc] 44)) := (Below.refl _ _).alloc (Nat.le_refl _) _
      have hxb : X5.heap.size < (X5.alloc (.cells #[.int .u32 S.pc, .int .u32 word, .int .i64 r, .int .u32 val, .int .i64 cause, .int .u32 tval, .int .u32 (S.doS decD n f (v : Nat) held).pc] 44)).heap.size := by simp
      generalize X5.alloc (.cells #[.int .u32 S.pc, .int .u32 word, .int .i64 r, .int .u32 val, .int .i64 cause, .int .u32 tval, .int .u32 (S.doS decD n f (v : Nat) held).pc] 44) = X6 at q0 q1 q2 q3 q4 q5 q6 bA hxb ⊢
      have k3 := HK5.out.below bA
      have HBA := Hid.in bA
      clear bA
      generalize X5.heap.size = xb at q0 q1 q2 q3 q4 q5 q6 hxb ⊢
      have t0 := k3.cell 0 (by decide)
      have t1 := k3.cell 1 (by decide)
      have t2 := k3.cell 2 (by decide)
      have t3 := k3.cell 3 (by decide)
      have t4 := k3.cell 4 (by decide)
      have t5 := k3.cell 5 (by decide)
      have t6 := k3.cell 6 (by decide)
      have g0 := k3.free 0
      have g1 := k3.free 1
      have g2 := k3.free 2
      have g3 := k3.free 3
      have g4 := k3.free 4
      have g5 := k3.free 5
      have g6 := k3.free 6
      have z3 := k3.here
      have HK6 := Hid.in k3
      clear k3
      go_wp2
      have c7 := set7_cells HK6.out (.int .u32 S.pc) (.int .u32 word) (.int .i64 r) (.int .u32 val) (.int .i64 cause) (.int .u32 tval) (.int .u32 (S.doS decD n f (v : Nat) held).pc)
      have hf := rx_fin (HM5.out.below HBA.out) HNE.out (HT5.out.trans (Turned.of_below HBA.out)) HZB.out (.int .u32 S.pc) (.int .u32 word) (.int .i64 r) (.int .u32 val) (.int .i64 cause) (.int .u32 tval) (.int .u32 (S.doS decD n f (v : Nat) held).pc)
      exact bodyPost_ret (results_retR Tryz.results10 _ _ zb _ _ _ _ _ _ _ _ rfl rfl (c7.cell 0 (by decide)) (c7.cell 1 (by decide)) (c7.cell 2 (by decide)) (c7.cell 3 (by decide)) (c7.cell 4 (by decide)) (c7.cell 5 (by decide)) (c7.cell 6 (by decide))) rfl ⟨(by rw [hR]; rfl), hf⟩
    )
end Go.Proofs.YtengofkjlgajlaaGreatDoor
