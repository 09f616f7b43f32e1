/-
  THE ANSWER's MACHINE: a step that is none; a step that is an interrupt.
-/
import Derived.Test.YtengofkjlgajlaaGreatDoorGn2
import Derived.Test.YtengofkjlgajlaaGreatDoorGm2
namespace Go.Proofs.YtengofkjlgajlaaGreatDoor
open Go Go.RowKit
theorem results_retR {fn : Func} {p u : Tmp} (h : fn.results = #[.cell p 44, .tmp u]) (tmps : Array Value) (w : World) (g : Nat) (x0 x1 x2 x3 x4 x5 x6 t : Value) (hp : tmps.getD p undef = .pointer (some ⟨g, 0, none⟩)) (ht : tmps.getD u undef = t) (h0 : w.cell? ⟨g, 0, none⟩ = some x0) (h1 : w.cell? ⟨g, 1, none⟩ = some x1) (h2 : w.cell? ⟨g, 2, none⟩ = some x2) (h3 : w.cell? ⟨g, 3, none⟩ = some x3) (h4 : w.cell? ⟨g, 4, none⟩ = some x4) (h5 : w.cell? ⟨g, 5, none⟩ = some x5) (h6 : w.cell? ⟨g, 6, none⟩ = some x6) : (results fn tmps).run Tryz.prog w = .ok (.tuple #[.agg #[x0, x1, x2, x3, x4, x5, x6], t]) w := by
  have hp' : tmps[p]?.getD undef = .pointer (some ⟨g, 0, none⟩) := by simpa using hp
  have ht' : tmps[u]?.getD undef = t := by simpa using ht
  have hl := run_loadVar_mid (P := Tryz.prog) w g 0 44 [x0, x1, x2, x3, x4, x5, x6] _ (fun j v hv => by
    match j, hv with
    | 0, hv => rw [← Option.some.inj hv]; exact h0
    | 1, hv => rw [← Option.some.inj hv]; exact h1
    | 2, hv => rw [← Option.some.inj hv]; exact h2
    | 3, hv => rw [← Option.some.inj hv]; exact h3
    | 4, hv => rw [← Option.some.inj hv]; exact h4
    | 5, hv => rw [← Option.some.inj hv]; exact h5
    | 6, hv => rw [← Option.some.inj hv]; exact h6) Tryz.underlying44 rfl (by kernel_rfl)
  simp [results, h, hp', ht', asAddr, hl]
theorem rx_fin {Q : Nat → Prop} {w X3 : World} {p hq db len dc zb : Nat} {S : HS} {M : MS} (k : Rx X3 p hq db len dc S M) (hn : p ≠ zb ∧ hq ≠ zb ∧ db ≠ zb) (tA : Turned Q w X3) (hz : w.heap.size = zb) (x0 x1 x2 x3 x4 x5 x6 : Value) : Rx (((((((X3.setCell ⟨zb, 0, none⟩ x0).setCell ⟨zb, 1, none⟩ x1).setCell ⟨zb, 2, none⟩ x2).setCell ⟨zb, 3, none⟩ x3).setCell ⟨zb, 4, none⟩ x4).setCell ⟨zb, 5, none⟩ x5).setCell ⟨zb, 6, none⟩ x6) p hq db len dc S M ∧ Turned Q w (((((((X3.setCell ⟨zb, 0, none⟩ x0).setCell ⟨zb, 1, none⟩ x1).setCell ⟨zb, 2, none⟩ x2).setCell ⟨zb, 3, none⟩ x3).setCell ⟨zb, 4, none⟩ x4).setCell ⟨zb, 5, none⟩ x5).setCell ⟨zb, 6, none⟩ x6) := by
  have t7 : Turned (fun j => j = zb) X3 (((((((X3.setCell ⟨zb, 0, none⟩ x0).setCell ⟨zb, 1, none⟩ x1).setCell ⟨zb, 2, none⟩ x2).setCell ⟨zb, 3, none⟩ x3).setCell ⟨zb, 4, none⟩ x4).setCell ⟨zb, 5, none⟩ x5).setCell ⟨zb, 6, none⟩ x6) := Turned.of_only (((((((Only.refl zb X3).set 0 _).set 1 _).set 2 _).set 3 _).set 4 _).set 5 _ |>.set 6 _)
  exact ⟨k.turned t7 hn.1 hn.2.1 hn.2.2, ⟨t7.os.trans tA.os, t7.tape.trans tA.tape, t7.output.trans tA.output, Nat.le_trans tA.size t7.size, fun j hj hm => (t7.block j (Nat.lt_of_lt_of_le hj tA.size) (fun e => by rw [hz] at hj; omega)).trans (tA.block j hj hm)⟩⟩
set_option maxRecDepth 100000 in
set_option maxHeartbeats 1000000 in
theorem rstep_halted {w : World} {p hq db len dc : Nat} {S : HS} {M : MS} (k : Rx w p hq db len dc S M) (hh : S.halted = true) : Calls Tryz.prog 10 #[.pointer (some ⟨p, 0, none⟩)] w fun e w' => e = .returned (.tuple #[zeroR, .bool false]) ∧ Rx w' p hq db len dc S M ∧ Below w.heap.size w w' := by
  obtain ⟨X, hX, bX, sX, cR, kR⟩ := boxW7 w 44
  have kX := k.below bX
  have c0 : X.cell? ⟨p, 0, none⟩ = some (.pointer (some ⟨hq, 0, none⟩)) := kX.c.cell 0 (by decide)
  have h36 : X.cell? ⟨hq, 36, none⟩ = some (.bool true) := by rw [← hh]; exact kX.h.cell 36 (by decide)
  have hp := kX.c.here
  have hhq := kX.h.here
  have HKR := Hid.in kR
  have HBX := Hid.in bX
  obtain ⟨zb, hzb⟩ : ∃ zb, w.heap.size = zb := ⟨_, rfl⟩
  have HNE : Hid (p ≠ zb ∧ hq ≠ zb ∧ db ≠ zb) := by
    obtain ⟨a1, a2, a3⟩ := k.at
    exact ⟨by omega, by omega, by omega⟩
  have HZB := Hid.in hzb
  have HK := Hid.in kX
  rw [hzb] at HKR sX
  have t0 := HKR.out.cell 0 (by decide)
  have t1 := HKR.out.cell 1 (by decide)
  have t2 := HKR.out.cell 2 (by decide)
  have t3 := HKR.out.cell 3 (by decide)
  have t4 := HKR.out.cell 4 (by decide)
  have t5 := HKR.out.cell 5 (by decide)
  have t6 := HKR.out.cell 6 (by decide)
  have g0 := HKR.out.free 0
  have g1 := HKR.out.free 1
  have g2 := HKR.out.free 2
  have g3 := HKR.out.free 3
  have g4 := HKR.out.free 4
  have g5 := HKR.out.free 5
  have g6 := HKR.out.free 6
  clear k kX kR hh
  unfold zeroR
  go_enter Tryz.func10, Tryz.ntmps10
  go_upto_region 1 with fail
  try rw [hX, hzb]
  clear hX hzb bX
  go_wp2
  have c7 := set7_cells HKR.out (.int .u32 0) (.int .u32 0) (.int .i64 0) (.int .u32 0) (.int .i64 0) (.int .u32 0) (.int .u32 0)
  have hf := rx_fin HK.out HNE.out (Turned.of_below (Q := fun _ => False) HBX.out) HZB.out (.int .u32 0) (.int .u32 0) (.int .i64 0) (.int .u32 0) (.int .i64 0) (.int .u32 0) (.int .u32 0)
  exact bodyPost_ret (results_retR Tryz.results10 _ _ zb _ _ _ _ _ _ _ _ rfl rfl (c7.cell 0 (by decide)) (c7.cell 1 (by decide)) (c7.cell 2 (by decide)) (c7.cell 3 (by decide)) (c7.cell 4 (by decide)) (c7.cell 5 (by decide)) (c7.cell 6 (by decide))) rfl ⟨rfl, hf.1, hf.2.below (Nat.le_refl _) (fun j hj => hj.elim)⟩
set_option maxRecDepth 100000 in
set_option maxHeartbeats 1000000 in
theorem rstep_int {w : World} {p hq db len dc : Nat} {S : HS} {M : MS} (k : Rx w p hq db len dc S M) (hli : M.line = true) (hmi : S.mayI = true) (hh : S.halted = false) : Calls Tryz.prog 10 #[.pointer (some ⟨p, 0, none⟩)] w fun e w' => e = .returned (.tuple #[S.trapR 0 2147483659 0, .bool true]) ∧ Rx w' p hq db len dc (S.trapped 2147483659 0) M ∧ Turned (fun j => j = hq) w w' := by
  obtain ⟨X, hX, bX, sX, cR, kR⟩ := boxW7 w 44
  have kX := k.below bX
  have c0 : X.cell? ⟨p, 0, none⟩ = some (.pointer (some ⟨hq, 0, none⟩)) := kX.c.cell 0 (by decide)
  have h36 : X.cell? ⟨hq, 36, none⟩ = some (.bool false) := by rw [← hh]; exact kX.h.cell 36 (by decide)
  have hp := kX.c.here
  have hhq := kX.h.here
  have HKR := Hid.in kR
  have HBX := Hid.in bX
  obtain ⟨zb, hzb⟩ : ∃ zb, w.heap.size = zb := ⟨_, rfl⟩
  have HNE : Hid (p ≠ zb ∧ hq ≠ zb ∧ db ≠ zb) := by
    obtain ⟨a1, a2, a3⟩ := k.at
    exact ⟨by omega, by omega, by omega⟩
  have HZB := Hid.in hzb
  have HK := Hid.in kX
  rw [hzb] at HKR sX
  have c3 : X.cell? ⟨p, 3, none⟩ = some (.bool true) := by rw [← hli]; exact kX.c.cell 3 (by decide)
  have HI : Hid (Calls Tryz.prog 23 #[.pointer (some ⟨hq, 0, none⟩)] X fun e w' => e = .returned (.tuple #[.agg #[.int .u32 S.pc, .int .u32 0, .int .i64 0, .int .u32 0, .int .i64 2147483659, .int .u32 0, .int .u32 S.trapTo], .bool true]) ∧ Rx w' p hq db len dc (S.trapped 2147483659 0) M ∧ Only hq X w') := by
    have := interrupt_any hq S X kX.h
    rw [hmi] at this
    simp only [if_true] at this
    exact this.mono fun e w' h => ⟨h.1, kX.hart h.2.2 h.2.1, h.2.2⟩
  clear k kX kR hh hli hmi
  unfold HS.trapR
  go_enter Tryz.func10, Tryz.ntmps10
  go_upto_region 1 with fail
  try rw [hX, hzb]
  clear hX hzb bX
  go_upto_region 6 with (go_at_call 23; refine HI.out.mono ?_; rintro e XI ⟨rfl, hMI, hOI⟩; have HMI := Hid.in hMI; have HOI := Hid.in hOI; clear hMI hOI)
  have q0 : (XI.alloc (.cells #[.int .u32 S.pc, .int .u32 0, .int .i64 0, .int .u32 0, .int .i64 2147483659, .int .u32 0, .int .u32 S.trapTo] 44)).cell? ⟨XI.heap.size, 0, none⟩ = some (.int .u32 S.pc) := by rw [World.cell?_alloc_new]; rfl
  have q1 : (XI.alloc (.cells #[.int .u32 S.pc, .int .u32 0, .int .i64 0, .int .u32 0, .int .i64 2147483659, .int .u32 0, .int .u32 S.trapTo] 44)).cell? ⟨XI.heap.size, 1, none⟩ = some (.int .u32 0) := by rw [World.cell?_alloc_new]; rfl
  have q2 : (XI.alloc (.cells #[.int .u32 S.pc, .int .u32 0, .int .i64 0, .int .u32 0, .int .i64 2147483659, .int .u32 0, .int .u32 S.trapTo] 44)).cell? ⟨XI.heap.size, 2, none⟩ = some (.int .i64 0) := by rw [World.cell?_alloc_new]; rfl
  have q3 : (XI.alloc (.cells #[.int .u32 S.pc, .int .u32 0, .int .i64 0, .int .u32 0, .int .i64 2147483659, .int .u32 0, .int .u32 S.trapTo] 44)).cell? ⟨XI.heap.size, 3, none⟩ = some (.int .u32 0) := by rw [World.cell?_alloc_new]; rfl
  have q4 : (XI.alloc (.cells #[.int .u32 S.pc, .int .u32 0, .int .i64 0, .int .u32 0, .int .i64 2147483659, .int .u32 0, .int .u32 S.trapTo] 44)).cell? ⟨XI.heap.size, 4, none⟩ = some (.int .i64 2147483659) := by rw [World.cell?_alloc_new]; rfl
  have q5 : (XI.alloc (.cells #[.int .u32 S.pc, .int .u32 0, .int .i64 0, .int .u32 0, .int .i64 2147483659, .int .u32 0, .int .u32 S.trapTo] 44)).cell? ⟨XI.heap.size, 5, none⟩ = some (.int .u32 0) := by rw [World.cell?_alloc_new]; rfl
  have q6 : (XI.alloc (.cells #[.int .u32 S.pc, .int .u32 0, .int .i64 0, .int .u32 0, .int .i64 2147483659, .int .u32 0, .int .u32 S.trapTo] 44)).cell? ⟨XI.heap.size, 6, none⟩ = some (.int .u32 S.trapTo) := by rw [World.cell?_alloc_new]; rfl
  have bA : Below XI.heap.size XI (XI.alloc (.cells #[.int .u32 S.pc, .int .u32 0, .int .i64 0, .int .u32 0, .int .i64 2147483659, .int .u32 0, .int .u32 S.trapTo] 44)) := (Below.refl _ _).alloc (Nat.le_refl _) _
  have hxb : XI.heap.size < (XI.alloc (.cells #[.int .u32 S.pc, .int .u32 0, .int .i64 0, .int .u32 0, .int .i64 2147483659, .int .u32 0, .int .u32 S.trapTo] 44)).heap.size := by simp
  generalize XI.alloc (.cells #[.int .u32 S.pc, .int .u32 0, .int .i64 0, .int .u32 0, .int .i64 2147483659, .int .u32 0, .int .u32 S.trapTo] 44) = XA at q0 q1 q2 q3 q4 q5 q6 bA hxb ⊢
  have HMA := Hid.in (HMI.out.below bA)
  have HTA : Hid (Turned (fun j => j = hq) X XA) := Hid.in ((Turned.of_only HOI.out).trans (Turned.of_below bA))
  clear bA HMI HOI c0 c3 hp hhq h36
  generalize XI.heap.size = xb at q0 q1 q2 q3 q4 q5 q6 hxb ⊢
  have k3 := HTA.out.cells HKR.out (fun q => HNE.out.2.1 q.symm)
  have t0 := k3.cell 0 (by decide)
  have t1 := k3.cell 1 (by decide)
  have t2 := k3.cell 2 (by decide)
  have t3 := k3.cell 3 (by decide)
  have t4 := k3.cell 4 (by decide)
  have t5 := k3.cell 5 (by decide)
  have t6 := k3.cell 6 (by decide)
  have g0 := k3.free 0
  have g1 := k3.free 1
  have g2 := k3.free 2
  have g3 := k3.free 3
  have g4 := k3.free 4
  have g5 := k3.free 5
  have g6 := k3.free 6
  have z3 := k3.here
  have HK3 := Hid.in k3
  clear k3
  go_wp2
  have c7 := set7_cells HK3.out (.int .u32 S.pc) (.int .u32 0) (.int .i64 0) (.int .u32 0) (.int .i64 2147483659) (.int .u32 0) (.int .u32 S.trapTo)
  have hf := rx_fin HMA.out HNE.out ((Turned.of_below HBX.out).trans HTA.out) HZB.out (.int .u32 S.pc) (.int .u32 0) (.int .i64 0) (.int .u32 0) (.int .i64 2147483659) (.int .u32 0) (.int .u32 S.trapTo)
  exact bodyPost_ret (results_retR Tryz.results10 _ _ zb _ _ _ _ _ _ _ _ rfl rfl (c7.cell 0 (by decide)) (c7.cell 1 (by decide)) (c7.cell 2 (by decide)) (c7.cell 3 (by decide)) (c7.cell 4 (by decide)) (c7.cell 5 (by decide)) (c7.cell 6 (by decide))) rfl ⟨rfl, hf⟩
end Go.Proofs.YtengofkjlgajlaaGreatDoor
