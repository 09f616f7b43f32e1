import Derived.Test.YtengofkjlgajlaaGreatDoorTd
import Derived.Test.YtengofkjlgajlaaGreatDoorGp4
import Derived.RegionTactic
import Derived.ChangeAlike
/-
  THE ANSWER's HART IN MEMORY: its cells, and what turns them.
-/
namespace Go.Proofs.YtengofkjlgajlaaGreatDoor
open Go Go.RowKit
/-- a hart's numbers -/
structure HS where
  code : Value
  size : Int
  num : Int
  pc : Int
  regs : Nat → Int
  halted : Bool
  count : Int
  status : Int
  enable : Int
  vector : Int
  scratch : Int
  epc : Int
  cause : Int
  tval : Int
def upd (c : Nat → Value) (o : Nat) (v : Value) : Nat → Value := fun i => if i = o then v else c i
/-- its cells -/
def HS.enc2 (S : HS) : Nat → Value
  | 0 => S.code
  | 1 => .int .i64 S.size
  | 2 => .int .i64 S.num
  | 3 => .int .u32 S.pc
  | 36 => .bool S.halted
  | 37 => .int .i64 S.count
  | 38 => .int .u32 S.status
  | 39 => .int .u32 S.enable
  | 40 => .int .u32 S.vector
  | 41 => .int .u32 S.scratch
  | 42 => .int .u32 S.epc
  | 43 => .int .u32 S.cause
  | 44 => .int .u32 S.tval
  | _ => undef
def HS.enc (S : HS) (o : Nat) : Value := if 4 ≤ o ∧ o < 36 then .int .u32 (S.regs (o - 4)) else S.enc2 o
/-- a block whose first n cells read so, and may be written -/
structure CellsAt (n : Nat) (w : World) (b : Nat) (c : Nat → Value) : Prop where
  here : b < w.heap.size
  cell : ∀ o, o < n → w.cell? ⟨b, o, none⟩ = some (c o)
  free : ∀ o, w.frozen? ⟨b, o, none⟩ = false
theorem CellsAt.set {n : Nat} {w : World} {b : Nat} {c : Nat → Value} (h : CellsAt n w b c) (o : Nat) (ho : o < n) (v : Value) : CellsAt n (w.setCell ⟨b, o, none⟩ v) b (upd c o v) := by
  refine ⟨by simpa [World.setCell] using h.here, fun i hi => ?_, fun i => ?_⟩
  · unfold upd
    by_cases e : i = o
    · subst e
      rw [if_pos rfl]
      exact World.cell?_setCell_same _ _ _ (h.cell i hi)
    · rw [if_neg e, World.cell?_setCell_other _ _ _ _ (by intro q; exact e (congrArg Addr.off q).symm)]
      exact h.cell i hi
  · rw [World.frozen?_setCell]; exact h.free i
theorem CellsAt.alloc {n : Nat} {w : World} {b : Nat} {c : Nat → Value} (h : CellsAt n w b c) (o : Obj) : CellsAt n (w.alloc o) b c := by
  have hb : Below w.heap.size w (w.alloc o) := (Below.refl _ _).alloc (Nat.le_refl _) o
  exact ⟨Nat.lt_of_lt_of_le h.here hb.size, fun i hi => (hb.cell (p := ⟨b, i, none⟩) h.here).trans (h.cell i hi), fun i => (hb.frozen (p := ⟨b, i, none⟩) h.here).trans (h.free i)⟩
theorem CellsAt.below {n : Nat} {w w' : World} {b : Nat} {c : Nat → Value} (h : CellsAt n w b c) (hb : Below w.heap.size w w') : CellsAt n w' b c :=
  ⟨Nat.lt_of_lt_of_le h.here hb.size, fun i hi => (hb.cell (p := ⟨b, i, none⟩) h.here).trans (h.cell i hi), fun i => (hb.frozen (p := ⟨b, i, none⟩) h.here).trans (h.free i)⟩
theorem CellsAt.to {n : Nat} {w : World} {b : Nat} {c d : Nat → Value} (h : CellsAt n w b c) (e : c = d) : CellsAt n w b d := e ▸ h
abbrev RH (w : World) (b : Nat) (S : HS) : Prop := CellsAt 45 w b S.enc
/-- of what was there nothing but block b has turned -/
structure Only (b : Nat) (w w' : World) : Prop where
  os : w'.os = w.os
  tape : w'.tape = w.tape
  output : w'.output = w.output
  size : w.heap.size ≤ w'.heap.size
  block : ∀ k, k < w.heap.size → k ≠ b → w'.heap[k]? = w.heap[k]?
theorem Only.refl (b : Nat) (w : World) : Only b w w := ⟨rfl, rfl, rfl, Nat.le_refl _, fun _ _ _ => rfl⟩
theorem Only.trans {b : Nat} {x y z : World} (h : Only b x y) (k : Only b y z) : Only b x z :=
  ⟨k.os.trans h.os, k.tape.trans h.tape, k.output.trans h.output, Nat.le_trans h.size k.size, fun i hi hb => (k.block i (Nat.lt_of_lt_of_le hi h.size) hb).trans (h.block i hi hb)⟩
theorem Only.set {b : Nat} {x y : World} (h : Only b x y) (o : Nat) (v : Value) : Only b x (y.setCell ⟨b, o, none⟩ v) :=
  h.trans ⟨rfl, rfl, rfl, by simp [World.setCell], fun k _ hb => Below.heap_setCell _ _ _ _ hb⟩
theorem Only.alloc {b : Nat} {x y : World} (h : Only b x y) (o : Obj) : Only b x (y.alloc o) :=
  h.trans ⟨rfl, rfl, rfl, by simp, fun k hk _ => Below.heap_alloc _ _ _ hk⟩
theorem Only.of_below {b : Nat} {x y : World} (h : Below x.heap.size x y) : Only b x y := ⟨h.os, h.tape, h.output, h.size, fun k hk _ => h.block k hk⟩
theorem Only.below {b B : Nat} {x y : World} (h : Only b x y) (hB : B ≤ x.heap.size) (hb : B ≤ b) : Below B x y := ⟨h.os, h.tape, h.output, h.size, fun k hk => h.block k (by omega) (by omega)⟩
theorem Only.cells {b c n : Nat} {x y : World} {f : Nat → Value} (h : Only b x y) (k : CellsAt n x c f) (hc : c ≠ b) : CellsAt n y c f := by
  have hb := h.block c k.here hc
  exact ⟨Nat.lt_of_lt_of_le k.here h.size, fun i hi => (World.cell?_of_block (w := x) hb).trans (k.cell i hi), fun i => (World.frozen?_of_block (w := x) hb).trans (k.free i)⟩
theorem enc_pc (S : HS) (v : Int) : upd S.enc 3 (.int .u32 v) = { S with pc := v }.enc := by
  funext o
  unfold upd
  split
  · subst o; rfl
  · unfold HS.enc
    split
    · rfl
    · unfold HS.enc2; split <;> first | rfl | (exfalso; omega)
theorem RH.pc {w : World} {b : Nat} {S : HS} (h : RH w b S) (v : Int) : RH (w.setCell ⟨b, 3, none⟩ (.int .u32 v)) b { S with pc := v } := (h.set 3 (by decide) _).to (enc_pc S v)
theorem enc_halted (S : HS) (v : Bool) : upd S.enc 36 (.bool v) = { S with halted := v }.enc := by
  funext o
  unfold upd
  split
  · subst o; rfl
  · unfold HS.enc
    split
    · rfl
    · unfold HS.enc2; split <;> first | rfl | (exfalso; omega)
theorem RH.halted {w : World} {b : Nat} {S : HS} (h : RH w b S) (v : Bool) : RH (w.setCell ⟨b, 36, none⟩ (.bool v)) b { S with halted := v } := (h.set 36 (by decide) _).to (enc_halted S v)
theorem enc_count (S : HS) (v : Int) : upd S.enc 37 (.int .i64 v) = { S with count := v }.enc := by
  funext o
  unfold upd
  split
  · subst o; rfl
  · unfold HS.enc
    split
    · rfl
    · unfold HS.enc2; split <;> first | rfl | (exfalso; omega)
theorem RH.count {w : World} {b : Nat} {S : HS} (h : RH w b S) (v : Int) : RH (w.setCell ⟨b, 37, none⟩ (.int .i64 v)) b { S with count := v } := (h.set 37 (by decide) _).to (enc_count S v)
theorem enc_status (S : HS) (v : Int) : upd S.enc 38 (.int .u32 v) = { S with status := v }.enc := by
  funext o
  unfold upd
  split
  · subst o; rfl
  · unfold HS.enc
    split
    · rfl
    · unfold HS.enc2; split <;> first | rfl | (exfalso; omega)
theorem RH.status {w : World} {b : Nat} {S : HS} (h : RH w b S) (v : Int) : RH (w.setCell ⟨b, 38, none⟩ (.int .u32 v)) b { S with status := v } := (h.set 38 (by decide) _).to (enc_status S v)
theorem enc_enable (S : HS) (v : Int) : upd S.enc 39 (.int .u32 v) = { S with enable := v }.enc := by
  funext o
  unfold upd
  split
  · subst o; rfl
  · unfold HS.enc
    split
    · rfl
    · unfold HS.enc2; split <;> first | rfl | (exfalso; omega)
theorem RH.enable {w : World} {b : Nat} {S : HS} (h : RH w b S) (v : Int) : RH (w.setCell ⟨b, 39, none⟩ (.int .u32 v)) b { S with enable := v } := (h.set 39 (by decide) _).to (enc_enable S v)
theorem enc_vector (S : HS) (v : Int) : upd S.enc 40 (.int .u32 v) = { S with vector := v }.enc := by
  funext o
  unfold upd
  split
  · subst o; rfl
  · unfold HS.enc
    split
    · rfl
    · unfold HS.enc2; split <;> first | rfl | (exfalso; omega)
theorem RH.vector {w : World} {b : Nat} {S : HS} (h : RH w b S) (v : Int) : RH (w.setCell ⟨b, 40, none⟩ (.int .u32 v)) b { S with vector := v } := (h.set 40 (by decide) _).to (enc_vector S v)
theorem enc_scratch (S : HS) (v : Int) : upd S.enc 41 (.int .u32 v) = { S with scratch := v }.enc := by
  funext o
  unfold upd
  split
  · subst o; rfl
  · unfold HS.enc
    split
    · rfl
    · unfold HS.enc2; split <;> first | rfl | (exfalso; omega)
theorem RH.scratch {w : World} {b : Nat} {S : HS} (h : RH w b S) (v : Int) : RH (w.setCell ⟨b, 41, none⟩ (.int .u32 v)) b { S with scratch := v } := (h.set 41 (by decide) _).to (enc_scratch S v)
theorem enc_epc (S : HS) (v : Int) : upd S.enc 42 (.int .u32 v) = { S with epc := v }.enc := by
  funext o
  unfold upd
  split
  · subst o; rfl
  · unfold HS.enc
    split
    · rfl
    · unfold HS.enc2; split <;> first | rfl | (exfalso; omega)
theorem RH.epc {w : World} {b : Nat} {S : HS} (h : RH w b S) (v : Int) : RH (w.setCell ⟨b, 42, none⟩ (.int .u32 v)) b { S with epc := v } := (h.set 42 (by decide) _).to (enc_epc S v)
theorem enc_cause (S : HS) (v : Int) : upd S.enc 43 (.int .u32 v) = { S with cause := v }.enc := by
  funext o
  unfold upd
  split
  · subst o; rfl
  · unfold HS.enc
    split
    · rfl
    · unfold HS.enc2; split <;> first | rfl | (exfalso; omega)
theorem RH.cause {w : World} {b : Nat} {S : HS} (h : RH w b S) (v : Int) : RH (w.setCell ⟨b, 43, none⟩ (.int .u32 v)) b { S with cause := v } := (h.set 43 (by decide) _).to (enc_cause S v)
theorem enc_tval (S : HS) (v : Int) : upd S.enc 44 (.int .u32 v) = { S with tval := v }.enc := by
  funext o
  unfold upd
  split
  · subst o; rfl
  · unfold HS.enc
    split
    · rfl
    · unfold HS.enc2; split <;> first | rfl | (exfalso; omega)
theorem RH.tval {w : World} {b : Nat} {S : HS} (h : RH w b S) (v : Int) : RH (w.setCell ⟨b, 44, none⟩ (.int .u32 v)) b { S with tval := v } := (h.set 44 (by decide) _).to (enc_tval S v)
def HS.setReg (S : HS) (r : Nat) (v : Int) : HS := { S with regs := fun i => if i = r then v else S.regs i }
theorem enc_reg (S : HS) (r : Nat) (hr : r < 32) (v : Int) : upd S.enc (4 + r) (.int .u32 v) = (S.setReg r v).enc := by
  funext o
  unfold upd
  by_cases e : o = 4 + r
  · subst e
    rw [if_pos rfl]
    unfold HS.enc
    rw [if_pos (by omega)]
    show _ = Value.int IntKind.u32 (if 4 + r - 4 = r then v else _)
    rw [if_pos (by omega)]
  · rw [if_neg e]
    unfold HS.enc
    by_cases k : 4 ≤ o ∧ o < 36
    · rw [if_pos k, if_pos k]
      show _ = Value.int IntKind.u32 (if o - 4 = r then v else _)
      rw [if_neg (by omega)]
    · rw [if_neg k, if_neg k]
      rfl
theorem RH.reg {w : World} {b : Nat} {S : HS} (h : RH w b S) (r : Nat) (hr : r < 32) (v : Int) : RH (w.setCell ⟨b, 4 + r, none⟩ (.int .u32 v)) b (S.setReg r v) := (h.set (4 + r) (by omega) _).to (enc_reg S r hr v)
theorem RH.atReg {w : World} {b : Nat} {S : HS} (h : RH w b S) (r : Nat) (hr : r < 32) : w.cell? ⟨b, 4 + r, none⟩ = some (.int .u32 (S.regs r)) := by
  rw [h.cell (4 + r) (by omega)]
  unfold HS.enc
  rw [if_pos (by omega), show 4 + r - 4 = r by omega]
/-- what an instruction that is done leaves -/
def HS.done (S : HS) (r : Nat) (v next : Int) : HS := { (S.setReg r v) with pc := next, count := wrap64 (S.count + 1) }
set_option maxHeartbeats 1000000 in
theorem done_0 (b : Nat) (S : HS) (word v next : Int) (w : World) (h : RH w b S) : Calls Tryz.prog 54 #[.pointer (some ⟨b, 0, none⟩), .int .u32 word, .int .i64 0, .int .u32 v, .int .u32 next] w fun e w' => e = .returned (.agg #[.int .u32 S.pc, .int .u32 word, .int .i64 0, .int .u32 0, .int .i64 (-1), .int .u32 0, .int .u32 next]) ∧ RH w' b (S.done 0 0 next) ∧ Only b w w' := by
  have h1 : w.cell? ⟨b, 3, none⟩ = some (.int .u32 S.pc) := h.cell 3 (by decide)
  have h2 : w.cell? ⟨b, 37, none⟩ = some (.int .i64 S.count) := h.cell 37 (by decide)
  have h3 := h.here
  have h4 := h.free
  have h5 : w.cell? ⟨b, 4, none⟩ = some (.int .u32 (S.regs 0)) := h.atReg 0 (by decide)
  have HH : Hid (RH w b S) := h
  clear h
  go_enter Tryz.func54, Tryz.ntmps54
  go_wp2
  refine bodyPost_ret (v := .agg #[.int .u32 S.pc, .int .u32 word, .int .i64 0, .int .u32 0, .int .i64 (-1), .int .u32 0, .int .u32 next]) (by simp [results, Tryz.results54, go_sem]) rfl ⟨rfl, ?_, ?_⟩
  · exact ((((HH.out.reg 0 (by decide) 0).pc next).count _).alloc _).alloc _
  · exact (((((Only.refl b w).set _ _).set _ _).set _ _).alloc _).alloc _
set_option maxHeartbeats 1000000 in
theorem done_1 (b : Nat) (S : HS) (word : Int) (r : Nat) (v next : Int) (w : World) (h : RH w b S) (hr : r < 32) (hr0 : 0 < r) : Calls Tryz.prog 54 #[.pointer (some ⟨b, 0, none⟩), .int .u32 word, .int .i64 r, .int .u32 v, .int .u32 next] w fun e w' => e = .returned (.agg #[.int .u32 S.pc, .int .u32 word, .int .i64 r, .int .u32 v, .int .i64 (-1), .int .u32 0, .int .u32 next]) ∧ RH w' b (S.done r v next) ∧ Only b w w' := by
  have h1 : w.cell? ⟨b, 3, none⟩ = some (.int .u32 S.pc) := h.cell 3 (by decide)
  have h2 : w.cell? ⟨b, 37, none⟩ = some (.int .i64 S.count) := h.cell 37 (by decide)
  have h3 := h.here
  have h4 := h.free
  have h5 : w.cell? ⟨b, 4 + r, none⟩ = some (.int .u32 (S.regs r)) := h.atReg r hr
  have h6 : ((r : Int) == 0) = false := by simp; omega
  have HH : Hid (RH w b S) := h
  clear h
  go_enter Tryz.func54, Tryz.ntmps54
  go_wp2
  refine bodyPost_ret (v := .agg #[.int .u32 S.pc, .int .u32 word, .int .i64 r, .int .u32 v, .int .i64 (-1), .int .u32 0, .int .u32 next]) (by simp [results, Tryz.results54, go_sem]) rfl ⟨rfl, ?_, ?_⟩
  · exact ((((HH.out.reg r hr v).pc next).count _).alloc _).alloc _
  · exact (((((Only.refl b w).set _ _).set _ _).set _ _).alloc _).alloc _
end Go.Proofs.YtengofkjlgajlaaGreatDoor
/-
  THE ANSWER's HART: traps, jumps, interrupts, control registers.
-/
namespace Go.Proofs.YtengofkjlgajlaaGreatDoor
open Go Go.RowKit
theorem CellsAt.drew {n : Nat} {w : World} {b : Nat} {c : Nat → Value} (h : CellsAt n w b c) : CellsAt n w.drew b c := h.below (Below.refl _ _).drew
theorem Only.drew {b : Nat} {x y : World} (h : Only b x y) : Only b x y.drew := h.trans ⟨rfl, rfl, rfl, Nat.le_refl _, fun _ _ _ => rfl⟩
def rvI (r : Nat) (v : Int) : Int := if r = 0 then 0 else v
/-- what is told of an instruction that is done -/
def HS.doneR (S : HS) (word : Int) (r : Nat) (v next : Int) : Value := .agg #[.int .u32 S.pc, .int .u32 word, .int .i64 r, .int .u32 (rvI r v), .int .i64 (-1), .int .u32 0, .int .u32 next]
theorem done_any (b : Nat) (S : HS) (word : Int) (r : Nat) (v next : Int) (w : World) (h : RH w b S) (hr : r < 32) : Calls Tryz.prog 54 #[.pointer (some ⟨b, 0, none⟩), .int .u32 word, .int .i64 r, .int .u32 v, .int .u32 next] w fun e w' => e = .returned (S.doneR word r v next) ∧ RH w' b (S.done r (rvI r v) next) ∧ Only b w w' := by
  by_cases h0 : r = 0
  · subst h0; exact done_0 b S word v next w h
  · have e : rvI r v = v := if_neg h0
    unfold HS.doneR
    rw [e]
    exact done_1 b S word r v next w h hr (by omega)
/-- what a trap leaves, where it goes, what is told of it -/
def HS.trapped (S : HS) (cause tval : Int) : HS := if S.vector = 0 then { S with halted := true } else { S with epc := S.pc, cause := cause % 4294967296, tval := tval, status := bits .and .u32 S.status 8 * 16 % 4294967296, pc := S.vector }
def HS.trapTo (S : HS) : Int := if S.vector = 0 then S.pc else S.vector
def HS.trapR (S : HS) (word cause tval : Int) : Value := .agg #[.int .u32 S.pc, .int .u32 word, .int .i64 0, .int .u32 0, .int .i64 cause, .int .u32 tval, .int .u32 S.trapTo]
set_option maxHeartbeats 2000000 in
theorem trap_0 (b : Nat) (S : HS) (word cause tval : Int) (w : World) (h : RH w b S) (hv : S.vector = 0) : Calls Tryz.prog 48 #[.pointer (some ⟨b, 0, none⟩), .int .u32 word, .int .i64 cause, .int .u32 tval] w fun e w' => e = .returned (S.trapR word cause tval) ∧ RH w' b (S.trapped cause tval) ∧ Only b w w' := by
  have cpc : w.cell? ⟨b, 3, none⟩ = some (.int .u32 S.pc) := h.cell 3 (by decide)
  have cvector : w.cell? ⟨b, 40, none⟩ = some (.int .u32 S.vector) := h.cell 40 (by decide)
  have chalted : w.cell? ⟨b, 36, none⟩ = some (.bool S.halted) := h.cell 36 (by decide)
  have e1 : S.trapTo = S.pc := if_pos hv
  have e2 : S.trapped cause tval = { S with halted := true } := if_pos hv
  unfold HS.trapR
  rw [e1, e2]
  clear e1 e2
  rw [hv] at cvector
  have h3 := h.here
  have h4 := h.free
  have HH : Hid (RH w b S) := h
  clear h
  go_enter Tryz.func48, Tryz.ntmps48
  go_wp2
  go_region
  go_wp2
  refine bodyPost_ret (v := .agg #[.int .u32 S.pc, .int .u32 word, .int .i64 0, .int .u32 0, .int .i64 cause, .int .u32 tval, .int .u32 S.pc]) (by simp [results, Tryz.results48, go_sem]) rfl ⟨rfl, ?_, ?_⟩
  · exact (((HH.out.halted true).alloc _).alloc _).drew
  · exact ((((Only.refl b w).set _ _).alloc _).alloc _).drew
set_option maxHeartbeats 4000000 in
theorem trap_1 (b : Nat) (S : HS) (word cause tval : Int) (w : World) (h : RH w b S) (hv : ¬ S.vector = 0) : Calls Tryz.prog 48 #[.pointer (some ⟨b, 0, none⟩), .int .u32 word, .int .i64 cause, .int .u32 tval] w fun e w' => e = .returned (S.trapR word cause tval) ∧ RH w' b (S.trapped cause tval) ∧ Only b w w' := by
  have cpc : w.cell? ⟨b, 3, none⟩ = some (.int .u32 S.pc) := h.cell 3 (by decide)
  have cvector : w.cell? ⟨b, 40, none⟩ = some (.int .u32 S.vector) := h.cell 40 (by decide)
  have cepc : w.cell? ⟨b, 42, none⟩ = some (.int .u32 S.epc) := h.cell 42 (by decide)
  have ccause : w.cell? ⟨b, 43, none⟩ = some (.int .u32 S.cause) := h.cell 43 (by decide)
  have ctval : w.cell? ⟨b, 44, none⟩ = some (.int .u32 S.tval) := h.cell 44 (by decide)
  have cstatus : w.cell? ⟨b, 38, none⟩ = some (.int .u32 S.status) := h.cell 38 (by decide)
  have e1 : S.trapTo = S.vector := if_neg hv
  have e2 : S.trapped cause tval = { S with epc := S.pc, cause := cause % 4294967296, tval := tval, status := bits .and .u32 S.status 8 * 16 % 4294967296, pc := S.vector } := if_neg hv
  unfold HS.trapR
  rw [e1, e2]
  clear e1 e2
  have hv' : (S.vector == 0) = false := by simp; exact hv
  have h3 := h.here
  have h4 := h.free
  have HH : Hid (RH w b S) := h
  clear h
  go_enter Tryz.func48, Tryz.ntmps48
  go_wp2
  go_region
  go_wp2
  refine bodyPost_ret (v := .agg #[.int .u32 S.pc, .int .u32 word, .int .i64 0, .int .u32 0, .int .i64 cause, .int .u32 tval, .int .u32 S.vector]) (by simp [results, Tryz.results48, go_sem]) rfl ⟨rfl, ?_, ?_⟩
  · exact (((((((HH.out.epc _).cause _).tval _).status _).pc _).alloc _).alloc _).drew
  · exact ((((((((Only.refl b w).set _ _).set _ _).set _ _).set _ _).set _ _).alloc _).alloc _).drew
theorem trap_any (b : Nat) (S : HS) (word cause tval : Int) (w : World) (h : RH w b S) : Calls Tryz.prog 48 #[.pointer (some ⟨b, 0, none⟩), .int .u32 word, .int .i64 cause, .int .u32 tval] w fun e w' => e = .returned (S.trapR word cause tval) ∧ RH w' b (S.trapped cause tval) ∧ Only b w w' := by
  by_cases hv : S.vector = 0
  · exact trap_0 b S word cause tval w h hv
  · exact trap_1 b S word cause tval w h hv
end Go.Proofs.YtengofkjlgajlaaGreatDoor
/-
  THE ANSWER's HART: jumps, interrupts, control registers.
-/
namespace Go.Proofs.YtengofkjlgajlaaGreatDoor
open Go Go.RowKit
theorem keepO {b : Nat} {w w2 : World} {c : Array Value} {t : TypeId} (hO : Only b (w.alloc (.cells c t)) w2) (hb : b < w.heap.size) :
    (∀ i, w2.cell? ⟨w.heap.size, i, none⟩ = c[i]?) ∧ (∀ i, w2.frozen? ⟨w.heap.size, i, none⟩ = false) ∧ w.heap.size < w2.heap.size ∧ Only b w w2 := by
  have hs := hO.size
  simp only [World.size_alloc] at hs
  have hk := hO.block w.heap.size (by simp) (by omega)
  refine ⟨fun i => ?_, fun i => ?_, by omega, ((Only.refl b w).alloc _).trans hO⟩
  · rw [World.cell?_of_block (w := w.alloc (.cells c t)) hk]
    exact World.cell?_alloc_new w c t i
  · rw [World.frozen?_of_block (w := w.alloc (.cells c t)) hk]
    exact World.frozen?_alloc_at c t _ i rfl
theorem Only.new {b B : Nat} {x y : World} (h : Only b x y) (hB : x.heap.size ≤ B) (o : Nat) (v : Value) : Only b x (y.setCell ⟨B, o, none⟩ v) :=
  ⟨h.os, h.tape, h.output, by simpa [World.setCell] using h.size, fun k hk hb => (Below.heap_setCell _ _ _ _ (by show k ≠ B; omega)).trans (h.block k hk hb)⟩
theorem CellsAt.far {n : Nat} {w : World} {b B : Nat} {c : Nat → Value} (h : CellsAt n w b c) (hB : b ≠ B) (o : Nat) (v : Value) : CellsAt n (w.setCell ⟨B, o, none⟩ v) b c :=
  (Only.set (Only.refl B w) o v).cells h hB
theorem CellsAt.far7 {n : Nat} {w : World} {b B : Nat} {c : Nat → Value} (h : CellsAt n w b c) (hB : b ≠ B) (v0 v1 v2 v3 v4 v5 v6 : Value) : CellsAt n (((((((w.setCell ⟨B, 0, none⟩ v0).setCell ⟨B, 1, none⟩ v1).setCell ⟨B, 2, none⟩ v2).setCell ⟨B, 3, none⟩ v3).setCell ⟨B, 4, none⟩ v4).setCell ⟨B, 5, none⟩ v5).setCell ⟨B, 6, none⟩ v6) b c :=
  ((((((h.far hB _ _).far hB _ _).far hB _ _).far hB _ _).far hB _ _).far hB _ _).far hB _ _
theorem Only.new7 {b B : Nat} {x y : World} (h : Only b x y) (hB : x.heap.size ≤ B) (v0 v1 v2 v3 v4 v5 v6 : Value) : Only b x (((((((y.setCell ⟨B, 0, none⟩ v0).setCell ⟨B, 1, none⟩ v1).setCell ⟨B, 2, none⟩ v2).setCell ⟨B, 3, none⟩ v3).setCell ⟨B, 4, none⟩ v4).setCell ⟨B, 5, none⟩ v5).setCell ⟨B, 6, none⟩ v6) :=
  ((((((h.new hB _ _).new hB _ _).new hB _ _).new hB _ _).new hB _ _).new hB _ _).new hB _ _
/-- a jump -/
def HS.jumpR (S : HS) (word : Int) (r : Nat) (to : Int) : Value := if to % 4 = 0 then S.doneR word r ((S.pc + 4) % 4294967296) to else S.trapR word 0 to
def HS.jumped (S : HS) (r : Nat) (to : Int) : HS := if to % 4 = 0 then S.done r (rvI r ((S.pc + 4) % 4294967296)) to else S.trapped 0 to
set_option maxHeartbeats 2000000 in
theorem jump_any (b : Nat) (S : HS) (word : Int) (r : Nat) (to : Int) (w : World) (h : RH w b S) (hr : r < 32) (ht : 0 ≤ to ∧ to < 4294967296) : Calls Tryz.prog 56 #[.pointer (some ⟨b, 0, none⟩), .int .u32 word, .int .i64 r, .int .u32 to] w fun e w' => e = .returned (S.jumpR word r to) ∧ RH w' b (S.jumped r to) ∧ Only b w w' := by
  have cpc : w.cell? ⟨b, 3, none⟩ = some (.int .u32 S.pc) := h.cell 3 (by decide)
  have h3 := h.here
  have h4 := h.free
  have HH : Hid (RH w b S) := h
  clear h
  by_cases h0 : to % 4 = 0
  · have e1 : S.jumpR word r to = S.doneR word r ((S.pc + 4) % 4294967296) to := if_pos h0
    have e2 : S.jumped r to = S.done r (rvI r ((S.pc + 4) % 4294967296)) to := if_pos h0
    rw [e1, e2]
    clear e1 e2
    go_enter Tryz.func56, Tryz.ntmps56
    go_wp2_with (first | (go_at_call 54; refine (done_any b S _ r _ _ _ (HH.out.alloc _) hr).mono ?_; rintro e w1 ⟨rfl, hR, hO⟩; obtain ⟨k1, k2, k3, k4⟩ := keepO hO h3; unfold HS.doneR))
    refine bodyPost_ret (v := S.doneR word r ((S.pc + 4) % 4294967296) to) (by simp [results, Tryz.results56, go_sem, k1, HS.doneR]) rfl ⟨rfl, ?_, ?_⟩
    · exact hR.far7 (by omega) _ _ _ _ _ _ _
    · exact k4.new7 (Nat.le_refl _) _ _ _ _ _ _ _
  · have e1 : S.jumpR word r to = S.trapR word 0 to := if_neg h0
    have e2 : S.jumped r to = S.trapped 0 to := if_neg h0
    rw [e1, e2]
    clear e1 e2
    go_enter Tryz.func56, Tryz.ntmps56
    go_wp2_with (first | (go_at_call 48; refine (trap_any b S _ _ _ _ (HH.out.alloc _)).mono ?_; rintro e w1 ⟨rfl, hR, hO⟩; obtain ⟨k1, k2, k3, k4⟩ := keepO hO h3; unfold HS.trapR))
    refine bodyPost_ret (v := S.trapR word 0 to) (by simp [results, Tryz.results56, go_sem, k1, HS.trapR]) rfl ⟨rfl, ?_, ?_⟩
    · exact hR.far7 (by omega) _ _ _ _ _ _ _
    · exact k4.new7 (Nat.le_refl _) _ _ _ _ _ _ _
/-- a control register; is there one -/
def HS.csrV (S : HS) (n : Int) : Int := if n = 768 then S.status else if n = 772 then S.enable else if n = 773 then S.vector else if n = 832 then S.scratch else if n = 833 then S.epc else if n = 834 then S.cause else if n = 835 then S.tval else if n = 3074 then S.count % 4294967296 else if n = 3860 then S.num % 4294967296 else 0
def csrB (n : Int) : Bool := n == 768 || n == 772 || n == 773 || n == 832 || n == 833 || n == 834 || n == 835 || n == 3074 || n == 3860
set_option maxHeartbeats 2000000 in
theorem csr_any (b : Nat) (S : HS) (n : Int) (w : World) (h : RH w b S) : Calls Tryz.prog 36 #[.pointer (some ⟨b, 0, none⟩), .int .i64 n] w fun e w' => e = .returned (.tuple #[.int .u32 (S.csrV n), .bool (csrB n)]) ∧ w' = w := by
  have cstatus : w.cell? ⟨b, 38, none⟩ = some (.int .u32 S.status) := h.cell 38 (by decide)
  have cenable : w.cell? ⟨b, 39, none⟩ = some (.int .u32 S.enable) := h.cell 39 (by decide)
  have cvector : w.cell? ⟨b, 40, none⟩ = some (.int .u32 S.vector) := h.cell 40 (by decide)
  have cscratch : w.cell? ⟨b, 41, none⟩ = some (.int .u32 S.scratch) := h.cell 41 (by decide)
  have cepc : w.cell? ⟨b, 42, none⟩ = some (.int .u32 S.epc) := h.cell 42 (by decide)
  have ccause : w.cell? ⟨b, 43, none⟩ = some (.int .u32 S.cause) := h.cell 43 (by decide)
  have ctval : w.cell? ⟨b, 44, none⟩ = some (.int .u32 S.tval) := h.cell 44 (by decide)
  have ccount : w.cell? ⟨b, 37, none⟩ = some (.int .i64 S.count) := h.cell 37 (by decide)
  have cnum : w.cell? ⟨b, 2, none⟩ = some (.int .i64 S.num) := h.cell 2 (by decide)
  have h3 := h.here
  have h4 := h.free
  have HH : Hid (RH w b S) := h
  clear h
  by_cases n768 : n = 768
  · subst n768
    show Calls _ _ _ _ fun e w' => e = .returned (.tuple #[.int .u32 (S.status), .bool true]) ∧ w' = w
    go_enter Tryz.func36, Tryz.ntmps36
    go_wp2
    exact bodyPost_ret (by simp [results, Tryz.results36, go_sem]) rfl ⟨rfl, rfl⟩
  by_cases n772 : n = 772
  · subst n772
    show Calls _ _ _ _ fun e w' => e = .returned (.tuple #[.int .u32 (S.enable), .bool true]) ∧ w' = w
    go_enter Tryz.func36, Tryz.ntmps36
    go_wp2
    exact bodyPost_ret (by simp [results, Tryz.results36, go_sem]) rfl ⟨rfl, rfl⟩
  by_cases n773 : n = 773
  · subst n773
    show Calls _ _ _ _ fun e w' => e = .returned (.tuple #[.int .u32 (S.vector), .bool true]) ∧ w' = w
    go_enter Tryz.func36, Tryz.ntmps36
    go_wp2
    exact bodyPost_ret (by simp [results, Tryz.results36, go_sem]) rfl ⟨rfl, rfl⟩
  by_cases n832 : n = 832
  · subst n832
    show Calls _ _ _ _ fun e w' => e = .returned (.tuple #[.int .u32 (S.scratch), .bool true]) ∧ w' = w
    go_enter Tryz.func36, Tryz.ntmps36
    go_wp2
    exact bodyPost_ret (by simp [results, Tryz.results36, go_sem]) rfl ⟨rfl, rfl⟩
  by_cases n833 : n = 833
  · subst n833
    show Calls _ _ _ _ fun e w' => e = .returned (.tuple #[.int .u32 (S.epc), .bool true]) ∧ w' = w
    go_enter Tryz.func36, Tryz.ntmps36
    go_wp2
    exact bodyPost_ret (by simp [results, Tryz.results36, go_sem]) rfl ⟨rfl, rfl⟩
  by_cases n834 : n = 834
  · subst n834
    show Calls _ _ _ _ fun e w' => e = .returned (.tuple #[.int .u32 (S.cause), .bool true]) ∧ w' = w
    go_enter Tryz.func36, Tryz.ntmps36
    go_wp2
    exact bodyPost_ret (by simp [results, Tryz.results36, go_sem]) rfl ⟨rfl, rfl⟩
  by_cases n835 : n = 835
  · subst n835
    show Calls _ _ _ _ fun e w' => e = .returned (.tuple #[.int .u32 (S.tval), .bool true]) ∧ w' = w
    go_enter Tryz.func36, Tryz.ntmps36
    go_wp2
    exact bodyPost_ret (by simp [results, Tryz.results36, go_sem]) rfl ⟨rfl, rfl⟩
  by_cases n3074 : n = 3074
  · subst n3074
    show Calls _ _ _ _ fun e w' => e = .returned (.tuple #[.int .u32 (S.count % 4294967296), .bool true]) ∧ w' = w
    go_enter Tryz.func36, Tryz.ntmps36
    go_wp2
    exact bodyPost_ret (by simp [results, Tryz.results36, go_sem]) rfl ⟨rfl, rfl⟩
  by_cases n3860 : n = 3860
  · subst n3860
    show Calls _ _ _ _ fun e w' => e = .returned (.tuple #[.int .u32 (S.num % 4294967296), .bool true]) ∧ w' = w
    go_enter Tryz.func36, Tryz.ntmps36
    go_wp2
    exact bodyPost_ret (by simp [results, Tryz.results36, go_sem]) rfl ⟨rfl, rfl⟩
  have e1 : S.csrV n = 0 := by unfold HS.csrV; rw [if_neg n768, if_neg n772, if_neg n773, if_neg n832, if_neg n833, if_neg n834, if_neg n835, if_neg n3074, if_neg n3860]
  have e2 : csrB n = false := by unfold csrB; simp; omega
  rw [e1, e2]
  have m768 : (n == 768) = false := by simp; exact n768
  have m772 : (n == 772) = false := by simp; exact n772
  have m773 : (n == 773) = false := by simp; exact n773
  have m832 : (n == 832) = false := by simp; exact n832
  have m833 : (n == 833) = false := by simp; exact n833
  have m834 : (n == 834) = false := by simp; exact n834
  have m835 : (n == 835) = false := by simp; exact n835
  have m3074 : (n == 3074) = false := by simp; exact n3074
  have m3860 : (n == 3860) = false := by simp; exact n3860
  go_enter Tryz.func36, Tryz.ntmps36
  go_wp2
  exact bodyPost_ret (by simp [results, Tryz.results36, go_sem]) rfl ⟨rfl, rfl⟩
/-- a control register is written -/
def HS.setCsr (S : HS) (n v : Int) : HS := if n = 768 then { S with status := bits .and .u32 v 136 } else if n = 772 then { S with enable := bits .and .u32 v 2048 } else if n = 773 then { S with vector := v - v % 4 } else if n = 832 then { S with scratch := v } else if n = 833 then { S with epc := v - v % 4 } else if n = 834 then { S with cause := v } else if n = 835 then { S with tval := v } else S
set_option maxHeartbeats 2000000 in
theorem set_any (b : Nat) (S : HS) (n v : Int) (w : World) (h : RH w b S) (_hv : 0 ≤ v ∧ v < 4294967296) : Calls Tryz.prog 89 #[.pointer (some ⟨b, 0, none⟩), .int .i64 n, .int .u32 v] w fun e w' => e = .returned (.tuple #[]) ∧ RH w' b (S.setCsr n v) ∧ Only b w w' := by
  have cstatus : w.cell? ⟨b, 38, none⟩ = some (.int .u32 S.status) := h.cell 38 (by decide)
  have cenable : w.cell? ⟨b, 39, none⟩ = some (.int .u32 S.enable) := h.cell 39 (by decide)
  have cvector : w.cell? ⟨b, 40, none⟩ = some (.int .u32 S.vector) := h.cell 40 (by decide)
  have cscratch : w.cell? ⟨b, 41, none⟩ = some (.int .u32 S.scratch) := h.cell 41 (by decide)
  have cepc : w.cell? ⟨b, 42, none⟩ = some (.int .u32 S.epc) := h.cell 42 (by decide)
  have ccause : w.cell? ⟨b, 43, none⟩ = some (.int .u32 S.cause) := h.cell 43 (by decide)
  have ctval : w.cell? ⟨b, 44, none⟩ = some (.int .u32 S.tval) := h.cell 44 (by decide)
  have h3 := h.here
  have h4 := h.free
  have HH : Hid (RH w b S) := h
  clear h
  by_cases n768 : n = 768
  · subst n768
    show Calls _ _ _ _ fun e w' => e = .returned (.tuple #[]) ∧ RH w' b { S with status := bits .and .u32 v 136 } ∧ Only b w w'
    go_enter Tryz.func89, Tryz.ntmps89
    go_wp2
    exact bodyPost_end (results_none Tryz.results89 _ _ _) rfl ⟨rfl, HH.out.status _, (Only.refl b w).set _ _⟩
  by_cases n772 : n = 772
  · subst n772
    show Calls _ _ _ _ fun e w' => e = .returned (.tuple #[]) ∧ RH w' b { S with enable := bits .and .u32 v 2048 } ∧ Only b w w'
    go_enter Tryz.func89, Tryz.ntmps89
    go_wp2
    exact bodyPost_end (results_none Tryz.results89 _ _ _) rfl ⟨rfl, HH.out.enable _, (Only.refl b w).set _ _⟩
  by_cases n773 : n = 773
  · subst n773
    show Calls _ _ _ _ fun e w' => e = .returned (.tuple #[]) ∧ RH w' b { S with vector := v - v % 4 } ∧ Only b w w'
    go_enter Tryz.func89, Tryz.ntmps89
    go_wp2
    exact bodyPost_end (results_none Tryz.results89 _ _ _) rfl ⟨rfl, HH.out.vector _, (Only.refl b w).set _ _⟩
  by_cases n832 : n = 832
  · subst n832
    show Calls _ _ _ _ fun e w' => e = .returned (.tuple #[]) ∧ RH w' b { S with scratch := v } ∧ Only b w w'
    go_enter Tryz.func89, Tryz.ntmps89
    go_wp2
    exact bodyPost_end (results_none Tryz.results89 _ _ _) rfl ⟨rfl, HH.out.scratch _, (Only.refl b w).set _ _⟩
  by_cases n833 : n = 833
  · subst n833
    show Calls _ _ _ _ fun e w' => e = .returned (.tuple #[]) ∧ RH w' b { S with epc := v - v % 4 } ∧ Only b w w'
    go_enter Tryz.func89, Tryz.ntmps89
    go_wp2
    exact bodyPost_end (results_none Tryz.results89 _ _ _) rfl ⟨rfl, HH.out.epc _, (Only.refl b w).set _ _⟩
  by_cases n834 : n = 834
  · subst n834
    show Calls _ _ _ _ fun e w' => e = .returned (.tuple #[]) ∧ RH w' b { S with cause := v } ∧ Only b w w'
    go_enter Tryz.func89, Tryz.ntmps89
    go_wp2
    exact bodyPost_end (results_none Tryz.results89 _ _ _) rfl ⟨rfl, HH.out.cause _, (Only.refl b w).set _ _⟩
  by_cases n835 : n = 835
  · subst n835
    show Calls _ _ _ _ fun e w' => e = .returned (.tuple #[]) ∧ RH w' b { S with tval := v } ∧ Only b w w'
    go_enter Tryz.func89, Tryz.ntmps89
    go_wp2
    exact bodyPost_end (results_none Tryz.results89 _ _ _) rfl ⟨rfl, HH.out.tval _, (Only.refl b w).set _ _⟩
  have e1 : S.setCsr n v = S := by unfold HS.setCsr; rw [if_neg n768, if_neg n772, if_neg n773, if_neg n832, if_neg n833, if_neg n834, if_neg n835]
  rw [e1]
  have m768 : (n == 768) = false := by simp; exact n768
  have m772 : (n == 772) = false := by simp; exact n772
  have m773 : (n == 773) = false := by simp; exact n773
  have m832 : (n == 832) = false := by simp; exact n832
  have m833 : (n == 833) = false := by simp; exact n833
  have m834 : (n == 834) = false := by simp; exact n834
  have m835 : (n == 835) = false := by simp; exact n835
  go_enter Tryz.func89, Tryz.ntmps89
  go_wp2
  exact bodyPost_end (results_none Tryz.results89 _ _ _) rfl ⟨rfl, HH.out, Only.refl b w⟩
/-- may an interrupt be taken; what is told -/
def HS.mayI (S : HS) : Bool := !(S.halted || bits .and .u32 S.status 8 == 0 || S.enable == 0)
def zeroR : Value := .agg #[.int .u32 0, .int .u32 0, .int .i64 0, .int .u32 0, .int .i64 0, .int .u32 0, .int .u32 0]
set_option maxHeartbeats 2000000 in
theorem interrupt_any (b : Nat) (S : HS) (w : World) (h : RH w b S) : Calls Tryz.prog 23 #[.pointer (some ⟨b, 0, none⟩)] w fun e w' => e = .returned (.tuple #[if S.mayI then S.trapR 0 2147483659 0 else zeroR, .bool S.mayI]) ∧ RH w' b (if S.mayI then S.trapped 2147483659 0 else S) ∧ Only b w w' := by
  have chalted : w.cell? ⟨b, 36, none⟩ = some (.bool S.halted) := h.cell 36 (by decide)
  have cstatus : w.cell? ⟨b, 38, none⟩ = some (.int .u32 S.status) := h.cell 38 (by decide)
  have cenable : w.cell? ⟨b, 39, none⟩ = some (.int .u32 S.enable) := h.cell 39 (by decide)
  have h3 := h.here
  have h4 := h.free
  have HH : Hid (RH w b S) := h
  clear h
  by_cases hm : S.mayI = true
  · rw [if_pos hm, if_pos hm, hm]
    have hx : S.halted = false ∧ (bits .and .u32 S.status 8 == 0) = false ∧ (S.enable == 0) = false := by
      unfold HS.mayI at hm
      revert hm
      cases S.halted <;> cases (bits .and .u32 S.status 8 == 0) <;> cases (S.enable == 0) <;> simp
    obtain ⟨x1, x2, x3⟩ := hx
    rw [x1] at chalted
    go_enter Tryz.func23, Tryz.ntmps23
    go_wp2_with (first | (go_at_call 48; refine (trap_any b S _ _ _ _ (HH.out.alloc _)).mono ?_; rintro e w1 ⟨rfl, hR, hO⟩; obtain ⟨k1, k2, k3, k4⟩ := keepO hO h3; unfold HS.trapR))
    refine bodyPost_ret (v := .tuple #[S.trapR 0 2147483659 0, .bool true]) (by simp [results, Tryz.results23, go_sem, k1, k3, HS.trapR]) rfl ⟨rfl, ?_, ?_⟩
    · exact (hR.far7 (by omega) _ _ _ _ _ _ _).alloc _
    · exact (k4.new7 (Nat.le_refl _) _ _ _ _ _ _ _).alloc _
  · rw [if_neg hm, if_neg hm, Bool.eq_false_iff.2 hm]
    have hx : S.halted = true ∨ (S.halted = false ∧ (bits .and .u32 S.status 8 == 0) = true) ∨ (S.halted = false ∧ (bits .and .u32 S.status 8 == 0) = false ∧ (S.enable == 0) = true) := by
      unfold HS.mayI at hm
      revert hm
      cases S.halted <;> cases (bits .and .u32 S.status 8 == 0) <;> cases (S.enable == 0) <;> simp
    rcases hx with x1 | ⟨x1, x2⟩ | ⟨x1, x2, x3⟩
    all_goals
      rw [x1] at chalted
      go_enter Tryz.func23, Tryz.ntmps23
      go_wp2
      exact bodyPost_ret (v := .tuple #[zeroR, .bool false]) (by simp [results, Tryz.results23, go_sem, zeroR]) rfl ⟨rfl, HH.out.alloc _, (Only.refl b w).alloc _⟩
end Go.Proofs.YtengofkjlgajlaaGreatDoor
/-
  THE ANSWER's HART: where an instruction goes, what it computes, what is wrong with an address.
-/
namespace Go.Proofs.YtengofkjlgajlaaGreatDoor
open Go Go.RowKit
theorem keepB {w w2 : World} {c : Array Value} {t : TypeId} (hb : Below (w.alloc (.cells c t)).heap.size (w.alloc (.cells c t)) w2) :
    (∀ i, w2.cell? ⟨w.heap.size, i, none⟩ = c[i]?) ∧ (∀ i, w2.frozen? ⟨w.heap.size, i, none⟩ = false) ∧ w.heap.size < w2.heap.size ∧ Below w.heap.size w w2 := by
  have hs := hb.size
  simp only [World.size_alloc] at hs
  refine ⟨fun i => ?_, fun i => ?_, by omega, ((Below.refl _ _).alloc (Nat.le_refl _) _).trans (hb.mono (by simp))⟩
  · rw [hb.cell (p := ⟨w.heap.size, i, none⟩) (by simp)]
    exact World.cell?_alloc_new w c t i
  · rw [hb.frozen (p := ⟨w.heap.size, i, none⟩) (by simp)]
    exact World.frozen?_alloc_at c t _ i rfl
/-- a number of 32 bits -/
abbrev U32 (a : Int) : Prop := 0 ≤ a ∧ a < 4294967296
/-- where an instruction goes -/
def HS.whereI (S : HS) (op : Int) (rs1 : Nat) (imm : Int) : Int := if clR op = 6 then S.regs rs1 else (S.regs rs1 + imm % 4294967296) % 4294967296
set_option maxHeartbeats 2000000 in
theorem where_any (b : Nat) (S : HS) (op rd : Int) (rs1 : Nat) (rs2 imm : Int) (w : World) (h : RH w b S) (hr : rs1 < 32) : Calls Tryz.prog 44 #[.pointer (some ⟨b, 0, none⟩), .agg #[.int .i64 op, .int .i64 rd, .int .i64 rs1, .int .i64 rs2, .int .i64 imm]] w fun e w' => e = .returned (.int .u32 (S.whereI op rs1 imm)) ∧ Below w.heap.size w w' := by
  have creg := h.atReg rs1 hr
  have h3 := h.here
  clear h
  obtain ⟨c, hc⟩ : ∃ c, clR op = c := ⟨_, rfl⟩
  unfold HS.whereI
  rw [hc]
  by_cases h6 : c = 6
  · subst h6
    rw [if_pos rfl]
    go_enter Tryz.func44, Tryz.ntmps44
    go_wp2_with (first | (go_at_call 29; refine (clsR_any _ _).mono ?_; rintro e w1 ⟨rfl, hb1⟩; rw [hc]; obtain ⟨k1, k2, k3, k4⟩ := keepB hb1; have creg1 : w1.cell? ⟨b, 4 + rs1, none⟩ = some (.int .u32 (S.regs rs1)) := (k4.cell (p := ⟨b, 4 + rs1, none⟩) h3).trans creg))
    go_region
    go_wp2
    go_ret
    exact ⟨rfl, k4.drew⟩
  · have h7 : (c == 6) = false := by simp; exact h6
    rw [if_neg h6]
    go_enter Tryz.func44, Tryz.ntmps44
    go_wp2_with (first | (go_at_call 29; refine (clsR_any _ _).mono ?_; rintro e w1 ⟨rfl, hb1⟩; rw [hc]; obtain ⟨k1, k2, k3, k4⟩ := keepB hb1; have creg1 : w1.cell? ⟨b, 4 + rs1, none⟩ = some (.int .u32 (S.regs rs1)) := (k4.cell (p := ⟨b, 4 + rs1, none⟩) h3).trans creg))
    go_region
    go_wp2
    go_ret
    exact ⟨rfl, k4.drew⟩
/-- what an instruction of the classes Alu and Muldiv computes -/
def HS.compI (S : HS) (op imm a b : Int) : Int :=
  if letAt (op - 1).toNat = 85 then exI op S.pc (imm % 4294967296) else if letAt (op - 1).toNat = 73 ∨ letAt (op - 1).toNat = 72 then exI op a (imm % 4294967296) else exI op a b
set_option maxHeartbeats 2000000 in
theorem computed_any (b : Nat) (S : HS) (i : Nat) (rd rs1 rs2 imm x y : Int) (w : World) (h : RH w b S) (hi : i < 67) (hp : U32 S.pc) (hx : U32 x) (hy : U32 y) : Calls Tryz.prog 53 #[.pointer (some ⟨b, 0, none⟩), .agg #[.int .i64 ((i : Int) + 1), .int .i64 rd, .int .i64 rs1, .int .i64 rs2, .int .i64 imm], .int .u32 x, .int .u32 y] w fun e w' => e = .returned (.int .u32 (S.compI ((i : Int) + 1) imm x y)) ∧ Below w.heap.size w w' := by
  have cpc : w.cell? ⟨b, 3, none⟩ = some (.int .u32 S.pc) := h.cell 3 (by decide)
  have h3 := h.here
  have hm : U32 (imm % 4294967296) := by unfold U32; omega
  clear h
  unfold HS.compI
  rw [show ((i : Int) + 1 - 1).toNat = i by omega]
  obtain ⟨L, hL⟩ : ∃ L, letAt i = L := ⟨_, rfl⟩
  rw [hL]
  by_cases l1 : L = 85
  · subst l1
    rw [if_pos rfl]
    go_enter Tryz.func53, Tryz.ntmps53
    go_wp2_with (first
      | (go_at_call 57; refine (rows_made _).mono ?_; rintro e w1 ⟨rfl, hR, hb1, hz⟩; have c1 := hR.r1 i hi; rw [hL, World.size_alloc] at c1; have hh := hR.here; rw [World.size_alloc] at hh; clear hR; obtain ⟨k1, k2, k3, k4⟩ := keepB hb1; have cpc1 : w1.cell? ⟨b, 3, none⟩ = some (.int .u32 S.pc) := (k4.cell (p := ⟨b, 3, none⟩) h3).trans cpc)
      | (go_at_call 87; refine (exec_any _ _ _ _ (by assumption) (by assumption)).mono ?_; rintro e w2 ⟨rfl, hb2⟩))
    go_ret
    exact ⟨rfl, below2 k4 hb2⟩
  · rw [if_neg l1]
    have m1 : (L == 85) = false := by simp; exact l1
    by_cases l2 : L = 73 ∨ L = 72
    · rw [if_pos l2]
      rcases l2 with rfl | rfl
      · go_enter Tryz.func53, Tryz.ntmps53
        go_wp2_with (first
          | (go_at_call 57; refine (rows_made _).mono ?_; rintro e w1 ⟨rfl, hR, hb1, hz⟩; have c1 := hR.r1 i hi; rw [hL, World.size_alloc] at c1; have hh := hR.here; rw [World.size_alloc] at hh; clear hR; obtain ⟨k1, k2, k3, k4⟩ := keepB hb1; have cpc1 : w1.cell? ⟨b, 3, none⟩ = some (.int .u32 S.pc) := (k4.cell (p := ⟨b, 3, none⟩) h3).trans cpc)
          | (go_at_call 87; refine (exec_any _ _ _ _ (by assumption) (by assumption)).mono ?_; rintro e w2 ⟨rfl, hb2⟩))
        go_ret
        exact ⟨rfl, below2 k4 hb2⟩
      · go_enter Tryz.func53, Tryz.ntmps53
        go_wp2_with (first
          | (go_at_call 57; refine (rows_made _).mono ?_; rintro e w1 ⟨rfl, hR, hb1, hz⟩; have c1 := hR.r1 i hi; rw [hL, World.size_alloc] at c1; have hh := hR.here; rw [World.size_alloc] at hh; clear hR; obtain ⟨k1, k2, k3, k4⟩ := keepB hb1; have cpc1 : w1.cell? ⟨b, 3, none⟩ = some (.int .u32 S.pc) := (k4.cell (p := ⟨b, 3, none⟩) h3).trans cpc)
          | (go_at_call 87; refine (exec_any _ _ _ _ (by assumption) (by assumption)).mono ?_; rintro e w2 ⟨rfl, hb2⟩))
        go_ret
        exact ⟨rfl, below2 k4 hb2⟩
    · rw [if_neg l2]
      have m2 : (L == 73) = false := by simp; omega
      have m3 : (L == 72) = false := by simp; omega
      go_enter Tryz.func53, Tryz.ntmps53
      go_wp2_with (first
        | (go_at_call 57; refine (rows_made _).mono ?_; rintro e w1 ⟨rfl, hR, hb1, hz⟩; have c1 := hR.r1 i hi; rw [hL, World.size_alloc] at c1; have hh := hR.here; rw [World.size_alloc] at hh; clear hR; obtain ⟨k1, k2, k3, k4⟩ := keepB hb1; have cpc1 : w1.cell? ⟨b, 3, none⟩ = some (.int .u32 S.pc) := (k4.cell (p := ⟨b, 3, none⟩) h3).trans cpc)
        | (go_at_call 87; refine (exec_any _ _ _ _ (by assumption) (by assumption)).mono ?_; rintro e w2 ⟨rfl, hb2⟩))
      go_ret
      exact ⟨rfl, below2 k4 hb2⟩
end Go.Proofs.YtengofkjlgajlaaGreatDoor
/-
  THE ANSWER's HART: what is wrong with an address.
-/
namespace Go.Proofs.YtengofkjlgajlaaGreatDoor
open Go Go.RowKit
theorem lr_all : ((List.range 67).all fun i => ((nameAt i).toList == [108, 114, 46, 119]) == (i == 45)) = true := by kernel_rfl
theorem lr_name (i : Nat) (hi : i < 67) : ((nameAt i).toList == [108, 114, 46, 119]) = (i == 45) := by
  have := List.all_eq_true.1 lr_all i (List.mem_range.2 hi)
  rwa [beq_iff_eq] at this
/-- does an operation load (or reserve) -/
def loadB (op : Int) : Bool := clR op == 4 || op == 46
def HS.inB (S : HS) (x n : Int) : Bool := decide (65536 ≤ x) && decide (x + n ≤ 65536 + S.size)
def devB (op x n : Int) : Bool := clR op == 5 && decide (131072 ≤ x) && decide (x + n ≤ 131076)
/-- what is wrong with an address; -1: nothing -/
def faultN (ld inn dev : Bool) (bad : Bool) : Int := if bad then (if ld then 4 else 6) else if inn || dev then -1 else (if ld then 5 else 7)
def HS.faultI (S : HS) (op x : Int) : Int := faultN (loadB op) (S.inB x (szI op)) (devB op x (szI op)) (x % szI op != 0)
set_option maxHeartbeats 4000000 in
theorem fault_at (b : Nat) (S : HS) (i : Nat) (x n : Int) (w : World) (h : RH w b S) (hi : i < 67) (hx : U32 x) (hs : 0 ≤ S.size ∧ S.size ≤ 4096) (hn : szI ((i : Int) + 1) = n) (hn0 : n = 1 ∨ n = 2 ∨ n = 4) (ld inn dev bad : Bool) (e1 : loadB ((i : Int) + 1) = ld) (e2 : S.inB x n = inn) (e3 : devB ((i : Int) + 1) x n = dev) (e4 : (x % n != 0) = bad) : Calls Tryz.prog 45 #[.pointer (some ⟨b, 0, none⟩), .int .i64 ((i : Int) + 1), .int .u32 x] w fun e w' => e = .returned (.int .i64 (faultN ld inn dev bad)) ∧ Below w.heap.size w w' := by
  have csize : w.cell? ⟨b, 1, none⟩ = some (.int .i64 S.size) := h.cell 1 (by decide)
  have h3 := h.here
  clear h
  obtain ⟨c, hc⟩ : ∃ c, clR ((i : Int) + 1) = c := ⟨_, rfl⟩
  have e5 : x.tmod n = x % n := Int.tmod_eq_emod_of_nonneg hx.1
  have hl := lr_name i hi
  unfold loadB at e1
  unfold devB at e3
  unfold HS.inB at e2
  rw [hc] at e1 e3
  go_enter Tryz.func45, Tryz.ntmps45
  go_wp2_with (first
    | (go_at_call 43; refine (size_any _ _).mono ?_; rintro e w1 ⟨rfl, hb1⟩; rw [hn]; have csize1 : w1.cell? ⟨b, 1, none⟩ = some (.int .i64 S.size) := (hb1.cell (p := ⟨b, 1, none⟩) h3).trans csize; have h31 := Nat.lt_of_lt_of_le h3 hb1.size)
    | (go_at_call 29; refine (clsR_any _ _).mono ?_; rintro e w2 ⟨rfl, hb2⟩; rw [hc]; have csize2 : w2.cell? ⟨b, 1, none⟩ = some (.int .i64 S.size) := (hb2.cell (p := ⟨b, 1, none⟩) h31).trans csize1; have h32 := Nat.lt_of_lt_of_le h31 hb2.size)
    | (go_at_call 57; refine (rows_made _).mono ?_; rintro e w3 ⟨rfl, hR, hb3, hz⟩; have c0 := hR.r0 i hi; have csize3 : w3.cell? ⟨b, 1, none⟩ = some (.int .i64 S.size) := (hb3.cell (p := ⟨b, 1, none⟩) h32).trans csize2; have hh := hR.here; clear hR))
  all_goals
    go_ret
    refine ⟨ret_int ?_, below2 (below2 hb1 hb2) hb3⟩
    subst e1 e2 e3 e4
    clear csize h3 hn hc e5 hl hb1 csize1 h31 hb2 csize2 h32 hb3 hz c0 csize3 hh
    simp only [faultN, Bool.or_eq_true, Bool.and_eq_true, decide_eq_true_eq, beq_iff_eq, bne_iff_ne, Bool.not_eq_true', decide_eq_false_iff_not, ne_eq, Decidable.not_not, Bool.not_eq_false', beq_eq_false_iff_ne] at *
    repeat' split
    all_goals first | rfl | omega | contradiction
theorem sz_all : ((List.range 68).all fun k => szN k == 0 || szN k == 1 || szN k == 2 || szN k == 4) = true := by kernel_rfl
theorem sz_124 (i : Nat) (hi : i < 67) (h : szI ((i : Int) + 1) ≠ 0) : szI ((i : Int) + 1) = 1 ∨ szI ((i : Int) + 1) = 2 ∨ szI ((i : Int) + 1) = 4 := by
  have e : szI ((i : Int) + 1) = szN (i + 1) := by
    unfold szI
    rw [if_pos (by omega)]
    rfl
  rw [e] at h ⊢
  have := List.all_eq_true.1 sz_all (i + 1) (List.mem_range.2 (by omega))
  simp only [Bool.or_eq_true, beq_iff_eq] at this
  omega
theorem fault_any (b : Nat) (S : HS) (i : Nat) (x : Int) (w : World) (h : RH w b S) (hi : i < 67) (hx : U32 x) (hs : 0 ≤ S.size ∧ S.size ≤ 4096) (hn : szI ((i : Int) + 1) ≠ 0) : Calls Tryz.prog 45 #[.pointer (some ⟨b, 0, none⟩), .int .i64 ((i : Int) + 1), .int .u32 x] w fun e w' => e = .returned (.int .i64 (S.faultI ((i : Int) + 1) x)) ∧ Below w.heap.size w w' :=
  fault_at b S i x _ w h hi hx hs rfl (sz_124 i hi hn) _ _ _ _ rfl rfl rfl rfl
end Go.Proofs.YtengofkjlgajlaaGreatDoor
