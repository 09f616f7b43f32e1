/-
  THE ANSWER's HART IN MEMORY: its cells, and what turns them.
-/
import Derived.Test.YtnlagbiikpbjdaaGreatDoorTd
import Derived.Test.YtnlagbiikpbjdaaGreatDoorTc
namespace Go.Proofs.YtnlagbiikpbjdaaGreatDoor
open Go Go.RowKit
/-- a hart's numbers -/
structure HS where
  code : Value
  size : Int
  num : Int
  pc : Int
  regs : Nat → Int
  halted : Bool
  count : Int
  status : Int
  enable : Int
  vector : Int
  scratch : Int
  epc : Int
  cause : Int
  tval : Int
def upd (c : Nat → Value) (o : Nat) (v : Value) : Nat → Value := fun i => if i = o then v else c i
/-- its cells -/
def HS.enc2 (S : HS) : Nat → Value
  | 0 => S.code
  | 1 => .int .i64 S.size
  | 2 => .int .i64 S.num
  | 3 => .int .u32 S.pc
  | 36 => .bool S.halted
  | 37 => .int .i64 S.count
  | 38 => .int .u32 S.status
  | 39 => .int .u32 S.enable
  | 40 => .int .u32 S.vector
  | 41 => .int .u32 S.scratch
  | 42 => .int .u32 S.epc
  | 43 => .int .u32 S.cause
  | 44 => .int .u32 S.tval
  | _ => undef
def HS.enc (S : HS) (o : Nat) : Value := if 4 ≤ o ∧ o < 36 then .int .u32 (S.regs (o - 4)) else S.enc2 o
/-- a block whose first n cells read so, and may be written -/
structure CellsAt (n : Nat) (w : World) (b : Nat) (c : Nat → Value) : Prop where
  here : b < w.heap.size
  cell : ∀ o, o < n → w.cell? ⟨b, o, none⟩ = some (c o)
  free : ∀ o, w.frozen? ⟨b, o, none⟩ = false
theorem CellsAt.set {n : Nat} {w : World} {b : Nat} {c : Nat → Value} (h : CellsAt n w b c) (o : Nat) (ho : o < n) (v : Value) : CellsAt n (w.setCell ⟨b, o, none⟩ v) b (upd c o v) := by
  refine ⟨by simpa [World.setCell] using h.here, fun i hi => ?_, fun i => ?_⟩
  · unfold upd
    by_cases e : i = o
    · subst e
      rw [if_pos rfl]
      exact World.cell?_setCell_same _ _ _ (h.cell i hi)
    · rw [if_neg e, World.cell?_setCell_other _ _ _ _ (by intro q; exact e (congrArg Addr.off q).symm)]
      exact h.cell i hi
  · rw [World.frozen?_setCell]; exact h.free i
theorem CellsAt.alloc {n : Nat} {w : World} {b : Nat} {c : Nat → Value} (h : CellsAt n w b c) (o : Obj) : CellsAt n (w.alloc o) b c := by
  have hb : Below w.heap.size w (w.alloc o) := (Below.refl _ _).alloc (Nat.le_refl _) o
  exact ⟨Nat.lt_of_lt_of_le h.here hb.size, fun i hi => (hb.cell (p := ⟨b, i, none⟩) h.here).trans (h.cell i hi), fun i => (hb.frozen (p := ⟨b, i, none⟩) h.here).trans (h.free i)⟩
theorem CellsAt.below {n : Nat} {w w' : World} {b : Nat} {c : Nat → Value} (h : CellsAt n w b c) (hb : Below w.heap.size w w') : CellsAt n w' b c :=
  ⟨Nat.lt_of_lt_of_le h.here hb.size, fun i hi => (hb.cell (p := ⟨b, i, none⟩) h.here).trans (h.cell i hi), fun i => (hb.frozen (p := ⟨b, i, none⟩) h.here).trans (h.free i)⟩
theorem CellsAt.to {n : Nat} {w : World} {b : Nat} {c d : Nat → Value} (h : CellsAt n w b c) (e : c = d) : CellsAt n w b d := e ▸ h
abbrev RH (w : World) (b : Nat) (S : HS) : Prop := CellsAt 45 w b S.enc
/-- of what was there nothing but block b has turned -/
structure Only (b : Nat) (w w' : World) : Prop where
  os : w'.os = w.os
  tape : w'.tape = w.tape
  output : w'.output = w.output
  size : w.heap.size ≤ w'.heap.size
  block : ∀ k, k < w.heap.size → k ≠ b → w'.heap[k]? = w.heap[k]?
theorem Only.refl (b : Nat) (w : World) : Only b w w := ⟨rfl, rfl, rfl, Nat.le_refl _, fun _ _ _ => rfl⟩
theorem Only.trans {b : Nat} {x y z : World} (h : Only b x y) (k : Only b y z) : Only b x z :=
  ⟨k.os.trans h.os, k.tape.trans h.tape, k.output.trans h.output, Nat.le_trans h.size k.size, fun i hi hb => (k.block i (Nat.lt_of_lt_of_le hi h.size) hb).trans (h.block i hi hb)⟩
theorem Only.set {b : Nat} {x y : World} (h : Only b x y) (o : Nat) (v : Value) : Only b x (y.setCell ⟨b, o, none⟩ v) :=
  h.trans ⟨rfl, rfl, rfl, by simp [World.setCell], fun k _ hb => Below.heap_setCell _ _ _ _ hb⟩
theorem Only.alloc {b : Nat} {x y : World} (h : Only b x y) (o : Obj) : Only b x (y.alloc o) :=
  h.trans ⟨rfl, rfl, rfl, by simp, fun k hk _ => Below.heap_alloc _ _ _ hk⟩
theorem Only.of_below {b : Nat} {x y : World} (h : Below x.heap.size x y) : Only b x y := ⟨h.os, h.tape, h.output, h.size, fun k hk _ => h.block k hk⟩
theorem Only.below {b B : Nat} {x y : World} (h : Only b x y) (hB : B ≤ x.heap.size) (hb : B ≤ b) : Below B x y := ⟨h.os, h.tape, h.output, h.size, fun k hk => h.block k (by omega) (by omega)⟩
theorem Only.cells {b c n : Nat} {x y : World} {f : Nat → Value} (h : Only b x y) (k : CellsAt n x c f) (hc : c ≠ b) : CellsAt n y c f := by
  have hb := h.block c k.here hc
  exact ⟨Nat.lt_of_lt_of_le k.here h.size, fun i hi => (World.cell?_of_block (w := x) hb).trans (k.cell i hi), fun i => (World.frozen?_of_block (w := x) hb).trans (k.free i)⟩
theorem enc_pc (S : HS) (v : Int) : upd S.enc 3 (.int .u32 v) = { S with pc := v }.enc := by
  funext o
  unfold upd
  split
  · subst o; rfl
  · unfold HS.enc
    split
    · rfl
    · unfold HS.enc2; split <;> first | rfl | (exfalso; omega)
theorem RH.pc {w : World} {b : Nat} {S : HS} (h : RH w b S) (v : Int) : RH (w.setCell ⟨b, 3, none⟩ (.int .u32 v)) b { S with pc := v } := (h.set 3 (by decide) _).to (enc_pc S v)
theorem enc_halted (S : HS) (v : Bool) : upd S.enc 36 (.bool v) = { S with halted := v }.enc := by
  funext o
  unfold upd
  split
  · subst o; rfl
  · unfold HS.enc
    split
    · rfl
    · unfold HS.enc2; split <;> first | rfl | (exfalso; omega)
theorem RH.halted {w : World} {b : Nat} {S : HS} (h : RH w b S) (v : Bool) : RH (w.setCell ⟨b, 36, none⟩ (.bool v)) b { S with halted := v } := (h.set 36 (by decide) _).to (enc_halted S v)
theorem enc_count (S : HS) (v : Int) : upd S.enc 37 (.int .i64 v) = { S with count := v }.enc := by
  funext o
  unfold upd
  split
  · subst o; rfl
  · unfold HS.enc
    split
    · rfl
    · unfold HS.enc2; split <;> first | rfl | (exfalso; omega)
theorem RH.count {w : World} {b : Nat} {S : HS} (h : RH w b S) (v : Int) : RH (w.setCell ⟨b, 37, none⟩ (.int .i64 v)) b { S with count := v } := (h.set 37 (by decide) _).to (enc_count S v)
theorem enc_status (S : HS) (v : Int) : upd S.enc 38 (.int .u32 v) = { S with status := v }.enc := by
  funext o
  unfold upd
  split
  · subst o; rfl
  · unfold HS.enc
    split
    · rfl
    · unfold HS.enc2; split <;> first | rfl | (exfalso; omega)
theorem RH.status {w : World} {b : Nat} {S : HS} (h : RH w b S) (v : Int) : RH (w.setCell ⟨b, 38, none⟩ (.int .u32 v)) b { S with status := v } := (h.set 38 (by decide) _).to (enc_status S v)
theorem enc_enable (S : HS) (v : Int) : upd S.enc 39 (.int .u32 v) = { S with enable := v }.enc := by
  funext o
  unfold upd
  split
  · subst o; rfl
  · unfold HS.enc
    split
    · rfl
    · unfold HS.enc2; split <;> first | rfl | (exfalso; omega)
theorem RH.enable {w : World} {b : Nat} {S : HS} (h : RH w b S) (v : Int) : RH (w.setCell ⟨b, 39, none⟩ (.int .u32 v)) b { S with enable := v } := (h.set 39 (by decide) _).to (enc_enable S v)
theorem enc_vector (S : HS) (v : Int) : upd S.enc 40 (.int .u32 v) = { S with vector := v }.enc := by
  funext o
  unfold upd
  split
  · subst o; rfl
  · unfold HS.enc
    split
    · rfl
    · unfold HS.enc2; split <;> first | rfl | (exfalso; omega)
theorem RH.vector {w : World} {b : Nat} {S : HS} (h : RH w b S) (v : Int) : RH (w.setCell ⟨b, 40, none⟩ (.int .u32 v)) b { S with vector := v } := (h.set 40 (by decide) _).to (enc_vector S v)
theorem enc_scratch (S : HS) (v : Int) : upd S.enc 41 (.int .u32 v) = { S with scratch := v }.enc := by
  funext o
  unfold upd
  split
  · subst o; rfl
  · unfold HS.enc
    split
    · rfl
    · unfold HS.enc2; split <;> first | rfl | (exfalso; omega)
theorem RH.scratch {w : World} {b : Nat} {S : HS} (h : RH w b S) (v : Int) : RH (w.setCell ⟨b, 41, none⟩ (.int .u32 v)) b { S with scratch := v } := (h.set 41 (by decide) _).to (enc_scratch S v)
theorem enc_epc (S : HS) (v : Int) : upd S.enc 42 (.int .u32 v) = { S with epc := v }.enc := by
  funext o
  unfold upd
  split
  · subst o; rfl
  · unfold HS.enc
    split
    · rfl
    · unfold HS.enc2; split <;> first | rfl | (exfalso; omega)
theorem RH.epc {w : World} {b : Nat} {S : HS} (h : RH w b S) (v : Int) : RH (w.setCell ⟨b, 42, none⟩ (.int .u32 v)) b { S with epc := v } := (h.set 42 (by decide) _).to (enc_epc S v)
theorem enc_cause (S : HS) (v : Int) : upd S.enc 43 (.int .u32 v) = { S with cause := v }.enc := by
  funext o
  unfold upd
  split
  · subst o; rfl
  · unfold HS.enc
    split
    · rfl
    · unfold HS.enc2; split <;> first | rfl | (exfalso; omega)
theorem RH.cause {w : World} {b : Nat} {S : HS} (h : RH w b S) (v : Int) : RH (w.setCell ⟨b, 43, none⟩ (.int .u32 v)) b { S with cause := v } := (h.set 43 (by decide) _).to (enc_cause S v)
theorem enc_tval (S : HS) (v : Int) : upd S.enc 44 (.int .u32 v) = { S with tval := v }.enc := by
  funext o
  unfold upd
  split
  · subst o; rfl
  · unfold HS.enc
    split
    · rfl
    · unfold HS.enc2; split <;> first | rfl | (exfalso; omega)
theorem RH.tval {w : World} {b : Nat} {S : HS} (h : RH w b S) (v : Int) : RH (w.setCell ⟨b, 44, none⟩ (.int .u32 v)) b { S with tval := v } := (h.set 44 (by decide) _).to (enc_tval S v)
def HS.setReg (S : HS) (r : Nat) (v : Int) : HS := { S with regs := fun i => if i = r then v else S.regs i }
theorem enc_reg (S : HS) (r : Nat) (hr : r < 32) (v : Int) : upd S.enc (4 + r) (.int .u32 v) = (S.setReg r v).enc := by
  funext o
  unfold upd
  by_cases e : o = 4 + r
  · subst e
    rw [if_pos rfl]
    unfold HS.enc
    rw [if_pos (by omega)]
    show _ = Value.int IntKind.u32 (if 4 + r - 4 = r then v else _)
    rw [if_pos (by omega)]
  · rw [if_neg e]
    unfold HS.enc
    by_cases k : 4 ≤ o ∧ o < 36
    · rw [if_pos k, if_pos k]
      show _ = Value.int IntKind.u32 (if o - 4 = r then v else _)
      rw [if_neg (by omega)]
    · rw [if_neg k, if_neg k]
      rfl
theorem RH.reg {w : World} {b : Nat} {S : HS} (h : RH w b S) (r : Nat) (hr : r < 32) (v : Int) : RH (w.setCell ⟨b, 4 + r, none⟩ (.int .u32 v)) b (S.setReg r v) := (h.set (4 + r) (by omega) _).to (enc_reg S r hr v)
theorem RH.atReg {w : World} {b : Nat} {S : HS} (h : RH w b S) (r : Nat) (hr : r < 32) : w.cell? ⟨b, 4 + r, none⟩ = some (.int .u32 (S.regs r)) := by
  rw [h.cell (4 + r) (by omega)]
  unfold HS.enc
  rw [if_pos (by omega), show 4 + r - 4 = r by omega]
/-- what an instruction that is done leaves -/
def HS.done (S : HS) (r : Nat) (v next : Int) : HS := { (S.setReg r v) with pc := next, count := wrap64 (S.count + 1) }
set_option maxHeartbeats 1000000 in
theorem done_0 (b : Nat) (S : HS) (word v next : Int) (w : World) (h : RH w b S) : Calls Tryz.prog 64 #[.pointer (some ⟨b, 0, none⟩), .int .u32 word, .int .i64 0, .int .u32 v, .int .u32 next] w fun e w' => e = .returned (.agg #[.int .u32 S.pc, .int .u32 word, .int .i64 0, .int .u32 0, .int .i64 (-1), .int .u32 0, .int .u32 next]) ∧ RH w' b (S.done 0 0 next) ∧ Only b w w' := by
  have h1 : w.cell? ⟨b, 3, none⟩ = some (.int .u32 S.pc) := h.cell 3 (by decide)
  have h2 : w.cell? ⟨b, 37, none⟩ = some (.int .i64 S.count) := h.cell 37 (by decide)
  have h3 := h.here
  have h4 := h.free
  have h5 : w.cell? ⟨b, 4, none⟩ = some (.int .u32 (S.regs 0)) := h.atReg 0 (by decide)
  have HH : Hid (RH w b S) := h
  clear h
  go_enter Tryz.func64, Tryz.ntmps64
  go_wp2
  refine bodyPost_ret (v := .agg #[.int .u32 S.pc, .int .u32 word, .int .i64 0, .int .u32 0, .int .i64 (-1), .int .u32 0, .int .u32 next]) (by simp [results, Tryz.results64, go_sem]) rfl ⟨rfl, ?_, ?_⟩
  · exact ((((HH.out.reg 0 (by decide) 0).pc next).count _).alloc _).alloc _
  · exact (((((Only.refl b w).set _ _).set _ _).set _ _).alloc _).alloc _
set_option maxHeartbeats 1000000 in
theorem done_1 (b : Nat) (S : HS) (word : Int) (r : Nat) (v next : Int) (w : World) (h : RH w b S) (hr : r < 32) (hr0 : 0 < r) : Calls Tryz.prog 64 #[.pointer (some ⟨b, 0, none⟩), .int .u32 word, .int .i64 r, .int .u32 v, .int .u32 next] w fun e w' => e = .returned (.agg #[.int .u32 S.pc, .int .u32 word, .int .i64 r, .int .u32 v, .int .i64 (-1), .int .u32 0, .int .u32 next]) ∧ RH w' b (S.done r v next) ∧ Only b w w' := by
  have h1 : w.cell? ⟨b, 3, none⟩ = some (.int .u32 S.pc) := h.cell 3 (by decide)
  have h2 : w.cell? ⟨b, 37, none⟩ = some (.int .i64 S.count) := h.cell 37 (by decide)
  have h3 := h.here
  have h4 := h.free
  have h5 : w.cell? ⟨b, 4 + r, none⟩ = some (.int .u32 (S.regs r)) := h.atReg r hr
  have h6 : ((r : Int) == 0) = false := by simp; omega
  have HH : Hid (RH w b S) := h
  clear h
  go_enter Tryz.func64, Tryz.ntmps64
  go_wp2
  refine bodyPost_ret (v := .agg #[.int .u32 S.pc, .int .u32 word, .int .i64 r, .int .u32 v, .int .i64 (-1), .int .u32 0, .int .u32 next]) (by simp [results, Tryz.results64, go_sem]) rfl ⟨rfl, ?_, ?_⟩
  · exact ((((HH.out.reg r hr v).pc next).count _).alloc _).alloc _
  · exact (((((Only.refl b w).set _ _).set _ _).set _ _).alloc _).alloc _
end Go.Proofs.YtnlagbiikpbjdaaGreatDoor
