/-
  THE ANSWER's HART: traps, jumps, interrupts, control registers.
-/
import Derived.Test.YtnlagbiikpbjdaaGreatDoorHa
import Derived.RegionTactic
import Derived.ChangeAlike
namespace Go.Proofs.YtnlagbiikpbjdaaGreatDoor
open Go Go.RowKit
theorem CellsAt.drew {n : Nat} {w : World} {b : Nat} {c : Nat → Value} (h : CellsAt n w b c) : CellsAt n w.drew b c := h.below (Below.refl _ _).drew
theorem Only.drew {b : Nat} {x y : World} (h : Only b x y) : Only b x y.drew := h.trans ⟨rfl, rfl, rfl, Nat.le_refl _, fun _ _ _ => rfl⟩
def rvI (r : Nat) (v : Int) : Int := if r = 0 then 0 else v
/-- what is told of an instruction that is done -/
def HS.doneR (S : HS) (word : Int) (r : Nat) (v next : Int) : Value := .agg #[.int .u32 S.pc, .int .u32 word, .int .i64 r, .int .u32 (rvI r v), .int .i64 (-1), .int .u32 0, .int .u32 next]
theorem done_any (b : Nat) (S : HS) (word : Int) (r : Nat) (v next : Int) (w : World) (h : RH w b S) (hr : r < 32) : Calls Tryz.prog 64 #[.pointer (some ⟨b, 0, none⟩), .int .u32 word, .int .i64 r, .int .u32 v, .int .u32 next] w fun e w' => e = .returned (S.doneR word r v next) ∧ RH w' b (S.done r (rvI r v) next) ∧ Only b w w' := by
  by_cases h0 : r = 0
  · subst h0; exact done_0 b S word v next w h
  · have e : rvI r v = v := if_neg h0
    unfold HS.doneR
    rw [e]
    exact done_1 b S word r v next w h hr (by omega)
/-- what a trap leaves, where it goes, what is told of it -/
def HS.trapped (S : HS) (cause tval : Int) : HS := if S.vector = 0 then { S with halted := true } else { S with epc := S.pc, cause := cause % 4294967296, tval := tval, status := bits .and .u32 S.status 8 * 16 % 4294967296, pc := S.vector }
def HS.trapTo (S : HS) : Int := if S.vector = 0 then S.pc else S.vector
def HS.trapR (S : HS) (word cause tval : Int) : Value := .agg #[.int .u32 S.pc, .int .u32 word, .int .i64 0, .int .u32 0, .int .i64 cause, .int .u32 tval, .int .u32 S.trapTo]
set_option maxHeartbeats 2000000 in
theorem trap_0 (b : Nat) (S : HS) (word cause tval : Int) (w : World) (h : RH w b S) (hv : S.vector = 0) : Calls Tryz.prog 56 #[.pointer (some ⟨b, 0, none⟩), .int .u32 word, .int .i64 cause, .int .u32 tval] w fun e w' => e = .returned (S.trapR word cause tval) ∧ RH w' b (S.trapped cause tval) ∧ Only b w w' := by
  have cpc : w.cell? ⟨b, 3, none⟩ = some (.int .u32 S.pc) := h.cell 3 (by decide)
  have cvector : w.cell? ⟨b, 40, none⟩ = some (.int .u32 S.vector) := h.cell 40 (by decide)
  have chalted : w.cell? ⟨b, 36, none⟩ = some (.bool S.halted) := h.cell 36 (by decide)
  have e1 : S.trapTo = S.pc := if_pos hv
  have e2 : S.trapped cause tval = { S with halted := true } := if_pos hv
  unfold HS.trapR
  rw [e1, e2]
  clear e1 e2
  rw [hv] at cvector
  have h3 := h.here
  have h4 := h.free
  have HH : Hid (RH w b S) := h
  clear h
  go_enter Tryz.func56, Tryz.ntmps56
  go_wp2
  go_region
  go_wp2
  refine bodyPost_ret (v := .agg #[.int .u32 S.pc, .int .u32 word, .int .i64 0, .int .u32 0, .int .i64 cause, .int .u32 tval, .int .u32 S.pc]) (by simp [results, Tryz.results56, go_sem]) rfl ⟨rfl, ?_, ?_⟩
  · exact (((HH.out.halted true).alloc _).alloc _).drew
  · exact ((((Only.refl b w).set _ _).alloc _).alloc _).drew
set_option maxHeartbeats 4000000 in
theorem trap_1 (b : Nat) (S : HS) (word cause tval : Int) (w : World) (h : RH w b S) (hv : ¬ S.vector = 0) : Calls Tryz.prog 56 #[.pointer (some ⟨b, 0, none⟩), .int .u32 word, .int .i64 cause, .int .u32 tval] w fun e w' => e = .returned (S.trapR word cause tval) ∧ RH w' b (S.trapped cause tval) ∧ Only b w w' := by
  have cpc : w.cell? ⟨b, 3, none⟩ = some (.int .u32 S.pc) := h.cell 3 (by decide)
  have cvector : w.cell? ⟨b, 40, none⟩ = some (.int .u32 S.vector) := h.cell 40 (by decide)
  have cepc : w.cell? ⟨b, 42, none⟩ = some (.int .u32 S.epc) := h.cell 42 (by decide)
  have ccause : w.cell? ⟨b, 43, none⟩ = some (.int .u32 S.cause) := h.cell 43 (by decide)
  have ctval : w.cell? ⟨b, 44, none⟩ = some (.int .u32 S.tval) := h.cell 44 (by decide)
  have cstatus : w.cell? ⟨b, 38, none⟩ = some (.int .u32 S.status) := h.cell 38 (by decide)
  have e1 : S.trapTo = S.vector := if_neg hv
  have e2 : S.trapped cause tval = { S with epc := S.pc, cause := cause % 4294967296, tval := tval, status := bits .and .u32 S.status 8 * 16 % 4294967296, pc := S.vector } := if_neg hv
  unfold HS.trapR
  rw [e1, e2]
  clear e1 e2
  have hv' : (S.vector == 0) = false := by simp; exact hv
  have h3 := h.here
  have h4 := h.free
  have HH : Hid (RH w b S) := h
  clear h
  go_enter Tryz.func56, Tryz.ntmps56
  go_wp2
  go_region
  go_wp2
  refine bodyPost_ret (v := .agg #[.int .u32 S.pc, .int .u32 word, .int .i64 0, .int .u32 0, .int .i64 cause, .int .u32 tval, .int .u32 S.vector]) (by simp [results, Tryz.results56, go_sem]) rfl ⟨rfl, ?_, ?_⟩
  · exact (((((((HH.out.epc _).cause _).tval _).status _).pc _).alloc _).alloc _).drew
  · exact ((((((((Only.refl b w).set _ _).set _ _).set _ _).set _ _).set _ _).alloc _).alloc _).drew
theorem trap_any (b : Nat) (S : HS) (word cause tval : Int) (w : World) (h : RH w b S) : Calls Tryz.prog 56 #[.pointer (some ⟨b, 0, none⟩), .int .u32 word, .int .i64 cause, .int .u32 tval] w fun e w' => e = .returned (S.trapR word cause tval) ∧ RH w' b (S.trapped cause tval) ∧ Only b w w' := by
  by_cases hv : S.vector = 0
  · exact trap_0 b S word cause tval w h hv
  · exact trap_1 b S word cause tval w h hv
end Go.Proofs.YtnlagbiikpbjdaaGreatDoor
