/-
  THE ANSWER's HART: jumps, interrupts, control registers.
-/
import Derived.Test.YtnlagbiikpbjdaaGreatDoorHb
namespace Go.Proofs.YtnlagbiikpbjdaaGreatDoor
open Go Go.RowKit
theorem keepO {b : Nat} {w w2 : World} {c : Array Value} {t : TypeId} (hO : Only b (w.alloc (.cells c t)) w2) (hb : b < w.heap.size) :
    (∀ i, w2.cell? ⟨w.heap.size, i, none⟩ = c[i]?) ∧ (∀ i, w2.frozen? ⟨w.heap.size, i, none⟩ = false) ∧ w.heap.size < w2.heap.size ∧ Only b w w2 := by
  have hs := hO.size
  simp only [World.size_alloc] at hs
  have hk := hO.block w.heap.size (by simp) (by omega)
  refine ⟨fun i => ?_, fun i => ?_, by omega, ((Only.refl b w).alloc _).trans hO⟩
  · rw [World.cell?_of_block (w := w.alloc (.cells c t)) hk]
    exact World.cell?_alloc_new w c t i
  · rw [World.frozen?_of_block (w := w.alloc (.cells c t)) hk]
    exact World.frozen?_alloc_at c t _ i rfl
theorem Only.new {b B : Nat} {x y : World} (h : Only b x y) (hB : x.heap.size ≤ B) (o : Nat) (v : Value) : Only b x (y.setCell ⟨B, o, none⟩ v) :=
  ⟨h.os, h.tape, h.output, by simpa [World.setCell] using h.size, fun k hk hb => (Below.heap_setCell _ _ _ _ (by show k ≠ B; omega)).trans (h.block k hk hb)⟩
theorem CellsAt.far {n : Nat} {w : World} {b B : Nat} {c : Nat → Value} (h : CellsAt n w b c) (hB : b ≠ B) (o : Nat) (v : Value) : CellsAt n (w.setCell ⟨B, o, none⟩ v) b c :=
  (Only.set (Only.refl B w) o v).cells h hB
theorem CellsAt.far7 {n : Nat} {w : World} {b B : Nat} {c : Nat → Value} (h : CellsAt n w b c) (hB : b ≠ B) (v0 v1 v2 v3 v4 v5 v6 : Value) : CellsAt n (((((((w.setCell ⟨B, 0, none⟩ v0).setCell ⟨B, 1, none⟩ v1).setCell ⟨B, 2, none⟩ v2).setCell ⟨B, 3, none⟩ v3).setCell ⟨B, 4, none⟩ v4).setCell ⟨B, 5, none⟩ v5).setCell ⟨B, 6, none⟩ v6) b c :=
  ((((((h.far hB _ _).far hB _ _).far hB _ _).far hB _ _).far hB _ _).far hB _ _).far hB _ _
theorem Only.new7 {b B : Nat} {x y : World} (h : Only b x y) (hB : x.heap.size ≤ B) (v0 v1 v2 v3 v4 v5 v6 : Value) : Only b x (((((((y.setCell ⟨B, 0, none⟩ v0).setCell ⟨B, 1, none⟩ v1).setCell ⟨B, 2, none⟩ v2).setCell ⟨B, 3, none⟩ v3).setCell ⟨B, 4, none⟩ v4).setCell ⟨B, 5, none⟩ v5).setCell ⟨B, 6, none⟩ v6) :=
  ((((((h.new hB _ _).new hB _ _).new hB _ _).new hB _ _).new hB _ _).new hB _ _).new hB _ _
/-- a jump -/
def HS.jumpR (S : HS) (word : Int) (r : Nat) (to : Int) : Value := if to % 4 = 0 then S.doneR word r ((S.pc + 4) % 4294967296) to else S.trapR word 0 to
def HS.jumped (S : HS) (r : Nat) (to : Int) : HS := if to % 4 = 0 then S.done r (rvI r ((S.pc + 4) % 4294967296)) to else S.trapped 0 to
set_option maxHeartbeats 2000000 in
theorem jump_any (b : Nat) (S : HS) (word : Int) (r : Nat) (to : Int) (w : World) (h : RH w b S) (hr : r < 32) (ht : 0 ≤ to ∧ to < 4294967296) : Calls Tryz.prog 66 #[.pointer (some ⟨b, 0, none⟩), .int .u32 word, .int .i64 r, .int .u32 to] w fun e w' => e = .returned (S.jumpR word r to) ∧ RH w' b (S.jumped r to) ∧ Only b w w' := by
  have cpc : w.cell? ⟨b, 3, none⟩ = some (.int .u32 S.pc) := h.cell 3 (by decide)
  have h3 := h.here
  have h4 := h.free
  have HH : Hid (RH w b S) := h
  clear h
  by_cases h0 : to % 4 = 0
  · have e1 : S.jumpR word r to = S.doneR word r ((S.pc + 4) % 4294967296) to := if_pos h0
    have e2 : S.jumped r to = S.done r (rvI r ((S.pc + 4) % 4294967296)) to := if_pos h0
    rw [e1, e2]
    clear e1 e2
    go_enter Tryz.func66, Tryz.ntmps66
    go_wp2_with (first | (go_at_call 64; refine (done_any b S _ r _ _ _ (HH.out.alloc _) hr).mono ?_; rintro e w1 ⟨rfl, hR, hO⟩; obtain ⟨k1, k2, k3, k4⟩ := keepO hO h3; unfold HS.doneR))
    refine bodyPost_ret (v := S.doneR word r ((S.pc + 4) % 4294967296) to) (by simp [results, Tryz.results66, go_sem, k1, HS.doneR]) rfl ⟨rfl, ?_, ?_⟩
    · exact hR.far7 (by omega) _ _ _ _ _ _ _
    · exact k4.new7 (Nat.le_refl _) _ _ _ _ _ _ _
  · have e1 : S.jumpR word r to = S.trapR word 0 to := if_neg h0
    have e2 : S.jumped r to = S.trapped 0 to := if_neg h0
    rw [e1, e2]
    clear e1 e2
    go_enter Tryz.func66, Tryz.ntmps66
    go_wp2_with (first | (go_at_call 56; refine (trap_any b S _ _ _ _ (HH.out.alloc _)).mono ?_; rintro e w1 ⟨rfl, hR, hO⟩; obtain ⟨k1, k2, k3, k4⟩ := keepO hO h3; unfold HS.trapR))
    refine bodyPost_ret (v := S.trapR word 0 to) (by simp [results, Tryz.results66, go_sem, k1, HS.trapR]) rfl ⟨rfl, ?_, ?_⟩
    · exact hR.far7 (by omega) _ _ _ _ _ _ _
    · exact k4.new7 (Nat.le_refl _) _ _ _ _ _ _ _
/-- a control register; is there one -/
def HS.csrV (S : HS) (n : Int) : Int := if n = 768 then S.status else if n = 772 then S.enable else if n = 773 then S.vector else if n = 832 then S.scratch else if n = 833 then S.epc else if n = 834 then S.cause else if n = 835 then S.tval else if n = 3074 then S.count % 4294967296 else if n = 3860 then S.num % 4294967296 else 0
def csrB (n : Int) : Bool := n == 768 || n == 772 || n == 773 || n == 832 || n == 833 || n == 834 || n == 835 || n == 3074 || n == 3860
set_option maxHeartbeats 2000000 in
theorem csr_any (b : Nat) (S : HS) (n : Int) (w : World) (h : RH w b S) : Calls Tryz.prog 36 #[.pointer (some ⟨b, 0, none⟩), .int .i64 n] w fun e w' => e = .returned (.tuple #[.int .u32 (S.csrV n), .bool (csrB n)]) ∧ w' = w := by
  have cstatus : w.cell? ⟨b, 38, none⟩ = some (.int .u32 S.status) := h.cell 38 (by decide)
  have cenable : w.cell? ⟨b, 39, none⟩ = some (.int .u32 S.enable) := h.cell 39 (by decide)
  have cvector : w.cell? ⟨b, 40, none⟩ = some (.int .u32 S.vector) := h.cell 40 (by decide)
  have cscratch : w.cell? ⟨b, 41, none⟩ = some (.int .u32 S.scratch) := h.cell 41 (by decide)
  have cepc : w.cell? ⟨b, 42, none⟩ = some (.int .u32 S.epc) := h.cell 42 (by decide)
  have ccause : w.cell? ⟨b, 43, none⟩ = some (.int .u32 S.cause) := h.cell 43 (by decide)
  have ctval : w.cell? ⟨b, 44, none⟩ = some (.int .u32 S.tval) := h.cell 44 (by decide)
  have ccount : w.cell? ⟨b, 37, none⟩ = some (.int .i64 S.count) := h.cell 37 (by decide)
  have cnum : w.cell? ⟨b, 2, none⟩ = some (.int .i64 S.num) := h.cell 2 (by decide)
  have h3 := h.here
  have h4 := h.free
  have HH : Hid (RH w b S) := h
  clear h
  by_cases n768 : n = 768
  · subst n768
    show Calls _ _ _ _ fun e w' => e = .returned (.tuple #[.int .u32 (S.status), .bool true]) ∧ w' = w
    go_enter Tryz.func36, Tryz.ntmps36
    go_wp2
    exact bodyPost_ret (by simp [results, Tryz.results36, go_sem]) rfl ⟨rfl, rfl⟩
  by_cases n772 : n = 772
  · subst n772
    show Calls _ _ _ _ fun e w' => e = .returned (.tuple #[.int .u32 (S.enable), .bool true]) ∧ w' = w
    go_enter Tryz.func36, Tryz.ntmps36
    go_wp2
    exact bodyPost_ret (by simp [results, Tryz.results36, go_sem]) rfl ⟨rfl, rfl⟩
  by_cases n773 : n = 773
  · subst n773
    show Calls _ _ _ _ fun e w' => e = .returned (.tuple #[.int .u32 (S.vector), .bool true]) ∧ w' = w
    go_enter Tryz.func36, Tryz.ntmps36
    go_wp2
    exact bodyPost_ret (by simp [results, Tryz.results36, go_sem]) rfl ⟨rfl, rfl⟩
  by_cases n832 : n = 832
  · subst n832
    show Calls _ _ _ _ fun e w' => e = .returned (.tuple #[.int .u32 (S.scratch), .bool true]) ∧ w' = w
    go_enter Tryz.func36, Tryz.ntmps36
    go_wp2
    exact bodyPost_ret (by simp [results, Tryz.results36, go_sem]) rfl ⟨rfl, rfl⟩
  by_cases n833 : n = 833
  · subst n833
    show Calls _ _ _ _ fun e w' => e = .returned (.tuple #[.int .u32 (S.epc), .bool true]) ∧ w' = w
    go_enter Tryz.func36, Tryz.ntmps36
    go_wp2
    exact bodyPost_ret (by simp [results, Tryz.results36, go_sem]) rfl ⟨rfl, rfl⟩
  by_cases n834 : n = 834
  · subst n834
    show Calls _ _ _ _ fun e w' => e = .returned (.tuple #[.int .u32 (S.cause), .bool true]) ∧ w' = w
    go_enter Tryz.func36, Tryz.ntmps36
    go_wp2
    exact bodyPost_ret (by simp [results, Tryz.results36, go_sem]) rfl ⟨rfl, rfl⟩
  by_cases n835 : n = 835
  · subst n835
    show Calls _ _ _ _ fun e w' => e = .returned (.tuple #[.int .u32 (S.tval), .bool true]) ∧ w' = w
    go_enter Tryz.func36, Tryz.ntmps36
    go_wp2
    exact bodyPost_ret (by simp [results, Tryz.results36, go_sem]) rfl ⟨rfl, rfl⟩
  by_cases n3074 : n = 3074
  · subst n3074
    show Calls _ _ _ _ fun e w' => e = .returned (.tuple #[.int .u32 (S.count % 4294967296), .bool true]) ∧ w' = w
    go_enter Tryz.func36, Tryz.ntmps36
    go_wp2
    exact bodyPost_ret (by simp [results, Tryz.results36, go_sem]) rfl ⟨rfl, rfl⟩
  by_cases n3860 : n = 3860
  · subst n3860
    show Calls _ _ _ _ fun e w' => e = .returned (.tuple #[.int .u32 (S.num % 4294967296), .bool true]) ∧ w' = w
    go_enter Tryz.func36, Tryz.ntmps36
    go_wp2
    exact bodyPost_ret (by simp [results, Tryz.results36, go_sem]) rfl ⟨rfl, rfl⟩
  have e1 : S.csrV n = 0 := by unfold HS.csrV; rw [if_neg n768, if_neg n772, if_neg n773, if_neg n832, if_neg n833, if_neg n834, if_neg n835, if_neg n3074, if_neg n3860]
  have e2 : csrB n = false := by unfold csrB; simp; omega
  rw [e1, e2]
  have m768 : (n == 768) = false := by simp; exact n768
  have m772 : (n == 772) = false := by simp; exact n772
  have m773 : (n == 773) = false := by simp; exact n773
  have m832 : (n == 832) = false := by simp; exact n832
  have m833 : (n == 833) = false := by simp; exact n833
  have m834 : (n == 834) = false := by simp; exact n834
  have m835 : (n == 835) = false := by simp; exact n835
  have m3074 : (n == 3074) = false := by simp; exact n3074
  have m3860 : (n == 3860) = false := by simp; exact n3860
  go_enter Tryz.func36, Tryz.ntmps36
  go_wp2
  exact bodyPost_ret (by simp [results, Tryz.results36, go_sem]) rfl ⟨rfl, rfl⟩
/-- a control register is written -/
def HS.setCsr (S : HS) (n v : Int) : HS := if n = 768 then { S with status := bits .and .u32 v 136 } else if n = 772 then { S with enable := bits .and .u32 v 2048 } else if n = 773 then { S with vector := v - v % 4 } else if n = 832 then { S with scratch := v } else if n = 833 then { S with epc := v - v % 4 } else if n = 834 then { S with cause := v } else if n = 835 then { S with tval := v } else S
set_option maxHeartbeats 2000000 in
theorem set_any (b : Nat) (S : HS) (n v : Int) (w : World) (h : RH w b S) (_hv : 0 ≤ v ∧ v < 4294967296) : Calls Tryz.prog 96 #[.pointer (some ⟨b, 0, none⟩), .int .i64 n, .int .u32 v] w fun e w' => e = .returned (.tuple #[]) ∧ RH w' b (S.setCsr n v) ∧ Only b w w' := by
  have cstatus : w.cell? ⟨b, 38, none⟩ = some (.int .u32 S.status) := h.cell 38 (by decide)
  have cenable : w.cell? ⟨b, 39, none⟩ = some (.int .u32 S.enable) := h.cell 39 (by decide)
  have cvector : w.cell? ⟨b, 40, none⟩ = some (.int .u32 S.vector) := h.cell 40 (by decide)
  have cscratch : w.cell? ⟨b, 41, none⟩ = some (.int .u32 S.scratch) := h.cell 41 (by decide)
  have cepc : w.cell? ⟨b, 42, none⟩ = some (.int .u32 S.epc) := h.cell 42 (by decide)
  have ccause : w.cell? ⟨b, 43, none⟩ = some (.int .u32 S.cause) := h.cell 43 (by decide)
  have ctval : w.cell? ⟨b, 44, none⟩ = some (.int .u32 S.tval) := h.cell 44 (by decide)
  have h3 := h.here
  have h4 := h.free
  have HH : Hid (RH w b S) := h
  clear h
  by_cases n768 : n = 768
  · subst n768
    show Calls _ _ _ _ fun e w' => e = .returned (.tuple #[]) ∧ RH w' b { S with status := bits .and .u32 v 136 } ∧ Only b w w'
    go_enter Tryz.func96, Tryz.ntmps96
    go_wp2
    exact bodyPost_end (results_none Tryz.results96 _ _ _) rfl ⟨rfl, HH.out.status _, (Only.refl b w).set _ _⟩
  by_cases n772 : n = 772
  · subst n772
    show Calls _ _ _ _ fun e w' => e = .returned (.tuple #[]) ∧ RH w' b { S with enable := bits .and .u32 v 2048 } ∧ Only b w w'
    go_enter Tryz.func96, Tryz.ntmps96
    go_wp2
    exact bodyPost_end (results_none Tryz.results96 _ _ _) rfl ⟨rfl, HH.out.enable _, (Only.refl b w).set _ _⟩
  by_cases n773 : n = 773
  · subst n773
    show Calls _ _ _ _ fun e w' => e = .returned (.tuple #[]) ∧ RH w' b { S with vector := v - v % 4 } ∧ Only b w w'
    go_enter Tryz.func96, Tryz.ntmps96
    go_wp2
    exact bodyPost_end (results_none Tryz.results96 _ _ _) rfl ⟨rfl, HH.out.vector _, (Only.refl b w).set _ _⟩
  by_cases n832 : n = 832
  · subst n832
    show Calls _ _ _ _ fun e w' => e = .returned (.tuple #[]) ∧ RH w' b { S with scratch := v } ∧ Only b w w'
    go_enter Tryz.func96, Tryz.ntmps96
    go_wp2
    exact bodyPost_end (results_none Tryz.results96 _ _ _) rfl ⟨rfl, HH.out.scratch _, (Only.refl b w).set _ _⟩
  by_cases n833 : n = 833
  · subst n833
    show Calls _ _ _ _ fun e w' => e = .returned (.tuple #[]) ∧ RH w' b { S with epc := v - v % 4 } ∧ Only b w w'
    go_enter Tryz.func96, Tryz.ntmps96
    go_wp2
    exact bodyPost_end (results_none Tryz.results96 _ _ _) rfl ⟨rfl, HH.out.epc _, (Only.refl b w).set _ _⟩
  by_cases n834 : n = 834
  · subst n834
    show Calls _ _ _ _ fun e w' => e = .returned (.tuple #[]) ∧ RH w' b { S with cause := v } ∧ Only b w w'
    go_enter Tryz.func96, Tryz.ntmps96
    go_wp2
    exact bodyPost_end (results_none Tryz.results96 _ _ _) rfl ⟨rfl, HH.out.cause _, (Only.refl b w).set _ _⟩
  by_cases n835 : n = 835
  · subst n835
    show Calls _ _ _ _ fun e w' => e = .returned (.tuple #[]) ∧ RH w' b { S with tval := v } ∧ Only b w w'
    go_enter Tryz.func96, Tryz.ntmps96
    go_wp2
    exact bodyPost_end (results_none Tryz.results96 _ _ _) rfl ⟨rfl, HH.out.tval _, (Only.refl b w).set _ _⟩
  have e1 : S.setCsr n v = S := by unfold HS.setCsr; rw [if_neg n768, if_neg n772, if_neg n773, if_neg n832, if_neg n833, if_neg n834, if_neg n835]
  rw [e1]
  have m768 : (n == 768) = false := by simp; exact n768
  have m772 : (n == 772) = false := by simp; exact n772
  have m773 : (n == 773) = false := by simp; exact n773
  have m832 : (n == 832) = false := by simp; exact n832
  have m833 : (n == 833) = false := by simp; exact n833
  have m834 : (n == 834) = false := by simp; exact n834
  have m835 : (n == 835) = false := by simp; exact n835
  go_enter Tryz.func96, Tryz.ntmps96
  go_wp2
  exact bodyPost_end (results_none Tryz.results96 _ _ _) rfl ⟨rfl, HH.out, Only.refl b w⟩
/-- may an interrupt be taken; what is told -/
def HS.mayI (S : HS) : Bool := !(S.halted || bits .and .u32 S.status 8 == 0 || S.enable == 0)
def zeroR : Value := .agg #[.int .u32 0, .int .u32 0, .int .i64 0, .int .u32 0, .int .i64 0, .int .u32 0, .int .u32 0]
set_option maxHeartbeats 2000000 in
theorem interrupt_any (b : Nat) (S : HS) (w : World) (h : RH w b S) : Calls Tryz.prog 28 #[.pointer (some ⟨b, 0, none⟩)] w fun e w' => e = .returned (.tuple #[if S.mayI then S.trapR 0 2147483659 0 else zeroR, .bool S.mayI]) ∧ RH w' b (if S.mayI then S.trapped 2147483659 0 else S) ∧ Only b w w' := by
  have chalted : w.cell? ⟨b, 36, none⟩ = some (.bool S.halted) := h.cell 36 (by decide)
  have cstatus : w.cell? ⟨b, 38, none⟩ = some (.int .u32 S.status) := h.cell 38 (by decide)
  have cenable : w.cell? ⟨b, 39, none⟩ = some (.int .u32 S.enable) := h.cell 39 (by decide)
  have h3 := h.here
  have h4 := h.free
  have HH : Hid (RH w b S) := h
  clear h
  by_cases hm : S.mayI = true
  · rw [if_pos hm, if_pos hm, hm]
    have hx : S.halted = false ∧ (bits .and .u32 S.status 8 == 0) = false ∧ (S.enable == 0) = false := by
      unfold HS.mayI at hm
      revert hm
      cases S.halted <;> cases (bits .and .u32 S.status 8 == 0) <;> cases (S.enable == 0) <;> simp
    obtain ⟨x1, x2, x3⟩ := hx
    rw [x1] at chalted
    go_enter Tryz.func28, Tryz.ntmps28
    go_wp2_with (first | (go_at_call 56; refine (trap_any b S _ _ _ _ (HH.out.alloc _)).mono ?_; rintro e w1 ⟨rfl, hR, hO⟩; obtain ⟨k1, k2, k3, k4⟩ := keepO hO h3; unfold HS.trapR))
    refine bodyPost_ret (v := .tuple #[S.trapR 0 2147483659 0, .bool true]) (by simp [results, Tryz.results28, go_sem, k1, k3, HS.trapR]) rfl ⟨rfl, ?_, ?_⟩
    · exact (hR.far7 (by omega) _ _ _ _ _ _ _).alloc _
    · exact (k4.new7 (Nat.le_refl _) _ _ _ _ _ _ _).alloc _
  · rw [if_neg hm, if_neg hm, Bool.eq_false_iff.2 hm]
    have hx : S.halted = true ∨ (S.halted = false ∧ (bits .and .u32 S.status 8 == 0) = true) ∨ (S.halted = false ∧ (bits .and .u32 S.status 8 == 0) = false ∧ (S.enable == 0) = true) := by
      unfold HS.mayI at hm
      revert hm
      cases S.halted <;> cases (bits .and .u32 S.status 8 == 0) <;> cases (S.enable == 0) <;> simp
    rcases hx with x1 | ⟨x1, x2⟩ | ⟨x1, x2, x3⟩
    all_goals
      rw [x1] at chalted
      go_enter Tryz.func28, Tryz.ntmps28
      go_wp2
      exact bodyPost_ret (v := .tuple #[zeroR, .bool false]) (by simp [results, Tryz.results28, go_sem, zeroR]) rfl ⟨rfl, HH.out.alloc _, (Only.refl b w).alloc _⟩
end Go.Proofs.YtnlagbiikpbjdaaGreatDoor
