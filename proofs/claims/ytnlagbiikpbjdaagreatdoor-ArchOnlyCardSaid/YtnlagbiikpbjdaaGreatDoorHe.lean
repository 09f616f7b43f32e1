/-
  THE ANSWER's HART: what is wrong with an address.
-/
import Derived.Test.YtnlagbiikpbjdaaGreatDoorHd
namespace Go.Proofs.YtnlagbiikpbjdaaGreatDoor
open Go Go.RowKit
theorem lr_all : ((List.range 67).all fun i => ((nameAt i).toList == [108, 114, 46, 119]) == (i == 45)) = true := by kernel_rfl
theorem lr_name (i : Nat) (hi : i < 67) : ((nameAt i).toList == [108, 114, 46, 119]) = (i == 45) := by
  have := List.all_eq_true.1 lr_all i (List.mem_range.2 hi)
  rwa [beq_iff_eq] at this
/-- does an operation load (or reserve) -/
def loadB (op : Int) : Bool := clR op == 4 || op == 46
def HS.inB (S : HS) (x n : Int) : Bool := decide (65536 ≤ x) && decide (x + n ≤ 65536 + S.size)
def devB (op x n : Int) : Bool := clR op == 5 && decide (131072 ≤ x) && decide (x + n ≤ 131076)
/-- what is wrong with an address; -1: nothing -/
def faultN (ld inn dev : Bool) (bad : Bool) : Int := if bad then (if ld then 4 else 6) else if inn || dev then -1 else (if ld then 5 else 7)
def HS.faultI (S : HS) (op x : Int) : Int := faultN (loadB op) (S.inB x (szI op)) (devB op x (szI op)) (x % szI op != 0)
set_option maxHeartbeats 4000000 in
theorem fault_at (b : Nat) (S : HS) (i : Nat) (x n : Int) (w : World) (h : RH w b S) (hi : i < 67) (hx : U32 x) (hs : 0 ≤ S.size ∧ S.size ≤ 4096) (hn : szI ((i : Int) + 1) = n) (hn0 : n = 1 ∨ n = 2 ∨ n = 4) (ld inn dev bad : Bool) (e1 : loadB ((i : Int) + 1) = ld) (e2 : S.inB x n = inn) (e3 : devB ((i : Int) + 1) x n = dev) (e4 : (x % n != 0) = bad) : Calls Tryz.prog 60 #[.pointer (some ⟨b, 0, none⟩), .int .i64 ((i : Int) + 1), .int .u32 x] w fun e w' => e = .returned (.int .i64 (faultN ld inn dev bad)) ∧ Below w.heap.size w w' := by
  have csize : w.cell? ⟨b, 1, none⟩ = some (.int .i64 S.size) := h.cell 1 (by decide)
  have h3 := h.here
  clear h
  obtain ⟨c, hc⟩ : ∃ c, clR ((i : Int) + 1) = c := ⟨_, rfl⟩
  have e5 : x.tmod n = x % n := Int.tmod_eq_emod_of_nonneg hx.1
  have hl := lr_name i hi
  unfold loadB at e1
  unfold devB at e3
  unfold HS.inB at e2
  rw [hc] at e1 e3
  go_enter Tryz.func60, Tryz.ntmps60
  go_wp2_with (first
    | (go_at_call 58; refine (size_any _ _).mono ?_; rintro e w1 ⟨rfl, hb1⟩; rw [hn]; have csize1 : w1.cell? ⟨b, 1, none⟩ = some (.int .i64 S.size) := (hb1.cell (p := ⟨b, 1, none⟩) h3).trans csize; have h31 := Nat.lt_of_lt_of_le h3 hb1.size)
    | (go_at_call 30; refine (clsR_any _ _).mono ?_; rintro e w2 ⟨rfl, hb2⟩; rw [hc]; have csize2 : w2.cell? ⟨b, 1, none⟩ = some (.int .i64 S.size) := (hb2.cell (p := ⟨b, 1, none⟩) h31).trans csize1; have h32 := Nat.lt_of_lt_of_le h31 hb2.size)
    | (go_at_call 61; refine (rows_made _).mono ?_; rintro e w3 ⟨rfl, hR, hb3, hz⟩; have c0 := hR.r0 i hi; have csize3 : w3.cell? ⟨b, 1, none⟩ = some (.int .i64 S.size) := (hb3.cell (p := ⟨b, 1, none⟩) h32).trans csize2; have hh := hR.here; clear hR))
  all_goals
    go_ret
    refine ⟨ret_int ?_, below2 (below2 hb1 hb2) hb3⟩
    subst e1 e2 e3 e4
    clear csize h3 hn hc e5 hl hb1 csize1 h31 hb2 csize2 h32 hb3 hz c0 csize3 hh
    simp only [faultN, Bool.or_eq_true, Bool.and_eq_true, decide_eq_true_eq, beq_iff_eq, bne_iff_ne, Bool.not_eq_true', decide_eq_false_iff_not, ne_eq, Decidable.not_not, Bool.not_eq_false', beq_eq_false_iff_ne] at *
    repeat' split
    all_goals first | rfl | omega | contradiction
theorem sz_all : ((List.range 68).all fun k => szN k == 0 || szN k == 1 || szN k == 2 || szN k == 4) = true := by kernel_rfl
theorem sz_124 (i : Nat) (hi : i < 67) (h : szI ((i : Int) + 1) ≠ 0) : szI ((i : Int) + 1) = 1 ∨ szI ((i : Int) + 1) = 2 ∨ szI ((i : Int) + 1) = 4 := by
  have e : szI ((i : Int) + 1) = szN (i + 1) := by
    unfold szI
    rw [if_pos (by omega)]
    rfl
  rw [e] at h ⊢
  have := List.all_eq_true.1 sz_all (i + 1) (List.mem_range.2 (by omega))
  simp only [Bool.or_eq_true, beq_iff_eq] at this
  omega
theorem fault_any (b : Nat) (S : HS) (i : Nat) (x : Int) (w : World) (h : RH w b S) (hi : i < 67) (hx : U32 x) (hs : 0 ≤ S.size ∧ S.size ≤ 4096) (hn : szI ((i : Int) + 1) ≠ 0) : Calls Tryz.prog 60 #[.pointer (some ⟨b, 0, none⟩), .int .i64 ((i : Int) + 1), .int .u32 x] w fun e w' => e = .returned (.int .i64 (S.faultI ((i : Int) + 1) x)) ∧ Below w.heap.size w w' :=
  fault_at b S i x _ w h hi hx hs rfl (sz_124 i hi hn) _ _ _ _ rfl rfl rfl rfl
end Go.Proofs.YtnlagbiikpbjdaaGreatDoor
