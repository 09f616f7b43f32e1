/-
  LSQ's LAW LsqSteps: the size refused; the start; the op's block; oldest.
-/
import Derived.Test.YtelcckcfbpjcaaaDoorIc
import Derived.Test.YtelcckcfbpjcaaaDoorIe
namespace Go.Proofs.YtelcckcfbpjcaaaDoor
open Go Go.RowKit
theorem loldest {w0 x : World} {p q : Nat} {v rv : Value} {S : QS} {R : RS} (k : Lz w0 x p q v rv S R) (H : Same S R) (I : S.Inv) : Calls Tryd.prog 29 #[.pointer (some ⟨p, 0, none⟩), .pointer (some ⟨q, 0, none⟩)] x fun e w' => e = .returned (.bool true) ∧ Below x.heap.size x w' := by
  cases h : S.top
  · exact loldest_no _ p q v rv S R x k.qm k.rm H h
  · have h2 := h
    unfold QS.top at h2
    rw [Bool.and_eq_true, decide_eq_true_eq] at h2
    exact loldest_yes _ p q v rv S R x k.qm k.rm H h ((I.ok 0 h2.1).ret h2.2).2.1
def OpsAt (w : World) (q : Option Addr) (m : Nat) (g : Nat → Nat → Int) : Prop := ∀ i, i < m → ∃ b o, q = some ⟨b, o, none⟩ ∧ b < w.heap.size ∧ w.cell? ⟨b, o + i * 4, none⟩ = some (.int .i64 (g i 0)) ∧ w.cell? ⟨b, o + i * 4 + 1, none⟩ = some (.int .i64 (g i 1)) ∧ w.cell? ⟨b, o + i * 4 + 2, none⟩ = some (.int .i64 (g i 2)) ∧ w.cell? ⟨b, o + i * 4 + 3, none⟩ = some (.int .i64 (g i 3))
set_option maxRecDepth 100000 in
set_option maxHeartbeats 4000000 in
theorem steps_bad (n : Int) (wp : Option Addr) (m cw : Nat) (w : World) (hn : ¬ (1 ≤ n ∧ n ≤ 32)) (hg : handleAt w) (hm : m ≤ 9223372036854775807) : Calls Tryd.prog 3 #[.int .i64 n, .slice wp m cw] w fun e w' => e = .returned (.bool true) ∧ Below w.heap.size w w' := by
  have HG := Hid.in hg
  have HN := Hid.in hn
  clear hg hn
  go_enter Tryd.func3, Tryd.ntmps3
  go_wp2_with (first
    | (go_at_call 5; refine (new_bad n _ HN.out).mono ?_; rintro e w1 ⟨rfl, hww⟩; have hww2 := hww.symm; clear hww; subst hww2)
    | (go_at_call 6; refine (rnew_bad n _ HN.out).mono ?_; rintro e w2 ⟨rfl, hww⟩; have hww2 := hww.symm; clear hww; subst hww2)
    | (go_at_call 7; refine (ltold_err 2 _ HG.out).mono ?_; rintro e w3 ⟨rfl, hb⟩; have HB := Hid.in hb; clear hb))
  go_loopw [9, 10, 11] (fun _ _ kv wr => kv = .int .i64 0 ∧ Below w.heap.size w wr) (fun _ _ _ _ => 0)
  case atStart => exact ⟨rfl, HB.out⟩
  case round =>
    obtain ⟨rfl, hbr⟩ := hrel
    have HBR := Hid.in hbr
    clear hbr
    by_cases h0 : m = 0
    · subst h0
      go_wp2
      go_ret
      exact ⟨rfl, HBR.out⟩
    · have h1 : (0 : Int) < (m : Int) := by omega
      go_wp2
      go_ret
      exact ⟨rfl, HBR.out⟩
theorem lz_start {w w1 w2 : World} {n p q : Nat} (k1 : Qm w1 w.heap.size p (.slice none 0 0) ⟨n, []⟩) (b1 : Below w.heap.size w w1) (hq : w1.heap.size = q) (k2 : Rm w2 w.heap.size q (.slice none 0 0) ⟨n, []⟩) (b2 : Below w1.heap.size w1 w2) : Lz w w2 p q (.slice none 0 0) (.slice none 0 0) ⟨n, []⟩ ⟨n, []⟩ := by
  refine ⟨k1.below b2, k2, fun j hj e => ?_, b1.trans (b2.mono b1.size)⟩
  have h1 := (k1.low j e).2
  rcases hj with rfl | hj
  · omega
  · simp [Value.ownBlock] at hj
theorem same_start (n : Nat) : Same ⟨n, []⟩ ⟨n, []⟩ := ⟨rfl, rfl, fun i hi => absurd hi (by simp)⟩
theorem inv_start (n : Nat) (h : 1 ≤ n) : QS.Inv ⟨n, []⟩ := ⟨fun i j _ hj => absurd hj (by simp), fun i j _ hj => absurd hj (by simp), fun i hi => absurd hi (by simp), by simp, h⟩
def ov4 (a b c d : Int) : Nat → Value
  | 0 => .int .i64 a
  | 1 => .int .i64 b
  | 2 => .int .i64 c
  | _ => .int .i64 d
theorem ov4_new (w : World) (a b c d : Int) : CellsAt 4 (w.alloc (.cells #[.int .i64 a, .int .i64 b, .int .i64 c, .int .i64 d] 33)) w.heap.size (ov4 a b c d) := by
  refine cells_new w fun i hi => ?_
  match i, hi with
  | 0, _ => rfl
  | 1, _ => rfl
  | 2, _ => rfl
  | 3, _ => rfl
theorem op_cells {x : World} {ob : Nat} {a b c d : Int} (h : CellsAt 4 x ob (ov4 a b c d)) : x.cell? ⟨ob, 2, none⟩ = some (.int .i64 c) ∧ x.cell? ⟨ob, 3, none⟩ = some (.int .i64 d) ∧ ob < x.heap.size :=
  ⟨h.cell 2 (by decide), h.cell 3 (by decide), h.here⟩
theorem op_cells0 {x : World} {ob : Nat} {a b c d : Int} (h : CellsAt 4 x ob (ov4 a b c d)) : x.cell? ⟨ob, 0, none⟩ = some (.int .i64 a) ∧ x.cell? ⟨ob, 1, none⟩ = some (.int .i64 b) ∧ x.cell? ⟨ob, 2, none⟩ = some (.int .i64 c) ∧ x.cell? ⟨ob, 3, none⟩ = some (.int .i64 d) ∧ ob < x.heap.size :=
  ⟨h.cell 0 (by decide), h.cell 1 (by decide), op_cells h⟩
end Go.Proofs.YtelcckcfbpjcaaaDoor
