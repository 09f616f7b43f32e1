/-
  BUS: do others have a line?
-/
import Derived.Test.YtbbaopldebdoiaaBu9
namespace Go.Proofs.Ytbbaopldebdoiaa
open Go Go.RowKit
/-- does a core ahead of n, other than the one whose turn it is, have a line? -/
def BS.oth (S : BS) (l n : Nat) : Prop := ∃ i, i < n ∧ i ≠ S.turn ∧ (S.c i).st l ≠ 0
section
variable {x : World} {B p rb rc mb mc nb ab kn ka : Nat} {P H C : Nat → Nat} {V : Nat → Nat → Value} {S : BS}
set_option maxRecDepth 100000 in
set_option maxHeartbeats 1000000 in
theorem both_any (k : Bm x B p rb rc mb mc nb ab kn ka P H C V S) (l : Nat) (hl : l < 4294967296) : Calls Try.prog 32 #[.pointer (some ⟨p, 0, none⟩), .int .u32 l] x fun e w' => ∃ b : Bool, e = .returned (.bool b) ∧ (b = true ↔ S.oth l S.nc) ∧ Below x.heap.size x w' := by
  have HK := Hid.in k
  have HL := Hid.in hl
  have c0 : x.cell? ⟨p, 0, none⟩ = some (.slice (some ⟨rb, 0, none⟩) S.nc rc) := k.c.cell 0 (by decide)
  have hp := k.c.here
  have hnc : S.nc ≤ 2 := k.sz.2.1
  clear k hl
  go_enter Try.func32, Try.ntmps32
  go_wp2
  go_loopw [12] (fun iv wr => ∃ i : Nat, iv = .int .i64 i ∧ i ≤ S.nc ∧ Below x.heap.size x wr ∧ ¬ S.oth l i) (fun iv _ => 3 - (intOf iv).toNat)
  case atStart => exact ⟨0, rfl, by omega, Below.refl _ _, fun ⟨i, hi, _⟩ => by omega⟩
  case round =>
    obtain ⟨i, rfl, hi, hb, hno⟩ := hrel
    have HB := Hid.in hb
    have HNO := Hid.in hno
    have kR := HK.out.below hb
    clear hb hno
    by_cases hlt : i < S.nc
    · have hlt' : (i : Int) < (S.nc : Int) := by omega
      have r0 : wr.cell? ⟨rb, i, none⟩ = some (.pointer (some ⟨P i, 0, none⟩)) := kR.row.cell i hlt
      have hr := kR.row.here
      have d5 : wr.cell? ⟨p, 5, none⟩ = some (.int .i64 S.turn) := kR.c.cell 5 (by decide)
      have dp := kR.c.here
      have HST := Hid.in (cst_any B (P i) (H i) (C i) (V i) (S.c i) l wr (kR.ch i hlt) HL.out)
      clear kR
      have hnext : ∀ z, Below wr.heap.size wr z → ¬ (i ≠ S.turn ∧ (S.c i).st l ≠ 0) → ∃ j : Nat, Value.int .i64 ((i : Int) + 1) = .int .i64 j ∧ j ≤ S.nc ∧ Below x.heap.size x z ∧ ¬ S.oth l j := fun z hz hn => ⟨i + 1, by simp, by omega, HB.out.trans (hz.mono HB.out.size), fun ⟨j, h1, h2, h3⟩ => by
        by_cases e : j = i
        · subst e
          exact hn ⟨h2, h3⟩
        · exact HNO.out ⟨j, by omega, h2, h3⟩⟩
      have HNX := Hid.in hnext
      clear hnext
      by_cases ht : (i : Int) = (S.turn : Int)
      · have hq : ((i : Int) != (S.turn : Int)) = false := by simp; omega
        have HTT := Hid.in ht
        clear ht
        go_wp2
        go_roundw
        case rel => exact HNX.out _ (Below.refl _ _) (fun h => h.1 (by have := HTT.out; omega))
        case measure =>
          simp [intOf]
          omega
      · have hq : ((i : Int) != (S.turn : Int)) = true := by simp; omega
        have HTT := Hid.in ht
        clear ht
        by_cases hs : (S.c i).st l = 0
        · rw [hs] at HST
          go_wp2_with (go_at_call 18; refine HST.out.mono ?_; rintro e z ⟨rfl, hz⟩; have HZ := Hid.in hz; clear hz)
          go_roundw
          case rel => exact HNX.out _ HZ.out (fun h => h.2 hs)
          case measure =>
            simp [intOf]
            omega
        · obtain ⟨st, hst⟩ : ∃ st, (S.c i).st l = st := ⟨_, rfl⟩
          rw [hst] at HST
          have hs' : ((st : Int) != 0) = true := by simp; omega
          have HSS := Hid.in hs
          clear hs hst
          go_wp2_with (go_at_call 18; refine HST.out.mono ?_; rintro e z ⟨rfl, hz⟩; have HZ := Hid.in hz; clear hz)
          go_ret
          exact ⟨true, rfl, ⟨fun _ => ⟨i, hlt, by have := HTT.out; omega, HSS.out⟩, fun _ => rfl⟩, HB.out.trans (HZ.out.mono HB.out.size)⟩
    · obtain rfl : i = S.nc := by omega
      go_wp2
      go_ret
      exact ⟨false, rfl, ⟨(fun h => by cases h), fun h => absurd h HNO.out⟩, HB.out⟩
end
end Go.Proofs.Ytbbaopldebdoiaa
