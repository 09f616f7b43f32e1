/-
  RENAME's LAWS: what they draw, two tables side by side, rows of numbers.
-/
import Derived.Test.YtpolfpebhbkabaaNg
import Derived.BigQuiet
namespace Go.Proofs.Ytpolfpebhbkabaa
open Go Go.RowKit
def I64 (x : Int) : Prop := -9223372036854775808 ≤ x ∧ x ≤ 9223372036854775807
theorem pick_k (c n : Int) (hc : 0 ≤ c) (hn : 1 ≤ n) : ∃ k : Nat, (k : Int) < n ∧ c.tmod n = k := by
  refine ⟨(c % n).toNat, ?_, ?_⟩
  · have := Int.emod_lt_of_pos c (show 0 < n by omega)
    have := Int.emod_nonneg c (show n ≠ 0 by omega)
    omega
  · rw [Int.tmod_eq_emod_of_nonneg hc]
    have := Int.emod_nonneg c (show n ≠ 0 by omega)
    omega
set_option maxHeartbeats 1000000 in
theorem pick_any (c n : Int) (w : World) (hc : I64 c) (hn : 1 ≤ n) : Calls Try.prog 5 #[.int .i64 c, .int .i64 n] w fun e w' => ∃ k : Nat, (k : Int) < n ∧ e = .returned (.int .i64 k) ∧ w' = w := by
  obtain ⟨hc1, hc2⟩ := hc
  by_cases h0 : c < 0
  · obtain ⟨k, hk, he⟩ := pick_k (-(c + 1)) n (by omega) hn
    have hz : (n == 0) = false := by simp; omega
    have hz2 : ¬ n = 0 := by omega
    have hz3 : ¬ n = -1 := by omega
    have HK := Hid.in hk
    clear hk
    go_enter Try.func5, Try.ntmps5
    go_wp2
    go_ret
    exact ⟨k, HK.out, rfl, rfl⟩
  · obtain ⟨k, hk, he⟩ := pick_k c n (by omega) hn
    have hz : (n == 0) = false := by simp; omega
    have hz2 : ¬ n = 0 := by omega
    have hz3 : ¬ n = -1 := by omega
    have HK := Hid.in hk
    clear hk
    go_enter Try.func5, Try.ntmps5
    go_wp2
    go_ret
    exact ⟨k, HK.out, rfl, rfl⟩
/-- a row of numbers that was handed in, in the world w -/
def Ints (w : World) (p : Option Addr) (m : Nat) (g : Nat → Int) : Prop := ∀ i, i < m → ∃ b o, p = some ⟨b, o, none⟩ ∧ b < w.heap.size ∧ w.cell? ⟨b, o + i, none⟩ = some (.int .i64 (g i)) ∧ I64 (g i)
/-- two tables in the world wr, w being that of the call; B: above them -/
structure Two (w wr : World) (B p h q g n : Nat) (S T : NT) : Prop where
  s : Tab wr p h n S
  t : Tab wr q g n T
  gr : Below w.heap.size w wr
  p0 : w.heap.size ≤ p ∧ w.heap.size ≤ h ∧ w.heap.size ≤ q ∧ w.heap.size ≤ g
  b0 : p < B ∧ h < B ∧ q < B ∧ g < B
  bz : B ≤ wr.heap.size
  ne : p ≠ q ∧ p ≠ g ∧ h ≠ q ∧ h ≠ g
theorem Two.onS {w x y : World} {B p h q g n : Nat} {S T U : NT} (k : Two w x B p h q g n S T) (c : Turned (fun k => k = p ∨ k = h) x y) (t : Tab y p h n U) : Two w y B p h q g n U T := by
  obtain ⟨a1, a2, a3, a4, a5, a6, a7⟩ := k
  exact ⟨t, a2.turned c (by rintro (e | e) <;> omega) (by rintro (e | e) <;> omega), a3.trans (c.below a3.size (by rintro k (e | e) <;> omega)), a4, a5, Nat.le_trans a6 c.size, a7⟩
theorem Two.onT {w x y : World} {B p h q g n : Nat} {S T U : NT} (k : Two w x B p h q g n S T) (c : Turned (fun k => k = q ∨ k = g) x y) (t : Tab y q g n U) : Two w y B p h q g n S U := by
  obtain ⟨a1, a2, a3, a4, a5, a6, a7⟩ := k
  exact ⟨a1.turned c (by rintro (e | e) <;> omega) (by rintro (e | e) <;> omega), t, a3.trans (c.below a3.size (by rintro k (e | e) <;> omega)), a4, a5, Nat.le_trans a6 c.size, a7⟩
theorem Two.below {w x y : World} {B p h q g n : Nat} {S T : NT} (k : Two w x B p h q g n S T) (c : Below B x y) : Two w y B p h q g n S T := by
  obtain ⟨a1, a2, a3, a4, a5, a6, a7⟩ := k
  have c2 : Turned (fun k => B ≤ k) x y := ⟨c.os, c.tape, c.output, c.size, fun k _ hk => c.block k (by omega)⟩
  exact ⟨a1.turned c2 (by omega) (by omega), a2.turned c2 (by omega) (by omega), a3.trans (c.mono (by omega)), a4, a5, Nat.le_trans a6 c.size, a7⟩
theorem Two.drewN {w x : World} {B p h q g n : Nat} {S T : NT} (k : Two w x B p h q g n S T) (m : Nat) : Two w (x.drewN m) B p h q g n S T := k.below ⟨rfl, rfl, rfl, Nat.le_refl _, fun _ _ => rfl⟩
theorem Two.drew {w x : World} {B p h q g n : Nat} {S T : NT} (k : Two w x B p h q g n S T) : Two w x.drew B p h q g n S T := k.below (Below.refl _ _).drew
end Go.Proofs.Ytpolfpebhbkabaa
