/-
  CACHE's LAW CacheSteps: the shape refused; the start.
-/
import Derived.Test.YtljmmepjknfmcaaDoorLd
namespace Go.Proofs.YtljmmepjknfmcaaDoor
open Go Go.RowKit
def OpsAt (w : World) (q : Option Addr) (m : Nat) (g : Nat → Nat → Int) : Prop := ∀ i, i < m → ∃ b o, q = some ⟨b, o, none⟩ ∧ b < w.heap.size ∧ w.cell? ⟨b, o + i * 4, none⟩ = some (.int .i64 (g i 0)) ∧ w.cell? ⟨b, o + i * 4 + 1, none⟩ = some (.int .i64 (g i 1)) ∧ w.cell? ⟨b, o + i * 4 + 2, none⟩ = some (.int .i64 (g i 2)) ∧ w.cell? ⟨b, o + i * 4 + 3, none⟩ = some (.int .i64 (g i 3))
set_option maxRecDepth 100000 in
set_option maxHeartbeats 4000000 in
theorem steps_bad (n k : Int) (wp : Option Addr) (m cw : Nat) (w : World) (hn63 : -9223372036854775808 ≤ n ∧ n ≤ 9223372036854775807) (hn : ¬ (isN n ∧ 1 ≤ k ∧ k ≤ 4)) (hg : handleAt w) (hgs : 0 < w.heap.size) (hm : m ≤ 9223372036854775807) : Calls Tryd.prog 3 #[.int .i64 n, .int .i64 k, .slice wp m cw] w fun e w' => e = .returned (.bool true) ∧ Below w.heap.size w w' := by
  have HGR : Hid (∀ y, Below w.heap.size w y → handleAt y) := fun y hy => (hy.cell (p := ⟨0, 0, none⟩) hgs).trans hg
  have HN := Hid.in hn
  have HN6 := Hid.in hn63
  clear hg hn hgs hn63
  go_enter Tryd.func3, Tryd.ntmps3
  go_wp2_with (first
    | (go_at_call 4; refine (new_bad n k _ HN6.out HN.out).mono ?_; rintro e w1 ⟨rfl, hb1⟩; have HB1 := Hid.in hb1; clear hb1)
    | (go_at_call 5; refine (rnew_bad n k _ HN.out).mono ?_; rintro e w2 ⟨rfl, hww⟩; have hww2 := hww.symm; clear hww; subst hww2)
    | (go_at_call 6; refine (ltold_err 2 _ (HGR.out _ HB1.out)).mono ?_; rintro e w3 ⟨rfl, hb⟩; have HB := Hid.in (HB1.out.trans (hb.mono HB1.out.size)); clear hb))
  go_loopw [11, 12] (fun _ kv wr => kv = .int .i64 0 ∧ Below w.heap.size w wr) (fun _ _ _ => 0)
  case atStart => exact ⟨rfl, HB.out⟩
  case round =>
    obtain ⟨rfl, hbr⟩ := hrel
    have HBR := Hid.in hbr
    clear hbr
    by_cases h0 : m = 0
    · subst h0
      go_wp2
      go_ret
      exact ⟨rfl, HBR.out⟩
    · have h1 : (0 : Int) < (m : Int) := by omega
      go_wp2
      go_ret
      exact ⟨rfl, HBR.out⟩
theorem lz_start {w w1 w2 : World} {n k p h : Nat} (k1 : Ch w1 w.heap.size p h n (fun _ => .slice none 0 0) ⟨k, n, fun _ => []⟩) (b1 : Below w.heap.size w w1) (k2 : RC w2 w.heap.size w1.heap.size (.slice none 0 0) n k []) (b2 : Below w1.heap.size w1 w2) : Lz w w2 p h n w1.heap.size (fun _ => .slice none 0 0) (.slice none 0 0) ⟨k, n, fun _ => []⟩ [] := by
  have hs := b1.size
  refine ⟨k1.below b2, k2, fun e => ?_, fun j e => by simp [Value.ownBlock] at e, b1.trans (b2.mono hs)⟩
  rcases e with e | e | ⟨i, hi, e⟩
  · have := k1.c.here
    omega
  · have := k1.v.here
    omega
  · simp [Value.ownBlock] at e
end Go.Proofs.YtljmmepjknfmcaaDoor
