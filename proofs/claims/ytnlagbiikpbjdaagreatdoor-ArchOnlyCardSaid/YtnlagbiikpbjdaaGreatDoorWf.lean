/-
  THE PROGRAM's READING OF A WORD: bits, matches, number.
-/
import Derived.Test.YtnlagbiikpbjdaaGreatDoorWe
import Derived.Deep.RegionWith
namespace Go.Proofs.YtnlagbiikpbjdaaGreatDoor
open Go Go.RowKit
/-- the bits that are the same in all words of one operation -/
def wantI (k : Nat) : Int := bits .or .u32 (bits .or .u32 (codeAt k) (fAt k * 4096 % 4294967296)) (gAt k * 2 ^ (lyG (fmtAt k)).toNat % 4294967296)
theorem lyG_lt (f : Nat) (hf : f < 15) : 0 ≤ lyG f ∧ lyG f < 32 := by
  have : ∀ f, f < 15 → 0 ≤ lyG f ∧ lyG f < 32 := by decide
  exact this f hf
set_option maxHeartbeats 400000 in
theorem bits_any (k : Nat) (w : World) (hL : Laid w) : Calls Tryz.prog 125 #[shapeV k] w fun e w' => e = .returned (.int .u32 (wantI k)) ∧ Below w.heap.size w w' := by
  have HL : Hid (Laid w) := hL
  have hg := lyG_lt (fmtAt k) (fmt_lt k)
  obtain ⟨g, hg1⟩ : ∃ g : Nat, lyG (fmtAt k) = g := ⟨(lyG (fmtAt k)).toNat, by omega⟩
  have HG : Hid (lyG (fmtAt k) = g) := hg1
  have HC : ∀ w, Laid w → Calls Tryz.prog 160 #[.int .i64 (fmtAt k)] w fun e w' => e = .returned (.int .u8 g) ∧ w' = w := fun w h => by rw [← hg1]; exact gPlace_any (fmtAt k) (fmt_lt k) w h
  have g32 : g < 32 := by omega
  unfold shapeV
  have HCC : Hid (∀ w, Laid w → Calls Tryz.prog 160 #[.int .i64 (fmtAt k)] w fun e w' => e = .returned (.int .u8 g) ∧ w' = w) := HC
  clear hL hg hg1 HC
  go_enter Tryz.func125, Tryz.ntmps125
  go_wp2_with fail
  have HL2 : Hid (∀ n o, Laid ((w.alloc o).drewN n)) := fun n o => (HL.out.alloc _).drewN _
  go_quiet ((go_at_call 160; exact Calls.quiet_of_same (HCC.out _ (HL2.out _ _))))
  go_wp2
  go_ret
  refine ⟨ret_int ?_, below_drewN ((Below.refl _ _).alloc (Nat.le_refl _) _) _⟩
  unfold wantI
  rw [HG.out, Int.toNat_natCast]
theorem below_ad {w w2 : World} {o : Obj} (hb : Below (w.alloc o).drew.heap.size (w.alloc o).drew w2) : Below w.heap.size w w2 := (((Below.refl _ _).alloc (Nat.le_refl _) _).drew).trans (hb.mono (by simp))
def maskI (k : Nat) : Int := lyFixed (fmtAt k)
theorem bits_out (k : Nat) (w : World) (hL : Laid w) : Calls Tryz.prog 125 #[.agg #[.int .i64 (fmtAt k), .int .u32 (codeAt k), .int .u32 (fAt k), .int .u32 (gAt k)]] w fun e w' => e = .returned (.int .u32 (wantI k)) ∧ Below w.heap.size w w' := bits_any k w hL
set_option maxHeartbeats 400000 in
theorem matches_any (k : Nat) (x : Int) (w : World) (hL : Laid w) : Calls Tryz.prog 99 #[.agg #[.int .i64 (fmtAt k), .int .u32 (codeAt k), .int .u32 (fAt k), .int .u32 (gAt k)], .int .u32 x] w fun e w' => e = .returned (.bool (bits .and .u32 x (maskI k) == wantI k)) ∧ Below w.heap.size w w' := by
  have HL : Hid (Laid w) := hL
  clear hL
  go_enter Tryz.func99, Tryz.ntmps99
  go_wp2_with fail
  have HL2 : Hid (∀ o, Laid ((w.alloc o).drew)) := fun o => (HL.out.alloc _).drew
  go_region_with (first | (go_at_call 124; refine (fixed_any (fmtAt k) (fmt_lt k) _ (HL2.out _)).mono ?_; rintro e w1 ⟨rfl, rfl⟩) | (go_at_call 125; refine (bits_out k _ (HL2.out _)).mono ?_; rintro e w2 ⟨rfl, hb2⟩))
  all_goals go_wp2
  all_goals go_ret
  all_goals exact ⟨rfl, below_ad hb2⟩
end Go.Proofs.YtnlagbiikpbjdaaGreatDoor
