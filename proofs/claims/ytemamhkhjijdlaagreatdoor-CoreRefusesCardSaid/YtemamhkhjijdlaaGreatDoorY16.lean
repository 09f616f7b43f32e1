import Derived.Test.YtemamhkhjijdlaaGreatDoorY11
import Derived.Deep.RegionWith
/-
  THE PROGRAM's READING OF A WORD: register, mask, bits, pieces, number.
-/
namespace Go.Proofs.YtemamhkhjijdlaaGreatDoor
open Go Go.RowKit
def regI (b : Bool) (y : Nat) : Int := if b then ((y % 32 : Nat) : Int) else 0
theorem wrap64_nat (n : Nat) (h : n < 4294967296) : wrap64 (n : Int) = n := by unfold wrap64; omega
theorem register_any (b : Bool) (y : Nat) (h : y < 4294967296) (w : World) : Calls Tryz.prog 181 #[.bool b, .int .u32 y] w fun e w' => e = .returned (.int .i64 (regI b y)) ∧ w' = w := by
  cases b
  · go_enter Tryz.func181, Tryz.ntmps181
    go_wp2
    go_ret
    exact ⟨rfl, rfl⟩
  · go_enter Tryz.func181, Tryz.ntmps181
    go_wp2
    go_ret
    refine ⟨ret_int ?_, rfl⟩
    have e := u32_and_nat y 31 h (by decide)
    rw [nat_mask5] at e
    have e' : bits .and .u32 (y : Int) 31 = ((y % 32 : Nat) : Int) := e
    rw [e', wrap64_nat _ (by omega)]
    rfl
theorem mask_any (a b n : Nat) (h : n < 32) (w : World) : Calls Tryz.prog 238 #[.agg #[.int .u8 a, .int .u8 b, .int .u8 n]] w fun e w' => e = .returned (.int .u32 ((2 ^ n - 1 : Nat) : Int)) ∧ w' = w.alloc (.cells #[.int .u8 a, .int .u8 b, .int .u8 n] 392) := by
  go_enter Tryz.func238, Tryz.ntmps238
  go_wp2
  go_ret
  refine ⟨ret_int ?_, rfl⟩
  have h2 : 2 ^ n < 4294967296 := Nat.pow_lt_pow_of_lt (a := 2) (by decide) (show n < 32 from h)
  have h3 : 1 ≤ 2 ^ n := Nat.one_le_two_pow
  have e : ((2 : Int) ^ n) = ((2 ^ n : Nat) : Int) := by simp
  rw [e]
  omega
/-- a format's pieces: where in the word, where in Imm, how long -/
def pcs (f : Nat) : List Nat := match f with
  | 1 => [12, 0, 20, 0, 0, 0, 0, 0, 0, 0, 0, 0]
  | 2 => [31, 20, 1, 21, 1, 10, 20, 11, 1, 12, 12, 8]
  | 3 => [20, 0, 12, 0, 0, 0, 0, 0, 0, 0, 0, 0]
  | 4 => [20, 0, 12, 0, 0, 0, 0, 0, 0, 0, 0, 0]
  | 5 => [31, 12, 1, 25, 5, 6, 8, 1, 4, 7, 11, 1]
  | 6 => [25, 5, 7, 7, 0, 5, 0, 0, 0, 0, 0, 0]
  | 7 => [20, 0, 5, 0, 0, 0, 0, 0, 0, 0, 0, 0]
  | 9 => [25, 0, 2, 0, 0, 0, 0, 0, 0, 0, 0, 0]
  | 10 => [25, 0, 2, 0, 0, 0, 0, 0, 0, 0, 0, 0]
  | 11 => [20, 0, 8, 0, 0, 0, 0, 0, 0, 0, 0, 0]
  | 13 => [20, 0, 12, 0, 0, 0, 0, 0, 0, 0, 0, 0]
  | 14 => [20, 0, 12, 0, 0, 0, 0, 0, 0, 0, 0, 0]
  | _ => [0, 0, 0, 0, 0, 0, 0, 0, 0, 0, 0, 0]
def pc (f j : Nat) : Nat := (pcs f).getD j 0
def pcsV (f : Nat) : Value := .agg #[.int .u8 (pc f 0), .int .u8 (pc f 1), .int .u8 (pc f 2), .int .u8 (pc f 3), .int .u8 (pc f 4), .int .u8 (pc f 5), .int .u8 (pc f 6), .int .u8 (pc f 7), .int .u8 (pc f 8), .int .u8 (pc f 9), .int .u8 (pc f 10), .int .u8 (pc f 11)]
theorem lt15 {P : Nat → Prop} (h0 : P 0) (h1 : P 1) (h2 : P 2) (h3 : P 3) (h4 : P 4) (h5 : P 5) (h6 : P 6) (h7 : P 7) (h8 : P 8) (h9 : P 9) (h10 : P 10) (h11 : P 11) (h12 : P 12) (h13 : P 13) (h14 : P 14) : ∀ f, f < 15 → P f
  | 0, _ => h0 | 1, _ => h1 | 2, _ => h2 | 3, _ => h3 | 4, _ => h4 | 5, _ => h5 | 6, _ => h6 | 7, _ => h7 | 8, _ => h8 | 9, _ => h9 | 10, _ => h10 | 11, _ => h11 | 12, _ => h12 | 13, _ => h13 | 14, _ => h14
  | n + 15, h => absurd h (by omega)
set_option maxHeartbeats 1000000 in
theorem pieces_any (f : Nat) (hf : f < 15) (w : World) : Calls Tryz.prog 237 #[.int .i64 f] w fun e w' => e = .returned (pcsV f) ∧ Below w.heap.size w w' := by
  revert f
  apply lt15
  all_goals
    go_enter Tryz.func237, Tryz.ntmps237
    go_wp2
    refine bodyPost_ret (v := _) (by simp [results, Tryz.results237, go_sem]; rfl) rfl ⟨rfl, (Below.refl _ _).alloc (Nat.le_refl _) _⟩
end Go.Proofs.YtemamhkhjijdlaaGreatDoor
/-
  THE PROGRAM's READING OF A WORD: bits, matches, number.
-/
namespace Go.Proofs.YtemamhkhjijdlaaGreatDoor
open Go Go.RowKit
/-- the bits that are the same in all words of one operation -/
def wantI (k : Nat) : Int := bits .or .u32 (bits .or .u32 (codeAt k) (fAt k * 4096 % 4294967296)) (gAt k * 2 ^ (lyG (fmtAt k)).toNat % 4294967296)
theorem lyG_lt (f : Nat) (hf : f < 15) : 0 ≤ lyG f ∧ lyG f < 32 := by
  have : ∀ f, f < 15 → 0 ≤ lyG f ∧ lyG f < 32 := by decide
  exact this f hf
set_option maxHeartbeats 400000 in
theorem bits_any (k : Nat) (w : World) (hL : Laid w) : Calls Tryz.prog 180 #[shapeV k] w fun e w' => e = .returned (.int .u32 (wantI k)) ∧ Below w.heap.size w w' := by
  have HL : Hid (Laid w) := hL
  have hg := lyG_lt (fmtAt k) (fmt_lt k)
  obtain ⟨g, hg1⟩ : ∃ g : Nat, lyG (fmtAt k) = g := ⟨(lyG (fmtAt k)).toNat, by omega⟩
  have HG : Hid (lyG (fmtAt k) = g) := hg1
  have HC : ∀ w, Laid w → Calls Tryz.prog 236 #[.int .i64 (fmtAt k)] w fun e w' => e = .returned (.int .u8 g) ∧ w' = w := fun w h => by rw [← hg1]; exact gPlace_any (fmtAt k) (fmt_lt k) w h
  have g32 : g < 32 := by omega
  unfold shapeV
  have HCC : Hid (∀ w, Laid w → Calls Tryz.prog 236 #[.int .i64 (fmtAt k)] w fun e w' => e = .returned (.int .u8 g) ∧ w' = w) := HC
  clear hL hg hg1 HC
  go_enter Tryz.func180, Tryz.ntmps180
  go_wp2_with fail
  have HL2 : Hid (∀ n o, Laid ((w.alloc o).drewN n)) := fun n o => (HL.out.alloc _).drewN _
  go_quiet ((go_at_call 236; exact Calls.quiet_of_same (HCC.out _ (HL2.out _ _))))
  go_wp2
  go_ret
  refine ⟨ret_int ?_, below_drewN ((Below.refl _ _).alloc (Nat.le_refl _) _) _⟩
  unfold wantI
  rw [HG.out, Int.toNat_natCast]
theorem below_ad {w w2 : World} {o : Obj} (hb : Below (w.alloc o).drew.heap.size (w.alloc o).drew w2) : Below w.heap.size w w2 := (((Below.refl _ _).alloc (Nat.le_refl _) _).drew).trans (hb.mono (by simp))
def maskI (k : Nat) : Int := lyFixed (fmtAt k)
theorem bits_out (k : Nat) (w : World) (hL : Laid w) : Calls Tryz.prog 180 #[.agg #[.int .i64 (fmtAt k), .int .u32 (codeAt k), .int .u32 (fAt k), .int .u32 (gAt k)]] w fun e w' => e = .returned (.int .u32 (wantI k)) ∧ Below w.heap.size w w' := bits_any k w hL
set_option maxHeartbeats 400000 in
theorem matches_any (k : Nat) (x : Int) (w : World) (hL : Laid w) : Calls Tryz.prog 112 #[.agg #[.int .i64 (fmtAt k), .int .u32 (codeAt k), .int .u32 (fAt k), .int .u32 (gAt k)], .int .u32 x] w fun e w' => e = .returned (.bool (bits .and .u32 x (maskI k) == wantI k)) ∧ Below w.heap.size w w' := by
  have HL : Hid (Laid w) := hL
  clear hL
  go_enter Tryz.func112, Tryz.ntmps112
  go_wp2_with fail
  have HL2 : Hid (∀ o, Laid ((w.alloc o).drew)) := fun o => (HL.out.alloc _).drew
  go_region_with (first | (go_at_call 179; refine (fixed_any (fmtAt k) (fmt_lt k) _ (HL2.out _)).mono ?_; rintro e w1 ⟨rfl, rfl⟩) | (go_at_call 180; refine (bits_out k _ (HL2.out _)).mono ?_; rintro e w2 ⟨rfl, hb2⟩))
  all_goals go_wp2
  all_goals go_ret
  all_goals exact ⟨rfl, below_ad hb2⟩
end Go.Proofs.YtemamhkhjijdlaaGreatDoor
