import Derived.Test.YtemamhkhjijdlaaGreatDoorY16
import Derived.Deep.CutRange
import Derived.Deep.DeepCutAuto
import Derived.Deep.RegionHeld3
/-
  THE PROGRAM's READING OF A WORD: number, read.
-/
namespace Go.Proofs.YtemamhkhjijdlaaGreatDoor
open Go Go.RowKit
def stepN (x a pw pi len : Nat) : Nat := a ||| ((x / 2 ^ pw) &&& (2 ^ len - 1)) * 2 ^ pi % 4294967296
def accN (f x : Nat) : Nat → Nat
  | 0 => 0
  | j + 1 => stepN x (accN f x j) (pc f (3 * j)) (pc f (3 * j + 1)) (pc f (3 * j + 2))
theorem stepN_lt (x a pw pi len : Nat) (ha : a < 4294967296) : stepN x a pw pi len < 4294967296 :=
  Nat.or_lt_two_pow (n := 32) ha (Nat.mod_lt _ (by decide))
theorem accN_lt (f x : Nat) : ∀ j, accN f x j < 4294967296
  | 0 => by simp [accN]
  | j + 1 => stepN_lt _ _ _ _ _ (accN_lt f x j)
theorem stepN_int (x a pw pi len : Nat) (hx : x < 4294967296) (ha : a < 4294967296) (hl : len < 32) :
    bits .or .u32 (a : Int) (bits .and .u32 ((x : Int) / 2 ^ pw) ((2 ^ len - 1 : Nat) : Int) * 2 ^ pi % 4294967296) = ((stepN x a pw pi len : Nat) : Int) := by
  have e0 : ((x : Int) / 2 ^ pw) = ((x / 2 ^ pw : Nat) : Int) := by simp
  have h2 : 2 ^ len < 4294967296 := Nat.pow_lt_pow_of_lt (a := 2) (by decide) (show len < 32 from hl)
  have hd : x / 2 ^ pw < 4294967296 := Nat.lt_of_le_of_lt (Nat.div_le_self _ _) hx
  rw [e0, u32_and_nat _ _ hd (by omega)]
  have e1 : (((x / 2 ^ pw &&& 2 ^ len - 1 : Nat) : Int) * 2 ^ pi % 4294967296) = (((x / 2 ^ pw &&& 2 ^ len - 1) * 2 ^ pi % 4294967296 : Nat) : Int) := by simp
  rw [e1, u32_or_nat _ _ ha (Nat.mod_lt _ (by decide))]
  rfl
theorem pc_lt (f j : Nat) (hf : f < 15) : pc f j < 32 := by
  by_cases h : j < 12
  · have : ∀ f, f < 15 → ∀ j, j < 12 → pc f j < 32 := by decide
    exact this f hf j h
  · have : (pcs f).length = 12 := by
      have : ∀ f, f < 15 → (pcs f).length = 12 := by decide
      exact this f hf
    unfold pc
    rw [List.getD_eq_getElem?_getD, List.getElem?_eq_none (by omega)]; decide
theorem run_index79_0 (f : Nat) (w : World) : (Instr.index 393 (pcsV f) (.int .i64 0)).run Tryz.prog w = .ok (.agg #[.int .u8 (pc f 0), .int .u8 (pc f 1), .int .u8 (pc f 2)]) w := by kernel_rfl
theorem run_index79_1 (f : Nat) (w : World) : (Instr.index 393 (pcsV f) (.int .i64 1)).run Tryz.prog w = .ok (.agg #[.int .u8 (pc f 3), .int .u8 (pc f 4), .int .u8 (pc f 5)]) w := by kernel_rfl
theorem run_index79_2 (f : Nat) (w : World) : (Instr.index 393 (pcsV f) (.int .i64 2)).run Tryz.prog w = .ok (.agg #[.int .u8 (pc f 6), .int .u8 (pc f 7), .int .u8 (pc f 8)]) w := by kernel_rfl
theorem run_index79_3 (f : Nat) (w : World) : (Instr.index 393 (pcsV f) (.int .i64 3)).run Tryz.prog w = .ok (.agg #[.int .u8 (pc f 9), .int .u8 (pc f 10), .int .u8 (pc f 11)]) w := by kernel_rfl
theorem run_index79 (f j : Nat) (hj : j < 4) (w : World) : (Instr.index 393 (pcsV f) (.int .i64 j)).run Tryz.prog w = .ok (.agg #[.int .u8 (pc f (3 * j)), .int .u8 (pc f (3 * j + 1)), .int .u8 (pc f (3 * j + 2))]) w := by
  match j, hj with
  | 0, _ => exact run_index79_0 f w
  | 1, _ => exact run_index79_1 f w
  | 2, _ => exact run_index79_2 f w
  | 3, _ => exact run_index79_3 f w
theorem ly_bd (f : Nat) (hf : f < 15) : -1048576 ≤ lyLow f ∧ lyLow f ≤ 0 ∧ 0 ≤ lyHigh f ∧ lyHigh f ≤ 1048575 := by
  have : ∀ f, f < 15 → -1048576 ≤ lyLow f ∧ lyLow f ≤ 0 ∧ 0 ≤ lyHigh f ∧ lyHigh f ≤ 1048575 := by decide
  exact this f hf
def immI (f x : Nat) : Int := if lyHigh f < (accN f x 4 : Int) then (accN f x 4 : Int) + 2 * lyLow f else accN f x 4
set_option maxHeartbeats 1000000 in
theorem number_any_isa (f : Nat) (hf : f < 15) (x : Nat) (hx : x < 4294967296) (w : World) (hL : Laid w) : Calls Tryz.prog 182 #[.int .i64 f, .int .u32 x] w fun e w' => e = .returned (.int .i64 (immI f x)) ∧ Below w.heap.size w w' := by
  have HL : Hid (Laid w) := hL
  clear hL
  go_enter Tryz.func182, Tryz.ntmps182
  go_wp2_with (go_at_call 237; refine (pieces_any f hf _).mono ?_; rintro e w1 ⟨rfl, hb1⟩)
  go_loopw [5, 12] (fun u v wr => ∃ j : Nat, j ≤ 4 ∧ v = .int .i64 j ∧ u = .int .u32 (accN f x j : Nat) ∧ Below w.heap.size w wr) (fun _ v _ => 4 - (intOf v).toNat)
  case atStart => exact ⟨0, Nat.zero_le _, rfl, rfl, hb1⟩
  case round =>
    clear hb1
    obtain ⟨j, hj, rfl, rfl, hbr⟩ := hrel
    have HB : Hid (Below w.heap.size w wr) := hbr
    have ha := accN_lt f x j
    obtain ⟨a, hae⟩ : ∃ a, accN f x j = a := ⟨_, rfl⟩
    have HA : Hid (accN f x j = a) := hae
    rw [hae] at ha ⊢
    clear hae hbr
    by_cases hlt : j < 4
    · have hidx := run_index79 f j hlt
      have q0 := pc_lt f (3 * j) hf
      have q1 := pc_lt f (3 * j + 1) hf
      have q2 := pc_lt f (3 * j + 2) hf
      obtain ⟨pw, h0⟩ : ∃ a, pc f (3 * j) = a := ⟨_, rfl⟩
      obtain ⟨pi, h1⟩ : ∃ a, pc f (3 * j + 1) = a := ⟨_, rfl⟩
      obtain ⟨len, h2⟩ : ∃ a, pc f (3 * j + 2) = a := ⟨_, rfl⟩
      have HA2 : Hid (accN f x (j + 1) = stepN x a pw pi len) := by
        show stepN x (accN f x j) _ _ _ = _
        rw [HA.out, h0, h1, h2]
      rw [h0] at q0 hidx; rw [h1] at q1 hidx; rw [h2] at q2 hidx
      clear h0 h1 h2
      go_wp2_with fail
      go_region_with (go_at_call 238; refine (mask_any pw pi len q2 _).mono ?_; rintro e w2 ⟨rfl, rfl⟩)
      all_goals
        go_wp2
        go_roundw
        case rel => exact ⟨j + 1, by omega, by go_num, by rw [HA2.out]; exact congrArg _ (stepN_int x a pw pi len hx ha q2), ((HB.out.alloc HB.out.size _).alloc (by simp; have := HB.out.size; omega) _).drew⟩
        case measure => simp [intOf]; omega
    · have HL2 := HL.out.below HB.out
      have hj4 : j = 4 := by omega
      subst hj4
      have c0 := HL2.l0 f hf
      have c1 := HL2.l1 f hf
      have c2 := HL2.l2 f hf
      have c3 := HL2.l3 f hf
      have c4 := HL2.l4 f hf
      have c5 := HL2.l5 f hf
      have c6 := HL2.l6 f hf
      have c7 := HL2.l7 f hf
      have c8 := HL2.l8 f hf
      have z2 : 3 < wr.heap.size := HL2.zl
      have cs := ly_bd f hf
      have HI : Hid (immI f x = if lyHigh f < (a : Int) then (a : Int) + 2 * lyLow f else a) := by
        show immI f x = _
        unfold immI
        rw [HA.out]
      clear HL2
      by_cases hh : lyHigh f < (a : Int)
      · go_wp2
        go_ret
        exact ⟨ret_int (by rw [HI.out, if_pos hh]), HB.out.alloc HB.out.size _⟩
      · go_wp2
        go_ret
        exact ⟨ret_int (by rw [HI.out, if_neg (by omega)]), HB.out.alloc HB.out.size _⟩
end Go.Proofs.YtemamhkhjijdlaaGreatDoor
/-
  THE PROGRAM's READING OF A WORD: read, Decode.
-/
namespace Go.Proofs.YtemamhkhjijdlaaGreatDoor
open Go Go.RowKit
def regZ (b : Bool) (y : Int) : Int := if b then y % 32 else 0
theorem register_int (b : Bool) (y : Int) (h0 : 0 ≤ y) (h1 : y < 4294967296) (w : World) : Calls Tryz.prog 181 #[.bool b, .int .u32 y] w fun e w' => e = .returned (.int .i64 (regZ b y)) ∧ w' = w := by
  obtain ⟨n, rfl⟩ : ∃ n : Nat, y = n := ⟨y.toNat, by omega⟩
  have e : regZ b n = regI b n := by unfold regZ regI; split <;> simp
  rw [e]
  exact register_any b n (by omega) w
def rdI (f x : Nat) : Int := regZ (lyRd f) ((x : Int) / 128)
def rs1I (f x : Nat) : Int := regZ (lyRs1 f) ((x : Int) / 32768)
def rs2I (f x : Nat) : Int := regZ (lyRs2 f) ((x : Int) / 1048576)
theorem keep2 {w w2 : World} {c d : Array Value} {t u : TypeId} (hb : Below ((w.alloc (.cells c t)).alloc (.cells d u)).drew.heap.size ((w.alloc (.cells c t)).alloc (.cells d u)).drew w2) :
    (∀ i, w2.cell? ⟨w.heap.size, i, none⟩ = c[i]?) ∧ (∀ i, w2.frozen? ⟨w.heap.size, i, none⟩ = false) ∧ (∀ i, w2.cell? ⟨w.heap.size + 1, i, none⟩ = d[i]?) ∧ w.heap.size < w2.heap.size ∧ Below w.heap.size w w2 := by
  have hs := hb.size
  simp only [World.size_alloc, show ∀ w : World, w.drew.heap = w.heap from fun _ => rfl] at hs
  refine ⟨fun i => ?_, fun i => ?_, fun i => ?_, by omega, ?_⟩
  · rw [hb.cell (p := ⟨w.heap.size, i, none⟩) (by show w.heap.size < _; simp only [World.size_alloc, show ∀ w : World, w.drew.heap = w.heap from fun _ => rfl]; omega)]
    exact World.cell?_alloc2_first c t _ i
  · rw [hb.frozen (p := ⟨w.heap.size, i, none⟩) (by show w.heap.size < _; simp only [World.size_alloc, show ∀ w : World, w.drew.heap = w.heap from fun _ => rfl]; omega)]
    have h1 : ((w.alloc (.cells c t)).alloc (.cells d u)).frozen? ⟨w.heap.size, i, none⟩ = (w.alloc (.cells c t)).frozen? ⟨w.heap.size, i, none⟩ := by simp [go_sem]
    show ((w.alloc (.cells c t)).alloc (.cells d u)).frozen? ⟨w.heap.size, i, none⟩ = false
    rw [h1, World.frozen?_alloc_at c t _ i rfl]
  · rw [hb.cell (p := ⟨w.heap.size + 1, i, none⟩) (by show w.heap.size + 1 < _; simp only [World.size_alloc, show ∀ w : World, w.drew.heap = w.heap from fun _ => rfl]; omega)]
    exact World.cell?_alloc2_new _ d u i
  · exact ((((Below.refl _ _).alloc (Nat.le_refl _) _).alloc (by simp) _).drew).trans (hb.mono (by simp only [World.size_alloc, show ∀ w : World, w.drew.heap = w.heap from fun _ => rfl]; omega))
set_option maxHeartbeats 1000000 in
theorem read_any (f : Nat) (hf : f < 15) (x : Nat) (hx : x < 4294967296) (w : World) (hL : Laid w) : Calls Tryz.prog 113 #[.int .i64 f, .int .u32 x] w fun e w' => e = .returned (.agg #[.int .i64 0, .int .i64 (rdI f x), .int .i64 (rs1I f x), .int .i64 (rs2I f x), .int .i64 (immI f x)]) ∧ Below w.heap.size w w' := by
  have c0 := hL.l0 f hf
  have c1 := hL.l1 f hf
  have c2 := hL.l2 f hf
  have c3 := hL.l3 f hf
  have c4 := hL.l4 f hf
  have c5 := hL.l5 f hf
  have c6 := hL.l6 f hf
  have c7 := hL.l7 f hf
  have c8 := hL.l8 f hf
  have z2 : 3 < w.heap.size := hL.zl
  have HL : Hid (∀ o p, Laid ((w.alloc o).alloc p).drew) := fun o p => ((hL.alloc o).alloc p).drew
  clear hL
  go_enter Tryz.func113, Tryz.ntmps113
  go_wp2_with fail
  clear c0 c1 c2 c3 c4 c5 c6 c7 c8 z2
  go_region_held3 (fun w' => w'.cell? ⟨w.heap.size + 1, 2, none⟩ = some (.bool (lyRd f)) ∧ w'.cell? ⟨w.heap.size + 1, 3, none⟩ = some (.bool (lyRs1 f)) ∧ w'.cell? ⟨w.heap.size + 1, 4, none⟩ = some (.bool (lyRs2 f))) (go_keep) (first | (go_at_call 182; refine (number_any_isa f hf x hx _ (HL.out _ _)).mono ?_; rintro e w2 ⟨rfl, hb2⟩; obtain ⟨k1, k2, k5, k3, k4⟩ := keep2 hb2; clear hb2) | (go_at_call 181; refine (register_int _ _ (by omega) (by omega) _).mono ?_; rintro e w1 ⟨rfl, rfl⟩))
  go_wp2
  refine bodyPost_ret (v := .agg #[.int .i64 0, .int .i64 (rdI f x), .int .i64 (rs1I f x), .int .i64 (rs2I f x), .int .i64 (immI f x)]) (by simp [results, Tryz.results113, go_sem, k1, rdI, rs1I, rs2I]) rfl ⟨rfl, ?_⟩
  exact ((((k4.setCell (Nat.le_refl _) _).setCell (Nat.le_refl _) _).setCell (Nat.le_refl _) _).setCell (Nat.le_refl _) _).setCell (Nat.le_refl _) _
end Go.Proofs.YtemamhkhjijdlaaGreatDoor
/-
  THE PROGRAM's Decode.
-/
namespace Go.Proofs.YtemamhkhjijdlaaGreatDoor
open Go Go.RowKit
def wantL : List Nat := [0, 55, 23, 111, 103, 99, 4195, 16483, 20579, 24675, 28771, 3, 4099, 8195, 16387, 20483, 35, 4131, 8227, 19, 8211, 12307, 16403, 24595, 28691, 4115, 20499, 1073762323, 51, 1073741875, 4147, 8243, 12339, 16435, 20531, 1073762355, 24627, 28723, 33554483, 33558579, 33562675, 33566771, 33570867, 33574963, 33579059, 33583155, 268443695, 402661423, 134225967, 8239, 536879151, 1610620975, 1073750063, 2147491887, 2684362799, 3221233711, 3758104623, 15, 115, 1048691, 807403635, 273678451, 4211, 8307, 12403, 20595, 24691, 28787]
def maskL : List Nat := [0, 127, 127, 127, 28799, 28799, 28799, 28799, 28799, 28799, 28799, 28799, 28799, 28799, 28799, 28799, 28799, 28799, 28799, 28799, 28799, 28799, 28799, 28799, 28799, 4261441663, 4261441663, 4261441663, 4261441663, 4261441663, 4261441663, 4261441663, 4261441663, 4261441663, 4261441663, 4261441663, 4261441663, 4261441663, 4261441663, 4261441663, 4261441663, 4261441663, 4261441663, 4261441663, 4261441663, 4261441663, 4193284223, 4160778367, 4160778367, 4160778367, 4160778367, 4160778367, 4160778367, 4160778367, 4160778367, 4160778367, 4160778367, 4027580415, 4294967295, 4294967295, 4294967295, 4294967295, 28799, 28799, 28799, 28799, 28799, 28799]
def wantN (k : Nat) : Nat := wantL.getD k 0
def maskN (k : Nat) : Nat := maskL.getD k 0
def matchB (k x : Nat) : Bool := (x &&& maskN k) == wantN k
theorem want_eq (k : Nat) (hk : k ≤ 67) : wantI k = (wantN k : Int) := by
  have : ∀ k, k < 68 → wantI k = (wantN k : Int) := by decide +kernel
  exact this k (by omega)
theorem mask_eq (k : Nat) (hk : k ≤ 67) : maskI k = (maskN k : Int) ∧ maskN k < 4294967296 := by
  have : ∀ k, k < 68 → maskI k = (maskN k : Int) ∧ maskN k < 4294967296 := by decide +kernel
  exact this k (by omega)
theorem match_eq (k x : Nat) (hk : k ≤ 67) (hx : x < 4294967296) : (bits .and .u32 (x : Int) (maskI k) == wantI k) = matchB k x := by
  obtain ⟨h1, h2⟩ := mask_eq k hk
  rw [h1, want_eq k hk, u32_and_nat x _ hx h2]
  unfold matchB
  rw [Bool.eq_iff_iff]
  simp only [beq_iff_eq]
  omega
theorem pairs_apart : ∀ j, j < 67 → ∀ k, k < 67 → j ≠ k → wantN (j + 1) &&& maskN (k + 1) ≠ wantN (k + 1) &&& maskN (j + 1) := by decide +kernel
theorem match_uniq (x j k : Nat) (hj : 1 ≤ j) (hj' : j ≤ 67) (hk : 1 ≤ k) (hk' : k ≤ 67) (h1 : matchB j x = true) (h2 : matchB k x = true) : j = k := by
  refine Classical.byContradiction fun hne => ?_
  unfold matchB at h1 h2
  simp only [beq_iff_eq] at h1 h2
  have := pairs_apart (j - 1) (by omega) (k - 1) (by omega) (by omega)
  rw [show j - 1 + 1 = j by omega, show k - 1 + 1 = k by omega, ← h1, ← h2] at this
  apply this
  rw [Nat.and_assoc, Nat.and_assoc, Nat.and_comm (maskN j)]
theorem opN_nat (j : Nat) (hj : j ≤ 67) : opN (j : Int) = j := by unfold opN; split <;> omega
theorem matches_at (k x : Nat) (hk : k ≤ 67) (hx : x < 4294967296) (w : World) (hL : Laid w) : Calls Tryz.prog 112 #[.agg #[.int .i64 (fmtAt k), .int .u32 (codeAt k), .int .u32 (fAt k), .int .u32 (gAt k)], .int .u32 x] w fun e w' => e = .returned (.bool (matchB k x)) ∧ Below w.heap.size w w' := by
  rw [← match_eq k x hk hx]
  exact matches_any k x w hL
abbrev Z25 : Obj := .cells #[.int .i64 0, .int .i64 0, .int .i64 0, .int .i64 0, .int .i64 0] 199
theorem keep1 {w w2 : World} {c : Array Value} {t : TypeId} (hb : Below (w.heap.size + 1) (w.alloc (.cells c t)) w2) :
    (∀ i, w2.cell? ⟨w.heap.size, i, none⟩ = c[i]?) ∧ (∀ i, w2.frozen? ⟨w.heap.size, i, none⟩ = false) ∧ w.heap.size < w2.heap.size ∧ Below w.heap.size w w2 := by
  have hs := hb.size
  simp only [World.size_alloc] at hs
  refine ⟨fun i => ?_, fun i => ?_, by omega, ((Below.refl _ _).alloc (Nat.le_refl _) _).trans (hb.mono (by omega))⟩
  · rw [hb.cell (p := ⟨w.heap.size, i, none⟩) (by show w.heap.size < _; omega)]
    exact World.cell?_alloc_new w c t i
  · rw [hb.frozen (p := ⟨w.heap.size, i, none⟩) (by show w.heap.size < _; omega)]
    exact World.frozen?_alloc_at c t _ i rfl
theorem keepA {w w2 : World} {c : Array Value} {t : TypeId} (hb : Below (w.alloc (.cells c t)).heap.size (w.alloc (.cells c t)) w2) :
    (∀ i, w2.cell? ⟨w.heap.size, i, none⟩ = c[i]?) ∧ (∀ i, w2.frozen? ⟨w.heap.size, i, none⟩ = false) ∧ w.heap.size < w2.heap.size ∧ Below w.heap.size w w2 := keep1 (hb.mono (by simp))
theorem chain_next {B : Nat} {a b c : World} (h : Below B a b) (hB : B ≤ b.heap.size) (h2 : Below b.heap.size b c) : Below B a c ∧ B ≤ c.heap.size := ⟨h.trans (h2.mono hB), Nat.le_trans hB h2.size⟩
set_option maxHeartbeats 1000000 in
theorem decode_some (x k : Nat) (hx : x < 4294967296) (hk1 : 1 ≤ k) (hk2 : k ≤ 67) (hm : matchB k x = true) (w : World) (hL : Laid w) : Calls Tryz.prog 64 #[.int .u32 x] w fun e w' => e = .returned (.tuple #[.agg #[.int .i64 k, .int .i64 (rdI (fmtAt k) x), .int .i64 (rs1I (fmtAt k) x), .int .i64 (rs2I (fmtAt k) x), .int .i64 (immI (fmtAt k) x)], .bool true]) ∧ Below w.heap.size w w' := by
  have HL : Hid (Laid w) := hL
  have HM : Hid (matchB k x = true) := hm
  clear hL hm
  go_enter Tryz.func64, Tryz.ntmps64
  go_wp2_with fail
  go_loopw [4] (fun v wr => ∃ j : Nat, 1 ≤ j ∧ j ≤ k ∧ v = .int .i64 j ∧ Below (w.heap.size + 1) (w.alloc Z25) wr) (fun v _ => 68 - (intOf v).toNat)
  case atStart => exact ⟨1, by omega, hk1, rfl, Below.refl _ _⟩
  case round =>
    obtain ⟨j, hj1, hj2, rfl, hbr⟩ := hrel
    obtain ⟨k1, k2, k3, k4⟩ := keep1 hbr
    have HB : Hid (Below (w.heap.size + 1) (w.alloc Z25) wr) := hbr
    have HLr : Hid (Laid wr) := HL.out.below k4
    have HO : Hid (opN (j : Int) = j) := opN_nat j (by omega)
    clear hbr k4
    by_cases hlt : j < k
    · have hno : matchB j x = false := by
        cases e : matchB j x
        · rfl
        · exact absurd (match_uniq x j k hj1 (by omega) hk1 hk2 e HM.out) (by omega)
      clear k1 k2
      go_wp2_with (first | (go_at_call 111; refine (shapeOf_out _ j HO.out _ HLr.out).mono ?_; rintro e w1 ⟨rfl, hb1⟩) | (go_at_call 112; refine (matches_at j x (by omega) hx _ ((HLr.out.below hb1).alloc _)).mono ?_; rintro e w2 ⟨rfl, hb2⟩))
      obtain ⟨b1, z1⟩ := chain_next HB.out (by omega) hb1
      obtain ⟨b2, z2⟩ := chain_next b1 z1 (keepA hb2).2.2.2
      go_roundw
      case rel => exact ⟨j + 1, by omega, by omega, by go_num, b2⟩
      case measure => simp [intOf]; omega
    · have hjk : j = k := by omega
      subst hjk
      have hyes := HM.out
      clear k1 k2
      have HZ : Hid (w.heap.size < wr.heap.size) := k3
      clear k3
      go_wp2_with (first | (go_at_call 111; refine (shapeOf_out _ j HO.out _ HLr.out).mono ?_; rintro e w1 ⟨rfl, hb1⟩) | (go_at_call 112; refine (matches_at j x (by omega) hx _ ((HLr.out.below hb1).alloc _)).mono ?_; rintro e w2 ⟨rfl, hb2⟩; obtain ⟨s1, s2, s3, s4⟩ := keepA hb2; clear hb2) | (go_at_call 113; refine (read_any (fmtAt j) (fmt_lt j) x hx _ ((HLr.out.below hb1).below s4)).mono ?_; rintro e w3 ⟨rfl, hb3⟩; obtain ⟨b1, z1⟩ := chain_next HB.out (HZ.out) hb1; obtain ⟨b2, z2⟩ := chain_next b1 z1 s4; obtain ⟨b3, z3⟩ := chain_next b2 z2 hb3; clear s1 s2 s4 b1 b2 hb1 hb3 z1 z2; obtain ⟨k1, k2, k3, k4⟩ := keep1 b3))
      refine bodyPost_ret (v := .tuple #[.agg #[.int .i64 j, .int .i64 (rdI (fmtAt j) x), .int .i64 (rs1I (fmtAt j) x), .int .i64 (rs2I (fmtAt j) x), .int .i64 (immI (fmtAt j) x)], .bool true]) (by simp [results, Tryz.results64, go_sem, k1, k3]) rfl ⟨rfl, ?_⟩
      exact (((((k4.setCell (Nat.le_refl _) _).setCell (Nat.le_refl _) _).setCell (Nat.le_refl _) _).setCell (Nat.le_refl _) _).setCell (Nat.le_refl _) _).alloc (by simp; omega) _
end Go.Proofs.YtemamhkhjijdlaaGreatDoor
