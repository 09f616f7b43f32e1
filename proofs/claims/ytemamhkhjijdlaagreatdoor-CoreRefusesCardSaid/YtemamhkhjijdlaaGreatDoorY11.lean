import Derived.Test.YtemamhkhjijdlaaGreatDoorY00
import Derived.BigQuiet
import Derived.Deep.QuietTactic
import Derived.WalkSmall
import Derived.Deep.RegionWith
import Derived.Deep.RegionHeld3
/-
  THE CHAPTER's TABLE, AS THE ANSWER LAYS IT.
-/
namespace Go.Proofs.YtemamhkhjijdlaaGreatDoor
open Go Go.RowKit
/-- the names, the formats' letters, the codes of the answer's rows -/
def nameR : List ByteArray := [⟨#[108, 117, 105]⟩, ⟨#[97, 117, 105, 112, 99]⟩, ⟨#[106, 97, 108]⟩, ⟨#[106, 97, 108, 114]⟩, ⟨#[98, 101, 113]⟩, ⟨#[98, 110, 101]⟩, ⟨#[98, 108, 116]⟩, ⟨#[98, 103, 101]⟩, ⟨#[98, 108, 116, 117]⟩, ⟨#[98, 103, 101, 117]⟩, ⟨#[108, 98]⟩, ⟨#[108, 104]⟩, ⟨#[108, 119]⟩, ⟨#[108, 98, 117]⟩, ⟨#[108, 104, 117]⟩, ⟨#[115, 98]⟩, ⟨#[115, 104]⟩, ⟨#[115, 119]⟩, ⟨#[97, 100, 100, 105]⟩, ⟨#[115, 108, 116, 105]⟩, ⟨#[115, 108, 116, 105, 117]⟩, ⟨#[120, 111, 114, 105]⟩, ⟨#[111, 114, 105]⟩, ⟨#[97, 110, 100, 105]⟩, ⟨#[115, 108, 108, 105]⟩, ⟨#[115, 114, 108, 105]⟩, ⟨#[115, 114, 97, 105]⟩, ⟨#[97, 100, 100]⟩, ⟨#[115, 117, 98]⟩, ⟨#[115, 108, 108]⟩, ⟨#[115, 108, 116]⟩, ⟨#[115, 108, 116, 117]⟩, ⟨#[120, 111, 114]⟩, ⟨#[115, 114, 108]⟩, ⟨#[115, 114, 97]⟩, ⟨#[111, 114]⟩, ⟨#[97, 110, 100]⟩, ⟨#[109, 117, 108]⟩, ⟨#[109, 117, 108, 104]⟩, ⟨#[109, 117, 108, 104, 115, 117]⟩, ⟨#[109, 117, 108, 104, 117]⟩, ⟨#[100, 105, 118]⟩, ⟨#[100, 105, 118, 117]⟩, ⟨#[114, 101, 109]⟩, ⟨#[114, 101, 109, 117]⟩, ⟨#[108, 114, 46, 119]⟩, ⟨#[115, 99, 46, 119]⟩, ⟨#[97, 109, 111, 115, 119, 97, 112, 46, 119]⟩, ⟨#[97, 109, 111, 97, 100, 100, 46, 119]⟩, ⟨#[97, 109, 111, 120, 111, 114, 46, 119]⟩, ⟨#[97, 109, 111, 97, 110, 100, 46, 119]⟩, ⟨#[97, 109, 111, 111, 114, 46, 119]⟩, ⟨#[97, 109, 111, 109, 105, 110, 46, 119]⟩, ⟨#[97, 109, 111, 109, 97, 120, 46, 119]⟩, ⟨#[97, 109, 111, 109, 105, 110, 117, 46, 119]⟩, ⟨#[97, 109, 111, 109, 97, 120, 117, 46, 119]⟩, ⟨#[102, 101, 110, 99, 101]⟩, ⟨#[101, 99, 97, 108, 108]⟩, ⟨#[101, 98, 114, 101, 97, 107]⟩, ⟨#[109, 114, 101, 116]⟩, ⟨#[119, 102, 105]⟩, ⟨#[99, 115, 114, 114, 119]⟩, ⟨#[99, 115, 114, 114, 115]⟩, ⟨#[99, 115, 114, 114, 99]⟩, ⟨#[99, 115, 114, 114, 119, 105]⟩, ⟨#[99, 115, 114, 114, 115, 105]⟩, ⟨#[99, 115, 114, 114, 99, 105]⟩]
def letR : List Int := [85, 85, 74, 76, 66, 66, 66, 66, 66, 66, 76, 76, 76, 76, 76, 83, 83, 83, 73, 73, 73, 73, 73, 73, 72, 72, 72, 82, 82, 82, 82, 82, 82, 82, 82, 82, 82, 82, 82, 82, 82, 82, 82, 82, 82, 75, 65, 65, 65, 65, 65, 65, 65, 65, 65, 65, 70, 78, 78, 78, 78, 67, 67, 67, 68, 68, 68]
def codeR : List Int := [55, 23, 111, 103, 99, 99, 99, 99, 99, 99, 3, 3, 3, 3, 3, 35, 35, 35, 19, 19, 19, 19, 19, 19, 19, 19, 19, 51, 51, 51, 51, 51, 51, 51, 51, 51, 51, 51, 51, 51, 51, 51, 51, 51, 51, 47, 47, 47, 47, 47, 47, 47, 47, 47, 47, 47, 15, 115, 115, 115, 115, 115, 115, 115, 115, 115, 115]
def fR : List Int := [0, 0, 0, 0, 0, 1, 4, 5, 6, 7, 0, 1, 2, 4, 5, 0, 1, 2, 0, 2, 3, 4, 6, 7, 1, 5, 5, 0, 0, 1, 2, 3, 4, 5, 5, 6, 7, 0, 1, 2, 3, 4, 5, 6, 7, 2, 2, 2, 2, 2, 2, 2, 2, 2, 2, 2, 0, 0, 0, 0, 0, 1, 2, 3, 5, 6, 7]
def gR : List Int := [0, 0, 0, 0, 0, 0, 0, 0, 0, 0, 0, 0, 0, 0, 0, 0, 0, 0, 0, 0, 0, 0, 0, 0, 0, 0, 32, 0, 32, 0, 0, 0, 0, 0, 32, 0, 0, 1, 1, 1, 1, 1, 1, 1, 1, 2, 3, 1, 0, 4, 12, 8, 16, 20, 24, 28, 0, 0, 1, 770, 261, 0, 0, 0, 0, 0, 0]

end Go.Proofs.YtemamhkhjijdlaaGreatDoor
/-
  THE ANSWER's ROWS IN MEMORY; ITS CLASSES.
-/
namespace Go.Proofs.YtemamhkhjijdlaaGreatDoor
open Go Go.RowKit
def nameAt (i : Nat) : ByteArray := nameR.getD i ⟨#[]⟩
def letAt (i : Nat) : Int := letR.getD i 0
def codeRAt (i : Nat) : Int := codeR.getD i 0
def fRAt (i : Nat) : Int := fR.getD i 0
def gRAt (i : Nat) : Int := gR.getD i 0
structure RowsAt (w : World) (b : Nat) : Prop where
  r0 : ∀ i : Nat, i < 67 → w.cell? ⟨b, i * 5, none⟩ = some (.string (nameAt i))
  r1 : ∀ i : Nat, i < 67 → w.cell? ⟨b, i * 5 + 1, none⟩ = some (.int .u8 (letAt i))
  r2 : ∀ i : Nat, i < 67 → w.cell? ⟨b, i * 5 + 2, none⟩ = some (.int .i64 (codeRAt i))
  r3 : ∀ i : Nat, i < 67 → w.cell? ⟨b, i * 5 + 3, none⟩ = some (.int .i64 (fRAt i))
  r4 : ∀ i : Nat, i < 67 → w.cell? ⟨b, i * 5 + 4, none⟩ = some (.int .i64 (gRAt i))
  here : b < w.heap.size
theorem RowsAt.below {w w' : World} {b B : Nat} (h : RowsAt w b) (hB : b < B) (hb : Below B w w') : RowsAt w' b := by
  have c : ∀ o v, w.cell? ⟨b, o, none⟩ = some v → w'.cell? ⟨b, o, none⟩ = some v := fun o v hv => by
    rw [hb.cell (p := ⟨b, o, none⟩) hB]; exact hv
  exact ⟨fun i hi => c _ _ (h.r0 i hi), fun i hi => c _ _ (h.r1 i hi), fun i hi => c _ _ (h.r2 i hi), fun i hi => c _ _ (h.r3 i hi), fun i hi => c _ _ (h.r4 i hi), Nat.lt_of_lt_of_le h.here hb.size⟩
def letters : List Int := [85, 74, 73, 76, 66, 83, 72, 82, 65, 75, 70, 78, 67, 68]
theorem ret_int {k : IntKind} {a b : Int} (h : a = b) : Ending.returned (.int k a) = .returned (.int k b) := by rw [h]
end Go.Proofs.YtemamhkhjijdlaaGreatDoor
/-
  WHAT IS READ AND WRITTEN: the answer's 'has'; the program's ClassOf, Reads, Writes.
-/
namespace Go.Proofs.YtemamhkhjijdlaaGreatDoor
open Go Go.RowKit
theorem Laid.alloc {w : World} (h : Laid w) (o : Obj) : Laid (w.alloc o) := h.below ((Below.refl _ _).alloc (Nat.le_refl _) _)
theorem Laid.drewN {w : World} (h : Laid w) (n : Nat) : Laid (w.drewN n) := h.below (below_drewN (Below.refl _ _) _)
theorem Laid.drew {w : World} (h : Laid w) : Laid w.drew := h.below (Below.refl _ _).drew
theorem shapeOf_out (op : Int) (k : Nat) (hk : opN op = k) (w : World) (hL : Laid w) : Calls Tryz.prog 111 #[.int .i64 op] w fun e w' => e = .returned (.agg #[.int .i64 (fmtAt k), .int .u32 (codeAt k), .int .u32 (fAt k), .int .u32 (gAt k)]) ∧ Below w.heap.size w w' := by
  subst hk; exact shapeOf_any op w hL
set_option maxHeartbeats 400000 in
theorem classOf_any (op : Int) (k : Nat) (hk : opN op = k) (w : World) (hL : Laid w) : Calls Tryz.prog 158 #[.int .i64 op] w fun e w' => e = .returned (.int .i64 (classOf k)) ∧ Below w.heap.size w w' := by
  have HK : Hid (opN op = k) := hk
  have HL : Hid (Laid w) := hL
  by_cases h4 : op = 4
  · have e : classOf k = 3 := by rw [← hk, h4]; rfl
    rw [e]
    clear hk hL e
    subst h4
    go_enter Tryz.func158, Tryz.ntmps158
    go_wp2_with (go_at_call 111; refine (shapeOf_out _ k HK.out _ HL.out).mono ?_; rintro e w' ⟨rfl, hb⟩)
    go_ret
    exact ⟨rfl, Below.alloc (by assumption) (Below.size (by assumption)) _⟩
  · have h4' : (op == 4) = false := by simpa using h4
    have k4 : k ≠ 4 := by
      rw [← hk]; unfold opN; split <;> omega
    have ef : classOf k = if fmtAt k = 8 ∧ gAt k = 1 then 1 else lyClass (fmtAt k) := by unfold classOf; rw [if_neg k4]
    clear hk hL h4 k4
    by_cases h8 : fmtAt k = 8
    · by_cases h1 : gAt k = 1
      · have e : classOf k = 1 := by rw [ef, if_pos ⟨h8, h1⟩]
        have t8 : ((fmtAt k : Int) == 8) = true := by simp; omega
        have t1 : (gAt k == 1) = true := by simpa using h1
        rw [e]; clear e ef h8 h1
        go_enter Tryz.func158, Tryz.ntmps158
        go_wp2_with (go_at_call 111; refine (shapeOf_out _ k HK.out _ HL.out).mono ?_; rintro e w' ⟨rfl, hb⟩)
        go_ret
        exact ⟨rfl, Below.alloc (by assumption) (Below.size (by assumption)) _⟩
      · have e : classOf k = lyClass (fmtAt k) := by rw [ef, if_neg (fun h => h1 h.2)]
        have t8 : ((fmtAt k : Int) == 8) = true := by simp; omega
        have t1 : (gAt k == 1) = false := by simpa using h1
        rw [e]; clear e ef h8 h1
        go_enter Tryz.func158, Tryz.ntmps158
        go_wp2_with (first | (go_at_call 111; refine (shapeOf_out _ k HK.out _ HL.out).mono ?_; rintro e w' ⟨rfl, hb⟩) | (go_at_call 221; refine (class_any (fmtAt k) (fmt_lt k) _ ((HL.out.below hb).alloc _)).mono ?_; rintro e w'' ⟨rfl, rfl⟩))
        go_ret
        exact ⟨rfl, Below.alloc (by assumption) (Below.size (by assumption)) _⟩
    · have e : classOf k = lyClass (fmtAt k) := by rw [ef, if_neg (fun h => h8 h.1)]
      have t8 : ((fmtAt k : Int) == 8) = false := by simp; omega
      rw [e]; clear e ef h8
      go_enter Tryz.func158, Tryz.ntmps158
      go_wp2_with (first | (go_at_call 111; refine (shapeOf_out _ k HK.out _ HL.out).mono ?_; rintro e w' ⟨rfl, hb⟩) | (go_at_call 221; refine (class_any (fmtAt k) (fmt_lt k) _ ((HL.out.below hb).alloc _)).mono ?_; rintro e w'' ⟨rfl, rfl⟩))
      go_ret
      exact ⟨rfl, Below.alloc (by assumption) (Below.size (by assumption)) _⟩
theorem run_field48 (x : Int) (b c d : Value) (w : World) : (Instr.field 267 (.agg #[.int .i64 x, b, c, d]) 0).run Tryz.prog w = .ok (.int .i64 x) w := by kernel_rfl
theorem writesOf_any (op : Int) (k : Nat) (hk : opN op = k) (w : World) (hL : Laid w) : Calls Tryz.prog 197 #[.int .i64 op] w fun e w' => e = .returned (.bool (lyRd (fmtAt k))) ∧ Below w.heap.size w w' := by
  have HK : Hid (opN op = k) := hk
  have HL : Hid (Laid w) := hL
  clear hk hL
  have hf := run_field48
  go_enter Tryz.func197, Tryz.ntmps197
  go_wp2_with (first | (go_at_call 111; refine (shapeOf_out _ k HK.out _ HL.out).mono ?_; rintro e w' ⟨rfl, hb⟩) | (go_at_call 255; refine (writes_any (fmtAt k) (fmt_lt k) _ (HL.out.below hb)).mono ?_; rintro e w'' ⟨rfl, rfl⟩))
  go_ret
  exact ⟨rfl, by assumption⟩
theorem readsOf_any (op : Int) (k : Nat) (hk : opN op = k) (w : World) (hL : Laid w) : Calls Tryz.prog 224 #[.int .i64 op] w fun e w' => e = .returned (.tuple #[.bool (rf (fmtAt k)), .bool (lyRs2 (fmtAt k))]) ∧ Below w.heap.size w w' := by
  have HK : Hid (opN op = k) := hk
  have HL : Hid (Laid w) := hL
  clear hk hL
  go_enter Tryz.func224, Tryz.ntmps224
  go_wp2_with (go_at_call 111; refine (shapeOf_out _ k HK.out _ HL.out).mono ?_; rintro e w' ⟨rfl, hb⟩)
  have HL2 : Hid (∀ n o, Laid ((w'.alloc o).drewN n)) := fun n o => ((HL.out.below hb).alloc _).drewN _
  go_quiet (first | (go_at_call 316; exact Calls.quiet_of_same (readsFirst_any (fmtAt k) (fmt_lt k) _ (HL2.out _ _))) | (go_at_call 317; exact Calls.quiet_of_same (readsSecond_any (fmtAt k) (fmt_lt k) _ (HL2.out _ _))))
  go_wp2
  go_ret2
  exact ⟨rfl, below_drewN (Below.alloc hb hb.size _) _⟩
end Go.Proofs.YtemamhkhjijdlaaGreatDoor
/-
  PREDICT: the classes of operations, as the program has them.
-/
namespace Go.Proofs.YtemamhkhjijdlaaGreatDoor
open Go Go.RowKit
end Go.Proofs.YtemamhkhjijdlaaGreatDoor
/-
  PREDICT: what an instruction is for the program's predictor.
-/
namespace Go.Proofs.YtemamhkhjijdlaaGreatDoor
open Go Go.RowKit
theorem keepB {w w2 : World} {c : Array Value} {t : TypeId} (hb : Below (w.alloc (.cells c t)).heap.size (w.alloc (.cells c t)) w2) :
    (∀ i, w2.cell? ⟨w.heap.size, i, none⟩ = c[i]?) ∧ (∀ i, w2.frozen? ⟨w.heap.size, i, none⟩ = false) ∧ w.heap.size < w2.heap.size ∧ Below w.heap.size w w2 := by
  have hs := hb.size
  simp only [World.size_alloc] at hs
  refine ⟨fun i => ?_, fun i => ?_, by omega, ((Below.refl _ _).alloc (Nat.le_refl _) _).trans (hb.mono (by simp))⟩
  · rw [hb.cell (p := ⟨w.heap.size, i, none⟩) (by simp)]
    exact World.cell?_alloc_new w c t i
  · rw [hb.frozen (p := ⟨w.heap.size, i, none⟩) (by simp)]
    exact World.frozen?_alloc_at c t _ i rfl
def brB (op : Int) : Bool := classOf (opN op) == 2
def retB (op rd rs1 : Int) : Bool := op == 4 && rs1 == 1 && rd == 0
def farB (op rd rs1 : Int) : Bool := op == 4 && !retB op rd rs1
def callB (op rd : Int) : Bool := classOf (opN op) == 3 && rd == 1
theorem isBranch_any (op rd rs1 rs2 imm : Int) (w : World) (hL : Laid w) : Calls Tryz.prog 222 #[.agg #[.int .i64 op, .int .i64 rd, .int .i64 rs1, .int .i64 rs2, .int .i64 imm]] w fun e w' => e = .returned (.bool (brB op)) ∧ Below w.heap.size w w' := by
  have HL : Hid (∀ o, Laid (w.alloc o)) := fun o => hL.alloc o
  clear hL
  go_enter Tryz.func222, Tryz.ntmps222
  go_wp2_with (go_at_call 158; refine (classOf_any op _ rfl _ (HL.out _)).mono ?_; rintro e w1 ⟨rfl, hb1⟩; obtain ⟨k1, k2, k3, k4⟩ := keepB hb1)
  go_ret
  exact ⟨rfl, k4⟩
theorem isReturn_any (op rd rs1 rs2 imm : Int) (w : World) : Calls Tryz.prog 244 #[.agg #[.int .i64 op, .int .i64 rd, .int .i64 rs1, .int .i64 rs2, .int .i64 imm]] w fun e w' => e = .returned (.bool (retB op rd rs1)) ∧ Below w.heap.size w w' := by
  unfold retB
  cases h1 : (op == 4)
  all_goals
    cases h2 : (rs1 == 1)
    all_goals
      cases h3 : (rd == 0)
      all_goals
        go_enter Tryz.func244, Tryz.ntmps244
        go_wp2
        go_ret
        exact ⟨rfl, (Below.refl _ _).alloc (Nat.le_refl _) _⟩
theorem isFar_any (op rd rs1 rs2 imm : Int) (w : World) : Calls Tryz.prog 266 #[.agg #[.int .i64 op, .int .i64 rd, .int .i64 rs1, .int .i64 rs2, .int .i64 imm]] w fun e w' => e = .returned (.bool (farB op rd rs1)) ∧ Below w.heap.size w w' := by
  unfold farB
  cases h1 : (op == 4)
  · go_enter Tryz.func266, Tryz.ntmps266
    go_wp2
    go_ret
    exact ⟨rfl, (Below.refl _ _).alloc (Nat.le_refl _) _⟩
  · generalize hr : retB op rd rs1 = r
    have HR := Hid.in hr
    clear hr
    cases r
    all_goals
      go_enter Tryz.func266, Tryz.ntmps266
      go_wp2_with (go_at_call 244; refine (isReturn_any op rd rs1 rs2 imm _).mono ?_; rintro e w1 ⟨rfl, hb1⟩; rw [HR.out]; obtain ⟨k1, k2, k3, k4⟩ := keepB hb1)
      go_ret
      exact ⟨rfl, k4⟩
theorem isCall_any (op rd rs1 rs2 imm : Int) (w : World) (hL : Laid w) : Calls Tryz.prog 245 #[.agg #[.int .i64 op, .int .i64 rd, .int .i64 rs1, .int .i64 rs2, .int .i64 imm]] w fun e w' => e = .returned (.bool (callB op rd)) ∧ Below w.heap.size w w' := by
  have HL : Hid (∀ o, Laid (w.alloc o)) := fun o => hL.alloc o
  clear hL
  unfold callB
  generalize hc : classOf (opN op) = c
  have HC := Hid.in hc
  clear hc
  cases h1 : (c == 3)
  all_goals
    cases h2 : (rd == 1)
    all_goals
      go_enter Tryz.func245, Tryz.ntmps245
      go_wp2_with (go_at_call 158; refine (classOf_any op _ rfl _ (HL.out _)).mono ?_; rintro e w1 ⟨rfl, hb1⟩; rw [HC.out]; obtain ⟨k1, k2, k3, k4⟩ := keepB hb1)
      go_ret
      exact ⟨rfl, k4⟩
theorem within_any (x a b : Int) (w : World) : Calls Tryz.prog 98 #[.int .i64 x, .int .i64 a, .int .i64 b] w fun e w' => e = .returned (.bool (decide (a ≤ x) && decide (x ≤ b))) ∧ w' = w := by
  by_cases h1 : a ≤ x
  all_goals
    by_cases h2 : x ≤ b
    all_goals
      go_enter Tryz.func98, Tryz.ntmps98
      go_wp2
      go_ret
      simp [h1, h2]
end Go.Proofs.YtemamhkhjijdlaaGreatDoor
/-
  PREDICT: the program's predictor in memory; how it goes on.
-/
namespace Go.Proofs.YtemamhkhjijdlaaGreatDoor
open Go Go.RowKit
/-- a predictor's state -/
structure PS where
  hist : Nat
  top : Nat
  stack : Nat → Int
  tf : Nat → Bool
  tp : Nat → Int
  tt : Nat → Int
  ctr : Nat → Nat
def encD (dv : Value) (hist mask gt nt gs ns top : Nat) : Nat → Value
  | 0 => dv
  | 1 => .int .i64 hist
  | 2 => .int .i64 mask
  | 3 => .slice (some ⟨gt, 0, none⟩) nt nt
  | 4 => .slice (some ⟨gs, 0, none⟩) ns ns
  | _ => .int .i64 top
def encG (tf : Nat → Bool) (tp tt : Nat → Int) (o : Nat) : Value := if o % 3 = 0 then .bool (tf (o / 3)) else if o % 3 = 1 then .int .u32 (tp (o / 3)) else .int .u32 (tt (o / 3))
/-- where it lies, and how great it is -/
structure PG where
  p : Nat
  gt : Nat
  nt : Nat
  gs : Nat
  ns : Nat
  gc : Nat
  nc : Nat
  mask : Nat
  dv : Value
structure Pr (w : World) (G : PG) (S : PS) : Prop where
  cells : CellsAt 6 w G.p (encD G.dv S.hist G.mask G.gt G.nt G.gs G.ns S.top)
  tgt : CellsAt (G.nt * 3) w G.gt (encG S.tf S.tp S.tt)
  stk : CellsAt G.ns w G.gs (fun k => .int .u32 (S.stack k))
  ctr : CellsAt G.nc w G.gc (fun k => .int .u8 (S.ctr k))
  ne : G.p ≠ G.gt ∧ G.p ≠ G.gs ∧ G.p ≠ G.gc ∧ G.gt ≠ G.gs ∧ G.gt ≠ G.gc ∧ G.gs ≠ G.gc
  low : S.top < G.ns ∧ S.hist ≤ G.mask
  size : 1 ≤ G.nt ∧ G.nt ≤ 256 ∧ 1 ≤ G.ns ∧ G.ns ≤ 16 ∧ G.nc ≤ 1024 ∧ G.mask ≤ 1023
  msk : ∀ y, y &&& G.mask = y % (G.mask + 1)
def G.own (G : PG) (k : Nat) : Prop := k = G.p ∨ k = G.gt ∨ k = G.gs ∨ k = G.gc
theorem Pr.turned {Q : Nat → Prop} {w w' : World} {G : PG} {S : PS} (h : Pr w G S) (c : Turned Q w w') (h1 : ¬ Q G.p) (h2 : ¬ Q G.gt) (h3 : ¬ Q G.gs) (h4 : ¬ Q G.gc) : Pr w' G S :=
  ⟨c.cells h.cells h1, c.cells h.tgt h2, c.cells h.stk h3, c.cells h.ctr h4, h.ne, h.low, h.size, h.msk⟩
theorem Pr.below {w w' : World} {G : PG} {S : PS} (h : Pr w G S) (c : Below w.heap.size w w') : Pr w' G S := h.turned (Q := fun _ => False) (Turned.of_below c) (fun q => q) (fun q => q) (fun q => q) (fun q => q)
def plc (G : PG) (pc : Int) : Nat := ((pc / 4) % (G.nt : Int)).toNat
theorem plc_is (G : PG) (pc : Int) (h1 : 1 ≤ G.nt) : (pc / 4) % (G.nt : Int) = (plc G pc : Int) ∧ plc G pc < G.nt := by
  have h2 := Int.emod_nonneg (pc / 4) (show (G.nt : Int) ≠ 0 by omega)
  have h3 := Int.emod_lt_of_pos (pc / 4) (show (0 : Int) < (G.nt : Int) by omega)
  unfold plc
  omega
theorem placeOf_any (G : PG) (S : PS) (pc : Int) (w : World) (h : Pr w G S) (hpc : 0 ≤ pc ∧ pc < 4294967296) : Calls Tryz.prog 267 #[.pointer (some ⟨G.p, 0, none⟩), .int .u32 pc] w fun e w' => e = .returned (.int .u32 (plc G pc)) ∧ w' = w := by
  have c3 : w.cell? ⟨G.p, 3, none⟩ = some (.slice (some ⟨G.gt, 0, none⟩) G.nt G.nt) := h.cells.cell 3 (by decide)
  have h3 := h.cells.here
  have hs := h.size
  obtain ⟨s1, s2, s3, s4, s5⟩ := hs
  obtain ⟨e1, e2⟩ := plc_is G pc s1
  generalize plc G pc = k at e1 e2 ⊢
  obtain ⟨p1, p2⟩ := hpc
  generalize G.nt = nt at *
  have hz : ¬ (nt : Int) = 0 := by omega
  have hw : (nt : Int) % 4294967296 = (nt : Int) := by omega
  clear h
  go_enter Tryz.func267, Tryz.ntmps267
  go_wp2
  go_ret
  exact ⟨by show Ending.returned (Value.int .u32 (pc / 4 % (nt : Int))) = _; rw [e1], rfl⟩
theorem CD.hist {w : World} {p : Nat} {dv : Value} {h m gt nt gs ns t : Nat} (hc : CellsAt 6 w p (encD dv h m gt nt gs ns t)) (v : Nat) : CellsAt 6 (w.setCell ⟨p, 1, none⟩ (.int .i64 v)) p (encD dv v m gt nt gs ns t) := by
  refine (hc.set 1 (by omega) _).ext fun o ho => ?_
  match o, ho with
  | 0, _ => rfl
  | 1, _ => rfl
  | 2, _ => rfl
  | 3, _ => rfl
  | 4, _ => rfl
  | 5, _ => rfl
theorem CD.top {w : World} {p : Nat} {dv : Value} {h m gt nt gs ns t : Nat} (hc : CellsAt 6 w p (encD dv h m gt nt gs ns t)) (v : Nat) : CellsAt 6 (w.setCell ⟨p, 5, none⟩ (.int .i64 v)) p (encD dv h m gt nt gs ns v) := by
  refine (hc.set 5 (by omega) _).ext fun o ho => ?_
  match o, ho with
  | 0, _ => rfl
  | 1, _ => rfl
  | 2, _ => rfl
  | 3, _ => rfl
  | 4, _ => rfl
  | 5, _ => rfl
theorem ofInt_64_prd (a : Nat) (ha : a < 9223372036854775808) : (BitVec.ofInt 64 (a : Int)).toNat = a := by
  rw [BitVec.ofInt_natCast, BitVec.toNat_ofNat]; exact Nat.mod_eq_of_lt (by omega)
theorem i64_and_nat (a b : Nat) (ha : a < 9223372036854775808) (hb : b < 9223372036854775808) : bits .and .i64 (a : Int) (b : Int) = ((a &&& b : Nat) : Int) := by
  have hx : a &&& b < 2 ^ 63 := Nat.and_lt_two_pow _ (by omega)
  show IntKind.i64.wrap ((BitVec.ofInt 64 (a : Int) &&& BitVec.ofInt 64 (b : Int)).toNat : Int) = _
  rw [BitVec.toNat_and, ofInt_64_prd a ha, ofInt_64_prd b hb, IntKind.wrap_i64]
  omega
set_option maxHeartbeats 1000000 in
theorem goOn_ret (G : PG) (S : PS) (op rd rs1 rs2 imm pc : Int) (taken : Bool) (w : World) (h : Pr w G S) (hL : Laid w) (hb : brB op = false) (hr : retB op rd rs1 = true) : Calls Tryz.prog 191 #[.pointer (some ⟨G.p, 0, none⟩), .int .u32 pc, .agg #[.int .i64 op, .int .i64 rd, .int .i64 rs1, .int .i64 rs2, .int .i64 imm], .bool taken] w fun e w' => e = .returned (.tuple #[]) ∧ Pr w' G { S with top := (S.top + G.ns - 1) % G.ns } ∧ Turned (· = G.p) w w' := by
  have HL : Hid (∀ o, Laid (w.alloc o)) := fun o => hL.alloc o
  have HP := Hid.in h
  have HB := Hid.in hb
  have HR := Hid.in hr
  have c4 : w.cell? ⟨G.p, 4, none⟩ = some (.slice (some ⟨G.gs, 0, none⟩) G.ns G.ns) := h.cells.cell 4 (by decide)
  have c5 : w.cell? ⟨G.p, 5, none⟩ = some (.int .i64 S.top) := h.cells.cell 5 (by decide)
  have h3 := h.cells.here
  have h4 := h.cells.free
  obtain ⟨s1, s2, s3, s4, s5⟩ := h.size
  obtain ⟨l1, l2⟩ := h.low
  obtain ⟨t, ht⟩ : ∃ t, t = (S.top + G.ns - 1) % G.ns := ⟨_, rfl⟩
  have htm : ((S.top : Int) + (G.ns : Int) - 1).tmod (G.ns : Int) = (t : Int) := by
    rw [Int.tmod_eq_emod_of_nonneg (by omega), ht]
    have e : (S.top : Int) + (G.ns : Int) - 1 = ((S.top + G.ns - 1 : Nat) : Int) := by omega
    rw [e]
    exact (Int.natCast_emod _ _).symm
  rw [← ht]
  have HT : Hid (t < G.ns) := by show _ < _; rw [ht]; exact Nat.mod_lt _ (by omega)
  have hz : ¬ (G.ns : Int) = 0 := by omega
  clear h hL hb hr ht
  go_enter Tryz.func191, Tryz.ntmps191
  go_wp2_with (first
    | (go_at_call 222; refine (isBranch_any op rd rs1 rs2 imm _ (HL.out _)).mono ?_; rintro e w1 ⟨rfl, hb1⟩; rw [HB.out]; obtain ⟨k1, k2, k3, k4⟩ := keepB hb1; have c41 := (k4.cell (p := ⟨G.p, 4, none⟩) h3).trans c4; have c51 := (k4.cell (p := ⟨G.p, 5, none⟩) h3).trans c5; have h31 := Nat.lt_of_lt_of_le h3 k4.size; have h41 : ∀ o, w1.frozen? ⟨G.p, o, none⟩ = false := fun o => (k4.frozen (p := ⟨G.p, o, none⟩) h3).trans (h4 o))
    | (go_at_call 244; refine (isReturn_any op rd rs1 rs2 imm _).mono ?_; rintro e w2 ⟨rfl, hb2⟩; rw [HR.out]; have c42 := (hb2.cell (p := ⟨G.p, 4, none⟩) h31).trans c41; have c52 := (hb2.cell (p := ⟨G.p, 5, none⟩) h31).trans c51; have h32 := Nat.lt_of_lt_of_le h31 hb2.size; have h42 : ∀ o, w2.frozen? ⟨G.p, o, none⟩ = false := fun o => (hb2.frozen (p := ⟨G.p, o, none⟩) h31).trans (h41 o)))
  have hb12 := below2 k4 hb2
  have HP2 := HP.out.below hb12
  refine bodyPost_end (results_none Tryz.results191 _ _ _) rfl ⟨rfl, ?_, ?_⟩
  · obtain ⟨a1, a2, a3, a4, a5, a6, a7, a8⟩ := HP2
    exact ⟨CD.top a1 t, a2.setOther _ _ (fun e => a5.1 e.symm), a3.setOther _ _ (fun e => a5.2.1 e.symm), a4.setOther _ _ (fun e => a5.2.2.1 e.symm), a5, ⟨HT.out, a6.2⟩, a7, a8⟩
  · exact (Turned.of_below (Q := (· = G.p)) hb12).set (b := G.p) rfl _ _
set_option maxHeartbeats 1000000 in
theorem goOn_none (G : PG) (S : PS) (op rd rs1 rs2 imm pc : Int) (taken : Bool) (w : World) (h : Pr w G S) (hL : Laid w) (hb : brB op = false) (hr : retB op rd rs1 = false) (hc : callB op rd = false) : Calls Tryz.prog 191 #[.pointer (some ⟨G.p, 0, none⟩), .int .u32 pc, .agg #[.int .i64 op, .int .i64 rd, .int .i64 rs1, .int .i64 rs2, .int .i64 imm], .bool taken] w fun e w' => e = .returned (.tuple #[]) ∧ Pr w' G S ∧ Turned (· = G.p) w w' := by
  have HL : Hid (∀ o, Laid (w.alloc o)) := fun o => hL.alloc o
  have HLL : Hid (∀ y, Below w.heap.size w y → Laid y) := fun y hy => hL.below hy
  have HP := Hid.in h
  have HB := Hid.in hb
  have c4 : w.cell? ⟨G.p, 4, none⟩ = some (.slice (some ⟨G.gs, 0, none⟩) G.ns G.ns) := h.cells.cell 4 (by decide)
  have c5 : w.cell? ⟨G.p, 5, none⟩ = some (.int .i64 S.top) := h.cells.cell 5 (by decide)
  have h3 := h.cells.here
  have h4 := h.cells.free
  obtain ⟨s1, s2, s3, s4, s5⟩ := h.size
  obtain ⟨l1, l2⟩ := h.low
  have HR := Hid.in hr
  have HC := Hid.in hc
  clear h hL hb hr hc
  go_enter Tryz.func191, Tryz.ntmps191
  go_wp2_with (first
    | (go_at_call 222; refine (isBranch_any op rd rs1 rs2 imm _ (HL.out _)).mono ?_; rintro e w1 ⟨rfl, hb1⟩; rw [HB.out]; obtain ⟨k1, k2, k3, k4⟩ := keepB hb1; have c41 := (k4.cell (p := ⟨G.p, 4, none⟩) h3).trans c4; have c51 := (k4.cell (p := ⟨G.p, 5, none⟩) h3).trans c5; have h31 := Nat.lt_of_lt_of_le h3 k4.size; have h41 : ∀ o, w1.frozen? ⟨G.p, o, none⟩ = false := fun o => (k4.frozen (p := ⟨G.p, o, none⟩) h3).trans (h4 o))
    | (go_at_call 244; refine (isReturn_any op rd rs1 rs2 imm _).mono ?_; rintro e w2 ⟨rfl, hb2⟩; rw [HR.out]; have c42 := (hb2.cell (p := ⟨G.p, 4, none⟩) h31).trans c41; have c52 := (hb2.cell (p := ⟨G.p, 5, none⟩) h31).trans c51; have h32 := Nat.lt_of_lt_of_le h31 hb2.size; have h42 : ∀ o, w2.frozen? ⟨G.p, o, none⟩ = false := fun o => (hb2.frozen (p := ⟨G.p, o, none⟩) h31).trans (h41 o); have k12 := fun i => (hb2.cell (p := ⟨w.heap.size, i, none⟩) k3).trans (k1 i); have k32 := Nat.lt_of_lt_of_le k3 hb2.size)
    | (go_at_call 245; refine (isCall_any op rd rs1 rs2 imm _ (HLL.out _ (below2 k4 hb2))).mono ?_; rintro e w3 ⟨rfl, hb3⟩; rw [HC.out]; have c43 := (hb3.cell (p := ⟨G.p, 4, none⟩) h32).trans c42; have c53 := (hb3.cell (p := ⟨G.p, 5, none⟩) h32).trans c52; have h33 := Nat.lt_of_lt_of_le h32 hb3.size; have h43 : ∀ o, w3.frozen? ⟨G.p, o, none⟩ = false := fun o => (hb3.frozen (p := ⟨G.p, o, none⟩) h32).trans (h42 o)))
  have hb13 := below2 (below2 k4 hb2) hb3
  exact bodyPost_end (results_none Tryz.results191 _ _ _) rfl ⟨rfl, HP.out.below hb13, Turned.of_below hb13⟩
set_option maxHeartbeats 1000000 in
theorem goOn_call (G : PG) (S : PS) (op rd rs1 rs2 imm pc : Int) (taken : Bool) (w : World) (h : Pr w G S) (hL : Laid w) (hpc : 0 ≤ pc ∧ pc < 4294967296) (hb : brB op = false) (hr : retB op rd rs1 = false) (hc : callB op rd = true) : Calls Tryz.prog 191 #[.pointer (some ⟨G.p, 0, none⟩), .int .u32 pc, .agg #[.int .i64 op, .int .i64 rd, .int .i64 rs1, .int .i64 rs2, .int .i64 imm], .bool taken] w fun e w' => e = .returned (.tuple #[]) ∧ Pr w' G { S with top := (S.top + 1) % G.ns, stack := upd S.stack ((S.top + 1) % G.ns) ((pc + 4) % 4294967296) } ∧ Turned (fun k => k = G.p ∨ k = G.gs) w w' := by
  have HL : Hid (∀ o, Laid (w.alloc o)) := fun o => hL.alloc o
  have HLL : Hid (∀ y, Below w.heap.size w y → Laid y) := fun y hy => hL.below hy
  have HP := Hid.in h
  have HB := Hid.in hb
  have c4 : w.cell? ⟨G.p, 4, none⟩ = some (.slice (some ⟨G.gs, 0, none⟩) G.ns G.ns) := h.cells.cell 4 (by decide)
  have c5 : w.cell? ⟨G.p, 5, none⟩ = some (.int .i64 S.top) := h.cells.cell 5 (by decide)
  have h3 := h.cells.here
  have h4 := h.cells.free
  obtain ⟨s1, s2, s3, s4, s5⟩ := h.size
  obtain ⟨l1, l2⟩ := h.low
  have HR := Hid.in hr
  have HC := Hid.in hc
  obtain ⟨t, ht⟩ : ∃ t, t = (S.top + 1) % G.ns := ⟨_, rfl⟩
  have htm : ((S.top : Int) + 1).tmod (G.ns : Int) = (t : Int) := by
    rw [Int.tmod_eq_emod_of_nonneg (by omega), ht]
    have e : (S.top : Int) + 1 = ((S.top + 1 : Nat) : Int) := by omega
    rw [e]
    exact (Int.natCast_emod _ _).symm
  rw [← ht]
  have ht2 : t < G.ns := by rw [ht]; exact Nat.mod_lt _ (by omega)
  have hz : ¬ (G.ns : Int) = 0 := by omega
  have hne : G.p ≠ G.gs := h.ne.2.1
  have cs := h.stk.cell t ht2
  have hsh := h.stk.here
  have hsf := h.stk.free
  obtain ⟨p1, p2⟩ := hpc
  clear h hL hb hr hc ht
  go_enter Tryz.func191, Tryz.ntmps191
  go_wp2_with (first
    | (go_at_call 222; refine (isBranch_any op rd rs1 rs2 imm _ (HL.out _)).mono ?_; rintro e w1 ⟨rfl, hb1⟩; rw [HB.out]; obtain ⟨k1, k2, k3, k4⟩ := keepB hb1; have c41 := (k4.cell (p := ⟨G.p, 4, none⟩) h3).trans c4; have c51 := (k4.cell (p := ⟨G.p, 5, none⟩) h3).trans c5; have h31 := Nat.lt_of_lt_of_le h3 k4.size; have h41 : ∀ o, w1.frozen? ⟨G.p, o, none⟩ = false := fun o => (k4.frozen (p := ⟨G.p, o, none⟩) h3).trans (h4 o))
    | (go_at_call 244; refine (isReturn_any op rd rs1 rs2 imm _).mono ?_; rintro e w2 ⟨rfl, hb2⟩; rw [HR.out]; have c42 := (hb2.cell (p := ⟨G.p, 4, none⟩) h31).trans c41; have c52 := (hb2.cell (p := ⟨G.p, 5, none⟩) h31).trans c51; have h32 := Nat.lt_of_lt_of_le h31 hb2.size; have h42 : ∀ o, w2.frozen? ⟨G.p, o, none⟩ = false := fun o => (hb2.frozen (p := ⟨G.p, o, none⟩) h31).trans (h41 o); have k12 := fun i => (hb2.cell (p := ⟨w.heap.size, i, none⟩) k3).trans (k1 i); have k32 := Nat.lt_of_lt_of_le k3 hb2.size)
    | (go_at_call 245; refine (isCall_any op rd rs1 rs2 imm _ (HLL.out _ (below2 k4 hb2))).mono ?_; rintro e w3 ⟨rfl, hb3⟩; rw [HC.out]; have c43 := (hb3.cell (p := ⟨G.p, 4, none⟩) h32).trans c42; have c53 := (hb3.cell (p := ⟨G.p, 5, none⟩) h32).trans c52; have h33 := Nat.lt_of_lt_of_le h32 hb3.size; have h43 : ∀ o, w3.frozen? ⟨G.p, o, none⟩ = false := fun o => (hb3.frozen (p := ⟨G.p, o, none⟩) h32).trans (h42 o); have hb13 := below2 (below2 k4 hb2) hb3; have cs3 := (hb13.cell (p := ⟨G.gs, t, none⟩) hsh).trans cs; have hsh3 := Nat.lt_of_lt_of_le hsh hb13.size; have hsf3 : ∀ o, w3.frozen? ⟨G.gs, o, none⟩ = false := fun o => (hb13.frozen (p := ⟨G.gs, o, none⟩) hsh).trans (hsf o)))
  go_region
  all_goals (try go_wp2)
  have HP3 := HP.out.below hb13
  refine bodyPost_end (results_none Tryz.results191 _ _ _) rfl ⟨rfl, ?_, ?_⟩
  · obtain ⟨a1, a2, a3, a4, a5, a6, a7, a8⟩ := HP3
    refine ⟨((CD.top a1 t).setOther _ _ hne).drew, ((a2.setOther _ _ (fun e => a5.1 e.symm)).setOther _ _ (fun e => a5.2.2.2.1 e)).drew, ?_, ((a4.setOther _ _ (fun e => a5.2.2.1 e.symm)).setOther _ _ (fun e => a5.2.2.2.2.2 e.symm)).drew, a5, ⟨ht2, a6.2⟩, a7, a8⟩
    refine ((((a3.setOther _ _ (fun e => a5.2.1 e.symm)).set t ht2 _)).to ?_).drew
    funext k
    show upd (fun k => Value.int .u32 (S.stack k)) t _ k = Value.int .u32 (upd S.stack t _ k)
    by_cases e : k = t
    · rw [e, upd_same, upd_same]
    · rw [upd_other _ _ _ _ e, upd_other _ _ _ _ e]
  · exact ((((Turned.of_below (Q := fun k => k = G.p ∨ k = G.gs) hb13).set (b := G.p) (Or.inl rfl) _ _).set (b := G.gs) (Or.inr rfl) _ _)).drew
set_option maxHeartbeats 1000000 in
theorem goOn_br (G : PG) (S : PS) (op rd rs1 rs2 imm pc : Int) (taken : Bool) (w : World) (h : Pr w G S) (hL : Laid w) (hb : brB op = true) : Calls Tryz.prog 191 #[.pointer (some ⟨G.p, 0, none⟩), .int .u32 pc, .agg #[.int .i64 op, .int .i64 rd, .int .i64 rs1, .int .i64 rs2, .int .i64 imm], .bool taken] w fun e w' => e = .returned (.tuple #[]) ∧ Pr w' G { S with hist := (S.hist * 2 + (if taken then 1 else 0)) % (G.mask + 1) } ∧ Turned (· = G.p) w w' := by
  have HL : Hid (∀ o, Laid (w.alloc o)) := fun o => hL.alloc o
  have HP := Hid.in h
  have HB := Hid.in hb
  have c1 : w.cell? ⟨G.p, 1, none⟩ = some (.int .i64 S.hist) := h.cells.cell 1 (by decide)
  have c2 : w.cell? ⟨G.p, 2, none⟩ = some (.int .i64 G.mask) := h.cells.cell 2 (by decide)
  have c4 : w.cell? ⟨G.p, 4, none⟩ = some (.slice (some ⟨G.gs, 0, none⟩) G.ns G.ns) := h.cells.cell 4 (by decide)
  have h3 := h.cells.here
  have h4 := h.cells.free
  obtain ⟨s1, s2, s3, s4, s5, s6⟩ := h.size
  obtain ⟨l1, l2⟩ := h.low
  have hm := h.msk
  obtain ⟨t, ht⟩ : ∃ t, t = (S.hist * 2 + (if taken then 1 else 0)) % (G.mask + 1) := ⟨_, rfl⟩
  rw [← ht]
  have HT : Hid (t ≤ G.mask) := by
    have := Nat.mod_lt (S.hist * 2 + (if taken then 1 else 0)) (show 0 < G.mask + 1 by omega)
    show _ ≤ _
    omega
  have hA : ∀ d : Nat, d ≤ 1 → bits .and .i64 (((S.hist * 2 + d : Nat)) : Int) (G.mask : Int) = (((S.hist * 2 + d) % (G.mask + 1) : Nat) : Int) := by
    intro d hd
    rw [i64_and_nat _ _ (by omega) (by omega), hm]
  cases taken
  · have hA0 : bits .and .i64 ((S.hist : Int) * 2) (G.mask : Int) = (t : Int) := by
      have q := hA 0 (by omega)
      rw [ht]
      simpa using q
    clear h hL hb ht hA hm
    go_enter Tryz.func191, Tryz.ntmps191
    go_wp2_with (go_at_call 222; refine (isBranch_any op rd rs1 rs2 imm _ (HL.out _)).mono ?_; rintro e w1 ⟨rfl, hb1⟩; rw [HB.out]; obtain ⟨k1, k2, k3, k4⟩ := keepB hb1; have c11 := (k4.cell (p := ⟨G.p, 1, none⟩) h3).trans c1; have c21 := (k4.cell (p := ⟨G.p, 2, none⟩) h3).trans c2; have h31 := Nat.lt_of_lt_of_le h3 k4.size; have h41 : ∀ o, w1.frozen? ⟨G.p, o, none⟩ = false := fun o => (k4.frozen (p := ⟨G.p, o, none⟩) h3).trans (h4 o))
    go_region
    all_goals (try go_wp2)
    have HP1 := HP.out.below k4
    refine bodyPost_end (results_none Tryz.results191 _ _ _) rfl ⟨rfl, ?_, ?_⟩
    · obtain ⟨a1, a2, a3, a4, a5, a6, a7, a8⟩ := HP1
      exact ⟨(CD.hist (CD.hist a1 (S.hist * 2)) t).drew, ((a2.setOther _ _ (fun e => a5.1 e.symm)).setOther _ _ (fun e => a5.1 e.symm)).drew, ((a3.setOther _ _ (fun e => a5.2.1 e.symm)).setOther _ _ (fun e => a5.2.1 e.symm)).drew, ((a4.setOther _ _ (fun e => a5.2.2.1 e.symm)).setOther _ _ (fun e => a5.2.2.1 e.symm)).drew, a5, ⟨a6.1, HT.out⟩, a7, a8⟩
    · exact (((Turned.of_below (Q := (· = G.p)) k4).set (b := G.p) rfl _ _).set (b := G.p) rfl _ _).drew
  · have hA1 : bits .and .i64 ((S.hist : Int) * 2 + 1) (G.mask : Int) = (t : Int) := by
      have q := hA 1 (by omega)
      rw [ht]
      simpa using q
    clear h hL hb ht hA hm
    go_enter Tryz.func191, Tryz.ntmps191
    go_wp2_with (go_at_call 222; refine (isBranch_any op rd rs1 rs2 imm _ (HL.out _)).mono ?_; rintro e w1 ⟨rfl, hb1⟩; rw [HB.out]; obtain ⟨k1, k2, k3, k4⟩ := keepB hb1; have c11 := (k4.cell (p := ⟨G.p, 1, none⟩) h3).trans c1; have c21 := (k4.cell (p := ⟨G.p, 2, none⟩) h3).trans c2; have h31 := Nat.lt_of_lt_of_le h3 k4.size; have h41 : ∀ o, w1.frozen? ⟨G.p, o, none⟩ = false := fun o => (k4.frozen (p := ⟨G.p, o, none⟩) h3).trans (h4 o))
    go_region
    all_goals (try go_wp2)
    have HP1 := HP.out.below k4
    refine bodyPost_end (results_none Tryz.results191 _ _ _) rfl ⟨rfl, ?_, ?_⟩
    · obtain ⟨a1, a2, a3, a4, a5, a6, a7, a8⟩ := HP1
      exact ⟨(CD.hist (CD.hist (CD.hist a1 (S.hist * 2)) (S.hist * 2 + 1)) t).drew, (((a2.setOther _ _ (fun e => a5.1 e.symm)).setOther _ _ (fun e => a5.1 e.symm)).setOther _ _ (fun e => a5.1 e.symm)).drew, (((a3.setOther _ _ (fun e => a5.2.1 e.symm)).setOther _ _ (fun e => a5.2.1 e.symm)).setOther _ _ (fun e => a5.2.1 e.symm)).drew, (((a4.setOther _ _ (fun e => a5.2.2.1 e.symm)).setOther _ _ (fun e => a5.2.2.1 e.symm)).setOther _ _ (fun e => a5.2.2.1 e.symm)).drew, a5, ⟨a6.1, HT.out⟩, a7, a8⟩
    · exact ((((Turned.of_below (Q := (· = G.p)) k4).set (b := G.p) rfl _ _).set (b := G.p) rfl _ _).set (b := G.p) rfl _ _).drew
end Go.Proofs.YtemamhkhjijdlaaGreatDoor
