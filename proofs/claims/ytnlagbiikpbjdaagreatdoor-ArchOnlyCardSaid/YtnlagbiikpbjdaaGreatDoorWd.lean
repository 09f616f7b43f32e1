/-
  WHAT IS READ AND WRITTEN: the answer's 'has'; the program's ClassOf, Reads, Writes.
-/
import Derived.Test.YtnlagbiikpbjdaaGreatDoorWc
import Derived.BigQuiet
import Derived.Deep.QuietTactic
import Derived.WalkSmall
namespace Go.Proofs.YtnlagbiikpbjdaaGreatDoor
open Go Go.RowKit
def hasB (s : ByteArray) (L : Int) : Bool := s.data.toList.any fun c => (c.toNat : Int) == L
theorem hasB_true (s : ByteArray) (L : Int) (k : Nat) (h : k < s.size) (e : ((s[k].toNat : Int) == L) = true) : hasB s L = true := by
  unfold hasB
  rw [List.any_eq_true]
  exact ⟨s[k], by rw [show s[k] = s.data[k] from rfl]; simp, e⟩
theorem hasB_false (s : ByteArray) (L : Int) (h : ∀ k (hk : k < s.size), ((s[k].toNat : Int) == L) = false) : hasB s L = false := by
  unfold hasB
  rw [List.any_eq_false]
  intro c hc
  obtain ⟨k, hk, rfl⟩ := List.getElem_of_mem hc
  have := h k (by simpa using hk)
  rw [show s[k]'(by simpa using hk) = s.data.toList[k] by simp; rfl] at this
  simpa using this
theorem Laid.alloc {w : World} (h : Laid w) (o : Obj) : Laid (w.alloc o) := h.below ((Below.refl _ _).alloc (Nat.le_refl _) _)
theorem Laid.drewN {w : World} (h : Laid w) (n : Nat) : Laid (w.drewN n) := h.below (below_drewN (Below.refl _ _) _)
theorem Laid.drew {w : World} (h : Laid w) : Laid w.drew := h.below (Below.refl _ _).drew
theorem shapeOf_out (op : Int) (k : Nat) (hk : opN op = k) (w : World) (hL : Laid w) : Calls Tryz.prog 74 #[.int .i64 op] w fun e w' => e = .returned (.agg #[.int .i64 (fmtAt k), .int .u32 (codeAt k), .int .u32 (fAt k), .int .u32 (gAt k)]) ∧ Below w.heap.size w w' := by
  subst hk; exact shapeOf_any op w hL
set_option maxHeartbeats 400000 in
theorem classOf_any (op : Int) (k : Nat) (hk : opN op = k) (w : World) (hL : Laid w) : Calls Tryz.prog 44 #[.int .i64 op] w fun e w' => e = .returned (.int .i64 (classOf k)) ∧ Below w.heap.size w w' := by
  have HK : Hid (opN op = k) := hk
  have HL : Hid (Laid w) := hL
  by_cases h4 : op = 4
  · have e : classOf k = 3 := by rw [← hk, h4]; rfl
    rw [e]
    clear hk hL e
    subst h4
    go_enter Tryz.func44, Tryz.ntmps44
    go_wp2_with (go_at_call 74; refine (shapeOf_out _ k HK.out _ HL.out).mono ?_; rintro e w' ⟨rfl, hb⟩)
    go_ret
    exact ⟨rfl, Below.alloc (by assumption) (Below.size (by assumption)) _⟩
  · have h4' : (op == 4) = false := by simpa using h4
    have k4 : k ≠ 4 := by
      rw [← hk]; unfold opN; split <;> omega
    have ef : classOf k = if fmtAt k = 8 ∧ gAt k = 1 then 1 else lyClass (fmtAt k) := by unfold classOf; rw [if_neg k4]
    clear hk hL h4 k4
    by_cases h8 : fmtAt k = 8
    · by_cases h1 : gAt k = 1
      · have e : classOf k = 1 := by rw [ef, if_pos ⟨h8, h1⟩]
        have t8 : ((fmtAt k : Int) == 8) = true := by simp; omega
        have t1 : (gAt k == 1) = true := by simpa using h1
        rw [e]; clear e ef h8 h1
        go_enter Tryz.func44, Tryz.ntmps44
        go_wp2_with (go_at_call 74; refine (shapeOf_out _ k HK.out _ HL.out).mono ?_; rintro e w' ⟨rfl, hb⟩)
        go_ret
        exact ⟨rfl, Below.alloc (by assumption) (Below.size (by assumption)) _⟩
      · have e : classOf k = lyClass (fmtAt k) := by rw [ef, if_neg (fun h => h1 h.2)]
        have t8 : ((fmtAt k : Int) == 8) = true := by simp; omega
        have t1 : (gAt k == 1) = false := by simpa using h1
        rw [e]; clear e ef h8 h1
        go_enter Tryz.func44, Tryz.ntmps44
        go_wp2_with (first | (go_at_call 74; refine (shapeOf_out _ k HK.out _ HL.out).mono ?_; rintro e w' ⟨rfl, hb⟩) | (go_at_call 75; refine (class_any (fmtAt k) (fmt_lt k) _ ((HL.out.below hb).alloc _)).mono ?_; rintro e w'' ⟨rfl, rfl⟩))
        go_ret
        exact ⟨rfl, Below.alloc (by assumption) (Below.size (by assumption)) _⟩
    · have e : classOf k = lyClass (fmtAt k) := by rw [ef, if_neg (fun h => h8 h.1)]
      have t8 : ((fmtAt k : Int) == 8) = false := by simp; omega
      rw [e]; clear e ef h8
      go_enter Tryz.func44, Tryz.ntmps44
      go_wp2_with (first | (go_at_call 74; refine (shapeOf_out _ k HK.out _ HL.out).mono ?_; rintro e w' ⟨rfl, hb⟩) | (go_at_call 75; refine (class_any (fmtAt k) (fmt_lt k) _ ((HL.out.below hb).alloc _)).mono ?_; rintro e w'' ⟨rfl, rfl⟩))
      go_ret
      exact ⟨rfl, Below.alloc (by assumption) (Below.size (by assumption)) _⟩
theorem run_field48 (x : Int) (b c d : Value) (w : World) : (Instr.field 159 (.agg #[.int .i64 x, b, c, d]) 0).run Tryz.prog w = .ok (.int .i64 x) w := by kernel_rfl
theorem writesOf_any (op : Int) (k : Nat) (hk : opN op = k) (w : World) (hL : Laid w) : Calls Tryz.prog 53 #[.int .i64 op] w fun e w' => e = .returned (.bool (lyRd (fmtAt k))) ∧ Below w.heap.size w w' := by
  have HK : Hid (opN op = k) := hk
  have HL : Hid (Laid w) := hL
  clear hk hL
  have hf := run_field48
  go_enter Tryz.func53, Tryz.ntmps53
  go_wp2_with (first | (go_at_call 74; refine (shapeOf_out _ k HK.out _ HL.out).mono ?_; rintro e w' ⟨rfl, hb⟩) | (go_at_call 83; refine (writes_any (fmtAt k) (fmt_lt k) _ (HL.out.below hb)).mono ?_; rintro e w'' ⟨rfl, rfl⟩))
  go_ret
  exact ⟨rfl, by assumption⟩
theorem readsOf_any (op : Int) (k : Nat) (hk : opN op = k) (w : World) (hL : Laid w) : Calls Tryz.prog 106 #[.int .i64 op] w fun e w' => e = .returned (.tuple #[.bool (rf (fmtAt k)), .bool (lyRs2 (fmtAt k))]) ∧ Below w.heap.size w w' := by
  have HK : Hid (opN op = k) := hk
  have HL : Hid (Laid w) := hL
  clear hk hL
  go_enter Tryz.func106, Tryz.ntmps106
  go_wp2_with (go_at_call 74; refine (shapeOf_out _ k HK.out _ HL.out).mono ?_; rintro e w' ⟨rfl, hb⟩)
  have HL2 : Hid (∀ n o, Laid ((w'.alloc o).drewN n)) := fun n o => ((HL.out.below hb).alloc _).drewN _
  go_quiet (first | (go_at_call 130; exact Calls.quiet_of_same (readsFirst_any (fmtAt k) (fmt_lt k) _ (HL2.out _ _))) | (go_at_call 131; exact Calls.quiet_of_same (readsSecond_any (fmtAt k) (fmt_lt k) _ (HL2.out _ _))))
  go_wp2
  go_ret2
  exact ⟨rfl, below_drewN (Below.alloc hb hb.size _) _⟩
end Go.Proofs.YtnlagbiikpbjdaaGreatDoor
