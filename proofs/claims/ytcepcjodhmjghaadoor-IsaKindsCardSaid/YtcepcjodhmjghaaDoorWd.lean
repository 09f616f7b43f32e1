/-
  WHAT IS READ AND WRITTEN: the answer's 'has'; the program's ClassOf, Reads, Writes.
-/
import Derived.Test.YtcepcjodhmjghaaDoorWc
import Derived.BigQuiet
import Derived.Deep.QuietTactic
import Derived.WalkSmall
namespace Go.Proofs.YtcepcjodhmjghaaDoor
open Go Go.RowKit
def hasB (s : ByteArray) (L : Int) : Bool := s.data.toList.any fun c => (c.toNat : Int) == L
theorem has_none (op : Int) (s : ByteArray) (w : World) (h : op < 1 ∨ 67 < op) : Calls Tryd.prog 33 #[.int .i64 op, .string s] w fun e w' => e = .returned (.bool false) ∧ Below w.heap.size w w' := by
  by_cases h1 : op < 1
  · clear h
    go_enter Tryd.func33, Tryd.ntmps33
    go_wp2
    go_ret
    exact ⟨rfl, Below.refl _ _⟩
  · have h2 : 67 < op := by omega
    clear h
    go_enter Tryd.func33, Tryd.ntmps33
    go_wp2
    go_ret
    exact ⟨rfl, Below.refl _ _⟩
theorem hasB_true (s : ByteArray) (L : Int) (k : Nat) (h : k < s.size) (e : ((s[k].toNat : Int) == L) = true) : hasB s L = true := by
  unfold hasB
  rw [List.any_eq_true]
  exact ⟨s[k], by rw [show s[k] = s.data[k] from rfl]; simp, e⟩
theorem hasB_false (s : ByteArray) (L : Int) (h : ∀ k (hk : k < s.size), ((s[k].toNat : Int) == L) = false) : hasB s L = false := by
  unfold hasB
  rw [List.any_eq_false]
  intro c hc
  obtain ⟨k, hk, rfl⟩ := List.getElem_of_mem hc
  have := h k (by simpa using hk)
  rw [show s[k]'(by simpa using hk) = s.data.toList[k] by simp; rfl] at this
  simpa using this
set_option maxHeartbeats 400000 in
theorem has_in (i : Nat) (hi : i < 67) (s : ByteArray) (hs : s.size ≤ 100) (w : World) : Calls Tryd.prog 33 #[.int .i64 ((i : Int) + 1), .string s] w fun e w' => e = .returned (.bool (hasB s (letAt i))) ∧ Below w.heap.size w w' := by
  go_enter Tryd.func33, Tryd.ntmps33
  go_wp2_with (go_at_call 22; refine (rows_made _).mono ?_; rintro e w' ⟨rfl, hR, hb, hz⟩)
  go_loopw [6] (fun v wr => ∃ k : Nat, k ≤ s.size ∧ v = .int .i64 k ∧ (∀ j (hj : j < s.size), j < k → ((s[j].toNat : Int) == letAt i) = false) ∧ ∃ n, wr = w'.drewN n) (fun v _ => s.size - (intOf v).toNat)
  case atStart => exact ⟨0, Nat.zero_le _, rfl, fun j _ hj => absurd hj (Nat.not_lt_zero _), 0, rfl⟩
  case round =>
    obtain ⟨k, hk, rfl, hno, n, rfl⟩ := hrel
    have HN : Hid (∀ j (hj : j < s.size), j < k → ((s[j].toNat : Int) == letAt i) = false) := hno
    clear hno
    have c1 := hR.r1 i hi
    clear hR
    by_cases hlt : k < s.size
    · cases he : ((s[k].toNat : Int) == letAt i)
      · go_wp2_with fail
        go_quiet (fail)
        go_wp2
        go_roundw
        case rel => exact ⟨k + 1, by omega, by go_num, fun j hj hl => by
          by_cases e : j = k
          · subst e; exact he
          · exact HN.out j hj (by omega), _, rfl⟩
        case measure => simp [intOf]; omega
      · go_wp2_with fail
        go_quiet (fail)
        go_wp2
        go_ret
        exact ⟨ret_bool (hasB_true s _ k hlt he).symm, below_drewN (below_drewN hb _) _⟩
    · go_wp2
      go_ret
      exact ⟨ret_bool (hasB_false s _ fun j hj => HN.out j hj (by omega)).symm, below_drewN hb _⟩
theorem Laid.alloc {w : World} (h : Laid w) (o : Obj) : Laid (w.alloc o) := h.below ((Below.refl _ _).alloc (Nat.le_refl _) _)
theorem Laid.drewN {w : World} (h : Laid w) (n : Nat) : Laid (w.drewN n) := h.below (below_drewN (Below.refl _ _) _)
theorem Laid.drew {w : World} (h : Laid w) : Laid w.drew := h.below (Below.refl _ _).drew
theorem shapeOf_out (op : Int) (k : Nat) (hk : opN op = k) (w : World) (hL : Laid w) : Calls Tryd.prog 19 #[.int .i64 op] w fun e w' => e = .returned (.agg #[.int .i64 (fmtAt k), .int .u32 (codeAt k), .int .u32 (fAt k), .int .u32 (gAt k)]) ∧ Below w.heap.size w w' := by
  subst hk; exact shapeOf_any op w hL
set_option maxHeartbeats 400000 in
theorem classOf_any (op : Int) (k : Nat) (hk : opN op = k) (w : World) (hL : Laid w) : Calls Tryd.prog 13 #[.int .i64 op] w fun e w' => e = .returned (.int .i64 (classOf k)) ∧ Below w.heap.size w w' := by
  have HK : Hid (opN op = k) := hk
  have HL : Hid (Laid w) := hL
  by_cases h4 : op = 4
  · have e : classOf k = 3 := by rw [← hk, h4]; rfl
    rw [e]
    clear hk hL e
    subst h4
    go_enter Tryd.func13, Tryd.ntmps13
    go_wp2_with (go_at_call 19; refine (shapeOf_out _ k HK.out _ HL.out).mono ?_; rintro e w' ⟨rfl, hb⟩)
    go_ret
    exact ⟨rfl, Below.alloc (by assumption) (Below.size (by assumption)) _⟩
  · have h4' : (op == 4) = false := by simpa using h4
    have k4 : k ≠ 4 := by
      rw [← hk]; unfold opN; split <;> omega
    have ef : classOf k = if fmtAt k = 8 ∧ gAt k = 1 then 1 else lyClass (fmtAt k) := by unfold classOf; rw [if_neg k4]
    clear hk hL h4 k4
    by_cases h8 : fmtAt k = 8
    · by_cases h1 : gAt k = 1
      · have e : classOf k = 1 := by rw [ef, if_pos ⟨h8, h1⟩]
        have t8 : ((fmtAt k : Int) == 8) = true := by simp; omega
        have t1 : (gAt k == 1) = true := by simpa using h1
        rw [e]; clear e ef h8 h1
        go_enter Tryd.func13, Tryd.ntmps13
        go_wp2_with (go_at_call 19; refine (shapeOf_out _ k HK.out _ HL.out).mono ?_; rintro e w' ⟨rfl, hb⟩)
        go_ret
        exact ⟨rfl, Below.alloc (by assumption) (Below.size (by assumption)) _⟩
      · have e : classOf k = lyClass (fmtAt k) := by rw [ef, if_neg (fun h => h1 h.2)]
        have t8 : ((fmtAt k : Int) == 8) = true := by simp; omega
        have t1 : (gAt k == 1) = false := by simpa using h1
        rw [e]; clear e ef h8 h1
        go_enter Tryd.func13, Tryd.ntmps13
        go_wp2_with (first | (go_at_call 19; refine (shapeOf_out _ k HK.out _ HL.out).mono ?_; rintro e w' ⟨rfl, hb⟩) | (go_at_call 29; refine (class_any (fmtAt k) (fmt_lt k) _ ((HL.out.below hb).alloc _)).mono ?_; rintro e w'' ⟨rfl, rfl⟩))
        go_ret
        exact ⟨rfl, Below.alloc (by assumption) (Below.size (by assumption)) _⟩
    · have e : classOf k = lyClass (fmtAt k) := by rw [ef, if_neg (fun h => h8 h.1)]
      have t8 : ((fmtAt k : Int) == 8) = false := by simp; omega
      rw [e]; clear e ef h8
      go_enter Tryd.func13, Tryd.ntmps13
      go_wp2_with (first | (go_at_call 19; refine (shapeOf_out _ k HK.out _ HL.out).mono ?_; rintro e w' ⟨rfl, hb⟩) | (go_at_call 29; refine (class_any (fmtAt k) (fmt_lt k) _ ((HL.out.below hb).alloc _)).mono ?_; rintro e w'' ⟨rfl, rfl⟩))
      go_ret
      exact ⟨rfl, Below.alloc (by assumption) (Below.size (by assumption)) _⟩
theorem run_field48 (x : Int) (b c d : Value) (w : World) : (Instr.field 48 (.agg #[.int .i64 x, b, c, d]) 0).run Tryd.prog w = .ok (.int .i64 x) w := by kernel_rfl
theorem writesOf_any (op : Int) (k : Nat) (hk : opN op = k) (w : World) (hL : Laid w) : Calls Tryd.prog 15 #[.int .i64 op] w fun e w' => e = .returned (.bool (lyRd (fmtAt k))) ∧ Below w.heap.size w w' := by
  have HK : Hid (opN op = k) := hk
  have HL : Hid (Laid w) := hL
  clear hk hL
  have hf := run_field48
  go_enter Tryd.func15, Tryd.ntmps15
  go_wp2_with (first | (go_at_call 19; refine (shapeOf_out _ k HK.out _ HL.out).mono ?_; rintro e w' ⟨rfl, hb⟩) | (go_at_call 32; refine (writes_any (fmtAt k) (fmt_lt k) _ (HL.out.below hb)).mono ?_; rintro e w'' ⟨rfl, rfl⟩))
  go_ret
  exact ⟨rfl, by assumption⟩
theorem readsOf_any (op : Int) (k : Nat) (hk : opN op = k) (w : World) (hL : Laid w) : Calls Tryd.prog 14 #[.int .i64 op] w fun e w' => e = .returned (.tuple #[.bool (rf (fmtAt k)), .bool (lyRs2 (fmtAt k))]) ∧ Below w.heap.size w w' := by
  have HK : Hid (opN op = k) := hk
  have HL : Hid (Laid w) := hL
  clear hk hL
  go_enter Tryd.func14, Tryd.ntmps14
  go_wp2_with (go_at_call 19; refine (shapeOf_out _ k HK.out _ HL.out).mono ?_; rintro e w' ⟨rfl, hb⟩)
  have HL2 : Hid (∀ n o, Laid ((w'.alloc o).drewN n)) := fun n o => ((HL.out.below hb).alloc _).drewN _
  go_quiet (first | (go_at_call 30; exact Calls.quiet_of_same (readsFirst_any (fmtAt k) (fmt_lt k) _ (HL2.out _ _))) | (go_at_call 31; exact Calls.quiet_of_same (readsSecond_any (fmtAt k) (fmt_lt k) _ (HL2.out _ _))))
  go_wp2
  go_ret2
  exact ⟨rfl, below_drewN (Below.alloc hb hb.size _) _⟩
end Go.Proofs.YtcepcjodhmjghaaDoor
