/-
  IsaKinds.
-/
import Derived.Test.YtcepcjodhmjghaaDoorWd
import Derived.Test.YtcepcjodhmjghaaDoorWit
import Derived.Test.YtcepcjodhmjghaaDoorTie
import Derived.Test.YtcepcjodhmjghaaDoorCards
import Derived.Stop.Joined
import Derived.SevenTiedAt
namespace Go.Proofs.YtcepcjodhmjghaaDoor
open Go.ChangeShapes Go.WideShapes Go.ChangeAt Go.RowKit
def sReads : ByteArray := ⟨#[76, 66, 83, 73, 72, 82, 65, 75, 67]⟩
def sReads2 : ByteArray := ⟨#[66, 83, 82, 65]⟩
def sWrites : ByteArray := ⟨#[85, 74, 76, 73, 72, 82, 65, 75, 67, 68]⟩
/-- the answer's, of whatever number -/
def inOps (op : Int) : Bool := decide (1 ≤ op ∧ op ≤ 67)
def refClass (op : Int) : Int := if inOps op then classR (letAt (op - 1).toNat) (codeRAt (op - 1).toNat) (gRAt (op - 1).toNat) else 7
def refHas (op : Int) (s : ByteArray) : Bool := if inOps op then hasB s (letAt (op - 1).toNat) else false
theorem refClass_any (op : Int) (w : World) : Calls Tryd.prog 16 #[.int .i64 op] w fun e w' => e = .returned (.int .i64 (refClass op)) ∧ Below w.heap.size w w' := by
  unfold refClass inOps
  by_cases h : 1 ≤ op ∧ op ≤ 67
  · obtain ⟨i, rfl⟩ : ∃ i : Nat, op = (i : Int) + 1 := ⟨(op - 1).toNat, by omega⟩
    simp only [h, and_self, decide_true, if_true, Int.add_sub_cancel, Int.toNat_natCast]
    exact classR_in i (by omega) w
  · simp only [h, decide_false, if_false, Bool.false_eq_true]
    exact classR_none op w (by omega)
theorem refHas_any (op : Int) (s : ByteArray) (hs : s.size ≤ 100) (w : World) : Calls Tryd.prog 33 #[.int .i64 op, .string s] w fun e w' => e = .returned (.bool (refHas op s)) ∧ Below w.heap.size w w' := by
  unfold refHas inOps
  by_cases h : 1 ≤ op ∧ op ≤ 67
  · obtain ⟨i, rfl⟩ : ∃ i : Nat, op = (i : Int) + 1 := ⟨(op - 1).toNat, by omega⟩
    simp only [h, and_self, decide_true, if_true, Int.add_sub_cancel, Int.toNat_natCast]
    exact has_in i (by omega) s hs w
  · simp only [h, decide_false, if_false, Bool.false_eq_true]
    exact has_none op s w (by omega)
theorem refReads_any (op : Int) (w : World) : Calls Tryd.prog 17 #[.int .i64 op] w fun e w' => e = .returned (.tuple #[.bool (refHas op sReads), .bool (refHas op sReads2)]) ∧ Below w.heap.size w w' := by
  go_enter Tryd.func17, Tryd.ntmps17
  go_wp2_with (go_at_call 33; refine (refHas_any _ _ (by decide) _).mono ?_; rintro e w1 ⟨rfl, hb1⟩)
  go_ret2
  rename_i w2 hb2
  exact ⟨rfl, hb2.trans (hb1.mono hb2.size)⟩
theorem refWrites_any (op : Int) (w : World) : Calls Tryd.prog 18 #[.int .i64 op] w fun e w' => e = .returned (.bool (refHas op sWrites)) ∧ Below w.heap.size w w' := by
  go_enter Tryd.func18, Tryd.ntmps18
  go_wp2_with (go_at_call 33; refine (refHas_any _ _ (by decide) _).mono ?_; rintro e w1 ⟨rfl, hb1⟩)
  go_ret
  exact ⟨rfl, hb1⟩
/-! ### the plain law -/
theorem same_class (op : Int) : classOf (opN op) = refClass op := by
  by_cases h : 1 ≤ op ∧ op ≤ 67
  · obtain ⟨i, rfl⟩ : ∃ i : Nat, op = (i : Int) + 1 := ⟨(op - 1).toNat, by omega⟩
    have : ∀ i : Nat, i < 67 → classOf (opN ((i : Int) + 1)) = refClass ((i : Int) + 1) := by decide +kernel
    exact this i (by omega)
  · rw [show opN op = 0 by unfold opN; rw [if_pos (by omega)], show refClass op = 7 by unfold refClass inOps; simp [h]]; rfl
theorem same_has (op : Int) (s : ByteArray) (f : Nat → Bool) (h0 : f 0 = false) (h1 : ∀ i : Nat, i < 67 → f (fmtAt (opN ((i : Int) + 1))) = refHas ((i : Int) + 1) s) : f (fmtAt (opN op)) = refHas op s := by
  by_cases h : 1 ≤ op ∧ op ≤ 67
  · obtain ⟨i, rfl⟩ : ∃ i : Nat, op = (i : Int) + 1 := ⟨(op - 1).toNat, by omega⟩
    exact h1 i (by omega)
  · rw [show opN op = 0 by unfold opN; rw [if_pos (by omega)], show refHas op s = false by unfold refHas inOps; simp [h]]; exact h0
theorem same_first (op : Int) : rf (fmtAt (opN op)) = refHas op sReads := same_has op sReads rf (by decide) (by decide +kernel)
theorem same_second (op : Int) : lyRs2 (fmtAt (opN op)) = refHas op sReads2 := same_has op sReads2 lyRs2 (by decide) (by decide +kernel)
theorem same_writes (op : Int) : lyRd (fmtAt (opN op)) = refHas op sWrites := same_has op sWrites lyRd (by decide) (by decide +kernel)
set_option maxHeartbeats 400000 in
theorem walk_kinds (op : Int) (w : World) (hL : Laid w) : Calls Tryd.prog 5 #[.int .i64 op] w fun e w' => e = .returned (.bool true) ∧ Below w.heap.size w w' := by
  obtain ⟨k, hk⟩ : ∃ k, opN op = k := ⟨_, rfl⟩
  have e1 : classOf k = refClass op := by rw [← hk]; exact same_class op
  have e2 : rf (fmtAt k) = refHas op sReads := by rw [← hk]; exact same_first op
  have e3 : lyRs2 (fmtAt k) = refHas op sReads2 := by rw [← hk]; exact same_second op
  have e4 : lyRd (fmtAt k) = refHas op sWrites := by rw [← hk]; exact same_writes op
  have HK : Hid (opN op = k) := hk
  have HL : Hid (Laid w) := hL
  clear hk hL
  go_enter Tryd.func5, Tryd.ntmps5
  go_wp2_with (first | (go_at_call 13; refine (classOf_any _ k HK.out _ HL.out).mono ?_; rintro e w1 ⟨rfl, hb1⟩) | (go_at_call 14; refine (readsOf_any _ k HK.out _ (HL.out.below hb1)).mono ?_; rintro e w2 ⟨rfl, hb2⟩) | (go_at_call 15; refine (writesOf_any _ k HK.out _ ((HL.out.below hb1).below hb2)).mono ?_; rintro e w3 ⟨rfl, hb3⟩) | (go_at_call 16; refine (refClass_any _ _).mono ?_; rintro e w4 ⟨rfl, hb4⟩) | (go_at_call 17; refine (refReads_any _ _).mono ?_; rintro e w5 ⟨rfl, hb5⟩) | (go_at_call 18; refine (refWrites_any _ _).mono ?_; rintro e w6 ⟨rfl, hb6⟩))
  go_ret
  have b2 := hb1.trans (hb2.mono hb1.size)
  have b3 := b2.trans (hb3.mono b2.size)
  have b4 := b3.trans (hb4.mono b3.size)
  have b5 := b4.trans (hb5.mono b4.size)
  exact ⟨rfl, b5.trans (hb6.mono b5.size)⟩

/-! ### the row -/
set_option maxRecDepth 100000 in
theorem isaKinds_lifted (os : Os) (started : os.Started) (H : Type) (enc : TypeId × Value → H) :
    ReturnsInHanded {} Tryd.checked os 5 .any (fun w args => (Rows.isaKindsSpec.pre enc Tryd.prog Tryd.f5 [] false w args ∧ laidMetH Tryd.prog laid3 w) ∧ sizedMet enc Tryd.prog Tryd.f5 (OpenSpec.ofChange Rows.isaKindsSpec) false w args)
      (Rows.isaKindsSpec.post enc Tryd.prog Tryd.f5 false true false false) := by
  refine returnsInHanded_of_change_and (C := Tryd.checked) (X := fun w _ => laidMetH Tryd.prog laid3 w) (fun _ _ _ hh h => h.of_heap hh) own started (by kernel_rfl) Tryd.func5 (isaKinds_wit os H enc) ?_
  intro W base args ds gs before hval0 hW _ _ hL _
  have hval : ∀ (j : Nat) t v, Tryd.f5.params[j]? = some t → args[j]? = some v → Value.okWide Tryd.prog W .any base t v := hval0
  have hW' := hW
  obtain ⟨p, q, hA0, hV, rfl, hfz, hnd⟩ := hW
  have hA : DataW.TrodAll enc Tryd.prog W 0 (fun _ => true) true Tryd.f5.params.toList args.toList ds p := hA0
  rw [Tryd.params5] at hA hval
  obtain ⟨v0, d0, rfl, rfl, h0⟩ := trodAll_one hA
  obtain ⟨rfl, rfl⟩ := trodVars_none hV
  obtain ⟨a0, rfl, rfl, rfl, w0⟩ := open_int Tryd.underlying3 (hval 0 3 v0 rfl rfl) h0
  clear hA0 hval0
  simp only [List.append_nil] at hW'
  refine (walk_kinds a0 W (of_laid hL)).mono fun e W' ⟨he, hg⟩ => ?_
  subst he
  exact ⟨_, rfl, _, _, _, [], [], [], hW', trodAll_cons_mk (shut_bool Tryd.underlying4 _) trodAll_mk0, (trodAll_cons_mk (shut_int Tryd.underlying3 w0) trodAll_mk0), rfl, hg.frame _, fun h => by cases h⟩
theorem isaKinds_holds : Rows.IsaKindsSaid :=
  OpenClaim.holds_of_wide 5 Tryd.f5 rfl rfl rfl rfl rfl rfl rfl ⟨rfl, rfl, rfl, rfl, rfl⟩ rfl rfl rfl rfl rfl (by kernel_rfl) Tryd.func5 (by kernel_rfl)
    (of_decide_eq_true (by kernel_rfl)) (by unfold Func.isWrapper; first | (rw [if_pos (by decide +kernel)]; kernel_rfl) | (rw [if_neg (by decide +kernel)]; exact ⟨rfl, rfl⟩))
    (fun os started H enc _ => isaKinds_lifted os started H enc)
theorem isaKinds_card : Rows.IsaKindsCardSaid :=
  Claim7.holds_tied_plain_at .later [] [.data, .data, .data] true (true, "456983553b3c72878e05fe76908ea4d0ba7b8b91752328bae2cc8f568f75f576") false
    isaKinds_holds (fun _ h => by cases h) (by kernel_rfl) (fun _ h => by cases h) isaKinds_row_tie rfl ⟨rfl, rfl⟩ (by kernel_rfl) rfl
    (fun f fn hf hfn => by
      obtain rfl : f = 5 := Option.some.inj ((show Tryd.prog.funcNamed "oocore/oocorelaw1.IsaKinds" = some 5 by kernel_rfl).symm.trans hf) |>.symm
      obtain rfl : fn = Tryd.f5 := (Option.some.inj (Tryd.func5.symm.trans hfn)).symm
      exact ⟨by kernel_rfl, fun j t ht => by
        rw [Tryd.params5] at ht
        have hm : t ∈ [3] := by simpa using Array.mem_of_getElem? ht
        have hall : ([3].all fun u => !Tryd.prog.wantsStandIn u) = true := by kernel_rfl
        exact (show Tryd.prog.wantsStandIn t = false by simpa using List.all_eq_true.1 hall t hm)⟩)
    (by kernel_rfl)
#print axioms isaKinds_card
end Go.Proofs.YtcepcjodhmjghaaDoor
