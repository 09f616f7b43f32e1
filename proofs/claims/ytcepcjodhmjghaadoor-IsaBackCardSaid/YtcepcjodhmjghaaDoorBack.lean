/-
  IsaBack.
-/
import Derived.Test.YtcepcjodhmjghaaDoorPg
import Derived.Test.YtcepcjodhmjghaaDoorWit
import Derived.Test.YtcepcjodhmjghaaDoorTie
import Derived.Test.YtcepcjodhmjghaaDoorCards
import Derived.Stop.Joined
import Derived.SevenTiedAt
namespace Go.Proofs.YtcepcjodhmjghaaDoor
open Go.ChangeShapes Go.WideShapes Go.ChangeAt Go.RowKit
theorem nat_of (r : Int) (h : 0 ≤ r ∧ r ≤ 31) : ∃ n : Nat, r = n ∧ n < 32 := ⟨r.toNat, by omega, by omega⟩
theorem word_of (i : Int) : ∃ v : Nat, i % 4294967296 = (v : Int) := ⟨(i % 4294967296).toNat, by omega⟩
/-- a word that is one's: read, and written again -/
theorem back_some (x k : Nat) (hx : x < 4294967296) (h1 : 1 ≤ k) (hk : k ≤ 67) (hm : matchB k x = true) : ∃ (rd rs1 rs2 : Nat) (imm : Int),
    (∀ w, Laid w → Calls Tryd.prog 8 #[.int .u32 x] w fun e w' => e = .returned (.tuple #[.agg #[.int .i64 k, .int .i64 rd, .int .i64 rs1, .int .i64 rs2, .int .i64 imm], .bool true]) ∧ Below w.heap.size w w') ∧
    (∀ w, Laid w → Calls Tryd.prog 11 #[.agg #[.int .i64 k, .int .i64 rd, .int .i64 rs1, .int .i64 rs2, .int .i64 imm]] w fun e w' => e = .returned (.tuple #[.int .u32 x, .bool true]) ∧ Below w.heap.size w w') := by
  have hfit := read_fits (fmtAt k) x (fmt_lt k)
  obtain ⟨q1, q2, q3⟩ := fits_regs _ _ _ _ _ hfit
  obtain ⟨rd, e1, l1⟩ := nat_of _ q1
  obtain ⟨rs1, e2, l2⟩ := nat_of _ q2
  obtain ⟨rs2, e3, l3⟩ := nat_of _ q3
  obtain ⟨v, hv⟩ := word_of (immI (fmtAt k) x)
  have hb := back_all k v x rd rs1 rs2 hk h1 hx hm e1 e2 e3 hv
  have hd := fun w hL => decode_some x k hx h1 hk hm w hL
  rw [e1, e2, e3] at hd hfit
  refine ⟨rd, rs1, rs2, immI (fmtAt k) x, hd, fun w hL => ?_⟩
  have hf : ¬ fmtAt k = 0 := by have := fmt_pos k hk h1; omega
  have := encode_some (k : Int) (immI (fmtAt k) x) rd rs1 rs2 k v (opN_nat k hk) hk l1 l2 l3 hv hf hfit w hL
  rw [hb] at this
  exact this
theorem decode_19 (w : World) (hL : Laid w) : Calls Tryd.prog 8 #[.int .u32 19] w fun e w' => e = .returned (.tuple #[.agg #[.int .i64 (19 : Nat), .int .i64 (rdI (fmtAt 19) 19), .int .i64 (rs1I (fmtAt 19) 19), .int .i64 (rs2I (fmtAt 19) 19), .int .i64 (immI (fmtAt 19) 19)], .bool true]) ∧ Below w.heap.size w w' :=
  decode_some 19 19 (by decide) (by decide) (by decide) (by decide +kernel) w hL
theorem Hid.in2 {p : Prop} (h : p) : Hid p := h
set_option maxRecDepth 100000 in
set_option maxHeartbeats 1000000 in
theorem walk_back (z : Int) (h0 : (Lit.int .u32 z).wf = true) (w : World) (hL : Laid w) : Calls Tryd.prog 7 #[.int .u32 z] w fun e w' => e = .returned (.bool true) ∧ Below w.heap.size w w' := by
  have hz := bounds_u32 h0
  obtain ⟨x, rfl⟩ : ∃ x : Nat, z = x := ⟨z.toNat, by omega⟩
  have hx : x < 4294967296 := by omega
  clear h0 hz
  have HL : Hid (Laid w) := hL
  clear hL
  by_cases h : ∃ k, 1 ≤ k ∧ k ≤ 67 ∧ matchB k x = true
  · obtain ⟨k, h1, h2, hm⟩ := h
    obtain ⟨rd, rs1, rs2, imm, hd, he⟩ := back_some x k hx h1 h2 hm
    have HD := Hid.in2 hd
    have HE := Hid.in2 he
    clear hd he hm
    go_enter Tryd.func7, Tryd.ntmps7
    go_wp2_with (first | (go_at_call 8; first | (refine (HD.out _ ((HL.out.below hb1).alloc _)).mono ?_; rintro e w2 ⟨rfl, hb2⟩) | (refine (decode_19 _ HL.out).mono ?_; rintro e w1 ⟨rfl, hb1⟩)) | (go_at_call 11; refine (HE.out _ ((((HL.out.below hb1).alloc _).below hb2).alloc _)).mono ?_; rintro e w3 ⟨rfl, hb3⟩))
    go_ret
    obtain ⟨b2, z2⟩ := chain_next hb1 hb1.size (keepA hb2).2.2.2
    obtain ⟨b3, z3⟩ := chain_next b2 z2 (keepA hb3).2.2.2
    exact ⟨rfl, b3⟩
  · have hm : ∀ k, 1 ≤ k → k ≤ 67 → matchB k x = false := fun k h1 h2 => by
      cases e : matchB k x
      · rfl
      · exact absurd ⟨k, h1, h2, e⟩ h
    clear h
    have HD := Hid.in2 (fun w hL => decode_none x hx hm w hL)
    clear hm
    go_enter Tryd.func7, Tryd.ntmps7
    go_wp2_with (go_at_call 8; first | (refine (HD.out _ ((HL.out.below hb1).alloc _)).mono ?_; rintro e w2 ⟨rfl, hb2⟩) | (refine (decode_19 _ HL.out).mono ?_; rintro e w1 ⟨rfl, hb1⟩))
    go_ret
    obtain ⟨b2, z2⟩ := chain_next hb1 hb1.size (keepA hb2).2.2.2
    exact ⟨rfl, b2.alloc z2 _⟩
/-! ### the row -/
set_option maxRecDepth 100000 in
theorem isaBack_lifted (os : Os) (started : os.Started) (H : Type) (enc : TypeId × Value → H) :
    ReturnsInHanded {} Tryd.checked os 7 .any (fun w args => (Rows.isaBackSpec.pre enc Tryd.prog Tryd.f7 [] false w args ∧ laidMetH Tryd.prog laid3 w) ∧ sizedMet enc Tryd.prog Tryd.f7 (OpenSpec.ofChange Rows.isaBackSpec) false w args)
      (Rows.isaBackSpec.post enc Tryd.prog Tryd.f7 false true false false) := by
  refine returnsInHanded_of_change_and (C := Tryd.checked) (X := fun w _ => laidMetH Tryd.prog laid3 w) (fun _ _ _ hh h => h.of_heap hh) own started (by kernel_rfl) Tryd.func7 (isaBack_wit os H enc) ?_
  intro W base args ds gs before hval0 hW _ _ hL _
  have hval : ∀ (j : Nat) t v, Tryd.f7.params[j]? = some t → args[j]? = some v → Value.okWide Tryd.prog W .any base t v := hval0
  have hW' := hW
  obtain ⟨p, q, hA0, hV, rfl, hfz, hnd⟩ := hW
  have hA : DataW.TrodAll enc Tryd.prog W 0 (fun _ => true) true Tryd.f7.params.toList args.toList ds p := hA0
  rw [Tryd.params7] at hA hval
  obtain ⟨v0, d0, rfl, rfl, h0⟩ := trodAll_one hA
  obtain ⟨rfl, rfl⟩ := trodVars_none hV
  obtain ⟨a0, rfl, rfl, rfl, w0⟩ := open_int Tryd.underlying22 (hval 0 22 v0 rfl rfl) h0
  clear hA0 hval0
  simp only [List.append_nil] at hW'
  refine (walk_back a0 w0 W (of_laid hL)).mono fun e W' ⟨he, hg⟩ => ?_
  subst he
  exact ⟨_, rfl, _, _, _, [], [], [], hW', trodAll_cons_mk (shut_bool Tryd.underlying4 _) trodAll_mk0, (trodAll_cons_mk (shut_int Tryd.underlying22 w0) trodAll_mk0), rfl, hg.frame _, fun h => by cases h⟩
theorem isaBack_holds : Rows.IsaBackSaid :=
  OpenClaim.holds_of_wide 7 Tryd.f7 rfl rfl rfl rfl rfl rfl rfl ⟨rfl, rfl, rfl, rfl, rfl⟩ rfl rfl rfl rfl rfl (by kernel_rfl) Tryd.func7 (by kernel_rfl)
    (of_decide_eq_true (by kernel_rfl)) (by unfold Func.isWrapper; first | (rw [if_pos (by decide +kernel)]; kernel_rfl) | (rw [if_neg (by decide +kernel)]; exact ⟨rfl, rfl⟩))
    (fun os started H enc _ => isaBack_lifted os started H enc)
theorem isaBack_card : Rows.IsaBackCardSaid :=
  Claim7.holds_tied_plain_at .later [] [.data, .data, .data] true (true, "456983553b3c72878e05fe76908ea4d0ba7b8b91752328bae2cc8f568f75f576") false
    isaBack_holds (fun _ h => by cases h) (by kernel_rfl) (fun _ h => by cases h) isaBack_row_tie rfl ⟨rfl, rfl⟩ (by kernel_rfl) rfl
    (fun f fn hf hfn => by
      obtain rfl : f = 7 := Option.some.inj ((show Tryd.prog.funcNamed "oocore/oocorelaw1.IsaBack" = some 7 by kernel_rfl).symm.trans hf) |>.symm
      obtain rfl : fn = Tryd.f7 := (Option.some.inj (Tryd.func7.symm.trans hfn)).symm
      exact ⟨by kernel_rfl, fun j t ht => by
        rw [Tryd.params7] at ht
        have hm : t ∈ [22] := by simpa using Array.mem_of_getElem? ht
        have hall : ([22].all fun u => !Tryd.prog.wantsStandIn u) = true := by kernel_rfl
        exact (show Tryd.prog.wantsStandIn t = false by simpa using List.all_eq_true.1 hall t hm)⟩)
    (by kernel_rfl)
#print axioms isaBack_card
end Go.Proofs.YtcepcjodhmjghaaDoor
