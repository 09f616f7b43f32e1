/-
  IsaThere.
-/
import Derived.Test.YtcepcjodhmjghaaDoorPg
import Derived.Test.YtcepcjodhmjghaaDoorWit
import Derived.Test.YtcepcjodhmjghaaDoorTie
import Derived.Test.YtcepcjodhmjghaaDoorCards
import Derived.Stop.Joined
import Derived.SevenTiedAt
namespace Go.Proofs.YtcepcjodhmjghaaDoor
open Go.ChangeShapes Go.WideShapes Go.ChangeAt Go.RowKit
theorem nat_of' (r : Int) (h : 0 ≤ r ∧ r ≤ 31) : ∃ n : Nat, r = n ∧ n < 32 := ⟨r.toNat, by omega, by omega⟩
theorem word_of' (i : Int) : ∃ v : Nat, i % 4294967296 = (v : Int) := ⟨(i % 4294967296).toNat, by omega⟩
theorem Hid.in3 {p : Prop} (h : p) : Hid p := h
theorem encode_addi (w : World) (hL : Laid w) : Calls Tryd.prog 11 #[.agg #[.int .i64 19, .int .i64 1, .int .i64 2, .int .i64 0, .int .i64 (-3)]] w fun e w' => e = .returned (.tuple #[.int .u32 (encN 19 4294967293 1 2 0 : Nat), .bool true]) ∧ Below w.heap.size w w' :=
  encode_some 19 (-3) 1 2 0 19 4294967293 (by decide) (by decide) (by decide) (by decide) (by decide) (by decide) (by decide) (by decide) w hL
/-- an instruction that fits: written, and read again -/
theorem there_some (op rd rs1 rs2 imm : Int) (h1 : 1 ≤ op) (h2 : op ≤ 67) (hfit : fitB (fmtAt op.toNat) rd rs1 rs2 imm = true) : ∃ x : Nat,
    (∀ w, Laid w → Calls Tryd.prog 11 #[.agg #[.int .i64 op, .int .i64 rd, .int .i64 rs1, .int .i64 rs2, .int .i64 imm]] w fun e w' => e = .returned (.tuple #[.int .u32 x, .bool true]) ∧ Below w.heap.size w w') ∧
    (∀ w, Laid w → Calls Tryd.prog 8 #[.int .u32 x] w fun e w' => e = .returned (.tuple #[.agg #[.int .i64 op, .int .i64 rd, .int .i64 rs1, .int .i64 rs2, .int .i64 imm], .bool true]) ∧ Below w.heap.size w w') := by
  obtain ⟨k, rfl⟩ : ∃ k : Nat, op = k := ⟨op.toNat, by omega⟩
  rw [Int.toNat_natCast] at hfit
  obtain ⟨q1, q2, q3⟩ := fits_regs _ _ _ _ _ hfit
  obtain ⟨rd, rfl, l1⟩ := nat_of' _ q1
  obtain ⟨rs1, rfl, l2⟩ := nat_of' _ q2
  obtain ⟨rs2, rfl, l3⟩ := nat_of' _ q3
  obtain ⟨v, hv⟩ := word_of' imm
  have hf : ¬ fmtAt k = 0 := by have := fmt_pos k (by omega) (by omega); omega
  obtain ⟨t1, t2, t3, t4, t5⟩ := there_all k v _ rd rs1 rs2 imm (by omega) (by omega) l1 l2 l3 hv hfit rfl
  refine ⟨encN k v rd rs1 rs2, fun w hL => encode_some (k : Int) imm rd rs1 rs2 k v (opN_nat k (by omega)) (by omega) l1 l2 l3 hv hf hfit w hL, fun w hL => ?_⟩
  have hd := decode_some _ k (encN_lt k v rd rs1 rs2 l1 l2 l3) (by omega) (by omega) t1 w hL
  rw [t2, t3, t4, t5] at hd
  exact hd
theorem there_none (op rd rs1 rs2 imm : Int) (h : ¬ (1 ≤ op ∧ op ≤ 67 ∧ fitB (fmtAt op.toNat) rd rs1 rs2 imm = true)) (w : World) (hL : Laid w) :
    Calls Tryd.prog 11 #[.agg #[.int .i64 op, .int .i64 rd, .int .i64 rs1, .int .i64 rs2, .int .i64 imm]] w fun e w' => e = .returned (.tuple #[.int .u32 0, .bool false]) ∧ Below w.heap.size w w' := by
  by_cases ho : op ≤ 0 ∨ 67 < op
  · exact encode_none op rd rs1 rs2 imm 0 (by unfold opN; rw [if_pos ho]) (Or.inl rfl) w hL
  · refine encode_none op rd rs1 rs2 imm op.toNat (by unfold opN; rw [if_neg ho]) (Or.inr ?_) w hL
    cases e : fitB (fmtAt op.toNat) rd rs1 rs2 imm
    · rfl
    · exact absurd ⟨by omega, by omega, e⟩ h
set_option maxRecDepth 100000 in
set_option maxHeartbeats 1000000 in
theorem walk_there (op rd rs1 rs2 imm : Int) (w : World) (hL : Laid w) : Calls Tryd.prog 6 #[.int .i64 op, .int .i64 rd, .int .i64 rs1, .int .i64 rs2, .int .i64 imm] w fun e w' => e = .returned (.bool true) ∧ Below w.heap.size w w' := by
  have HL : Hid (Laid w) := hL
  clear hL
  by_cases h : 1 ≤ op ∧ op ≤ 67 ∧ fitB (fmtAt op.toNat) rd rs1 rs2 imm = true
  · obtain ⟨x, he, hd⟩ := there_some op rd rs1 rs2 imm h.1 h.2.1 h.2.2
    have HD := Hid.in3 hd
    have HE := Hid.in3 he
    clear hd he h
    go_enter Tryd.func6, Tryd.ntmps6
    go_wp2_with (first | (go_at_call 11; first | (refine (HE.out _ ((HL.out.below hb1).alloc _)).mono ?_; rintro e w2 ⟨rfl, hb2⟩; obtain ⟨k1, k2, k3, k4⟩ := keepA hb2; have HL2 := Hid.in3 ((HL.out.below hb1).below k4); clear hb2 k2) | (refine (encode_addi _ HL.out).mono ?_; rintro e w1 ⟨rfl, hb1⟩)) | (go_at_call 8; refine (HD.out _ HL2.out).mono ?_; rintro e w3 ⟨rfl, hb3⟩; have m1 := kept1 k1 k3 hb3; have m3 := Nat.lt_of_lt_of_le k3 hb3.size))
    go_ret
    obtain ⟨b2, z2⟩ := chain_next hb1 hb1.size k4
    obtain ⟨b3, z3⟩ := chain_next b2 z2 hb3
    exact ⟨rfl, b3.alloc z3 _⟩
  · have HE := Hid.in3 (there_none op rd rs1 rs2 imm h)
    clear h
    go_enter Tryd.func6, Tryd.ntmps6
    go_wp2_with (go_at_call 11; first | (refine (HE.out _ ((HL.out.below hb1).alloc _)).mono ?_; rintro e w2 ⟨rfl, hb2⟩; obtain ⟨k1, k2, k3, k4⟩ := keepA hb2; clear hb2 k2 k1) | (refine (encode_addi _ HL.out).mono ?_; rintro e w1 ⟨rfl, hb1⟩))
    go_ret
    obtain ⟨b2, z2⟩ := chain_next hb1 hb1.size k4
    exact ⟨rfl, b2⟩
/-! ### the row -/
set_option maxRecDepth 100000 in
theorem isaThere_lifted (os : Os) (started : os.Started) (H : Type) (enc : TypeId × Value → H) :
    ReturnsInHanded {} Tryd.checked os 6 .any (fun w args => (Rows.isaThereSpec.pre enc Tryd.prog Tryd.f6 [] false w args ∧ laidMetH Tryd.prog laid3 w) ∧ sizedMet enc Tryd.prog Tryd.f6 (OpenSpec.ofChange Rows.isaThereSpec) false w args)
      (Rows.isaThereSpec.post enc Tryd.prog Tryd.f6 false true false false) := by
  refine returnsInHanded_of_change_and (C := Tryd.checked) (X := fun w _ => laidMetH Tryd.prog laid3 w) (fun _ _ _ hh h => h.of_heap hh) own started (by kernel_rfl) Tryd.func6 (isaThere_wit os H enc) ?_
  intro W base args ds gs before hval0 hW _ _ hL _
  have hval : ∀ (j : Nat) t v, Tryd.f6.params[j]? = some t → args[j]? = some v → Value.okWide Tryd.prog W .any base t v := hval0
  have hW' := hW
  obtain ⟨p, q, hA0, hV, rfl, hfz, hnd⟩ := hW
  have hA : DataW.TrodAll enc Tryd.prog W 0 (fun _ => true) true Tryd.f6.params.toList args.toList ds p := hA0
  rw [Tryd.params6] at hA hval
  obtain ⟨v0, vs0, d0, ds0, p0, q0, hargs, rfl, rfl, h0, r0⟩ := trodAll_cons hA
  obtain ⟨v1, vs1, d1, ds1, p1, q1, rfl, rfl, rfl, h1, r1⟩ := trodAll_cons r0
  obtain ⟨v2, vs2, d2, ds2, p2, q2, rfl, rfl, rfl, h2, r2⟩ := trodAll_cons r1
  obtain ⟨v3, vs3, d3, ds3, p3, q3, rfl, rfl, rfl, h3, r3⟩ := trodAll_cons r2
  obtain ⟨v4, vs4, d4, ds4, p4, q4, rfl, rfl, rfl, h4, r4⟩ := trodAll_cons r3
  obtain ⟨rfl, rfl, rfl⟩ := trodAll_nil r4
  obtain rfl : args = #[v0, v1, v2, v3, v4] := by cases args; simp_all
  obtain ⟨rfl, rfl⟩ := trodVars_none hV
  obtain ⟨a0, rfl, rfl, rfl, w0⟩ := open_int Tryd.underlying3 (hval 0 3 v0 rfl rfl) h0
  obtain ⟨a1, rfl, rfl, rfl, w1⟩ := open_int Tryd.underlying3 (hval 1 3 v1 rfl rfl) h1
  obtain ⟨a2, rfl, rfl, rfl, w2⟩ := open_int Tryd.underlying3 (hval 2 3 v2 rfl rfl) h2
  obtain ⟨a3, rfl, rfl, rfl, w3⟩ := open_int Tryd.underlying3 (hval 3 3 v3 rfl rfl) h3
  obtain ⟨a4, rfl, rfl, rfl, w4⟩ := open_int Tryd.underlying3 (hval 4 3 v4 rfl rfl) h4
  clear hA0 hval0
  simp only [List.append_nil] at hW'
  refine (walk_there a0 a1 a2 a3 a4 W (of_laid hL)).mono fun e W' ⟨he, hg⟩ => ?_
  subst he
  exact ⟨_, rfl, _, _, _, [], [], [], hW', trodAll_cons_mk (shut_bool Tryd.underlying4 _) trodAll_mk0, (trodAll_cons_mk (shut_int Tryd.underlying3 w0) (trodAll_cons_mk (shut_int Tryd.underlying3 w1) (trodAll_cons_mk (shut_int Tryd.underlying3 w2) (trodAll_cons_mk (shut_int Tryd.underlying3 w3) (trodAll_cons_mk (shut_int Tryd.underlying3 w4) trodAll_mk0))))), rfl, hg.frame _, fun h => by cases h⟩
theorem isaThere_holds : Rows.IsaThereSaid :=
  OpenClaim.holds_of_wide 6 Tryd.f6 rfl rfl rfl rfl rfl rfl rfl ⟨rfl, rfl, rfl, rfl, rfl⟩ rfl rfl rfl rfl rfl (by kernel_rfl) Tryd.func6 (by kernel_rfl)
    (of_decide_eq_true (by kernel_rfl)) (by unfold Func.isWrapper; first | (rw [if_pos (by decide +kernel)]; kernel_rfl) | (rw [if_neg (by decide +kernel)]; exact ⟨rfl, rfl⟩))
    (fun os started H enc _ => isaThere_lifted os started H enc)
theorem isaThere_card : Rows.IsaThereCardSaid :=
  Claim7.holds_tied_plain_at .later [] [.data, .data, .data] true (true, "456983553b3c72878e05fe76908ea4d0ba7b8b91752328bae2cc8f568f75f576") false
    isaThere_holds (fun _ h => by cases h) (by kernel_rfl) (fun _ h => by cases h) isaThere_row_tie rfl ⟨rfl, rfl⟩ (by kernel_rfl) rfl
    (fun f fn hf hfn => by
      obtain rfl : f = 6 := Option.some.inj ((show Tryd.prog.funcNamed "oocore/oocorelaw1.IsaThere" = some 6 by kernel_rfl).symm.trans hf) |>.symm
      obtain rfl : fn = Tryd.f6 := (Option.some.inj (Tryd.func6.symm.trans hfn)).symm
      exact ⟨by kernel_rfl, fun j t ht => by
        rw [Tryd.params6] at ht
        have hm : t ∈ [3] := by simpa using Array.mem_of_getElem? ht
        have hall : ([3].all fun u => !Tryd.prog.wantsStandIn u) = true := by kernel_rfl
        exact (show Tryd.prog.wantsStandIn t = false by simpa using List.all_eq_true.1 hall t hm)⟩)
    (by kernel_rfl)
#print axioms isaThere_card
end Go.Proofs.YtcepcjodhmjghaaDoor
