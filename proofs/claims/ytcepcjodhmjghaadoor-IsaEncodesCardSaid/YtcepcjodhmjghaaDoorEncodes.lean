/-
  IsaEncodes.
-/
import Derived.Test.YtcepcjodhmjghaaDoorSb
import Derived.Test.YtcepcjodhmjghaaDoorSc
import Derived.Test.YtcepcjodhmjghaaDoorWit
import Derived.Test.YtcepcjodhmjghaaDoorTie
import Derived.Test.YtcepcjodhmjghaaDoorCards
import Derived.Stop.Joined
import Derived.SevenTiedAt
namespace Go.Proofs.YtcepcjodhmjghaaDoor
open Go.ChangeShapes Go.WideShapes Go.ChangeAt Go.RowKit
theorem nat_at (r : Int) (h : 0 ≤ r ∧ r ≤ 31) : ∃ n : Nat, r = n ∧ n < 32 := ⟨r.toNat, by omega, by omega⟩
theorem word_at (i : Int) : ∃ v : Nat, i % 4294967296 = (v : Int) ∧ v < 4294967296 := ⟨(i % 4294967296).toNat, by omega, by omega⟩
theorem instr_at (a b c d e : Int) (w : World) : Calls Tryd.prog 10 #[.agg #[.int .i64 a, .int .i64 b, .int .i64 c, .int .i64 d, .int .i64 e]] w fun r w' => r = .returned (.agg #[.int .i64 a, .int .i64 b, .int .i64 c, .int .i64 d, .int .i64 e]) ∧ Below w.heap.size w w' := by
  go_enter Tryd.func10, Tryd.ntmps10
  go_wp2
  refine bodyPost_ret (v := .agg #[.int .i64 a, .int .i64 b, .int .i64 c, .int .i64 d, .int .i64 e]) (by simp [results, Tryd.results10, go_sem]) rfl ⟨rfl, ?_⟩
  exact ((Below.refl _ _).alloc (Nat.le_refl _) _).alloc (by simp) _
/-- both answers are one -/
def BothEnc (op rd rs1 rs2 imm : Int) : Prop := ∃ (z : Int) (ok : Bool), (∀ w, Laid w → Calls Tryd.prog 11 #[.agg #[.int .i64 op, .int .i64 rd, .int .i64 rs1, .int .i64 rs2, .int .i64 imm]] w fun r w' => r = .returned (.tuple #[.int .u32 z, .bool ok]) ∧ Below w.heap.size w w') ∧
  (∀ w, Calls Tryd.prog 12 #[.agg #[.int .i64 op, .int .i64 rd, .int .i64 rs1, .int .i64 rs2, .int .i64 imm]] w fun r w' => r = .returned (.tuple #[.int .u32 z, .bool ok]) ∧ Below w.heap.size w w')
theorem enc_good (op rd rs1 rs2 imm : Int) (h1 : 1 ≤ op) (h2 : op ≤ 67) (hfit : fitB (fmtAt op.toNat) rd rs1 rs2 imm = true) : BothEnc op rd rs1 rs2 imm := by
  obtain ⟨j, rfl⟩ : ∃ j : Nat, op = (j : Int) + 1 := ⟨(op - 1).toNat, by omega⟩
  have hj : j < 67 := by omega
  rw [show ((j : Int) + 1).toNat = j + 1 by omega] at hfit
  obtain ⟨q1, q2, q3⟩ := fits_regs _ _ _ _ _ hfit
  obtain ⟨rd, rfl, l1⟩ := nat_at _ q1
  obtain ⟨rs1, rfl, l2⟩ := nat_at _ q2
  obtain ⟨rs2, rfl, l3⟩ := nat_at _ q3
  obtain ⟨v, hv, hv2⟩ := word_at imm
  have hf : ¬ fmtAt (j + 1) = 0 := by have := fmt_pos (j + 1) (by omega) (by omega); omega
  obtain ⟨t1, t2, t3, t4, t5⟩ := there_all (j + 1) v _ rd rs1 rs2 imm (by omega) (by omega) l1 l2 l3 hv hfit rfl
  refine ⟨(encN (j + 1) v rd rs1 rs2 : Nat), true, fun w hL => ?_, fun w => ?_⟩
  · exact encode_some ((j : Int) + 1) imm rd rs1 rs2 (j + 1) v (opN_nat (j + 1) (by omega)) (by omega) l1 l2 l3 hv hf hfit w hL
  · have hX : bits .or .u32 (wantN (j + 1) : Nat) (spI (letAt j) rd rs1 rs2 v) = (encN (j + 1) v rd rs1 rs2 : Nat) := by
      have := sp_fit (j + 1) v rd rs1 rs2 imm (by omega) (by omega) l1 l2 l3 hv hfit
      rw [show j + 1 - 1 = j by omega] at this
      rw [this, u32_or_nat _ _ (want_lt _) (accW_lt _ _ _ (regsN_lt rd rs1 rs2 l1 l2 l3) 4)]
      rfl
    refine encR_yes j hj imm rd rs1 rs2 v _ l1 l2 l3 hv hv2 hX (fun w => ?_) w
    have hd := decodeR_some _ j (encN_lt (j + 1) v rd rs1 rs2 l1 l2 l3) hj t1 w
    rw [t2, t3, t4, t5] at hd
    exact hd
theorem enc_bad (op rd rs1 rs2 imm : Int) (h : ¬ (1 ≤ op ∧ op ≤ 67 ∧ fitB (fmtAt op.toNat) rd rs1 rs2 imm = true)) : BothEnc op rd rs1 rs2 imm := by
  refine ⟨0, false, fun w hL => ?_, fun w => ?_⟩
  · by_cases ho : op ≤ 0 ∨ 67 < op
    · exact encode_none op rd rs1 rs2 imm 0 (by unfold opN; rw [if_pos ho]) (Or.inl rfl) w hL
    · refine encode_none op rd rs1 rs2 imm op.toNat (by unfold opN; rw [if_neg ho]) (Or.inr ?_) w hL
      cases e : fitB (fmtAt op.toNat) rd rs1 rs2 imm
      · rfl
      · exact absurd ⟨by omega, by omega, e⟩ h
  · by_cases hb : op < 1 ∨ 67 < op ∨ rd < 0 ∨ 31 < rd ∨ rs1 < 0 ∨ 31 < rs1 ∨ rs2 < 0 ∨ 31 < rs2
    · exact encR_bad op rd rs1 rs2 imm hb w
    · obtain ⟨j, rfl⟩ : ∃ j : Nat, op = (j : Int) + 1 := ⟨(op - 1).toNat, by omega⟩
      have hj : j < 67 := by omega
      obtain ⟨rd, rfl, l1⟩ := nat_at rd (by omega)
      obtain ⟨rs1, rfl, l2⟩ := nat_at rs1 (by omega)
      obtain ⟨rs2, rfl, l3⟩ := nat_at rs2 (by omega)
      obtain ⟨v, hv, hv2⟩ := word_at imm
      have hr := bits_range .or (wantN (j + 1) : Nat) (spI (letAt j) rd rs1 rs2 v)
      obtain ⟨X, hX⟩ : ∃ X : Nat, bits .or .u32 (wantN (j + 1) : Nat) (spI (letAt j) rd rs1 rs2 v) = (X : Nat) := ⟨_, (Int.toNat_of_nonneg hr.1).symm⟩
      have hX2 : X < 4294967296 := by omega
      by_cases hm : ∃ k, 1 ≤ k ∧ k ≤ 67 ∧ matchB k X = true
      · obtain ⟨k, g1, g2, hm⟩ := hm
        obtain ⟨i, rfl⟩ : ∃ i, k = i + 1 := ⟨k - 1, by omega⟩
        refine encR_no j hj imm rd rs1 rs2 v X l1 l2 l3 hv hv2 hX _ _ _ _ _ ?_ (fun w => decodeR_some X i hX2 (by omega) hm w) w
        rintro ⟨e1, e2, e3, e4, e5⟩
        have eij : i = j := by omega
        subst eij
        have hfit := read_fits (fmtAt (i + 1)) X (fmt_lt _)
        rw [e2, e3, e4, e5] at hfit
        exact h ⟨by omega, by omega, by rw [show ((i : Int) + 1).toNat = i + 1 by omega]; exact hfit⟩
      · have hn : ∀ k, 1 ≤ k → k ≤ 67 → matchB k X = false := fun k g1 g2 => by
          cases e : matchB k X
          · rfl
          · exact absurd ⟨k, g1, g2, e⟩ hm
        exact encR_none j hj imm rd rs1 rs2 v X l1 l2 l3 hv hv2 hX _ _ _ _ _ (fun w => decodeR_none X hX2 hn w) w
theorem both_enc (op rd rs1 rs2 imm : Int) : BothEnc op rd rs1 rs2 imm := by
  by_cases h : 1 ≤ op ∧ op ≤ 67 ∧ fitB (fmtAt op.toNat) rd rs1 rs2 imm = true
  · exact enc_good op rd rs1 rs2 imm h.1 h.2.1 h.2.2
  · exact enc_bad op rd rs1 rs2 imm h
set_option maxRecDepth 100000 in
set_option maxHeartbeats 1000000 in
theorem walk_encodes (op rd rs1 rs2 imm : Int) (w : World) (hL : Laid w) : Calls Tryd.prog 4 #[.int .i64 op, .int .i64 rd, .int .i64 rs1, .int .i64 rs2, .int .i64 imm] w fun e w' => e = .returned (.bool true) ∧ Below w.heap.size w w' := by
  obtain ⟨z, ok, h11, h12⟩ := both_enc op rd rs1 rs2 imm
  have H11 := Hid.in4 h11
  have H12 := Hid.in4 h12
  have HL : Hid (Laid w) := hL
  clear h11 h12 hL
  go_enter Tryd.func4, Tryd.ntmps4
  go_wp2_with (first | (go_at_call 10; refine (instr_at _ _ _ _ _ _).mono ?_; rintro r w1 ⟨rfl, hb1⟩; obtain ⟨k1, k2, k3, k4⟩ := keepA hb1; clear hb1 k2) | (go_at_call 11; refine (H11.out _ (HL.out.below k4)).mono ?_; rintro r w2 ⟨rfl, hb2⟩; have m1 := kept1 k1 k3 hb2; obtain ⟨b2, z2⟩ := chain_next k4 k4.size hb2; clear k1 hb2) | (go_at_call 12; refine (H12.out _).mono ?_; rintro r w3 ⟨rfl, hb3⟩; obtain ⟨b3, z3⟩ := chain_next b2 z2 hb3; clear hb3 m1))
  go_ret
  exact ⟨rfl, b3⟩
/-! ### the row -/
set_option maxRecDepth 100000 in
theorem isaEncodes_lifted (os : Os) (started : os.Started) (H : Type) (enc : TypeId × Value → H) :
    ReturnsInHanded {} Tryd.checked os 4 .any (fun w args => (Rows.isaEncodesSpec.pre enc Tryd.prog Tryd.f4 [] false w args ∧ laidMetH Tryd.prog laid3 w) ∧ sizedMet enc Tryd.prog Tryd.f4 (OpenSpec.ofChange Rows.isaEncodesSpec) false w args)
      (Rows.isaEncodesSpec.post enc Tryd.prog Tryd.f4 false true false false) := by
  refine returnsInHanded_of_change_and (C := Tryd.checked) (X := fun w _ => laidMetH Tryd.prog laid3 w) (fun _ _ _ hh h => h.of_heap hh) own started (by kernel_rfl) Tryd.func4 (isaEncodes_wit os H enc) ?_
  intro W base args ds gs before hval0 hW _ _ hL _
  have hval : ∀ (j : Nat) t v, Tryd.f4.params[j]? = some t → args[j]? = some v → Value.okWide Tryd.prog W .any base t v := hval0
  have hW' := hW
  obtain ⟨p, q, hA0, hV, rfl, hfz, hnd⟩ := hW
  have hA : DataW.TrodAll enc Tryd.prog W 0 (fun _ => true) true Tryd.f4.params.toList args.toList ds p := hA0
  rw [Tryd.params4] at hA hval
  obtain ⟨v0, vs0, d0, ds0, p0, q0, hargs, rfl, rfl, h0, r0⟩ := trodAll_cons hA
  obtain ⟨v1, vs1, d1, ds1, p1, q1, rfl, rfl, rfl, h1, r1⟩ := trodAll_cons r0
  obtain ⟨v2, vs2, d2, ds2, p2, q2, rfl, rfl, rfl, h2, r2⟩ := trodAll_cons r1
  obtain ⟨v3, vs3, d3, ds3, p3, q3, rfl, rfl, rfl, h3, r3⟩ := trodAll_cons r2
  obtain ⟨v4, vs4, d4, ds4, p4, q4, rfl, rfl, rfl, h4, r4⟩ := trodAll_cons r3
  obtain ⟨rfl, rfl, rfl⟩ := trodAll_nil r4
  obtain rfl : args = #[v0, v1, v2, v3, v4] := by cases args; simp_all
  obtain ⟨rfl, rfl⟩ := trodVars_none hV
  obtain ⟨a0, rfl, rfl, rfl, w0⟩ := open_int Tryd.underlying3 (hval 0 3 v0 rfl rfl) h0
  obtain ⟨a1, rfl, rfl, rfl, w1⟩ := open_int Tryd.underlying3 (hval 1 3 v1 rfl rfl) h1
  obtain ⟨a2, rfl, rfl, rfl, w2⟩ := open_int Tryd.underlying3 (hval 2 3 v2 rfl rfl) h2
  obtain ⟨a3, rfl, rfl, rfl, w3⟩ := open_int Tryd.underlying3 (hval 3 3 v3 rfl rfl) h3
  obtain ⟨a4, rfl, rfl, rfl, w4⟩ := open_int Tryd.underlying3 (hval 4 3 v4 rfl rfl) h4
  clear hA0 hval0
  simp only [List.append_nil] at hW'
  refine (walk_encodes a0 a1 a2 a3 a4 W (of_laid hL)).mono fun e W' ⟨he, hg⟩ => ?_
  subst he
  exact ⟨_, rfl, _, _, _, [], [], [], hW', trodAll_cons_mk (shut_bool Tryd.underlying4 _) trodAll_mk0, (trodAll_cons_mk (shut_int Tryd.underlying3 w0) (trodAll_cons_mk (shut_int Tryd.underlying3 w1) (trodAll_cons_mk (shut_int Tryd.underlying3 w2) (trodAll_cons_mk (shut_int Tryd.underlying3 w3) (trodAll_cons_mk (shut_int Tryd.underlying3 w4) trodAll_mk0))))), rfl, hg.frame _, fun h => by cases h⟩
theorem isaEncodes_holds : Rows.IsaEncodesSaid :=
  OpenClaim.holds_of_wide 4 Tryd.f4 rfl rfl rfl rfl rfl rfl rfl ⟨rfl, rfl, rfl, rfl, rfl⟩ rfl rfl rfl rfl rfl (by kernel_rfl) Tryd.func4 (by kernel_rfl)
    (of_decide_eq_true (by kernel_rfl)) (by unfold Func.isWrapper; first | (rw [if_pos (by decide +kernel)]; kernel_rfl) | (rw [if_neg (by decide +kernel)]; exact ⟨rfl, rfl⟩))
    (fun os started H enc _ => isaEncodes_lifted os started H enc)
theorem isaEncodes_card : Rows.IsaEncodesCardSaid :=
  Claim7.holds_tied_plain_at .later [] [.data, .data, .data] true (true, "456983553b3c72878e05fe76908ea4d0ba7b8b91752328bae2cc8f568f75f576") false
    isaEncodes_holds (fun _ h => by cases h) (by kernel_rfl) (fun _ h => by cases h) isaEncodes_row_tie rfl ⟨rfl, rfl⟩ (by kernel_rfl) rfl
    (fun f fn hf hfn => by
      obtain rfl : f = 4 := Option.some.inj ((show Tryd.prog.funcNamed "oocore/oocorelaw1.IsaEncodes" = some 4 by kernel_rfl).symm.trans hf) |>.symm
      obtain rfl : fn = Tryd.f4 := (Option.some.inj (Tryd.func4.symm.trans hfn)).symm
      exact ⟨by kernel_rfl, fun j t ht => by
        rw [Tryd.params4] at ht
        have hm : t ∈ [3] := by simpa using Array.mem_of_getElem? ht
        have hall : ([3].all fun u => !Tryd.prog.wantsStandIn u) = true := by kernel_rfl
        exact (show Tryd.prog.wantsStandIn t = false by simpa using List.all_eq_true.1 hall t hm)⟩)
    (by kernel_rfl)
#print axioms isaEncodes_card
end Go.Proofs.YtcepcjodhmjghaaDoor
