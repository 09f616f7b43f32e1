/-
  IsaDecodes.
-/
import Derived.Test.YtcepcjodhmjghaaDoorRc
import Derived.Test.YtcepcjodhmjghaaDoorWit
import Derived.Test.YtcepcjodhmjghaaDoorTie
import Derived.Test.YtcepcjodhmjghaaDoorCards
import Derived.Stop.Joined
import Derived.SevenTiedAt
namespace Go.Proofs.YtcepcjodhmjghaaDoor
open Go.ChangeShapes Go.WideShapes Go.ChangeAt Go.RowKit
theorem instr_any (a b c d e : Int) (w : World) : Calls Tryd.prog 10 #[.agg #[.int .i64 a, .int .i64 b, .int .i64 c, .int .i64 d, .int .i64 e]] w fun r w' => r = .returned (.agg #[.int .i64 a, .int .i64 b, .int .i64 c, .int .i64 d, .int .i64 e]) ∧ Below w.heap.size w w' := by
  go_enter Tryd.func10, Tryd.ntmps10
  go_wp2
  refine bodyPost_ret (v := .agg #[.int .i64 a, .int .i64 b, .int .i64 c, .int .i64 d, .int .i64 e]) (by simp [results, Tryd.results10, go_sem]) rfl ⟨rfl, ?_⟩
  exact ((Below.refl _ _).alloc (Nat.le_refl _) _).alloc (by simp) _
theorem Hid.in {p : Prop} (h : p) : Hid p := h
/-- the tail of the law: both answers are one -/
def Both (x : Nat) : Prop := ∃ (a b c d e : Int) (ok : Bool), (∀ w, Laid w → Calls Tryd.prog 8 #[.int .u32 x] w fun r w' => r = .returned (.tuple #[.agg #[.int .i64 a, .int .i64 b, .int .i64 c, .int .i64 d, .int .i64 e], .bool ok]) ∧ Below w.heap.size w w') ∧
  (∀ w, Calls Tryd.prog 9 #[.int .u32 x] w fun r w' => r = .returned (.tuple #[.agg #[.int .i64 a, .int .i64 b, .int .i64 c, .int .i64 d, .int .i64 e], .bool ok]) ∧ Below w.heap.size w w')
theorem both_any (x : Nat) (hx : x < 4294967296) : Both x := by
  by_cases h : ∃ k, 1 ≤ k ∧ k ≤ 67 ∧ matchB k x = true
  · obtain ⟨k, h1, h2, hm⟩ := h
    refine ⟨_, _, _, _, _, _, fun w hL => decode_some x k hx h1 h2 hm w hL, fun w => ?_⟩
    obtain ⟨j, rfl⟩ : ∃ j, k = j + 1 := ⟨k - 1, by omega⟩
    exact decodeR_some x j hx (by omega) hm w
  · have hm : ∀ k, 1 ≤ k → k ≤ 67 → matchB k x = false := fun k h1 h2 => by
      cases e : matchB k x
      · rfl
      · exact absurd ⟨k, h1, h2, e⟩ h
    exact ⟨_, _, _, _, _, _, fun w hL => decode_none x hx hm w hL, fun w => decodeR_none x hx hm w⟩
theorem two_cells {w1 w2 W : World} {c : Array Value} {t : TypeId} (hW : w2.alloc (.cells c t) = W) (k1 : ∀ i, w2.cell? ⟨w1.heap.size, i, none⟩ = c[i]?) (k3 : w1.heap.size < w2.heap.size) :
    (∀ i, W.cell? ⟨w1.heap.size, i, none⟩ = c[i]?) ∧ (∀ i, W.cell? ⟨w2.heap.size, i, none⟩ = c[i]?) ∧ Below w2.heap.size w2 W ∧ w1.heap.size < W.heap.size ∧ w2.heap.size < W.heap.size := by
  subst hW
  exact ⟨fun i => by rw [World.cell?_alloc_past _ _ _ k3]; exact k1 i, fun i => World.cell?_alloc_new w2 c t i, (Below.refl _ _).alloc (Nat.le_refl _) _, by simp; omega, by simp⟩
theorem kept_cells {W w3 : World} {b : Nat} {c : Array Value} (g : ∀ i, W.cell? ⟨b, i, none⟩ = c[i]?) (hz : b < W.heap.size) (hb : Below W.drew.heap.size W.drew w3) : ∀ i, w3.cell? ⟨b, i, none⟩ = c[i]? := fun i => (hb.cell (p := ⟨b, i, none⟩) hz).trans (g i)
set_option maxRecDepth 100000 in
set_option maxHeartbeats 1000000 in
theorem walk_decodes (z : Int) (h0 : (Lit.int .u32 z).wf = true) (w : World) (hL : Laid w) : Calls Tryd.prog 3 #[.int .u32 z] w fun e w' => e = .returned (.bool true) ∧ Below w.heap.size w w' := by
  have hz := bounds_u32 h0
  obtain ⟨x, rfl⟩ : ∃ x : Nat, z = x := ⟨z.toNat, by omega⟩
  obtain ⟨a, b, c, d, e, ok, h8, h9⟩ := both_any x (by omega)
  clear h0 hz
  cases ok
  all_goals
    have H8 := Hid.in h8
    have H9 := Hid.in h9
    have HL : Hid (Laid w) := hL
    clear h8 h9 hL
    go_enter Tryd.func3, Tryd.ntmps3
    go_wp2_with (first | (go_at_call 8; refine (H8.out _ HL.out).mono ?_; rintro r w1 ⟨rfl, hb1⟩) | (go_at_call 9; refine (H9.out _).mono ?_; rintro r w2 ⟨rfl, hb2⟩; obtain ⟨k1, k2, k3, k4⟩ := keepA hb2; clear hb2 k2))
    generalize hW : w2.alloc _ = W
    obtain ⟨g1, g2, g3, z4, z5⟩ := two_cells hW k1 k3
    obtain ⟨b2, z2⟩ := chain_next hb1 hb1.size k4
    obtain ⟨b3, z3⟩ := chain_next b2 z2 g3
    clear hW k1 hb1 k4 g3 b2 z2
    go_region_held3 (fun w' => w'.cell? ⟨w1.heap.size, 0, none⟩ = some (.int .i64 a) ∧ w'.cell? ⟨w1.heap.size, 1, none⟩ = some (.int .i64 b) ∧ w'.cell? ⟨w1.heap.size, 2, none⟩ = some (.int .i64 c) ∧ w'.cell? ⟨w1.heap.size, 3, none⟩ = some (.int .i64 d) ∧ w'.cell? ⟨w1.heap.size, 4, none⟩ = some (.int .i64 e) ∧ w'.cell? ⟨w2.heap.size, 0, none⟩ = some (.int .i64 a) ∧ w'.cell? ⟨w2.heap.size, 1, none⟩ = some (.int .i64 b) ∧ w'.cell? ⟨w2.heap.size, 2, none⟩ = some (.int .i64 c) ∧ w'.cell? ⟨w2.heap.size, 3, none⟩ = some (.int .i64 d) ∧ w'.cell? ⟨w2.heap.size, 4, none⟩ = some (.int .i64 e)) (go_keep) ((go_at_call 10; refine (instr_any a b c d e _).mono ?_; rintro r w3 ⟨rfl, hb3⟩; have g6 := kept_cells g1 z4 hb3; have g7 := kept_cells g2 z5 hb3))
    go_wp2
    go_ret
    exact ⟨rfl, b3.drew.trans (hb3.mono z3)⟩
/-! ### the row -/
set_option maxRecDepth 100000 in
theorem isaDecodes_lifted (os : Os) (started : os.Started) (H : Type) (enc : TypeId × Value → H) :
    ReturnsInHanded {} Tryd.checked os 3 .any (fun w args => (Rows.isaDecodesSpec.pre enc Tryd.prog Tryd.f3 [] false w args ∧ laidMetH Tryd.prog laid3 w) ∧ sizedMet enc Tryd.prog Tryd.f3 (OpenSpec.ofChange Rows.isaDecodesSpec) false w args)
      (Rows.isaDecodesSpec.post enc Tryd.prog Tryd.f3 false true false false) := by
  refine returnsInHanded_of_change_and (C := Tryd.checked) (X := fun w _ => laidMetH Tryd.prog laid3 w) (fun _ _ _ hh h => h.of_heap hh) own started (by kernel_rfl) Tryd.func3 (isaDecodes_wit os H enc) ?_
  intro W base args ds gs before hval0 hW _ _ hL _
  have hval : ∀ (j : Nat) t v, Tryd.f3.params[j]? = some t → args[j]? = some v → Value.okWide Tryd.prog W .any base t v := hval0
  have hW' := hW
  obtain ⟨p, q, hA0, hV, rfl, hfz, hnd⟩ := hW
  have hA : DataW.TrodAll enc Tryd.prog W 0 (fun _ => true) true Tryd.f3.params.toList args.toList ds p := hA0
  rw [Tryd.params3] at hA hval
  obtain ⟨v0, d0, rfl, rfl, h0⟩ := trodAll_one hA
  obtain ⟨rfl, rfl⟩ := trodVars_none hV
  obtain ⟨a0, rfl, rfl, rfl, w0⟩ := open_int Tryd.underlying22 (hval 0 22 v0 rfl rfl) h0
  clear hA0 hval0
  simp only [List.append_nil] at hW'
  refine (walk_decodes a0 w0 W (of_laid hL)).mono fun e W' ⟨he, hg⟩ => ?_
  subst he
  exact ⟨_, rfl, _, _, _, [], [], [], hW', trodAll_cons_mk (shut_bool Tryd.underlying4 _) trodAll_mk0, (trodAll_cons_mk (shut_int Tryd.underlying22 w0) trodAll_mk0), rfl, hg.frame _, fun h => by cases h⟩
theorem isaDecodes_holds : Rows.IsaDecodesSaid :=
  OpenClaim.holds_of_wide 3 Tryd.f3 rfl rfl rfl rfl rfl rfl rfl ⟨rfl, rfl, rfl, rfl, rfl⟩ rfl rfl rfl rfl rfl (by kernel_rfl) Tryd.func3 (by kernel_rfl)
    (of_decide_eq_true (by kernel_rfl)) (by unfold Func.isWrapper; first | (rw [if_pos (by decide +kernel)]; kernel_rfl) | (rw [if_neg (by decide +kernel)]; exact ⟨rfl, rfl⟩))
    (fun os started H enc _ => isaDecodes_lifted os started H enc)
theorem isaDecodes_card : Rows.IsaDecodesCardSaid :=
  Claim7.holds_tied_plain_at .later [] [.data, .data, .data] true (true, "456983553b3c72878e05fe76908ea4d0ba7b8b91752328bae2cc8f568f75f576") false
    isaDecodes_holds (fun _ h => by cases h) (by kernel_rfl) (fun _ h => by cases h) isaDecodes_row_tie rfl ⟨rfl, rfl⟩ (by kernel_rfl) rfl
    (fun f fn hf hfn => by
      obtain rfl : f = 3 := Option.some.inj ((show Tryd.prog.funcNamed "oocore/oocorelaw1.IsaDecodes" = some 3 by kernel_rfl).symm.trans hf) |>.symm
      obtain rfl : fn = Tryd.f3 := (Option.some.inj (Tryd.func3.symm.trans hfn)).symm
      exact ⟨by kernel_rfl, fun j t ht => by
        rw [Tryd.params3] at ht
        have hm : t ∈ [22] := by simpa using Array.mem_of_getElem? ht
        have hall : ([22].all fun u => !Tryd.prog.wantsStandIn u) = true := by kernel_rfl
        exact (show Tryd.prog.wantsStandIn t = false by simpa using List.all_eq_true.1 hall t hm)⟩)
    (by kernel_rfl)
#print axioms isaDecodes_card
end Go.Proofs.YtcepcjodhmjghaaDoor
