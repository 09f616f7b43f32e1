/-
  LSQ's LAW LsqSteps: oldest.
-/
import Derived.Test.YtelcckcfbpjcaaaDoorIb
import Derived.Test.YtelcckcfbpjcaaaDoorIa
namespace Go.Proofs.YtelcckcfbpjcaaaDoor
open Go Go.RowKit
theorem boxWr (w : World) (x y z : Value) : ∃ X, w.alloc (.cells #[x, y, z] 99) = X ∧ Below w.heap.size w X ∧ X.cell? ⟨w.heap.size, 0, none⟩ = some x ∧ X.cell? ⟨w.heap.size, 1, none⟩ = some y ∧ X.cell? ⟨w.heap.size, 2, none⟩ = some z ∧ X.heap.size = w.heap.size + 1 :=
  ⟨_, rfl, (Below.refl _ _).alloc (Nat.le_refl _) _, by rw [World.cell?_alloc_new]; rfl, by rw [World.cell?_alloc_new]; rfl, by rw [World.cell?_alloc_new]; rfl, by simp⟩
set_option maxRecDepth 100000 in
set_option maxHeartbeats 1000000 in
theorem loldest_no (B p q : Nat) (v rv : Value) (S : QS) (R : RS) (w : World) (k : Qm w B p v S) (kr : Rm w B q rv R) (H : Same S R) (ht : S.top = false) : Calls Tryd.prog 29 #[.pointer (some ⟨p, 0, none⟩), .pointer (some ⟨q, 0, none⟩)] w fun e w' => e = .returned (.bool true) ∧ Below w.heap.size w w' := by
  have HO := Hid.in (oldest_no B p v S w k ht)
  have HK := Hid.in k
  have HKR := Hid.in kr
  have hs := k.small.1
  have HLN := Hid.in H.len
  obtain ⟨m, hm⟩ : ∃ m, S.on.length = m := ⟨_, rfl⟩
  have HM := Hid.in hm
  by_cases h0 : m = 0
  · subst h0
    clear k kr H ht hm hs
    go_enter Tryd.func29, Tryd.ntmps29
    go_upto_region 2 with (first | (go_at_call 56; refine HO.out.mono ?_; rintro e w1 ⟨rfl, hb1⟩; have HB1 := Hid.in hb1; clear hb1))
    obtain ⟨X, hX, bX, x0, x1, x2, sX⟩ := boxWr w1 (.int .u32 0) (.int .i64 0) (.int .u32 0)
    rw [hX]
    have HBX := Hid.in (below2 HB1.out bX)
    obtain ⟨hq, -, c1, -⟩ := (HKR.out.below HBX.out).cells
    obtain ⟨g, cap, hv, -⟩ := own_rrow (HKR.out.below HBX.out).l
    rw [HLN.out, HM.out] at hv
    rw [hv] at c1
    have HNUM := Hid.in (len_any B p v S X (HK.out.below HBX.out))
    rw [HM.out] at HNUM
    clear hX bX hv
    go_wp2_with (first | (go_at_call 31; refine HNUM.out.mono ?_; rintro e w2 ⟨rfl, rfl⟩))
    go_ret
    exact ⟨rfl, HBX.out⟩
  · have hrt : (S.at 0).rt = false := by
      unfold QS.top at ht
      rw [hm, decide_eq_true (by omega)] at ht
      exact ht
    have HRR := Hid.in (kr.rows 0 (by rw [H.len, hm]; omega))
    have HRT : Hid ((R.at 0).rt = false) := by
      show (R.at 0).rt = false
      rw [(H.at' 0 (by rw [hm]; omega)).rt]
      exact hrt
    rw [hm] at hs
    have hpos : 0 < m := by omega
    clear k kr H ht hm hrt
    go_enter Tryd.func29, Tryd.ntmps29
    go_upto_region 2 with (first | (go_at_call 56; refine HO.out.mono ?_; rintro e w1 ⟨rfl, hb1⟩; have HB1 := Hid.in hb1; clear hb1))
    obtain ⟨X, hX, bX, x0, x1, x2, sX⟩ := boxWr w1 (.int .u32 0) (.int .i64 0) (.int .u32 0)
    rw [hX]
    have HBX := Hid.in (below2 HB1.out bX)
    obtain ⟨g, cap, hv, hqg, -, -, hrow⟩ := HRR.out
    obtain ⟨c1, r2, -, hg⟩ := hrow X HBX.out
    obtain ⟨-, -, -, -, -, -, -, -, y12⟩ := rrow_cells r2
    rw [HRT.out] at y12
    rw [Nat.zero_mul, Nat.zero_add] at y12
    rw [HLN.out, HM.out] at c1
    have hq : q < X.heap.size := (HKR.out.below HBX.out).cells.1
    have HNUM := Hid.in (len_any B p v S X (HK.out.below HBX.out))
    rw [HM.out] at HNUM
    clear hX bX hv hrow r2
    go_wp2_with (first | (go_at_call 31; refine HNUM.out.mono ?_; rintro e w2 ⟨rfl, rfl⟩))
    go_ret
    exact ⟨rfl, HBX.out⟩
end Go.Proofs.YtelcckcfbpjcaaaDoor
