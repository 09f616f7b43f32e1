/-
  LSQ's LAW LsqSteps: its own helpers: told, found, first.
-/
import Derived.Test.YtelcckcfbpjcaaaDoorJj
import Derived.Test.YtelcckcfbpjcaaaDoorKc
namespace Go.Proofs.YtelcckcfbpjcaaaDoor
open Go Go.RowKit
def handleAt (w : World) : Prop := w.cell? ⟨0, 0, none⟩ = some (.iface 129 (.agg #[.pointer (some ⟨1, 25, none⟩)]))
theorem ltold_nil (w : World) : Calls Tryd.prog 7 #[.nilIface, .int .i64 0] w fun e w' => e = .returned (.bool true) ∧ Below w.heap.size w w' := by
  go_enter Tryd.func7, Tryd.ntmps7
  go_wp2_with (go_at_call 24; refine (told_nil _).mono ?_; rintro e w1 ⟨rfl, hb⟩; have HB := Hid.in hb; clear hb)
  go_ret
  exact ⟨rfl, HB.out⟩
theorem ltold_err (k : Int) (w : World) (hg : handleAt w) : Calls Tryd.prog 7 #[errV k, .int .i64 k] w fun e w' => e = .returned (.bool true) ∧ Below w.heap.size w w' := by
  have HG := Hid.in hg
  clear hg
  unfold errV
  go_enter Tryd.func7, Tryd.ntmps7
  go_wp2_with (go_at_call 24; refine (told_err k _ HG.out).mono ?_; rintro e w1 ⟨rfl, hb⟩; have HB := Hid.in hb; clear hb)
  go_ret
  exact ⟨by simp, HB.out⟩
def errOf (er : Int) : Value := if er = 0 then .nilIface else errV er
theorem errOf_ne {er : Int} (h : er ≠ 0) : errOf er = errV er := by simp [errOf, h]
theorem ltold_of (er : Int) (w : World) (hg : handleAt w) : Calls Tryd.prog 7 #[errOf er, .int .i64 er] w fun e w' => e = .returned (.bool true) ∧ Below w.heap.size w w' := by
  unfold errOf
  split
  · rename_i e
    subst e
    exact ltold_nil w
  · exact ltold_err er w hg
theorem ptold_of (er : Int) (w : World) (hg : handleAt w) : Calls Tryd.prog 24 #[errOf er] w fun e w' => e = .returned (.int .i64 er) ∧ Below w.heap.size w w' := by
  unfold errOf
  split
  · rename_i e
    subst e
    exact told_nil w
  · exact told_err er w hg
set_option maxRecDepth 100000 in
set_option maxHeartbeats 1000000 in
theorem found_same (x : Bool) (y z : Int) (w : World) : Calls Tryd.prog 16 #[.agg #[.bool x, .int .i64 y, .int .u32 z], .agg #[.bool x, .int .i64 y, .int .u32 z]] w fun e w' => e = .returned (.bool true) ∧ Below w.heap.size w w' := by
  go_enter Tryd.func16, Tryd.ntmps16
  cases x
  · go_wp2
    go_ret
    exact ⟨rfl, ((Below.refl _ _).alloc (Nat.le_refl _) _).alloc (by simp) _⟩
  · go_wp2
    go_ret
    exact ⟨rfl, ((Below.refl _ _).alloc (Nat.le_refl _) _).alloc (by simp) _⟩
set_option maxRecDepth 100000 in
set_option maxHeartbeats 1000000 in
theorem lfirst_any (B p : Nat) (v : Value) (S : RS) (w : World) (k : Rm w B p v S) : Calls Tryd.prog 19 #[.pointer (some ⟨p, 0, none⟩)] w fun e w' => ∃ r, e = .returned (.int .i64 (S.num r)) ∧ First S.act S.on.length r ∧ w' = w := by
  obtain ⟨hp, -, c1, -⟩ := k.cells
  have hs := k.small.1
  obtain ⟨q, cap, hv, -, -⟩ := own_rrow k.l
  rw [hv] at c1
  have HK := Hid.in k
  have HV := Hid.in hv
  obtain ⟨m, hm⟩ : ∃ m, S.on.length = m := ⟨_, rfl⟩
  have HM := Hid.in hm
  rw [hm] at c1 hs ⊢
  clear k hv hm
  go_enter Tryd.func19, Tryd.ntmps19
  go_wp2
  go_loopw [3] (fun u wr => ∃ i : Nat, u = .int .i64 i ∧ i ≤ m ∧ (∀ j, j < i → S.act j = false) ∧ w = wr) (fun v _ => 33 - (intOf v).toNat)
  case atStart => exact ⟨0, rfl, by omega, fun j hj => by omega, rfl⟩
  case round =>
    obtain ⟨i, rfl, hi, hno, rfl⟩ := hrel
    have HN := Hid.in hno
    clear hno
    by_cases him : i < m
    · obtain ⟨g, cap', hv', -, -, -, hrow⟩ := HK.out.rows i (by rw [HM.out]; exact him)
      rw [HV.out] at hv'
      cases hv'
      obtain ⟨-, x2, -⟩ := hrow w (Below.refl _ _)
      obtain ⟨y0, -, -, -, -, -, -, -, y12⟩ := rrow_cells x2
      obtain ⟨x, hx⟩ : ∃ x, (S.at i).rt = x := ⟨_, rfl⟩
      rw [hx] at y12
      have HX := Hid.in hx
      obtain ⟨n, hn⟩ : ∃ n, (S.at i).n = n := ⟨_, rfl⟩
      rw [hn] at y0
      have HNN := Hid.in hn
      have hmul : (i : Int) * 13 = ((i * 13 : Nat) : Int) := by omega
      clear hrow x2 hx hn
      cases x
      · go_wp2
        go_ret
        refine ⟨i, ?_, Or.inl ⟨i, him, by unfold RS.act; rw [HX.out]; rfl, HN.out, rfl⟩, rfl⟩
        unfold RS.num
        rw [if_neg (by omega), Int.toNat_natCast, HNN.out]
        rfl
      · go_wp2
        go_roundw
        case rel =>
          refine ⟨i + 1, by simp, by omega, fun j hj => ?_, trivial⟩
          rcases Nat.lt_or_ge j i with q | q
          · exact HN.out j q
          · obtain rfl : j = i := by omega
            unfold RS.act
            rw [HX.out]
            rfl
        case measure =>
          simp [intOf]
          omega
    · obtain rfl : i = m := by omega
      go_wp2
      go_ret
      exact ⟨-1, rfl, Or.inr ⟨HN.out, rfl⟩, rfl⟩
end Go.Proofs.YtelcckcfbpjcaaaDoor
