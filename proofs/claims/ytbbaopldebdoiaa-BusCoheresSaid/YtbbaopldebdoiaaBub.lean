/-
  BUS: begin.
-/
import Derived.Test.YtbbaopldebdoiaaBua
import Derived.Deep.QuietTactic
namespace Go.Proofs.Ytbbaopldebdoiaa
open Go Go.RowKit
def BS.nxt (S : BS) (i : Nat) : Nat := (S.turn + 1 + i) % S.nc
section
variable {x : World} {B p rb rc mb mc nb ab kn ka : Nat} {P H C : Nat → Nat} {V : Nat → Nat → Value} {S : BS}
theorem Bm.begun (k : Bm x B p rb rc mb mc nb ab kn ka P H C V S) (t : Nat) (ht : t < S.nc) : Bm (((x.setCell ⟨p, 5, none⟩ (.int .i64 t)).setCell ⟨p, 7, none⟩ (.int .i64 0)).setCell ⟨p, 6, none⟩ (.bool true)) B p rb rc mb mc nb ab kn ka P H C V { S with turn := t, on := true, tk := 0 } ∧ Turned (fun j => j = p) x (((x.setCell ⟨p, 5, none⟩ (.int .i64 t)).setCell ⟨p, 7, none⟩ (.int .i64 0)).setCell ⟨p, 6, none⟩ (.bool true)) := by
  have tt : Turned (fun j => j = p) x (((x.setCell ⟨p, 5, none⟩ (.int .i64 t)).setCell ⟨p, 7, none⟩ (.int .i64 0)).setCell ⟨p, 6, none⟩ (.bool true)) := (((Turned.refl (fun j => j = p) x).set rfl 5 _).set rfl 7 _).set rfl 6 _
  refine ⟨k.own tt ?_ ht (by omega), tt⟩
  have c := ((k.c.set 5 (by decide) (.int .i64 t)).set 7 (by decide) (.int .i64 ((0 : Nat) : Int))).set 6 (by decide) (.bool true)
  refine ⟨c.here, fun o ho => ?_, c.free⟩
  refine (c.cell o ho).trans ?_
  match o, ho with
  | 0, _ => rfl
  | 1, _ => rfl
  | 2, _ => rfl
  | 3, _ => rfl
  | 4, _ => rfl
  | 5, _ => rfl
  | 6, _ => rfl
  | 7, _ => rfl
set_option maxRecDepth 100000 in
set_option maxHeartbeats 1000000 in
theorem bbegin_any (k : Bm x B p rb rc mb mc nb ab kn ka P H C V S) : Calls Try.prog 20 #[.pointer (some ⟨p, 0, none⟩)] x fun e w' => ((∃ i, i < S.nc ∧ (S.ak (S.nxt i : Nat)).isSome = true ∧ (∀ j, j < i → (S.ak (S.nxt j : Nat)).isSome = false) ∧ e = .returned (.bool true) ∧ Bm w' B p rb rc mb mc nb ab kn ka P H C V { S with turn := S.nxt i, on := true, tk := 0 }) ∨ ((∀ j, j < S.nc → (S.ak (S.nxt j : Nat)).isSome = false) ∧ e = .returned (.bool false) ∧ Bm w' B p rb rc mb mc nb ab kn ka P H C V S)) ∧ Turned (fun j => j = p) x w' := by
  have HK := Hid.in k
  have c0 : x.cell? ⟨p, 0, none⟩ = some (.slice (some ⟨rb, 0, none⟩) S.nc rc) := k.c.cell 0 (by decide)
  have hp := k.c.here
  have hnc : S.nc ≤ 2 := k.sz.2.1
  have hn1 : 1 ≤ S.nc := k.sz.1
  have htu : S.turn < S.nc := k.sz.2.2.2.2.2.1
  clear k
  go_enter Try.func20, Try.ntmps20
  go_wp2
  go_loopw [10] (fun iv wr => ∃ i : Nat, iv = .int .i64 i ∧ i ≤ S.nc ∧ Below x.heap.size x wr ∧ ∀ j, j < i → (S.ak (S.nxt j : Nat)).isSome = false) (fun iv _ => 3 - (intOf iv).toNat)
  case atStart => exact ⟨0, rfl, by omega, Below.refl _ _, fun i hi => absurd hi (by omega)⟩
  case round =>
    obtain ⟨i, rfl, hi, hb, hno⟩ := hrel
    have HB := Hid.in hb
    have HNO := Hid.in hno
    have kR := HK.out.below hb
    clear hb hno
    by_cases hlt : i < S.nc
    · have hlt' : (i : Int) < (S.nc : Int) := by omega
      have d0 : wr.cell? ⟨p, 0, none⟩ = some (.slice (some ⟨rb, 0, none⟩) S.nc rc) := kR.c.cell 0 (by decide)
      have d5 : wr.cell? ⟨p, 5, none⟩ = some (.int .i64 S.turn) := kR.c.cell 5 (by decide)
      have dp := kR.c.here
      have hmod : ((S.turn : Int) + 1 + (i : Int)).tmod (S.nc : Int) = ((S.nxt i : Nat) : Int) := by
        rw [Int.tmod_eq_emod_of_nonneg (by omega)]
        unfold BS.nxt
        rw [Int.natCast_emod, Int.natCast_add, Int.natCast_add]
        rfl
      have hnz : ¬ (S.nc : Int) = 0 := by omega
      have hnx : S.nxt i < S.nc := Nat.mod_lt _ (by omega)
      have HNX := Hid.in hnx
      clear hnx
      have HKR := Hid.in kR
      clear kR
      go_upto_region 4 with fail
      go_quiet (fail)
      have bq : Below wr.heap.size wr (wr.drewN nq) := below_drewN wr nq
      have HKQ := Hid.in (HKR.out.below bq)
      have HBQ := Hid.in (HB.out.trans (bq.mono HB.out.size))
      generalize wr.drewN nq = wq at HKQ HBQ ⊢
      clear bq d0 d5 dp
      have HBU := Hid.in (bbusy_any HKQ.out (S.nxt i : Nat) ⟨by omega, by have := HNX.out; omega⟩)
      cases hs : (S.ak (S.nxt i : Nat)).isSome
      · rw [hs] at HBU
        have HSS := Hid.in hs
        clear hs
        go_wp2_with (go_at_call 7; refine HBU.out.mono ?_; rintro e z ⟨rfl, hz⟩; have HZ := Hid.in (HBQ.out.trans (hz.mono HBQ.out.size)); clear hz)
        go_roundw
        case rel =>
          refine ⟨i + 1, by simp, by omega, HZ.out, fun j hj => ?_⟩
          by_cases e : j = i
          · rw [e]; exact HSS.out
          · exact HNO.out j (by omega)
        case measure =>
          simp [intOf]
          omega
      · rw [hs] at HBU
        have HSS := Hid.in hs
        clear hs
        go_upto_region 6 with (go_at_call 7; refine HBU.out.mono ?_; rintro e z ⟨rfl, hz⟩; have HZ := Hid.in (HBQ.out.trans (hz.mono HBQ.out.size)); clear hz)
        have kZ := HK.out.below HZ.out
        have c5 : z.cell? ⟨p, 5, none⟩ = some (.int .i64 S.turn) := kZ.c.cell 5 (by decide)
        have c6 : z.cell? ⟨p, 6, none⟩ = some (.bool S.on) := kZ.c.cell 6 (by decide)
        have c7 : z.cell? ⟨p, 7, none⟩ = some (.int .i64 S.tk) := kZ.c.cell 7 (by decide)
        have f5 := kZ.c.free 5
        have f6 := kZ.c.free 6
        have f7 := kZ.c.free 7
        have zp := kZ.c.here
        obtain ⟨hq1, hq2⟩ := kZ.begun (S.nxt i) HNX.out
        have HQ1 := Hid.in hq1
        have HQ2 := Hid.in ((Turned.of_below HZ.out).trans hq2)
        clear hq1 hq2 kZ
        go_wp2
        go_ret
        exact ⟨Or.inl ⟨i, hlt, HSS.out, HNO.out, rfl, HQ1.out⟩, HQ2.out⟩
    · obtain rfl : i = S.nc := by omega
      have HKR := Hid.in kR
      clear kR
      go_wp2
      go_ret
      exact ⟨Or.inr ⟨HNO.out, rfl, HKR.out⟩, Turned.of_below HB.out⟩
end
end Go.Proofs.Ytbbaopldebdoiaa
