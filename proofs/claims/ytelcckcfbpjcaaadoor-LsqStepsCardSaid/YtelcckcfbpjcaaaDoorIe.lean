/-
  LSQ's LAW LsqSteps: oldest.
-/
import Derived.Test.YtelcckcfbpjcaaaDoorId
namespace Go.Proofs.YtelcckcfbpjcaaaDoor
open Go Go.RowKit
set_option maxRecDepth 100000 in
set_option maxHeartbeats 3000000 in
theorem loldest_yes (B p q : Nat) (v rv : Value) (S : QS) (R : RS) (w : World) (k : Qm w B p v S) (kr : Rm w B q rv R) (H : Same S R) (ht : S.top = true) (hz : 0 < (S.at 0).z) : Calls Tryd.prog 29 #[.pointer (some ⟨p, 0, none⟩), .pointer (some ⟨q, 0, none⟩)] w fun e w' => e = .returned (.bool true) ∧ Below w.heap.size w w' := by
  have hO := oldest_yes B p v S w k ht hz
  have HK := Hid.in k
  have HKR := Hid.in kr
  have hs := k.small.1
  have HLN := Hid.in H.len
  unfold QS.top at ht
  rw [Bool.and_eq_true, decide_eq_true_eq] at ht
  have al := H.at' 0 ht.1
  have HRR := Hid.in (kr.rows 0 (by rw [H.len]; exact ht.1))
  have fit := k.fit 0 ht.1
  obtain ⟨e, he⟩ : ∃ e, R.at 0 = e := ⟨_, rfl⟩
  rw [he] at al HRR
  have HRT : Hid (e.rt = true) := al.rt.trans ht.2
  rw [← al.a, ← al.z, ← al.d] at hO
  have hez : e.z = 1 ∨ e.z = 2 ∨ e.z = 4 := by rw [al.z]; have := fit.z; omega
  have hed : e.d < 4294967296 := by rw [al.d]; exact fit.d
  have hea : e.a < 4294967296 := by rw [al.a]; exact fit.a
  obtain ⟨m, hm⟩ : ∃ m, S.on.length = m := ⟨_, rfl⟩
  have HM := Hid.in hm
  rw [hm] at hs
  have hpos : 0 < m := by have := ht.1; omega
  obtain ⟨ea, hea2⟩ : ∃ ea : Int, (e.a : Int) = ea := ⟨_, rfl⟩
  obtain ⟨ed, hed2⟩ : ∃ ed : Int, (e.d : Int) = ed := ⟨_, rfl⟩
  obtain ⟨dz, hdz⟩ : ∃ dz : Int, ((e.d % 256 ^ e.z : Nat) : Int) = dz := ⟨_, rfl⟩
  obtain ⟨ez, hez2⟩ : ∃ ez : Int, (e.z : Int) = ez := ⟨_, rfl⟩
  have hcase : (ez = 1 ∧ dz = ed % 256) ∨ (ez = 2 ∧ dz = ed % 65536) ∨ (ez = 4 ∧ dz = ed) := by
    rcases hez with q | q | q
    · refine Or.inl ⟨by omega, ?_⟩
      rw [q] at hdz
      omega
    · refine Or.inr (Or.inl ⟨by omega, ?_⟩)
      rw [q] at hdz
      omega
    · refine Or.inr (Or.inr ⟨by omega, ?_⟩)
      rw [q] at hdz
      omega
  have he0 : 0 ≤ ed := by omega
  have he1 : ed < 4294967296 := by omega
  have ha0 : 0 ≤ ea := by omega
  have ha1 : ea < 4294967296 := by omega
  rw [hea2, hez2, hdz] at hO
  have HO := Hid.in hO
  have HA := Hid.in hea2
  have HD := Hid.in hed2
  have HZ := Hid.in hez2
  clear k kr H ht hm hO al fit he hez hed hea hea2 hed2 hdz hez2 hz
  rcases hcase with ⟨rfl, rfl⟩ | ⟨rfl, rfl⟩ | ⟨rfl, rfl⟩
  all_goals
    go_enter Tryd.func29, Tryd.ntmps29
    go_upto_region 2 with (first | (go_at_call 56; refine HO.out.mono ?_; rintro e0 w1 ⟨rfl, hb1⟩; have HB1 := Hid.in hb1; clear hb1))
    obtain ⟨X, hX, bX, x0, x1, x2, sX⟩ := boxWr w1 (.int .u32 ea) (.int .i64 _) (.int .u32 _)
    rw [hX]
    have HSX := Hid.in sX
    clear sX
    have HBX := Hid.in (below2 HB1.out bX)
    obtain ⟨g, cap, hv, hqg, -, -, hrow⟩ := HRR.out
    have HRW := Hid.in hrow
    obtain ⟨c1, r2, -, hg⟩ := hrow X HBX.out
    obtain ⟨-, -, -, -, -, -, -, -, y12⟩ := rrow_cells r2
    rw [HRT.out] at y12
    rw [Nat.zero_mul, Nat.zero_add] at y12
    rw [Nat.zero_mul] at r2
    rw [HLN.out, HM.out] at c1
    have HR2 := Hid.in r2
    have hq : q < X.heap.size := (HKR.out.below HBX.out).cells.1
    have HNUM := Hid.in (len_any B p v S X (HK.out.below HBX.out))
    rw [HM.out] at HNUM
    clear hX bX hv hrow r2
    go_upto_region 7 with (first
      | (go_at_call 31; refine HNUM.out.mono ?_; rintro e1 w2 ⟨rfl, rfl⟩))
    go_upto_region 8 with (first
      | (refine ld_ent g 0 e HR2.out rfl _ rfl rfl ?_)
      | (refine st_ent e zre rfl w2.heap.size rfl rfl rfl _ _ rfl rfl rfl ?_))
    obtain ⟨Z, hZ, rZ, bZ, hsZ⟩ := rboxed e w2 89
    rw [hZ]
    obtain ⟨-, -, -, z3, z4, -, z6, -⟩ := rrow_cells0 rZ
    rw [HA.out] at z3
    rw [HZ.out] at z4
    rw [HD.out] at z6
    have x0 := (bZ.cell (p := ⟨w1.heap.size, 0, none⟩) (by show w1.heap.size < w2.heap.size; have := HSX.out; omega)).trans x0
    have x1 := (bZ.cell (p := ⟨w1.heap.size, 1, none⟩) (by show w1.heap.size < w2.heap.size; have := HSX.out; omega)).trans x1
    have x2 := (bZ.cell (p := ⟨w1.heap.size, 2, none⟩) (by show w1.heap.size < w2.heap.size; have := HSX.out; omega)).trans x2
    have HBZ := Hid.in (below2 HBX.out bZ)
    clear hZ rZ bZ c1 y12
    go_wp2
    go_ret
    exact ⟨rfl, HBZ.out⟩
end Go.Proofs.YtelcckcfbpjcaaaDoor
