import Derived.Test.YtengofkjlgajlaaGreatDoorGm1
import Derived.Test.YtengofkjlgajlaaGreatDoorTd
import Derived.BigQuiet
/-
  THE ANSWER's MACHINE: bytes read and written.
-/
namespace Go.Proofs.YtengofkjlgajlaaGreatDoor
open Go Go.RowKit
theorem leN_head (b : Nat → Nat) : ∀ k, leN b (k + 1) = b 0 + 256 * leN (fun t => b (t + 1)) k
  | 0 => by simp [leN]
  | k + 1 => by
    show leN b (k + 1) + b (k + 1) * 256 ^ (k + 1) = b 0 + 256 * (leN (fun t => b (t + 1)) k + b (k + 1) * 256 ^ k)
    rw [leN_head b k, Nat.pow_succ, Nat.mul_add]
    have : b (k + 1) * (256 ^ k * 256) = 256 * (b (k + 1) * 256 ^ k) := by rw [← Nat.mul_assoc, Nat.mul_comm]
    omega
/-- the bytes from j on -/
def hiN (g : Nat → Nat) (sz j : Nat) : Nat := leN (fun t => g (j + t)) (sz - j)
theorem hiN_next (g : Nat → Nat) (sz j : Nat) (hj : j < sz) : hiN g sz j = hiN g sz (j + 1) * 256 + g j := by
  unfold hiN
  obtain ⟨k, hk⟩ : ∃ k, sz - j = k + 1 := ⟨sz - j - 1, by omega⟩
  rw [hk, leN_head, show sz - (j + 1) = k by omega]
  have e : (fun t => g (j + (t + 1))) = (fun t => g (j + 1 + t)) := by
    funext t
    rw [show j + (t + 1) = j + 1 + t by omega]
  rw [e, Nat.add_zero, Nat.mul_comm, Nat.add_comm]
theorem hiN_last (g : Nat → Nat) (sz : Nat) : hiN g sz sz = 0 := by
  unfold hiN
  rw [Nat.sub_self]
  rfl
theorem hiN_zero (g : Nat → Nat) (sz : Nat) : hiN g sz 0 = leN g sz := by
  unfold hiN
  simp
theorem hiN_lt (g : Nat → Nat) (sz j : Nat) (h : ∀ t, g t < 256) (hj : 1 ≤ j) (hs : sz ≤ 4) : hiN g sz j < 16777216 := by
  have h1 := leN_lt (fun t => g (j + t)) (sz - j) (fun t _ => h _)
  have h2 : 256 ^ (sz - j) ≤ 256 ^ 3 := Nat.pow_le_pow_right (by omega) (by omega)
  unfold hiN
  omega
theorem or_low (x y : Nat) (hx : x < 16777216) (hy : y < 256) : bits .or .u32 ((x : Int) * 256) (y : Int) = ((x * 256 + y : Nat) : Int) := by
  have e1 : (x : Int) * 256 = ((x * 256 : Nat) : Int) := by omega
  rw [e1, u32_or_nat _ _ (by omega) (by omega), nat_join8 _ _ (Nat.mul_mod_left _ _) hy]
set_option maxRecDepth 100000 in
set_option maxHeartbeats 1000000 in
theorem rread_any (db len dc : Nat) (ad : Int) (at' sz : Nat) (mem : Nat → Nat) (w : World) (hb : Row8 w db len mem) (hm : ∀ o, mem o < 256) (had : ad = ((65536 + at' : Nat) : Int)) (hin : at' + sz ≤ len) (hs0 : 0 < sz) (hl : len ≤ 4096) (hs4 : sz ≤ 4) : Calls Tryz.prog 30 #[.slice (some ⟨db, 0, none⟩) len dc, .int .u32 ad, .int .i64 sz] w fun e w' => e = .returned (.int .u32 (leN (fun t => mem (at' + t)) sz : Nat)) ∧ w' = w := by
  have HC : Hid (∀ o, o < sz → w.cell? ⟨db, at' + o, none⟩ = some (.int .u8 (mem (at' + o) : Nat))) := fun o ho => hb.cell (at' + o) (by omega)
  have hdb := hb.here
  obtain ⟨g, hg⟩ : ∃ g : Nat → Nat, (fun t => mem (at' + t)) = g := ⟨_, rfl⟩
  have HGM : Hid (∀ t, mem (at' + t) = g t) := fun t => by rw [← hg]
  have HGL : Hid (∀ t, g t < 256) := fun t => by rw [← hg]; exact hm _
  rw [hg]
  have HIN := Hid.in hin
  have HAD := Hid.in had
  have HL := Hid.in hl
  clear hb hm hg hin hl had
  go_enter Tryz.func30, Tryz.ntmps30
  go_wp2
  go_loopw [7, 8] (fun v i wr => ∃ j : Nat, v = .int .u32 (hiN g sz j : Nat) ∧ i = .int .i64 ((j : Int) - 1) ∧ j ≤ sz ∧ wr = w) (fun _ i _ => (intOf i + 1).toNat)
  case atStart => exact ⟨sz, by rw [hiN_last]; rfl, by simp; try omega, Nat.le_refl _, rfl⟩
  case round =>
    obtain ⟨j, rfl, rfl, hj, rfl⟩ := hrel
    cases j with
    | zero =>
      rw [hiN_zero]
      go_wp2
      go_ret
      exact ⟨rfl, rfl⟩
    | succ k =>
      have ek : ((k + 1 : Nat) : Int) - 1 = (k : Int) := by omega
      rw [ek]
      have HA := HAD.out
      have hbv := HC.out k (by omega)
      rw [HGM.out, show at' + k = (ad - 65536 + (k : Int)).toNat by omega] at hbv
      have hx := hiN_lt g sz (k + 1) HGL.out (by omega) hs4
      have HNX := Hid.in (hiN_next g sz k (by omega))
      have hgk := HGL.out k
      have HOS := Hid.in (or_low _ _ hx hgk)
      have hb32 : (g k : Int) % 4294967296 = (g k : Int) := by omega
      have ha0 : 0 ≤ ad - 65536 + (k : Int) := by omega
      have ha1 : ad - 65536 + (k : Int) < (len : Int) := by have := HIN.out; omega
      have ha2 : 65536 ≤ ad := by omega
      have ha3 : ad < 70000 := by have := HIN.out; have := HL.out; omega
      have hk4 : k < 4 := by omega
      clear HA ek
      go_wp2
      go_roundw
      case rel =>
        refine ⟨k, ?_, by simp, by omega, by simp⟩
        rw [HNX.out, ← HOS.out]
      case measure =>
        simp [intOf]
set_option maxRecDepth 100000 in
set_option maxHeartbeats 1000000 in
theorem rwrite_any (db len dc : Nat) (ad : Int) (at' sz d : Nat) (mem : Nat → Nat) (w : World) (hb : Row8 w db len mem) (had : ad = ((65536 + at' : Nat) : Int)) (hin : at' + sz ≤ len) (hl : len ≤ 4096) (hs4 : sz ≤ 4) : Calls Tryz.prog 31 #[.slice (some ⟨db, 0, none⟩) len dc, .int .u32 ad, .int .i64 sz, .int .u32 d] w fun e w' => e = .returned (.tuple #[]) ∧ Only db w w' ∧ Row8 w' db len (memT mem at' d sz) := by
  have HBY := Hid.in hb
  have HIN := Hid.in hin
  have HAD := Hid.in had
  have HL := Hid.in hl
  clear hb hin hl had
  go_enter Tryz.func31, Tryz.ntmps31
  go_wp2
  go_loopw [8] (fun i wr => ∃ k : Nat, i = .int .i64 k ∧ k ≤ sz ∧ Only db w wr ∧ Row8 wr db len (memT mem at' d k)) (fun i _ => 5 - (intOf i).toNat)
  case atStart => exact ⟨0, rfl, Nat.zero_le _, Only.refl _ _, by rw [memT_zero]; exact HBY.out⟩
  case round =>
    obtain ⟨k, rfl, hk, hO, hB⟩ := hrel
    have HO := Hid.in hO
    have HBB := Hid.in hB
    by_cases hlt : k < sz
    · have hlt' : (k : Int) < (sz : Int) := by omega
      have HA := HAD.out
      have hof : (ad - 65536 + (k : Int)).toNat = at' + k := by omega
      have hbv := hB.cell (at' + k) (by have := HIN.out; omega)
      have hdb := hB.here
      have hfr := hB.free (at' + k)
      have hk4 : k < 4 := by omega
      generalize memT mem at' d k (at' + k) = ob at hbv
      have HNX := Hid.in (HBB.out.set (at' + k) (by have := HIN.out; omega) (d / 256 ^ k % 256))
      rw [← memT_next, ← byte_is d k] at HNX
      rw [← hof] at hbv hfr
      have HOF := Hid.in hof
      have ha0 : 0 ≤ ad - 65536 + (k : Int) := by omega
      have ha1 : ad - 65536 + (k : Int) < (len : Int) := by have := HIN.out; omega
      have ha2 : 65536 ≤ ad := by omega
      have ha3 : ad < 70000 := by have := HIN.out; have := HL.out; omega
      clear hO hB HA hof
      go_wp2
      rw [HOF.out]
      go_roundw
      case rel => exact ⟨k + 1, by simp, by omega, HO.out.set _ _, HNX.out⟩
      case measure =>
        simp [intOf]
        omega
    · obtain rfl : k = sz := by omega
      have hlt' : ¬ (k : Int) < (k : Int) := by omega
      clear hO hB
      go_wp2
      exact bodyPost_end (results_none Tryz.results31 _ _ _) rfl ⟨rfl, HO.out, HBB.out⟩
end Go.Proofs.YtengofkjlgajlaaGreatDoor
/-
  THE ANSWER's MACHINE: atomic operations.
-/
namespace Go.Proofs.YtengofkjlgajlaaGreatDoor
open Go Go.RowKit
set_option maxRecDepth 100000 in
set_option maxHeartbeats 1000000 in
theorem ratomic_lr (db len dc : Nat) (ad : Int) (at' sz : Nat) (da : Nat) (mem : Nat → Nat) (w : World) (hb : Row8 w db len mem) (hm : ∀ o, mem o < 256) (had : ad = ((65536 + at' : Nat) : Int)) (hin : at' + 4 ≤ len) (hl : len ≤ 4096) (res : Int) : Calls Tryz.prog 32 #[.slice (some ⟨db, 0, none⟩) len dc, .agg #[.int .i64 46, .int .u32 ad, .int .i64 sz, .int .u32 da], .int .u32 res] w fun e w' => e = .returned (.tuple #[.int .u32 (leN (fun t => mem (at' + t)) 4 : Nat), .bool false, .int .u32 ad]) ∧ Below w.heap.size w w' := by
  have HN := Hid.in (show nameAt 45 = ⟨#[108, 114, 46, 119]⟩ by kernel_rfl)
  obtain ⟨X, hX, bX, x0, x1, x2, x3, sX⟩ := boxW4 w (.int .i64 46) (.int .u32 ad) (.int .i64 sz) (.int .u32 da) 64
  have HBX := Hid.in bX
  have HRB := Hid.in hb
  have HR : Hid (∀ x, Below w.heap.size w x → Calls Tryz.prog 30 #[.slice (some ⟨db, 0, none⟩) len dc, .int .u32 ad, .int .i64 4] x fun e w' => e = .returned (.int .u32 (leN (fun t => mem (at' + t)) 4 : Nat)) ∧ w' = x) := fun x hx => rread_any db len dc ad at' 4 mem x (hb.below hx) hm had hin (by decide) hl (by decide)
  have HW : Hid (∀ x (d : Nat), Below w.heap.size w x → Calls Tryz.prog 31 #[.slice (some ⟨db, 0, none⟩) len dc, .int .u32 ad, .int .i64 4, .int .u32 d] x fun e w' => e = .returned (.tuple #[]) ∧ Only db x w' ∧ Row8 w' db len (memT mem at' d 4)) := fun x d hx => rwrite_any db len dc ad at' 4 d mem x (hb.below hx) had hin hl (by decide)
  obtain ⟨zb, hzb⟩ : ∃ zb, w.heap.size = zb := ⟨_, rfl⟩
  have HZ : Hid (w.heap.size = zb) := hzb
  have HDB : Hid (db < zb) := by rw [← hzb]; exact hb.here
  rw [hzb] at x0 x1 x2 x3 sX
  generalize leN (fun t => mem (at' + t)) 4 = v at HR ⊢
  clear had hin hl hb hm bX
  go_enter Tryz.func32, Tryz.ntmps32
  go_upto_region 1 with fail
  try rw [hX, hzb]
  clear hX hzb
  go_upto_region 5 with (first
    | (go_at_call 57; refine (rows_made _).mono ?_; rintro e x1' ⟨rfl, hR, hb1, hz⟩; have q0 := hR.r0 45 (by decide); rw [HN.out] at q0; have hh := hR.here; have y0 := (hb1.cell (p := ⟨zb, 0, none⟩) sX).trans x0; have y1 := (hb1.cell (p := ⟨zb, 1, none⟩) sX).trans x1; have y2 := (hb1.cell (p := ⟨zb, 2, none⟩) sX).trans x2; have y3 := (hb1.cell (p := ⟨zb, 3, none⟩) sX).trans x3; have sY := Nat.lt_of_lt_of_le sX hb1.size; have HB1 := Hid.in (below2 HBX.out hb1); clear hR hb1 hz x0 x1 x2 x3)
    | (go_at_call 30; refine (HR.out _ HB1.out).mono ?_; rintro e xr ⟨rfl, hx⟩; have hx2 := hx.symm; clear hx; subst hx2))
  go_quiet (fail)
  go_wp2
  exact bodyPost_ret (v := .tuple #[.int .u32 (v : Nat), .bool false, .int .u32 ad]) (by simp [results, Tryz.results32, go_sem]) rfl ⟨rfl, HB1.out.trans ⟨rfl, rfl, rfl, Nat.le_refl _, fun _ _ => rfl⟩⟩
set_option maxRecDepth 100000 in
set_option maxHeartbeats 1000000 in
theorem ratomic_sc_true (db len dc : Nat) (ad : Int) (at' sz : Nat) (da : Nat) (mem : Nat → Nat) (w : World) (hb : Row8 w db len mem) (hm : ∀ o, mem o < 256) (had : ad = ((65536 + at' : Nat) : Int)) (hin : at' + 4 ≤ len) (hl : len ≤ 4096) (res : Int) (hr : (res == ad) = true) : Calls Tryz.prog 32 #[.slice (some ⟨db, 0, none⟩) len dc, .agg #[.int .i64 47, .int .u32 ad, .int .i64 sz, .int .u32 da], .int .u32 res] w fun e w' => e = .returned (.tuple #[.int .u32 (leN (fun t => mem (at' + t)) 4 : Nat), .bool true, .int .u32 0]) ∧ Only db w w' ∧ Row8 w' db len (memT mem at' da 4) := by
  have HN := Hid.in (show nameAt 46 = ⟨#[115, 99, 46, 119]⟩ by kernel_rfl)
  obtain ⟨X, hX, bX, x0, x1, x2, x3, sX⟩ := boxW4 w (.int .i64 47) (.int .u32 ad) (.int .i64 sz) (.int .u32 da) 64
  have HBX := Hid.in bX
  have HRB := Hid.in hb
  have HR : Hid (∀ x, Below w.heap.size w x → Calls Tryz.prog 30 #[.slice (some ⟨db, 0, none⟩) len dc, .int .u32 ad, .int .i64 4] x fun e w' => e = .returned (.int .u32 (leN (fun t => mem (at' + t)) 4 : Nat)) ∧ w' = x) := fun x hx => rread_any db len dc ad at' 4 mem x (hb.below hx) hm had hin (by decide) hl (by decide)
  have HW : Hid (∀ x (d : Nat), Below w.heap.size w x → Calls Tryz.prog 31 #[.slice (some ⟨db, 0, none⟩) len dc, .int .u32 ad, .int .i64 4, .int .u32 d] x fun e w' => e = .returned (.tuple #[]) ∧ Only db x w' ∧ Row8 w' db len (memT mem at' d 4)) := fun x d hx => rwrite_any db len dc ad at' 4 d mem x (hb.below hx) had hin hl (by decide)
  obtain ⟨zb, hzb⟩ : ∃ zb, w.heap.size = zb := ⟨_, rfl⟩
  have HZ : Hid (w.heap.size = zb) := hzb
  have HDB : Hid (db < zb) := by rw [← hzb]; exact hb.here
  rw [hzb] at x0 x1 x2 x3 sX
  generalize leN (fun t => mem (at' + t)) 4 = v at HR ⊢
  clear had hin hl hb hm bX
  go_enter Tryz.func32, Tryz.ntmps32
  go_upto_region 1 with fail
  try rw [hX, hzb]
  clear hX hzb
  go_wp2_with (first
    | (go_at_call 57; refine (rows_made _).mono ?_; rintro e x1' ⟨rfl, hR, hb1, hz⟩; have q0 := hR.r0 46 (by decide); rw [HN.out] at q0; have hh := hR.here; have y0 := (hb1.cell (p := ⟨zb, 0, none⟩) sX).trans x0; have y1 := (hb1.cell (p := ⟨zb, 1, none⟩) sX).trans x1; have y2 := (hb1.cell (p := ⟨zb, 2, none⟩) sX).trans x2; have y3 := (hb1.cell (p := ⟨zb, 3, none⟩) sX).trans x3; have sY := Nat.lt_of_lt_of_le sX hb1.size; have HB1 := Hid.in (below2 HBX.out hb1); clear hR hb1 hz x0 x1 x2 x3)
    | (go_at_call 30; refine (HR.out _ HB1.out).mono ?_; rintro e xr ⟨rfl, hx⟩; have hx2 := hx.symm; clear hx; subst hx2)
    | (go_at_call 31; refine (HW.out _ _ HB1.out).mono ?_; rintro e xw ⟨rfl, hO, hW⟩; have HO := Hid.in ((Only.of_below HB1.out).trans hO); have HWW := Hid.in hW; clear hO hW))
  exact bodyPost_ret (v := .tuple #[.int .u32 (v : Nat), .bool true, .int .u32 0]) (by simp [results, Tryz.results32, go_sem]) rfl ⟨rfl, HO.out, HWW.out⟩
set_option maxRecDepth 100000 in
set_option maxHeartbeats 1000000 in
theorem ratomic_sc_false (db len dc : Nat) (ad : Int) (at' sz : Nat) (da : Nat) (mem : Nat → Nat) (w : World) (hb : Row8 w db len mem) (hm : ∀ o, mem o < 256) (had : ad = ((65536 + at' : Nat) : Int)) (hin : at' + 4 ≤ len) (hl : len ≤ 4096) (res : Int) (hr : (res == ad) = false) : Calls Tryz.prog 32 #[.slice (some ⟨db, 0, none⟩) len dc, .agg #[.int .i64 47, .int .u32 ad, .int .i64 sz, .int .u32 da], .int .u32 res] w fun e w' => e = .returned (.tuple #[.int .u32 (leN (fun t => mem (at' + t)) 4 : Nat), .bool false, .int .u32 0]) ∧ Below w.heap.size w w' := by
  have HN := Hid.in (show nameAt 46 = ⟨#[115, 99, 46, 119]⟩ by kernel_rfl)
  obtain ⟨X, hX, bX, x0, x1, x2, x3, sX⟩ := boxW4 w (.int .i64 47) (.int .u32 ad) (.int .i64 sz) (.int .u32 da) 64
  have HBX := Hid.in bX
  have HRB := Hid.in hb
  have HR : Hid (∀ x, Below w.heap.size w x → Calls Tryz.prog 30 #[.slice (some ⟨db, 0, none⟩) len dc, .int .u32 ad, .int .i64 4] x fun e w' => e = .returned (.int .u32 (leN (fun t => mem (at' + t)) 4 : Nat)) ∧ w' = x) := fun x hx => rread_any db len dc ad at' 4 mem x (hb.below hx) hm had hin (by decide) hl (by decide)
  have HW : Hid (∀ x (d : Nat), Below w.heap.size w x → Calls Tryz.prog 31 #[.slice (some ⟨db, 0, none⟩) len dc, .int .u32 ad, .int .i64 4, .int .u32 d] x fun e w' => e = .returned (.tuple #[]) ∧ Only db x w' ∧ Row8 w' db len (memT mem at' d 4)) := fun x d hx => rwrite_any db len dc ad at' 4 d mem x (hb.below hx) had hin hl (by decide)
  obtain ⟨zb, hzb⟩ : ∃ zb, w.heap.size = zb := ⟨_, rfl⟩
  have HZ : Hid (w.heap.size = zb) := hzb
  have HDB : Hid (db < zb) := by rw [← hzb]; exact hb.here
  rw [hzb] at x0 x1 x2 x3 sX
  generalize leN (fun t => mem (at' + t)) 4 = v at HR ⊢
  clear had hin hl hb hm bX
  go_enter Tryz.func32, Tryz.ntmps32
  go_upto_region 1 with fail
  try rw [hX, hzb]
  clear hX hzb
  go_wp2_with (first
    | (go_at_call 57; refine (rows_made _).mono ?_; rintro e x1' ⟨rfl, hR, hb1, hz⟩; have q0 := hR.r0 46 (by decide); rw [HN.out] at q0; have hh := hR.here; have y0 := (hb1.cell (p := ⟨zb, 0, none⟩) sX).trans x0; have y1 := (hb1.cell (p := ⟨zb, 1, none⟩) sX).trans x1; have y2 := (hb1.cell (p := ⟨zb, 2, none⟩) sX).trans x2; have y3 := (hb1.cell (p := ⟨zb, 3, none⟩) sX).trans x3; have sY := Nat.lt_of_lt_of_le sX hb1.size; have HB1 := Hid.in (below2 HBX.out hb1); clear hR hb1 hz x0 x1 x2 x3)
    | (go_at_call 30; refine (HR.out _ HB1.out).mono ?_; rintro e xr ⟨rfl, hx⟩; have hx2 := hx.symm; clear hx; subst hx2))
  exact bodyPost_ret (v := .tuple #[.int .u32 (v : Nat), .bool false, .int .u32 0]) (by simp [results, Tryz.results32, go_sem]) rfl ⟨rfl, HB1.out⟩
set_option maxRecDepth 100000 in
set_option maxHeartbeats 1000000 in
theorem ratomic_rmw (i : Nat) (hi : i < 67) (h1 : (nameAt i).toList ≠ [108, 114, 46, 119]) (h2 : (nameAt i).toList ≠ [115, 99, 46, 119]) (db len dc : Nat) (ad : Int) (at' sz : Nat) (da : Nat) (mem : Nat → Nat) (w : World) (hb : Row8 w db len mem) (hm : ∀ o, mem o < 256) (had : ad = ((65536 + at' : Nat) : Int)) (hin : at' + 4 ≤ len) (hl : len ≤ 4096) (res : Int) : Calls Tryz.prog 32 #[.slice (some ⟨db, 0, none⟩) len dc, .agg #[.int .i64 ((i : Int) + 1), .int .u32 ad, .int .i64 sz, .int .u32 da], .int .u32 res] w fun e w' => e = .returned (.tuple #[.int .u32 (leN (fun t => mem (at' + t)) 4 : Nat), .bool false, .int .u32 res]) ∧ Only db w w' ∧ Row8 w' db len (memT mem at' (swI ((i : Int) + 1) (leN (fun t => mem (at' + t)) 4 : Nat) (da : Nat)).toNat 4) := by
  have HNN : Hid (∀ v : Nat, swI ((i : Int) + 1) (v : Nat) (da : Nat) = ((swI ((i : Int) + 1) (v : Nat) (da : Nat)).toNat : Nat)) := fun v => (Int.toNat_of_nonneg (swI_nn _ _ _)).symm
  have HSW : Hid (∀ (v : Nat) x, Calls Tryz.prog 68 #[.int .i64 ((i : Int) + 1), .int .u32 (v : Nat), .int .u32 (da : Nat)] x fun e w' => e = .returned (.int .u32 ((swI ((i : Int) + 1) (v : Nat) (da : Nat)).toNat : Nat)) ∧ Below x.heap.size x w') := fun v x => by
    have := swap_any ((i : Int) + 1) (v : Nat) (da : Nat) x
    rw [HNN.out v] at this
    exact this
  obtain ⟨nm, hnm⟩ : ∃ nm, nameAt i = nm := ⟨_, rfl⟩
  rw [hnm] at h1 h2
  have n1 : (nm.toList == [108, 114, 46, 119]) = false := by simpa using h1
  have n2 : (nm.toList == [115, 99, 46, 119]) = false := by simpa using h2
  have HN : Hid (nameAt i = nm) := hnm
  clear h1 h2 hnm
  obtain ⟨X, hX, bX, x0, x1, x2, x3, sX⟩ := boxW4 w (.int .i64 ((i : Int) + 1)) (.int .u32 ad) (.int .i64 sz) (.int .u32 da) 64
  have HBX := Hid.in bX
  have HRB := Hid.in hb
  have HR : Hid (∀ x, Below w.heap.size w x → Calls Tryz.prog 30 #[.slice (some ⟨db, 0, none⟩) len dc, .int .u32 ad, .int .i64 4] x fun e w' => e = .returned (.int .u32 (leN (fun t => mem (at' + t)) 4 : Nat)) ∧ w' = x) := fun x hx => rread_any db len dc ad at' 4 mem x (hb.below hx) hm had hin (by decide) hl (by decide)
  have HW : Hid (∀ x (d : Nat), Below w.heap.size w x → Calls Tryz.prog 31 #[.slice (some ⟨db, 0, none⟩) len dc, .int .u32 ad, .int .i64 4, .int .u32 d] x fun e w' => e = .returned (.tuple #[]) ∧ Only db x w' ∧ Row8 w' db len (memT mem at' d 4)) := fun x d hx => rwrite_any db len dc ad at' 4 d mem x (hb.below hx) had hin hl (by decide)
  obtain ⟨zb, hzb⟩ : ∃ zb, w.heap.size = zb := ⟨_, rfl⟩
  have HZ : Hid (w.heap.size = zb) := hzb
  have HDB : Hid (db < zb) := by rw [← hzb]; exact hb.here
  rw [hzb] at x0 x1 x2 x3 sX
  generalize leN (fun t => mem (at' + t)) 4 = v at HR ⊢
  have HSV := Hid.in (HSW.out v)
  clear HSW HNN
  generalize (swI ((i : Int) + 1) (v : Nat) (da : Nat)).toNat = s at HSV ⊢
  clear had hin hl hb hm bX
  go_enter Tryz.func32, Tryz.ntmps32
  go_upto_region 1 with fail
  try rw [hX, hzb]
  clear hX hzb
  have hi1 : (i : Int) < 67 := by omega
  go_wp2_with (first
    | (go_at_call 57; refine (rows_made _).mono ?_; rintro e x1' ⟨rfl, hR, hb1, hz⟩; have q0 := hR.r0 i hi; rw [HN.out] at q0; have hh := hR.here; have y0 := (hb1.cell (p := ⟨zb, 0, none⟩) sX).trans x0; have y1 := (hb1.cell (p := ⟨zb, 1, none⟩) sX).trans x1; have y2 := (hb1.cell (p := ⟨zb, 2, none⟩) sX).trans x2; have y3 := (hb1.cell (p := ⟨zb, 3, none⟩) sX).trans x3; have sY := Nat.lt_of_lt_of_le sX hb1.size; have HB1 := Hid.in (below2 HBX.out hb1); clear hR hb1 hz x0 x1 x2 x3)
    | (go_at_call 30; refine (HR.out _ HB1.out).mono ?_; rintro e xr ⟨rfl, hx⟩; have hx2 := hx.symm; clear hx; subst hx2)
    | (go_at_call 68; refine (HSV.out _).mono ?_; rintro e xs ⟨rfl, hb2⟩; have y0 := (hb2.cell (p := ⟨zb, 0, none⟩) sY).trans y0; have y1 := (hb2.cell (p := ⟨zb, 1, none⟩) sY).trans y1; have sZ := Nat.lt_of_lt_of_le sY hb2.size; have HB2 := Hid.in (below2 HB1.out hb2); clear hb2)
    | (go_at_call 31; refine (HW.out _ _ HB2.out).mono ?_; rintro e xw ⟨rfl, hO, hW⟩; have HO := Hid.in ((Only.of_below HB2.out).trans hO); have HWW := Hid.in hW; clear hO hW))
  exact bodyPost_ret (v := .tuple #[.int .u32 (v : Nat), .bool false, .int .u32 res]) (by simp [results, Tryz.results32, go_sem]) rfl ⟨rfl, HO.out, HWW.out⟩
end Go.Proofs.YtengofkjlgajlaaGreatDoor
