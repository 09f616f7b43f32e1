/-
  BUS: a line's bytes in memory.
-/
import Derived.Test.YtbbaopldebdoiaaBu8
namespace Go.Proofs.Ytbbaopldebdoiaa
open Go Go.RowKit
set_option maxRecDepth 100000 in
set_option maxHeartbeats 1000000 in
theorem bytesOf_any (mb a len mc : Nat) (m : Nat → Nat) (w : World) (k : CellsAt len w mb (fun o => .int .u8 (m o))) (ha : a < 4294967296) (h16 : a % 16 = 0) (hh : hasB a len = true) (hl : len ≤ 4096) (hl16 : len % 16 = 0) (hm : len ≤ mc) : Calls Try.prog 34 #[.slice (some ⟨mb, 0, none⟩) len mc, .int .u32 a] w fun e w' => e = .returned (.agg (bvs (fun t => m (a - 65536 + t))).toArray) ∧ Below w.heap.size w w' := by
  have hb : 65536 ≤ a ∧ a < 65536 + len := by simpa [hasB] using hh
  obtain ⟨W1, hW1⟩ : ∃ W1, w.alloc (.cells z16 73) = W1 := ⟨_, rfl⟩
  obtain ⟨W2, hW2⟩ : ∃ W2, W1.alloc (.cells z16 73) = W2 := ⟨_, rfl⟩
  have b1 : Below w.heap.size w W1 := by rw [← hW1]; exact (Below.refl _ _).alloc (Nat.le_refl _) _
  have b2 : Below W1.heap.size W1 W2 := by rw [← hW2]; exact (Below.refl _ _).alloc (Nat.le_refl _) _
  have s1 : w.heap.size < W1.heap.size := by rw [← hW1]; simp
  have s2 : W1.heap.size < W2.heap.size := by rw [← hW2]; simp
  have t5 : W2.there W1.heap.size 0 16 := by rw [← hW2]; exact there_arr W1 _
  have t4 : W2.there w.heap.size 0 16 := by
    have h := there_arr w 73
    rw [hW1] at h
    exact there_turned h (Turned.of_below (Q := fun _ => False) b2) s1 (fun e => e)
  have k2 := (k.below b1).below b2
  have rM := range_row k2 (L := a - 65536) (by omega)
  have hcp := copy16 W2.drew 3 W1.heap.size 0 mb (a - 65536) 16 16 (fun t => m (a - 65536 + t)) 16 16 rfl ((World.rangeAt_drew _ _ _ _).2 rM) ((World.there_drew _ _ _ _).2 t5)
  obtain ⟨X, hX⟩ : ∃ X, W2.drew.setCells W1.heap.size 0 (bvs (fun t => m (a - 65536 + t))) = X := ⟨_, rfl⟩
  have rX : X.rangeAt W1.heap.size 0 (bvs (fun t => m (a - 65536 + t))) := by
    rw [← hX]
    exact World.rangeAt_setCells_same _ _ _ _ (by rw [bvs_len]; exact (World.there_drew _ _ _ _).2 t5)
  have tX : Turned (fun q => q = W1.heap.size) W2 X := by rw [← hX]; exact ((Turned.refl _ W2).drew).trans (turned_setCells _ _ _)
  have t4X : X.there w.heap.size 0 16 := there_turned t4 tX (by omega) (by omega)
  have rF : (X.setCells w.heap.size 0 (bvs (fun t => m (a - 65536 + t)))).rangeAt w.heap.size 0 (bvs (fun t => m (a - 65536 + t))) := World.rangeAt_setCells_same _ _ _ _ (by rw [bvs_len]; exact t4X)
  have bF : Below w.heap.size w (X.setCells w.heap.size 0 (bvs (fun t => m (a - 65536 + t)))) := by
    have h1 : Below w.heap.size w X := (below2 b1 b2).trans (tX.below (Nat.le_trans b1.size b2.size) (fun q e => by omega))
    exact h1.trans ((turned_setCells (bvs (fun t => m (a - 65536 + t))) 0 X).below h1.size (fun q e => by omega))
  rw [hX] at hcp
  have HLN : Hid (∀ y, Calls Try.prog 25 #[.slice (some ⟨mb, 0, none⟩) len mc, .int .u32 a] y fun e w' => e = .returned (.slice (some ⟨mb, a - 65536, none⟩) 16 16) ∧ w' = y) := fun y => mline_any mb a len mc y ha h16 hh hl hl16 hm
  have HRX := Hid.in rX
  have HT4 := Hid.in t4X
  have HRF := Hid.in rF
  have HBF := Hid.in bF
  have HW1 := Hid.in hW1
  have HW2 := Hid.in hW2
  generalize (fun t => m (a - 65536 + t)) = b at *
  unfold z16 at hW1 hW2
  clear k k2 rM hX rX tX t4X rF bF t5 t4 b1 b2 hb hh h16 hl16 hm hl ha
  go_enter Try.func34, Try.ntmps34
  go_upto_region 2 with fail
  try rw [hW1, hW2]
  clear hW1 hW2 HW1 HW2
  go_region_with (go_at_call 25; refine (HLN.out _).mono ?_; rintro e y ⟨rfl, hy⟩; have hy2 := hy.symm; clear hy; subst hy2)
  all_goals
    have R3 := HRX.out
    have T3 := HT4.out
    go_wp2_with (first
      | (refine ld_arr W1.heap.size 0 b R3 rfl _ rfl rfl ?_)
      | (refine st_arr w.heap.size 0 b T3 rfl rfl _ _ rfl rfl rfl ?_))
    exact bodyPost_ret (results_arr Try.results34 _ _ w.heap.size b rfl HRF.out) rfl ⟨rfl, HBF.out⟩
end Go.Proofs.Ytbbaopldebdoiaa
