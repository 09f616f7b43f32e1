/-
  LSQ: Drain.
-/
import Derived.Test.YthbffonedpeeiaaDoorMv
namespace Go.Proofs.YthbffonedpeeiaaDoor
open Go Go.RowKit
set_option maxRecDepth 100000 in
set_option maxHeartbeats 1000000 in
theorem drain_bad (B p : Nat) (v : Value) (S : QS) (w : World) (k : Qm w B p v S) (h : S.top = false) : Calls Tryd.prog 22 #[.pointer (some ⟨p, 0, none⟩)] w fun e w' => e = .returned (errV 7) ∧ Below w.heap.size w w' := by
  have HC := Hid.in (oldest_no B p v S w k h)
  clear k h
  go_enter Tryd.func22, Tryd.ntmps22
  go_wp2_with (first | (refine HC.out.mono ?_; rintro e w2 ⟨rfl, h2⟩; have H2 := Hid.in h2; clear h2))
  go_ret
  exact ⟨rfl, H2.out.alloc H2.out.size _⟩
def Ac.wr (n : Int) (e : Ac) : Ac := e.withR (e.fr.map (toMem n))
/-- of the first t ones bytes are memory's -/
def QS.memT (S : QS) (n : Int) (t : Nat) : QS := ⟨S.size, (S.on.take t).map (Ac.wr n) ++ S.on.drop t⟩
theorem QS.memT_len (S : QS) (n : Int) (t : Nat) (h : t ≤ S.on.length) : (S.memT n t).on.length = S.on.length := by
  unfold QS.memT
  simp
  omega
theorem QS.memT_at (S : QS) (n : Int) (t : Nat) (h : t < S.on.length) : (S.memT n t).at t = S.at t := by
  unfold QS.memT QS.at
  have h1 : ((S.on.take t).map (Ac.wr n)).length = t := by simp; omega
  show List.getD (_ ++ _) t a0 = _
  rw [List.getD_eq_getElem?_getD, List.getElem?_append_right (by omega), h1, Nat.sub_self, List.getElem?_drop, Nat.add_zero, List.getD_eq_getElem?_getD]
theorem QS.memT_next (S : QS) (n : Int) (t : Nat) (h : t < S.on.length) : (S.memT n t).set t ((S.at t).wr n) = S.memT n (t + 1) := by
  unfold QS.memT QS.set QS.at
  have h1 : ((S.on.take t).map (Ac.wr n)).length = t := by simp; omega
  congr 1
  show List.set (_ ++ _) t _ = _
  rw [List.set_append, if_neg (by omega), h1, Nat.sub_self, List.take_add_one, List.getElem?_eq_getElem h, List.map_append, List.append_assoc, List.drop_eq_getElem_cons h, List.set_cons_zero, List.getD_eq_getElem?_getD, List.getElem?_eq_getElem h]
  rfl
theorem QS.memT_zero (S : QS) (n : Int) : S.memT n 0 = S := by
  unfold QS.memT
  simp
def QS.drained (S : QS) : QS := (S.del 0).memT (S.at 0).n (S.on.length - 1)
set_option maxRecDepth 100000 in
set_option maxHeartbeats 2000000 in
theorem drain_good (B p : Nat) (v : Value) (S : QS) (w : World) (k : Qm w B p v S) (h : S.top = true) (hz : 0 < (S.at 0).z) : Calls Tryd.prog 22 #[.pointer (some ⟨p, 0, none⟩)] w fun e w' => e = .returned .nilIface ∧ ∃ v', Step w w' B p v S v' S.drained := by
  have hc := oldest_yes B p v S w k h hz
  obtain ⟨wd, hwd⟩ : ∃ wd, (S.at 0).d % 256 ^ (S.at 0).z = wd := ⟨_, rfl⟩
  rw [hwd] at hc
  have HC := Hid.in hc
  clear hc hwd
  unfold QS.top at h
  simp only [Bool.and_eq_true, decide_eq_true_eq] at h
  obtain ⟨hl0, hrt⟩ := h
  have hs := k.small.1
  obtain ⟨g, cap, hv, hpg, hrow⟩ := k.rows 0 hl0
  have HV := Hid.in hv
  have HRW := Hid.in hrow
  have HK := Hid.in k
  have hld := S.del_len 0 hl0
  have hgb : ¬ (fun j => j = g) p := hpg
  obtain ⟨n0, hn0⟩ : ∃ n0, (S.at 0).n = n0 := ⟨_, rfl⟩
  have HN0 := Hid.in hn0
  unfold QS.drained
  rw [hn0]
  clear k hrow hv hrt hz hn0
  go_enter Tryd.func22, Tryd.ntmps22
  go_upto_region 4 with (first | (go_at_call 56; refine HC.out.mono ?_; rintro e w2 ⟨rfl, h2⟩; have H2 := Hid.in h2; clear h2))
  obtain ⟨W, hW⟩ : ∃ W, w2.alloc (.cells #[.int .u32 (S.at 0).a, .int .i64 (S.at 0).z, .int .u32 wd] 99) = W := ⟨_, rfl⟩
  have bW : Below w.heap.size w W := by rw [← hW]; exact H2.out.alloc H2.out.size _
  rw [hW]
  have kW := HK.out.below bW
  obtain ⟨x1, x2, -, -⟩ := HRW.out W bW
  rw [Nat.zero_mul] at x2
  obtain ⟨x0, -⟩ := row_cells0 x2
  rw [HN0.out] at x0
  have lW := kW.l
  rw [HV.out] at lW
  have hd : Calls Tryd.prog 53 #[.slice (some ⟨g, 0, none⟩) S.on.length cap, .int .i64 0, .int .i64 1] W fun e w' => e = .returned (.slice (some ⟨g, 0, none⟩) (S.on.length - 1) cap) ∧ w'.ownsRow B 86 8 (.slice (some ⟨g, 0, none⟩) (S.on.length - 1) cap) (S.on.length - 1) (flatA (S.on.eraseIdx 0)) ∧ Turned (fun k => k = g) W w' := delete_any B g cap 0 S.on W hl0 lW hs
  have HD := Hid.in hd
  have HKW := Hid.in kW
  have HBW := Hid.in bW
  clear hW kW bW lW hd x2
  go_upto_region 6 with (first
    | (go_at_call 53
       refine HD.out.mono ?_
       rintro e w5 ⟨rfl, o5, t5⟩
       have c5 := t5.to_cell HKW.out.c.here hgb HKW.out.cells.2.2.1
       have f5 : w5.frozen? ⟨p, 1, none⟩ = false := (World.frozen?_of_block (t5.block p HKW.out.c.here hgb)).trans HKW.out.cells.2.2.2
       have S5 := Hid.in ((Step.same HK.out HBW.out).trans (HKW.out.del HV.out 0 hl0 o5 t5))
       clear o5 t5))
  obtain ⟨Z, hZ⟩ : ∃ Z, w5.setCell ⟨p, 1, none⟩ (.slice (some ⟨g, 0, none⟩) (S.on.length - 1) cap) = Z := ⟨_, rfl⟩
  rw [hZ]
  have s5 := S5.out
  rw [hZ] at s5
  have c1 := s5.q.cells.2.2.1
  obtain ⟨m, hm⟩ : ∃ m, S.on.length - 1 = m := ⟨_, rfl⟩
  rw [hm] at c1 s5 hld ⊢
  have HS5 := Hid.in s5
  have HM := Hid.in hm
  have hm32 : m ≤ 32 := by omega
  clear hZ s5 S5 c5 f5 x0 x1 HD HC hm
  go_wp2
  clear c1
  go_loopw [35] (fun u wr => ∃ t : Nat, u = .int .i64 t ∧ t ≤ m ∧ Step w wr B p v S (.slice (some ⟨g, 0, none⟩) m cap) ((S.del 0).memT n0 t)) (fun v _ => 33 - (intOf v).toNat)
  case atStart => exact ⟨0, rfl, by omega, by rw [QS.memT_zero]; exact HS5.out⟩
  case round =>
    obtain ⟨t, rfl, ht, hst⟩ := hrel
    have HST := Hid.in hst
    by_cases htm : t < m
    · have hlm : ((S.del 0).memT n0 t).on.length = m := by rw [QS.memT_len _ _ _ (by omega)]; exact hld
      have c1 := hst.q.cells.2.2.1
      have hat := (S.del 0).memT_at n0 t (by omega)
      have hfm := fromMemory_any B p g cap _ ((S.del 0).memT n0 t) t n0 wr hst.q (by rw [hlm]) (by omega)
      rw [hat] at hfm
      have hnx := (S.del 0).memT_next n0 t (by omega)
      unfold Ac.wr at hnx
      rw [hnx] at hfm
      have HFM := Hid.in hfm
      have hmul : (t : Int) * 8 = ((t * 8 : Nat) : Int) := by omega
      clear hst hfm hnx hat
      go_wp2_with (first
        | (go_at_call 57; refine HFM.out.mono ?_; rintro e w7 ⟨rfl, h7⟩; have H7 := Hid.in h7; clear h7))
      go_roundw
      case rel => exact ⟨t + 1, by simp, by omega, HST.out.trans H7.out⟩
      case measure =>
        simp [intOf]
        omega
    · obtain rfl : t = m := by omega
      go_wp2
      go_ret
      refine ⟨rfl, .slice (some ⟨g, 0, none⟩) t cap, ?_⟩
      rw [HM.out]
      exact HST.out
end Go.Proofs.YthbffonedpeeiaaDoor
