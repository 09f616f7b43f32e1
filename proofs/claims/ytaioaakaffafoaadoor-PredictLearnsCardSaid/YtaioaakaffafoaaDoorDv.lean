/-
  PREDICT's LAW PredictLearns: the walk.
-/
import Derived.Test.YtaioaakaffafoaaDoorDu
namespace Go.Proofs.YtaioaakaffafoaaDoor
open Go Go.RowKit
theorem alloc2_cell (w : World) (o : Obj) (c : Array Value) (t : TypeId) (i : Nat) : ((w.alloc o).alloc (.cells c t)).cell? ⟨w.heap.size + 1, i, none⟩ = c[i]? := by
  have q := World.cell?_alloc_new (w.alloc o) c t i
  rwa [World.size_alloc] at q
set_option maxRecDepth 20000 in
set_option maxHeartbeats 1000000 in
theorem learns_any (bits pc : Int) (bp : Option Addr) (m c : Nat) (g : Nat → Bool) (taken : Bool) (tg : Int) (w : World) (hb : I64 bits) (hpc : U32 pc) (hw : Bools w bp m g) (hL : Laid w) : Calls Tryd.prog 4 #[.int .i64 bits, .int .u32 pc, .slice bp m c, .bool taken, .int .u32 tg] w fun e w' => e = .returned (.bool true) ∧ Below w.heap.size w w' := by
  have HB := Hid.in hb
  have HPC : Hid (0 ≤ pc ∧ pc < 4294967296) := hpc
  obtain ⟨u1, u2⟩ := hpc
  have HW : Hid (∀ i, i < m → ∃ b o, bp = some ⟨b, o, none⟩ ∧ b < w.heap.size ∧ ∀ y, Below w.heap.size w y → y.cell? ⟨b, o + i, none⟩ = some (.bool (g i))) := fun i hi => by
    obtain ⟨b, o, e, h1, h2⟩ := hw i hi
    exact ⟨b, o, e, h1, fun y hy => (hy.cell (p := ⟨b, o + i, none⟩) h1).trans h2⟩
  have HL := Hid.in hL
  clear hb hw hL
  go_enter Tryd.func4, Tryd.ntmps4
  go_wp2_with (first
    | (go_at_call 18; refine (pick_any bits 10 _ HB.out (by omega)).mono ?_; rintro e w1 ⟨k0, hk0, rfl, hw1⟩; have hw1' := hw1.symm; clear hw1; subst hw1'; obtain ⟨r, hr⟩ : ∃ r, r = 1 + k0 := ⟨_, rfl⟩; have hs : (1 : Int) + (k0 : Int) = (r : Int) := (by omega); have b1 : 1 ≤ r := (by omega); have b2 : r ≤ 10 := (by omega); clear hr)
    | (go_at_call 6; refine (new_lrn r _ b1 b2).mono ?_; rintro e w2 ⟨G, rfl, hP2, hmask, hDK, hlo, hb2⟩; have HP2 := Hid.in hP2; have HMK := Hid.in hmask; have HDK := Hid.in hDK; have HLO := Hid.in hlo; have HB2 := Hid.in hb2; clear hP2 hmask hDK hlo hb2))
  have hst0 := sl_start (t := 43) HL.out HP2.out HLO.out HB2.out
  clear HP2 HB2 hs HL HB
  obtain ⟨w3, hw3⟩ : ∃ w3, w3 = w2.alloc (.cells #[.int .i64 6, .int .i64 0, .int .i64 1, .int .i64 0, .int .i64 64] 43) := ⟨_, rfl⟩
  rw [← hw3] at hst0 ⊢
  obtain ⟨B, hB⟩ : ∃ B, B = w2.heap.size + 1 := ⟨_, rfl⟩
  obtain ⟨ib, hib⟩ : ∃ ib, ib = w2.heap.size := ⟨_, rfl⟩
  rw [← hB, ← hib] at hst0
  rw [← hib]
  clear hB hib hw3
  have ST0 := Hid.in hst0
  have hp9 : G.p < B := hst0.lt.1
  have ht9 : G.gt < B := hst0.lt.2.1
  have hs9 : G.gs < B := hst0.lt.2.2.1
  have hc9 : G.gc < B := hst0.lt.2.2.2.1
  clear hst0
  go_loopw [15] (fun v wr => ∃ (k : Nat) (S : PS), v = .int .i64 k ∧ k ≤ 4096 ∧ Sl B w wr G S ib) (fun v _ => 4097 - (intOf v).toNat)
  case atStart => exact ⟨0, newS, rfl, by omega, ST0.out⟩
  case round =>
    obtain ⟨k, S, rfl, hk, slwr⟩ := hrel
    by_cases hk2 : k < m ∧ k < 4096
    · obtain ⟨hk3, hk4⟩ := hk2
      have hkm : decide ((k : Int) < (m : Int)) = true := decide_eq_true (by omega)
      have hki : decide ((k : Int) < 4096) = true := decide_eq_true (by omega)
      have hkm' : (k : Int) < (m : Int) := by omega
      have hk0i : (0 : Int) ≤ (k : Int) := by omega
      obtain ⟨bq, bo, rfl, q1, q2⟩ := HW.out k hk3
      have HQ2 := Hid.in q2
      have HLE := Hid.in slwr.le
      have lo9 : w.heap.size ≤ B := slwr.lo.1
      have ic0wr : wr.cell? ⟨ib, 0, none⟩ = some (.int .i64 6) := slwr.ic.cell 0 (by decide)
      have ic1wr : wr.cell? ⟨ib, 1, none⟩ = some (.int .i64 0) := slwr.ic.cell 1 (by decide)
      have ic2wr : wr.cell? ⟨ib, 2, none⟩ = some (.int .i64 1) := slwr.ic.cell 2 (by decide)
      have ic3wr : wr.cell? ⟨ib, 3, none⟩ = some (.int .i64 0) := slwr.ic.cell 3 (by decide)
      have ic4wr : wr.cell? ⟨ib, 4, none⟩ = some (.int .i64 64) := slwr.ic.cell 4 (by decide)
      have ziwr := slwr.ic.here
      have zzwr := slwr.sz
      have SLwr : Hid (∀ y, Below B wr y → Sl B w y G _ ib) := fun y hy => slwr.below hy
      clear slwr q2
      go_wp2_with (go_at_call 11; refine (g_bne G S pc _ HDK.out HMK.out (SLwr.out _ (by repeat (with_reducible first | exact Below.refl _ _ | refine Below.drew ?_ | refine Below.alloc ?_ (by first | omega | (simp <;> omega)) _ | refine Below.setCell ?_ (by first | omega | (simp <;> omega)) _))).pr (SLwr.out _ (by repeat (with_reducible first | exact Below.refl _ _ | refine Below.drew ?_ | refine Below.alloc ?_ (by first | omega | (simp <;> omega)) _ | refine Below.setCell ?_ (by first | omega | (simp <;> omega)) _))).laid HPC.out).mono ?_; rintro e y1 ⟨rfl, hP1, hT1⟩; have sly1 : Sl B w y1 G S ib := (SLwr.out _ (by repeat (with_reducible first | exact Below.refl _ _ | refine Below.drew ?_ | refine Below.alloc ?_ (by first | omega | (simp <;> omega)) _ | refine Below.setCell ?_ (by first | omega | (simp <;> omega)) _))).step hT1 hP1 HLE.out; have bc1 := HQ2.out y1 sly1.gr; have bz1 : bq < y1.heap.size := cell_here bc1; have ic0y1 : y1.cell? ⟨ib, 0, none⟩ = some (.int .i64 6) := sly1.ic.cell 0 (by decide); have ic1y1 : y1.cell? ⟨ib, 1, none⟩ = some (.int .i64 0) := sly1.ic.cell 1 (by decide); have ic2y1 : y1.cell? ⟨ib, 2, none⟩ = some (.int .i64 1) := sly1.ic.cell 2 (by decide); have ic3y1 : y1.cell? ⟨ib, 3, none⟩ = some (.int .i64 0) := sly1.ic.cell 3 (by decide); have ic4y1 : y1.cell? ⟨ib, 4, none⟩ = some (.int .i64 64) := sly1.ic.cell 4 (by decide); have ziy1 := sly1.ic.here; have zzy1 := sly1.sz; have SLy1 : Hid (∀ y, Below B y1 y → Sl B w y G _ ib) := fun y hy => sly1.below hy; clear sly1 hP1 hT1)
      have nbq : ¬ bq = y1.heap.size := by omega
      go_region_held3 (fun w' => w'.cell? ⟨ib, 0, none⟩ = some (.int .i64 6) ∧ w'.cell? ⟨ib, 1, none⟩ = some (.int .i64 0) ∧ w'.cell? ⟨ib, 2, none⟩ = some (.int .i64 1) ∧ w'.cell? ⟨ib, 3, none⟩ = some (.int .i64 0) ∧ w'.cell? ⟨ib, 4, none⟩ = some (.int .i64 64) ∧ w'.cell? ⟨y1.heap.size, 0, none⟩ = some (.int .i64 0) ∧ w'.cell? ⟨y1.heap.size, 1, none⟩ = some (.int .i64 S.top) ∧ w'.cell? ⟨y1.heap.size, 2, none⟩ = some (.int .u32 (S.stack S.top)) ∧ w'.cell? ⟨bq, bo + k, none⟩ = some (.bool (g k))) (go_keep) ((go_at_call 16; refine (l_bne G S (S.stack S.top) pc 0 (g k) _ HDK.out (SLy1.out _ (by repeat (with_reducible first | exact Below.refl _ _ | refine Below.drew ?_ | refine Below.alloc ?_ (by first | omega | (simp <;> omega)) _ | refine Below.setCell ?_ (by first | omega | (simp <;> omega)) _))).pr (SLy1.out _ (by repeat (with_reducible first | exact Below.refl _ _ | refine Below.drew ?_ | refine Below.alloc ?_ (by first | omega | (simp <;> omega)) _ | refine Below.setCell ?_ (by first | omega | (simp <;> omega)) _))).laid HLE.out HPC.out).mono ?_; rintro e y2 ⟨rfl, hP2, hT2⟩; have sly2 := (SLy1.out _ (by repeat (with_reducible first | exact Below.refl _ _ | refine Below.drew ?_ | refine Below.alloc ?_ (by first | omega | (simp <;> omega)) _ | refine Below.setCell ?_ (by first | omega | (simp <;> omega)) _))).step hT2 hP2 (cnt_le _ _ _ _ HLE.out); have bc2 := HQ2.out y2 sly2.gr; have ic0y2 : y2.cell? ⟨ib, 0, none⟩ = some (.int .i64 6) := sly2.ic.cell 0 (by decide); have ic1y2 : y2.cell? ⟨ib, 1, none⟩ = some (.int .i64 0) := sly2.ic.cell 1 (by decide); have ic2y2 : y2.cell? ⟨ib, 2, none⟩ = some (.int .i64 1) := sly2.ic.cell 2 (by decide); have ic3y2 : y2.cell? ⟨ib, 3, none⟩ = some (.int .i64 0) := sly2.ic.cell 3 (by decide); have ic4y2 : y2.cell? ⟨ib, 4, none⟩ = some (.int .i64 64) := sly2.ic.cell 4 (by decide); have ziy2 := sly2.ic.here; have zzy2 := sly2.sz; have SLy2 : Hid (∀ y, Below B y2 y → Sl B w y G _ ib) := fun y hy => sly2.below hy; have mm0 := hT2.to_cell (c := y1.heap.size) (o := 0) (by simp) (by omega) (World.cell?_alloc_new y1 _ _ 0); have mm1 := hT2.to_cell (c := y1.heap.size) (o := 1) (by simp) (by omega) (World.cell?_alloc_new y1 _ _ 1); have mm2 := hT2.to_cell (c := y1.heap.size) (o := 2) (by simp) (by omega) (World.cell?_alloc_new y1 _ _ 2); clear sly2 hP2 hT2))
      go_wp2
      go_roundw
      case rel => exact ⟨k + 1, _, by go_num, by omega, SLy2.out _ (by repeat (with_reducible first | exact Below.refl _ _ | refine Below.drew ?_ | refine Below.alloc ?_ (by first | omega | (simp <;> omega)) _ | refine Below.setCell ?_ (by first | omega | (simp <;> omega)) _))⟩
      case measure => simp [intOf]; omega
    · have HSL := Hid.in slwr
      clear slwr
      have hcase : (¬ (k : Int) < (m : Int)) ∨ ((k : Int) < (m : Int) ∧ ¬ (k : Int) < 4096) := by omega
      clear hk2
      have hu : undef = Value.tuple #[] := rfl
      rcases hcase with hc1 | ⟨hc1, hc2⟩
      all_goals
        go_wp2
        clear hu
        go_loopw [18] (fun v wr' => ∃ (j : Nat) (T : PS), v = .int .i64 j ∧ j ≤ 2 ∧ Sl B w wr' G T ib ∧ Lrnt G T pc taken j) (fun v _ => 3 - (intOf v).toNat)
        case atStart => exact ⟨0, S, rfl, by omega, HSL.out, by
          have := HSL.out.le (cK G pc) (ck_lt G pc HDK.out)
          unfold Lrnt
          split <;> omega⟩
        case round =>
          obtain ⟨j, T, rfl, hj, slwr, hlr⟩ := hrel
          have HLR := Hid.in hlr
          have HLE := Hid.in slwr.le
          clear hlr HSL
          have ic0wr : wr.cell? ⟨ib, 0, none⟩ = some (.int .i64 6) := slwr.ic.cell 0 (by decide)
          have ic1wr : wr.cell? ⟨ib, 1, none⟩ = some (.int .i64 0) := slwr.ic.cell 1 (by decide)
          have ic2wr : wr.cell? ⟨ib, 2, none⟩ = some (.int .i64 1) := slwr.ic.cell 2 (by decide)
          have ic3wr : wr.cell? ⟨ib, 3, none⟩ = some (.int .i64 0) := slwr.ic.cell 3 (by decide)
          have ic4wr : wr.cell? ⟨ib, 4, none⟩ = some (.int .i64 64) := slwr.ic.cell 4 (by decide)
          have ziwr := slwr.ic.here
          have zzwr := slwr.sz
          have SLwr : Hid (∀ y, Below B wr y → Sl B w y G _ ib) := fun y hy => slwr.below hy
          clear slwr
          by_cases hj2 : j < 2
          · have hji : (j : Int) < 2 := by omega
            go_wp2_with (first
              | (go_at_call 11; refine (g_bne G T pc _ HDK.out HMK.out (SLwr.out _ (by repeat (with_reducible first | exact Below.refl _ _ | refine Below.drew ?_ | refine Below.alloc ?_ (by first | omega | (simp <;> omega)) _ | refine Below.setCell ?_ (by first | omega | (simp <;> omega)) _))).pr (SLwr.out _ (by repeat (with_reducible first | exact Below.refl _ _ | refine Below.drew ?_ | refine Below.alloc ?_ (by first | omega | (simp <;> omega)) _ | refine Below.setCell ?_ (by first | omega | (simp <;> omega)) _))).laid HPC.out).mono ?_; rintro e y1 ⟨rfl, hP1, hT1⟩; have sly1 : Sl B w y1 G T ib := (SLwr.out _ (by repeat (with_reducible first | exact Below.refl _ _ | refine Below.drew ?_ | refine Below.alloc ?_ (by first | omega | (simp <;> omega)) _ | refine Below.setCell ?_ (by first | omega | (simp <;> omega)) _))).step hT1 hP1 HLE.out; have ic0y1 : y1.cell? ⟨ib, 0, none⟩ = some (.int .i64 6) := sly1.ic.cell 0 (by decide); have ic1y1 : y1.cell? ⟨ib, 1, none⟩ = some (.int .i64 0) := sly1.ic.cell 1 (by decide); have ic2y1 : y1.cell? ⟨ib, 2, none⟩ = some (.int .i64 1) := sly1.ic.cell 2 (by decide); have ic3y1 : y1.cell? ⟨ib, 3, none⟩ = some (.int .i64 0) := sly1.ic.cell 3 (by decide); have ic4y1 : y1.cell? ⟨ib, 4, none⟩ = some (.int .i64 64) := sly1.ic.cell 4 (by decide); have ziy1 := sly1.ic.here; have zzy1 := sly1.sz; have SLy1 : Hid (∀ y, Below B y1 y → Sl B w y G _ ib) := fun y hy => sly1.below hy; clear sly1 hP1 hT1)
              | (go_at_call 16; refine (l_bne G T (T.stack T.top) pc _ taken _ HDK.out (SLy1.out _ (by repeat (with_reducible first | exact Below.refl _ _ | refine Below.drew ?_ | refine Below.alloc ?_ (by first | omega | (simp <;> omega)) _ | refine Below.setCell ?_ (by first | omega | (simp <;> omega)) _))).pr (SLy1.out _ (by repeat (with_reducible first | exact Below.refl _ _ | refine Below.drew ?_ | refine Below.alloc ?_ (by first | omega | (simp <;> omega)) _ | refine Below.setCell ?_ (by first | omega | (simp <;> omega)) _))).laid HLE.out HPC.out).mono ?_; rintro e y2 ⟨rfl, hP2, hT2⟩; have sly2 := (SLy1.out _ (by repeat (with_reducible first | exact Below.refl _ _ | refine Below.drew ?_ | refine Below.alloc ?_ (by first | omega | (simp <;> omega)) _ | refine Below.setCell ?_ (by first | omega | (simp <;> omega)) _))).step hT2 hP2 (cnt_le _ _ _ _ HLE.out); have ic0y2 : y2.cell? ⟨ib, 0, none⟩ = some (.int .i64 6) := sly2.ic.cell 0 (by decide); have ic1y2 : y2.cell? ⟨ib, 1, none⟩ = some (.int .i64 0) := sly2.ic.cell 1 (by decide); have ic2y2 : y2.cell? ⟨ib, 2, none⟩ = some (.int .i64 1) := sly2.ic.cell 2 (by decide); have ic3y2 : y2.cell? ⟨ib, 3, none⟩ = some (.int .i64 0) := sly2.ic.cell 3 (by decide); have ic4y2 : y2.cell? ⟨ib, 4, none⟩ = some (.int .i64 64) := sly2.ic.cell 4 (by decide); have ziy2 := sly2.ic.here; have zzy2 := sly2.sz; have SLy2 : Hid (∀ y, Below B y2 y → Sl B w y G _ ib) := fun y hy => sly2.below hy; clear sly2 hP2 hT2))
            go_roundw
            case rel => exact ⟨j + 1, _, by go_num, by omega, SLy2.out _ (by repeat (with_reducible first | exact Below.refl _ _ | refine Below.drew ?_ | refine Below.alloc ?_ (by first | omega | (simp <;> omega)) _ | refine Below.setCell ?_ (by first | omega | (simp <;> omega)) _)), lrnt_next G T pc taken j HLR.out hj2 (HLE.out _ (ck_lt G pc HDK.out))⟩
            case measure => simp [intOf]; omega
          · have hj3 : j = 2 := by omega
            have HBV : Hid (bneV G T pc = if taken then (pc + 64) % 4294967296 else (pc + 4) % 4294967296) := lrnt_end G T pc taken (hj3 ▸ HLR.out)
            have hji : ¬ (j : Int) < 2 := by omega
            clear hj3
            cases taken
            all_goals
              go_wp2_with (first
                | (go_at_call 11; have HX := HZ3; go_loud (refine (g_far G (fS G T pc tg) pc _ HDK.out HMK.out (SLz3.out _ (by repeat (with_reducible first | exact Below.refl _ _ | refine Below.drew ?_ | refine Below.alloc ?_ (by first | omega | (simp <;> omega)) _ | refine Below.setCell ?_ (by first | omega | (simp <;> omega)) _))).pr (SLz3.out _ (by repeat (with_reducible first | exact Below.refl _ _ | refine Below.drew ?_ | refine Below.alloc ?_ (by first | omega | (simp <;> omega)) _ | refine Below.setCell ?_ (by first | omega | (simp <;> omega)) _))).laid HPC.out).mono ?_; rintro e z4 ⟨he, hP4, hT4⟩; rw [far_went] at he; subst he; have HE := Hid.in ((SLz3.out _ (by repeat (with_reducible first | exact Below.refl _ _ | refine Below.drew ?_ | refine Below.alloc ?_ (by first | omega | (simp <;> omega)) _ | refine Below.setCell ?_ (by first | omega | (simp <;> omega)) _))).step hT4 hP4 HLE.out).gr; clear hP4 hT4))
                | (go_at_call 16; have HX3 := SLz2; go_loud (refine (l_far G T (T.stack T.top) pc tg _ HDK.out (SLz2.out _ (by repeat (with_reducible first | exact Below.refl _ _ | refine Below.drew ?_ | refine Below.alloc ?_ (by first | omega | (simp <;> omega)) _ | refine Below.setCell ?_ (by first | omega | (simp <;> omega)) _))).pr (SLz2.out _ (by repeat (with_reducible first | exact Below.refl _ _ | refine Below.drew ?_ | refine Below.alloc ?_ (by first | omega | (simp <;> omega)) _ | refine Below.setCell ?_ (by first | omega | (simp <;> omega)) _))).laid HLE.out HPC.out).mono ?_; rintro e z3 ⟨rfl, hP3, hT3⟩; have slz3 := (SLz2.out _ (by repeat (with_reducible first | exact Below.refl _ _ | refine Below.drew ?_ | refine Below.alloc ?_ (by first | omega | (simp <;> omega)) _ | refine Below.setCell ?_ (by first | omega | (simp <;> omega)) _))).step hT3 hP3 HLE.out; have ic0z3 : z3.cell? ⟨ib, 0, none⟩ = some (.int .i64 6) := slz3.ic.cell 0 (by decide); have ic1z3 : z3.cell? ⟨ib, 1, none⟩ = some (.int .i64 0) := slz3.ic.cell 1 (by decide); have ic2z3 : z3.cell? ⟨ib, 2, none⟩ = some (.int .i64 1) := slz3.ic.cell 2 (by decide); have ic3z3 : z3.cell? ⟨ib, 3, none⟩ = some (.int .i64 0) := slz3.ic.cell 3 (by decide); have ic4z3 : z3.cell? ⟨ib, 4, none⟩ = some (.int .i64 64) := slz3.ic.cell 4 (by decide); have ziz3 := slz3.ic.here; have zzz3 := slz3.sz; have SLz3 : Hid (∀ y, Below B z3 y → Sl B w y G _ ib) := fun y hy => slz3.below hy; have jc0z3 := hT3.to_cell (c := z1.heap.size + 1) (o := 0) (Nat.lt_of_lt_of_le jzz2 (by simp)) (by omega) ((((Below.refl z2.heap.size z2).alloc (Nat.le_refl _) _).cell (p := ⟨z1.heap.size + 1, 0, none⟩) jzz2).trans jc0z2); have jc1z3 := hT3.to_cell (c := z1.heap.size + 1) (o := 1) (Nat.lt_of_lt_of_le jzz2 (by simp)) (by omega) ((((Below.refl z2.heap.size z2).alloc (Nat.le_refl _) _).cell (p := ⟨z1.heap.size + 1, 1, none⟩) jzz2).trans jc1z2); have jc2z3 := hT3.to_cell (c := z1.heap.size + 1) (o := 2) (Nat.lt_of_lt_of_le jzz2 (by simp)) (by omega) ((((Below.refl z2.heap.size z2).alloc (Nat.le_refl _) _).cell (p := ⟨z1.heap.size + 1, 2, none⟩) jzz2).trans jc2z2); have jc3z3 := hT3.to_cell (c := z1.heap.size + 1) (o := 3) (Nat.lt_of_lt_of_le jzz2 (by simp)) (by omega) ((((Below.refl z2.heap.size z2).alloc (Nat.le_refl _) _).cell (p := ⟨z1.heap.size + 1, 3, none⟩) jzz2).trans jc3z2); have jc4z3 := hT3.to_cell (c := z1.heap.size + 1) (o := 4) (Nat.lt_of_lt_of_le jzz2 (by simp)) (by omega) ((((Below.refl z2.heap.size z2).alloc (Nat.le_refl _) _).cell (p := ⟨z1.heap.size + 1, 4, none⟩) jzz2).trans jc4z2); have jzz3 : z1.heap.size + 1 < z3.heap.size := cell_here jc0z3; have HZ3 := Hid.in (Eq.refl z3.heap.size); clear slz3 hP3 hT3))
                | (go_at_call 11; have HX2 := SLz1; go_loud (refine (g_far G T pc _ HDK.out HMK.out (SLz1.out _ (by repeat (with_reducible first | exact Below.refl _ _ | refine Below.drew ?_ | refine Below.alloc ?_ (by first | omega | (simp <;> omega)) _ | refine Below.setCell ?_ (by first | omega | (simp <;> omega)) _))).pr (SLz1.out _ (by repeat (with_reducible first | exact Below.refl _ _ | refine Below.drew ?_ | refine Below.alloc ?_ (by first | omega | (simp <;> omega)) _ | refine Below.setCell ?_ (by first | omega | (simp <;> omega)) _))).laid HPC.out).mono ?_; rintro e z2 ⟨rfl, hP2, hT2⟩; have slz2 := (SLz1.out _ (by repeat (with_reducible first | exact Below.refl _ _ | refine Below.drew ?_ | refine Below.alloc ?_ (by first | omega | (simp <;> omega)) _ | refine Below.setCell ?_ (by first | omega | (simp <;> omega)) _))).step hT2 hP2 HLE.out; have ic0z2 : z2.cell? ⟨ib, 0, none⟩ = some (.int .i64 6) := slz2.ic.cell 0 (by decide); have ic1z2 : z2.cell? ⟨ib, 1, none⟩ = some (.int .i64 0) := slz2.ic.cell 1 (by decide); have ic2z2 : z2.cell? ⟨ib, 2, none⟩ = some (.int .i64 1) := slz2.ic.cell 2 (by decide); have ic3z2 : z2.cell? ⟨ib, 3, none⟩ = some (.int .i64 0) := slz2.ic.cell 3 (by decide); have ic4z2 : z2.cell? ⟨ib, 4, none⟩ = some (.int .i64 64) := slz2.ic.cell 4 (by decide); have ziz2 := slz2.ic.here; have zzz2 := slz2.sz; have SLz2 : Hid (∀ y, Below B z2 y → Sl B w y G _ ib) := fun y hy => slz2.below hy; have jc0z2 := hT2.to_cell (c := z1.heap.size + 1) (o := 0) (by simp) (by omega) (alloc2_cell z1 _ _ _ 0); have jc1z2 := hT2.to_cell (c := z1.heap.size + 1) (o := 1) (by simp) (by omega) (alloc2_cell z1 _ _ _ 1); have jc2z2 := hT2.to_cell (c := z1.heap.size + 1) (o := 2) (by simp) (by omega) (alloc2_cell z1 _ _ _ 2); have jc3z2 := hT2.to_cell (c := z1.heap.size + 1) (o := 3) (by simp) (by omega) (alloc2_cell z1 _ _ _ 3); have jc4z2 := hT2.to_cell (c := z1.heap.size + 1) (o := 4) (by simp) (by omega) (alloc2_cell z1 _ _ _ 4); have jzz2 : z1.heap.size + 1 < z2.heap.size := cell_here jc0z2; clear slz2 hP2 hT2))
                | (go_at_call 11; refine (g_bne G T pc _ HDK.out HMK.out (SLwr.out _ (by repeat (with_reducible first | exact Below.refl _ _ | refine Below.drew ?_ | refine Below.alloc ?_ (by first | omega | (simp <;> omega)) _ | refine Below.setCell ?_ (by first | omega | (simp <;> omega)) _))).pr (SLwr.out _ (by repeat (with_reducible first | exact Below.refl _ _ | refine Below.drew ?_ | refine Below.alloc ?_ (by first | omega | (simp <;> omega)) _ | refine Below.setCell ?_ (by first | omega | (simp <;> omega)) _))).laid HPC.out).mono ?_; rintro e z1 ⟨he, hP1, hT1⟩; rw [HBV.out] at he; subst he; have slz1 : Sl B w z1 G T ib := (SLwr.out _ (by repeat (with_reducible first | exact Below.refl _ _ | refine Below.drew ?_ | refine Below.alloc ?_ (by first | omega | (simp <;> omega)) _ | refine Below.setCell ?_ (by first | omega | (simp <;> omega)) _))).step hT1 hP1 HLE.out; have ic0z1 : z1.cell? ⟨ib, 0, none⟩ = some (.int .i64 6) := slz1.ic.cell 0 (by decide); have ic1z1 : z1.cell? ⟨ib, 1, none⟩ = some (.int .i64 0) := slz1.ic.cell 1 (by decide); have ic2z1 : z1.cell? ⟨ib, 2, none⟩ = some (.int .i64 1) := slz1.ic.cell 2 (by decide); have ic3z1 : z1.cell? ⟨ib, 3, none⟩ = some (.int .i64 0) := slz1.ic.cell 3 (by decide); have ic4z1 : z1.cell? ⟨ib, 4, none⟩ = some (.int .i64 64) := slz1.ic.cell 4 (by decide); have ziz1 := slz1.ic.here; have zzz1 := slz1.sz; have SLz1 : Hid (∀ y, Below B z1 y → Sl B w y G _ ib) := fun y hy => slz1.below hy; clear slz1 hP1 hT1))
              go_ret
              exact ⟨rfl, by first | exact HE.out.alloc HE.out.size _ | exact HE.out⟩
end Go.Proofs.YtaioaakaffafoaaDoor
