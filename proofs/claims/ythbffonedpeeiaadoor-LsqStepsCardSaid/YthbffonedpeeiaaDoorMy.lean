/-
  LSQ: Squash.
-/
import Derived.Test.YthbffonedpeeiaaDoorMx
namespace Go.Proofs.YthbffonedpeeiaaDoor
open Go Go.RowKit
def QS.squ (S : QS) (af : Int) (i : Nat) : Bool := decide (af < (S.at i).n) && !(S.at i).rt
def QS.cut (S : QS) (i : Nat) : QS := ⟨S.size, S.on.take i⟩
theorem QS.cut_len (S : QS) (i : Nat) (h : i ≤ S.on.length) : (S.cut i).on.length = i := by
  unfold QS.cut
  rw [List.length_take]
  omega
theorem QS.at_cut (S : QS) (i j : Nat) (h : j < i) : (S.cut i).at j = S.at j := by
  unfold QS.cut QS.at
  rw [List.getD_eq_getElem?_getD, List.getElem?_take, if_pos h, List.getD_eq_getElem?_getD]
set_option maxRecDepth 100000 in
set_option maxHeartbeats 2000000 in
theorem squash_any (B p : Nat) (v : Value) (S : QS) (af : Int) (i : Nat) (w : World) (k : Qm w B p v S) (hi : i ≤ S.on.length) (h1 : ∀ j, j < i → S.squ af j = false) (h2 : ∀ j, i ≤ j → j < S.on.length → S.squ af j = true) : Calls Tryd.prog 27 #[.pointer (some ⟨p, 0, none⟩), .int .i64 af] w fun e w' => e = .returned (.tuple #[]) ∧ ∃ v', Step w w' B p v S v' (S.cut i) := by
  obtain ⟨X, hX, q, hb, hs⟩ := boxed1 (.int .i64 af) w 3
  have kX := k.below hb
  have hE : ∀ args w, (callFunc 63 args).run Tryd.prog w = .ok (.enter 63 args) w := fun args w => enters_of Tryd.func63 (by kernel_rfl) rfl args w
  have hcl : ∀ i, i < S.on.length → ∀ y, Below X.heap.size X y → Calls Tryd.prog 63 (#[.agg (S.on.getD i a0).vs.toArray] ++ #[.pointer (some ⟨w.heap.size, 0, none⟩)]) y fun e z => e = .returned (.bool (S.squ af i)) ∧ Below y.heap.size y z := fun i hi y hy => squashW (S.at i) w.heap.size af y ((hy.cell (p := ⟨w.heap.size, 0, none⟩) (cell_here q)).trans q)
  have hs32 := k.small.1
  obtain ⟨hp, -, c1, f1⟩ := kX.cells
  have HX := Hid.in hX
  have HB := Hid.in hb
  have HK := Hid.in k
  have HKX := Hid.in kX
  have hclen := S.cut_len i hi
  by_cases hil : i = S.on.length
  · have hd := deleteF_none B v S.on 63 #[.pointer (some ⟨w.heap.size, 0, none⟩)] (S.squ af) X hE kX.l hs32 hcl (fun j hj => h1 j (by omega))
    obtain ⟨qq, cap, hv, -, -⟩ := own_row kX.l
    have HV := Hid.in hv
    rw [hv] at c1 hd
    have HD := Hid.in hd
    clear k kX hX hb q hE hcl h1 h2 hv hd
    go_enter Tryd.func27, Tryd.ntmps27
    go_upto_region 1 with fail
    rw [HX.out]
    go_wp2_with (first
      | (refine HD.out.mono ?_
         rintro e w2 ⟨rfl, hb2⟩
         have k2 := HKX.out.below hb2
         have c2 := k2.cells.2.2.1
         have f2 := k2.cells.2.2.2
         have HB2 := Hid.in hb2
         clear hb2 k2))
    refine bodyPost_end (results_none Tryd.results27 _ _ _) rfl ⟨rfl, v, ?_⟩
    have k2 := HKX.out.below HB2.out
    have hcut : S.cut i = S := by
      unfold QS.cut
      rw [hil, List.take_length]
    rw [hcut, ← HV.out]
    exact (Step.same HK.out (below2 HB.out HB2.out)).trans (k2.part rfl id (fun j hj => ⟨hj, rfl⟩) (fun a b _ _ h => h) k2.l (Nat.le_refl _) rfl (Turned.refl _ _))
  · have hil2 : i < S.on.length := by omega
    obtain ⟨g, cap, hv, hpg, -⟩ := kX.rows i hil2
    have lX := kX.l
    rw [hv] at c1 lX
    have hd := deleteF_some B g cap i S.on 63 #[.pointer (some ⟨w.heap.size, 0, none⟩)] (S.squ af) X hE lX hs32 hcl hil2 h1 h2
    have HD := Hid.in hd
    have HV := Hid.in hv
    have hgb : ¬ (fun j => j = g) p := hpg
    clear k kX hX hb q hE hcl h1 h2 hv hd lX
    go_enter Tryd.func27, Tryd.ntmps27
    go_upto_region 1 with fail
    rw [HX.out]
    go_wp2_with (first
      | (refine HD.out.mono ?_
         rintro e w2 ⟨rfl, o2, t2⟩
         have c2 := t2.to_cell HKX.out.c.here hgb HKX.out.cells.2.2.1
         have f2 : w2.frozen? ⟨p, 1, none⟩ = false := (World.frozen?_of_block (t2.block p HKX.out.c.here hgb)).trans HKX.out.cells.2.2.2
         have HO2 := Hid.in o2
         have HT2 := Hid.in t2
         clear o2 t2))
    refine bodyPost_end (results_none Tryd.results27 _ _ _) rfl ⟨rfl, .slice (some ⟨g, 0, none⟩) i cap, ?_⟩
    refine (Step.same HK.out HB.out).trans (HKX.out.part rfl id (fun j hj => ⟨by show j < _; omega, S.at_cut i j (by omega)⟩) (fun a b _ _ h => h) ?_ (by omega) (by rw [HV.out]; rfl) (HT2.out.mono (fun j e => by rw [HV.out, e]; rfl)))
    rw [hclen]
    exact HO2.out
end Go.Proofs.YthbffonedpeeiaaDoor
