import Derived.Test.YtemamhkhjijdlaaGreatDoorY32
import Derived.Test.YtemamhkhjijdlaaGreatDoorY26
/-
  CORE: what is fetched, and whether there is room for it.
-/
namespace Go.Proofs.YtemamhkhjijdlaaGreatDoor
open Go Go.RowKit
theorem flt_new (pc : Int) : ∀ i, i < 27 → (#[.int .i64 0, .int .u32 pc, .bool false, .int .i64 0, .int .i64 0, .int .i64 0, .int .i64 0, .int .i64 0, .int .i64 0, .int .u32 0, .int .i64 0, .int .i64 0, .int .u32 0, .int .i64 0, .int .i64 0, .int .i64 0, .int .i64 0, .int .i64 0, .int .i64 0, .int .u32 0, .bool false, .int .u32 0, .int .u32 0, .bool false, .int .u32 0, .bool false, .bool false] : Array Value)[i]? = some (Flt.at ⟨0, pc, false, 0, 0, 0, 0, 0, 0, 0, 0, 0, 0, 0, 0, 0, 0, 0, 0⟩ i) := fun i hi =>
  range_of 27 (fun i => (#[.int .i64 0, .int .u32 pc, .bool false, .int .i64 0, .int .i64 0, .int .i64 0, .int .i64 0, .int .i64 0, .int .i64 0, .int .u32 0, .int .i64 0, .int .i64 0, .int .u32 0, .int .i64 0, .int .i64 0, .int .i64 0, .int .i64 0, .int .i64 0, .int .i64 0, .int .u32 0, .bool false, .int .u32 0, .int .u32 0, .bool false, .int .u32 0, .bool false, .bool false] : Array Value)[i]?) (fun i => some (Flt.at ⟨0, pc, false, 0, 0, 0, 0, 0, 0, 0, 0, 0, 0, 0, 0, 0, 0, 0, 0⟩ i)) (by kernel_rfl) i hi
section
variable {x y : World} {S : FS}
theorem fclass (h : St x S) (op : Int) (ho : op = 59 ∨ op = 0) : Calls Tryz.prog 158 #[.int .i64 op] x fun e w' => e = .returned (.int .i64 7) ∧ Below x.heap.size x w' := by
  rcases ho with e | e <;> rw [e] <;> exact classOf_any _ _ rfl x h.tabs
set_option maxRecDepth 100000 in
set_option maxHeartbeats 4000000 in
theorem ffetch0 (h : St x S) (j : Nat) : Calls Tryz.prog 88 #[.pointer (some ⟨S.p, 0, none⟩), .int .u32 0] x fun e y => ∃ fb, e = .returned (.pointer (some ⟨fb, 0, none⟩)) ∧ St y { S with ext := upd S.ext j (CelC fb 27 (flt 0 true 59).at) } := by
  have H0 := Hid.in h
  clear h
  go_enter Tryz.func88, Tryz.ntmps88
  go_upto_region 2 with (go_at_call 157; go_must (refine (fillegal _).mono ?_; rintro e y ⟨rfl, hb⟩; have HB := Hid.in hb; clear hb))
  obtain ⟨Z, hZ⟩ : ∃ Z, y.alloc (.cells #[.int .i64 0, .int .u32 0, .bool false, .int .i64 0, .int .i64 0, .int .i64 0, .int .i64 0, .int .i64 0, .int .i64 0, .int .u32 0, .int .i64 0, .int .i64 0, .int .u32 0, .int .i64 0, .int .i64 0, .int .i64 0, .int .i64 0, .int .i64 0, .int .i64 0, .int .u32 0, .bool false, .int .u32 0, .int .u32 0, .bool false, .int .u32 0, .bool false, .bool false] 227) = Z := ⟨_, rfl⟩
  obtain ⟨fb, hfb⟩ : ∃ fb, y.heap.size = fb := ⟨_, rfl⟩
  have k0 := (H0.out.below HB.out).newExt (t := 227) j (Flt.at ⟨0, 0, false, 0, 0, 0, 0, 0, 0, 0, 0, 0, 0, 0, 0, 0, 0, 0, 0⟩) hfb (flt_new 0)
  rw [hZ] at k0
  rw [hZ, hfb]
  have c22 : Z.cell? ⟨S.p, 22, none⟩ = some (.slice (some ⟨S.cb, 0, none⟩) 1 1) := k0.core.cell 22 (by decide)
  have h3 : S.p < Z.heap.size := k0.core.here
  have kz := k0.extc (k := j) (b := fb) (n := 27) (f := Flt.at ⟨0, 0, false, 0, 0, 0, 0, 0, 0, 0, 0, 0, 0, 0, 0, 0, 0, 0, 0⟩) (upd_same _ _ _)
  have hz := kz.here
  have gz := kz.free
  have z2 : Z.cell? ⟨fb, 2, none⟩ = some (.bool false) := kz.cell 2 (by decide)
  have z3 : Z.cell? ⟨fb, 3, none⟩ = some (.int .i64 0) := kz.cell 3 (by decide)
  have z4 : Z.cell? ⟨fb, 4, none⟩ = some (.int .i64 0) := kz.cell 4 (by decide)
  have z5 : Z.cell? ⟨fb, 5, none⟩ = some (.int .i64 0) := kz.cell 5 (by decide)
  have z6 : Z.cell? ⟨fb, 6, none⟩ = some (.int .i64 0) := kz.cell 6 (by decide)
  have z7 : Z.cell? ⟨fb, 7, none⟩ = some (.int .i64 0) := kz.cell 7 (by decide)
  have b0 : Z.cell? ⟨S.cb, 0, none⟩ = some (.int .i64 59) := k0.code.cell 0 (by decide)
  have b1 : Z.cell? ⟨S.cb, 1, none⟩ = some (.int .i64 0) := k0.code.cell 1 (by decide)
  have b2 : Z.cell? ⟨S.cb, 2, none⟩ = some (.int .i64 0) := k0.code.cell 2 (by decide)
  have b3 : Z.cell? ⟨S.cb, 3, none⟩ = some (.int .i64 0) := k0.code.cell 3 (by decide)
  have b4 : Z.cell? ⟨S.cb, 4, none⟩ = some (.int .i64 0) := k0.code.cell 4 (by decide)
  have hb' : S.cb < Z.heap.size := k0.code.here
  obtain ⟨V, hV⟩ : ∃ V, (((((Z.setCell ⟨fb, 2, none⟩ (.bool true)).setCell ⟨fb, 3, none⟩ (.int .i64 59)).setCell ⟨fb, 4, none⟩ (.int .i64 0)).setCell ⟨fb, 5, none⟩ (.int .i64 0)).setCell ⟨fb, 6, none⟩ (.int .i64 0)).setCell ⟨fb, 7, none⟩ (.int .i64 0) = V := ⟨_, rfl⟩
  have tV : Turned (fun z => z = fb) Z V := by
    rw [← hV]
    exact ((((((Turned.refl (fun z => z = fb) Z).set (b := fb) rfl _ _).set (b := fb) rfl _ _).set (b := fb) rfl _ _).set (b := fb) rfl _ _).set (b := fb) rfl _ _).set (b := fb) rfl _ _
  have kV : CellsAt 27 V fb (Flt.at ⟨0, 0, true, 59, 0, 0, 0, 0, 0, 0, 0, 0, 0, 0, 0, 0, 0, 0, 0⟩) := by
    rw [← hV]
    exact ((((((kz.set 2 (by decide) _).set 3 (by decide) _).set 4 (by decide) _).set 5 (by decide) _).set 6 (by decide) _).set 7 (by decide) _).ext (fun i hi => range_of 27 (fun i => upd (upd (upd (upd (upd (upd (Flt.at ⟨0, 0, false, 0, 0, 0, 0, 0, 0, 0, 0, 0, 0, 0, 0, 0, 0, 0, 0⟩) 2 (.bool true)) 3 (.int .i64 59)) 4 (.int .i64 0)) 5 (.int .i64 0)) 6 (.int .i64 0)) 7 (.int .i64 0) i) (Flt.at ⟨0, 0, true, 59, 0, 0, 0, 0, 0, 0, 0, 0, 0, 0, 0, 0, 0, 0, 0⟩) (by kernel_rfl) i hi)
  have k1 := k0.swapExt (k := j) (b := fb) (n := 27) (f := Flt.at ⟨0, 0, false, 0, 0, 0, 0, 0, 0, 0, 0, 0, 0, 0, 0, 0, 0, 0, 0⟩) (Flt.at ⟨0, 0, true, 59, 0, 0, 0, 0, 0, 0, 0, 0, 0, 0, 0, 0, 0, 0, 0⟩) (upd_same _ _ _) tV kV
  simp only [upd_twice] at k1
  have ne1 : S.p ≠ fb := k0.ne (k := j) (b := fb) (n := 27) (f := Flt.at ⟨0, 0, false, 0, 0, 0, 0, 0, 0, 0, 0, 0, 0, 0, 0, 0, 0, 0, 0⟩) (upd_same _ _ _)
  have HK := Hid.in k1
  have v3 : V.cell? ⟨fb, 3, none⟩ = some (.int .i64 59) := kV.cell 3 (by decide)
  have hv := kV.here
  clear k0 k1 kz hZ tV kV
  go_upto_region 5 with fail
  try rw [hV]
  clear hV z2 z3 z4 z5 z6 z7 b0 b1 b2 b3 b4 gz c22
  have HC := Hid.in (fclass HK.out 59 (by decide))
  go_upto_region 6 with (go_at_call 158; go_must (refine HC.out.mono ?_; rintro e u ⟨rfl, hb⟩; have HU := Hid.in (HK.out.below hb); clear hb; have ku := HU.out.extc (k := j) (b := fb) (n := 27) (f := Flt.at ⟨0, 0, true, 59, 0, 0, 0, 0, 0, 0, 0, 0, 0, 0, 0, 0, 0, 0, 0⟩) (upd_same _ _ _); have u8 : u.cell? ⟨fb, 8, none⟩ = some (.int .i64 0) := ku.cell 8 (by decide); have ug := ku.free 8; have uh := ku.here; clear ku))
  have k2 := HU.out.onFlt (j := j) (fb := fb) (o := 8) (v := .int .i64 7) (f := ⟨0, 0, true, 59, 0, 0, 0, 0, 0, 0, 0, 0, 0, 0, 0, 0, 0, 0, 0⟩) (f' := flt 0 true 59) (upd_same _ _ _) (by decide) (flt_cls ⟨0, 0, true, 59, 0, 0, 0, 0, 0, 0, 0, 0, 0, 0, 0, 0, 0, 0, 0⟩ 7)
  simp only [upd_twice] at k2
  have HK2 := Hid.in k2
  clear k2
  go_wp2_with fail
  go_ret
  exact ⟨fb, rfl, HK2.out⟩
set_option maxRecDepth 100000 in
set_option maxHeartbeats 4000000 in
theorem ffetch1 (h : St x S) (j : Nat) : Calls Tryz.prog 88 #[.pointer (some ⟨S.p, 0, none⟩), .int .u32 4] x fun e y => ∃ fb, e = .returned (.pointer (some ⟨fb, 0, none⟩)) ∧ St y { S with ext := upd S.ext j (CelC fb 27 (flt 4 false 0).at) } := by
  have H0 := Hid.in h
  clear h
  go_enter Tryz.func88, Tryz.ntmps88
  go_upto_region 2 with (go_at_call 157; go_must (refine (fillegal _).mono ?_; rintro e y ⟨rfl, hb⟩; have HB := Hid.in hb; clear hb))
  obtain ⟨Z, hZ⟩ : ∃ Z, y.alloc (.cells #[.int .i64 0, .int .u32 4, .bool false, .int .i64 0, .int .i64 0, .int .i64 0, .int .i64 0, .int .i64 0, .int .i64 0, .int .u32 0, .int .i64 0, .int .i64 0, .int .u32 0, .int .i64 0, .int .i64 0, .int .i64 0, .int .i64 0, .int .i64 0, .int .i64 0, .int .u32 0, .bool false, .int .u32 0, .int .u32 0, .bool false, .int .u32 0, .bool false, .bool false] 227) = Z := ⟨_, rfl⟩
  obtain ⟨fb, hfb⟩ : ∃ fb, y.heap.size = fb := ⟨_, rfl⟩
  have k0 := (H0.out.below HB.out).newExt (t := 227) j (Flt.at ⟨0, 4, false, 0, 0, 0, 0, 0, 0, 0, 0, 0, 0, 0, 0, 0, 0, 0, 0⟩) hfb (flt_new 4)
  rw [hZ] at k0
  rw [hZ, hfb]
  have c22 : Z.cell? ⟨S.p, 22, none⟩ = some (.slice (some ⟨S.cb, 0, none⟩) 1 1) := k0.core.cell 22 (by decide)
  have h3 : S.p < Z.heap.size := k0.core.here
  have kz := k0.extc (k := j) (b := fb) (n := 27) (f := Flt.at ⟨0, 4, false, 0, 0, 0, 0, 0, 0, 0, 0, 0, 0, 0, 0, 0, 0, 0, 0⟩) (upd_same _ _ _)
  have hz := kz.here
  have gz := kz.free
  have HK := Hid.in k0
  have v3 : Z.cell? ⟨fb, 3, none⟩ = some (.int .i64 0) := kz.cell 3 (by decide)
  clear k0 kz hZ gz
  go_upto_region 5 with fail
  clear c22
  have HC := Hid.in (fclass HK.out 0 (by decide))
  go_upto_region 6 with (go_at_call 158; go_must (refine HC.out.mono ?_; rintro e u ⟨rfl, hb⟩; have HU := Hid.in (HK.out.below hb); clear hb; have ku := HU.out.extc (k := j) (b := fb) (n := 27) (f := Flt.at ⟨0, 4, false, 0, 0, 0, 0, 0, 0, 0, 0, 0, 0, 0, 0, 0, 0, 0, 0⟩) (upd_same _ _ _); have u8 : u.cell? ⟨fb, 8, none⟩ = some (.int .i64 0) := ku.cell 8 (by decide); have ug := ku.free 8; have uh := ku.here; clear ku))
  have k2 := HU.out.onFlt (j := j) (fb := fb) (o := 8) (v := .int .i64 7) (f := ⟨0, 4, false, 0, 0, 0, 0, 0, 0, 0, 0, 0, 0, 0, 0, 0, 0, 0, 0⟩) (f' := flt 4 false 0) (upd_same _ _ _) (by decide) (flt_cls ⟨0, 4, false, 0, 0, 0, 0, 0, 0, 0, 0, 0, 0, 0, 0, 0, 0, 0, 0⟩ 7)
  simp only [upd_twice] at k2
  have HK2 := Hid.in k2
  clear k2
  go_wp2_with fail
  go_ret
  exact ⟨fb, rfl, HK2.out⟩
set_option maxRecDepth 100000 in
set_option maxHeartbeats 4000000 in
theorem ffetch2 (h : St x S) (j : Nat) : Calls Tryz.prog 88 #[.pointer (some ⟨S.p, 0, none⟩), .int .u32 8] x fun e y => ∃ fb, e = .returned (.pointer (some ⟨fb, 0, none⟩)) ∧ St y { S with ext := upd S.ext j (CelC fb 27 (flt 8 false 0).at) } := by
  have H0 := Hid.in h
  clear h
  go_enter Tryz.func88, Tryz.ntmps88
  go_upto_region 2 with (go_at_call 157; go_must (refine (fillegal _).mono ?_; rintro e y ⟨rfl, hb⟩; have HB := Hid.in hb; clear hb))
  obtain ⟨Z, hZ⟩ : ∃ Z, y.alloc (.cells #[.int .i64 0, .int .u32 8, .bool false, .int .i64 0, .int .i64 0, .int .i64 0, .int .i64 0, .int .i64 0, .int .i64 0, .int .u32 0, .int .i64 0, .int .i64 0, .int .u32 0, .int .i64 0, .int .i64 0, .int .i64 0, .int .i64 0, .int .i64 0, .int .i64 0, .int .u32 0, .bool false, .int .u32 0, .int .u32 0, .bool false, .int .u32 0, .bool false, .bool false] 227) = Z := ⟨_, rfl⟩
  obtain ⟨fb, hfb⟩ : ∃ fb, y.heap.size = fb := ⟨_, rfl⟩
  have k0 := (H0.out.below HB.out).newExt (t := 227) j (Flt.at ⟨0, 8, false, 0, 0, 0, 0, 0, 0, 0, 0, 0, 0, 0, 0, 0, 0, 0, 0⟩) hfb (flt_new 8)
  rw [hZ] at k0
  rw [hZ, hfb]
  have c22 : Z.cell? ⟨S.p, 22, none⟩ = some (.slice (some ⟨S.cb, 0, none⟩) 1 1) := k0.core.cell 22 (by decide)
  have h3 : S.p < Z.heap.size := k0.core.here
  have kz := k0.extc (k := j) (b := fb) (n := 27) (f := Flt.at ⟨0, 8, false, 0, 0, 0, 0, 0, 0, 0, 0, 0, 0, 0, 0, 0, 0, 0, 0⟩) (upd_same _ _ _)
  have hz := kz.here
  have gz := kz.free
  have HK := Hid.in k0
  have v3 : Z.cell? ⟨fb, 3, none⟩ = some (.int .i64 0) := kz.cell 3 (by decide)
  clear k0 kz hZ gz
  go_upto_region 5 with fail
  clear c22
  have HC := Hid.in (fclass HK.out 0 (by decide))
  go_upto_region 6 with (go_at_call 158; go_must (refine HC.out.mono ?_; rintro e u ⟨rfl, hb⟩; have HU := Hid.in (HK.out.below hb); clear hb; have ku := HU.out.extc (k := j) (b := fb) (n := 27) (f := Flt.at ⟨0, 8, false, 0, 0, 0, 0, 0, 0, 0, 0, 0, 0, 0, 0, 0, 0, 0, 0⟩) (upd_same _ _ _); have u8 : u.cell? ⟨fb, 8, none⟩ = some (.int .i64 0) := ku.cell 8 (by decide); have ug := ku.free 8; have uh := ku.here; clear ku))
  have k2 := HU.out.onFlt (j := j) (fb := fb) (o := 8) (v := .int .i64 7) (f := ⟨0, 8, false, 0, 0, 0, 0, 0, 0, 0, 0, 0, 0, 0, 0, 0, 0, 0, 0⟩) (f' := flt 8 false 0) (upd_same _ _ _) (by decide) (flt_cls ⟨0, 8, false, 0, 0, 0, 0, 0, 0, 0, 0, 0, 0, 0, 0, 0, 0, 0, 0⟩ 7)
  simp only [upd_twice] at k2
  have HK2 := Hid.in k2
  clear k2
  go_wp2_with fail
  go_ret
  exact ⟨fb, rfl, HK2.out⟩
theorem fpast0 (h : St x S) (hw : S.way = .slice none 0 0) : Calls Tryz.prog 89 #[.pointer (some ⟨S.p, 0, none⟩)] x fun e y => e = .returned (.bool false) ∧ St y S := by
  have c : x.cell? ⟨S.p, 151, none⟩ = some (.slice none 0 0) := (h.core.cell 151 (by decide)).trans (congrArg some hw)
  have h3 := h.core.here
  have HS := Hid.in h
  clear h
  go_enter Tryz.func89, Tryz.ntmps89
  go_upto_region 1 with fail
  go_quiet (fail)
  go_wp2_with fail
  go_ret
  exact ⟨rfl, HS.out.drewN nq⟩
theorem fpast1 (h : St x S) {wb cap B j fb : Nat} {l : List Value} {f : Flt} (hr : S.ext 0 = RowC B 221 1 (.slice (some ⟨wb, 0, none⟩) 1 cap) 1 l) (hw : S.way = .slice (some ⟨wb, 0, none⟩) 1 cap) (hl : l[0]? = some (.pointer (some ⟨fb, 0, none⟩))) (hf : S.ext j = CelC fb 27 f.at) : Calls Tryz.prog 89 #[.pointer (some ⟨S.p, 0, none⟩)] x fun e y => e = .returned (.bool (!f.code)) ∧ St y S := by
  have c : x.cell? ⟨S.p, 151, none⟩ = some (.slice (some ⟨wb, 0, none⟩) 1 cap) := (h.core.cell 151 (by decide)).trans (congrArg some hw)
  have h3 := h.core.here
  have kr := own_cell1 (h.rowc hr)
  have r1 : x.cell? ⟨wb, 0, none⟩ = some (.pointer (some ⟨fb, 0, none⟩)) := kr.2.2 0 _ hl
  have r2 := kr.2.1
  have f2 : x.cell? ⟨fb, 2, none⟩ = some (.bool f.code) := (h.extc hf).cell 2 (by decide)
  have h4 := (h.extc hf).here
  have HS := Hid.in h
  clear h kr hr hf
  go_enter Tryz.func89, Tryz.ntmps89
  go_upto_region 1 with fail
  go_quiet (fail)
  go_wp2_with fail
  go_ret
  exact ⟨rfl, HS.out.drewN nq⟩
theorem fpast2 (h : St x S) {wb cap B j fb : Nat} {l : List Value} {f : Flt} (hr : S.ext 0 = RowC B 221 1 (.slice (some ⟨wb, 0, none⟩) 2 cap) 2 l) (hw : S.way = .slice (some ⟨wb, 0, none⟩) 2 cap) (hl : l[1]? = some (.pointer (some ⟨fb, 0, none⟩))) (hf : S.ext j = CelC fb 27 f.at) : Calls Tryz.prog 89 #[.pointer (some ⟨S.p, 0, none⟩)] x fun e y => e = .returned (.bool (!f.code)) ∧ St y S := by
  have c : x.cell? ⟨S.p, 151, none⟩ = some (.slice (some ⟨wb, 0, none⟩) 2 cap) := (h.core.cell 151 (by decide)).trans (congrArg some hw)
  have h3 := h.core.here
  have kr := own_cell1 (h.rowc hr)
  have r1 : x.cell? ⟨wb, 1, none⟩ = some (.pointer (some ⟨fb, 0, none⟩)) := kr.2.2 1 _ hl
  have r2 := kr.2.1
  have f2 : x.cell? ⟨fb, 2, none⟩ = some (.bool f.code) := (h.extc hf).cell 2 (by decide)
  have h4 := (h.extc hf).here
  have HS := Hid.in h
  clear h kr hr hf
  go_enter Tryz.func89, Tryz.ntmps89
  go_upto_region 1 with fail
  go_quiet (fail)
  go_wp2_with fail
  go_ret
  exact ⟨rfl, HS.out.drewN nq⟩
end
end Go.Proofs.YtemamhkhjijdlaaGreatDoor
/-
  CORE: room.
-/
namespace Go.Proofs.YtemamhkhjijdlaaGreatDoor
open Go Go.RowKit
section
variable {x y : World} {S : FS}
set_option maxRecDepth 100000 in
set_option maxHeartbeats 4000000 in
theorem froom (h : St x S) {j fb : Nat} {f : Flt} (hf : S.ext j = CelC fb 27 f.at) (hc : f.cls = 7) (ho : f.op = 59 ∨ f.op = 0) (hn : (S.ws.on.length : Int) < S.cf.window) : Calls Tryz.prog 90 #[.pointer (some ⟨S.p, 0, none⟩), .pointer (some ⟨fb, 0, none⟩)] x fun e y => e = .returned (.bool true) ∧ St y S := by
  have c3 : x.cell? ⟨S.p, 3, none⟩ = some (.pointer (some ⟨S.wp, 0, none⟩)) := h.core.cell 3 (by decide)
  have c8 : x.cell? ⟨S.p, 8, none⟩ = some (.int .i64 S.cf.window) := h.core.cell 8 (by decide)
  have h3 := h.core.here
  have HF := Hid.in hf
  have HC := Hid.in hc
  have HO := Hid.in ho
  have hn' : decide (S.cf.window ≤ (S.ws.on.length : Int)) = false := by simp; omega
  have HL : Hid (Calls Tryz.prog 159 #[.pointer (some ⟨S.wp, 0, none⟩)] x.drew fun e y => e = .returned (.int .i64 S.ws.on.length) ∧ (y.cell? ⟨S.p, 3, none⟩ = some (.pointer (some ⟨S.wp, 0, none⟩)) ∧ y.cell? ⟨S.p, 8, none⟩ = some (.int .i64 S.cf.window) ∧ S.p < y.heap.size) ∧ St y S) := Hid.in (by
    refine (h.drew.onWin (v := S.ws) (fun F k => wlen k)).mono ?_
    rintro e y ⟨rfl, hs⟩
    exact ⟨rfl, ⟨hs.core.cell 3 (by decide), hs.core.cell 8 (by decide), hs.core.here⟩, hs⟩)
  clear h hf hc ho
  go_enter Tryz.func90, Tryz.ntmps90
  go_upto_region 1 with fail
  go_region_held3 (fun w' => w'.cell? ⟨S.p, 3, none⟩ = some (.pointer (some ⟨S.wp, 0, none⟩)) ∧ w'.cell? ⟨S.p, 8, none⟩ = some (.int .i64 S.cf.window)) (go_keep) (first
    | (go_at_call 159; refine HL.out.mono ?_; rintro e y ⟨rfl, ⟨e1, e2, e3⟩, hs⟩; have HY := Hid.in hs; clear hs))
  go_upto_region 3 with fail
  go_quiet (first | (go_at_call 160; refine Calls.quiet_of_same (faccess (HY.out.drewN _) HF.out HC.out)))
  go_upto_region 5 with fail
  have HW := Hid.in (fwrites (HY.out.drewN nq) HF.out HO.out)
  go_wp2_with (go_at_call 162; go_must (refine HW.out.mono ?_; rintro e v ⟨rfl, hs⟩; have HV := Hid.in hs; clear hs))
  go_ret
  exact ⟨rfl, HV.out⟩
end
end Go.Proofs.YtemamhkhjijdlaaGreatDoor
/-
  CORE: one is taken in.
-/
namespace Go.Proofs.YtemamhkhjijdlaaGreatDoor
open Go Go.RowKit
section
variable {x y : World} {S : FS}
/-- a flight, as it is on its way -/
def fly (seq pc : Int) (code : Bool) (op : Int) (ps : PS) : Flt := ⟨seq, pc, code, op, 0, 0, 0, 0, 7, pc + 4, ps.hist, ps.top, ps.stack ps.top, -1, -1, -1, 0, 0, 0⟩
theorem fguess (h : St x S) (op pc : Int) (ho : op = 59 ∨ op = 0) (hp : pc = 0 ∨ pc = 4) : Calls Tryz.prog 164 #[.pointer (some ⟨S.G.p, 0, none⟩), .int .u32 pc, .agg #[.int .i64 op, .int .i64 0, .int .i64 0, .int .i64 0, .int .i64 0]] x fun e y => e = .returned (.tuple #[.int .u32 (pc + 4), .agg #[.int .i64 S.ps.hist, .int .i64 S.ps.top, .int .u32 (S.ps.stack S.ps.top)]]) ∧ St y S := by
  have hb : brB op = false := by rcases ho with e | e <;> rw [e] <;> rfl
  have hg : goS S.G S.ps op 0 0 pc false = S.ps := by rcases ho with e | e <;> rw [e] <;> rfl
  have hn : nextV S.G S.ps op 0 0 0 pc false = pc + 4 := by
    rcases ho with e | e <;> rcases hp with q | q <;> rw [e, q] <;> rfl
  refine (h.onPrd (fun F k => pguess k op 0 0 0 0 pc h.tabs (by omega) hb)).mono ?_
  rintro e y ⟨rfl, hs⟩
  rw [hn]
  rw [hg] at hs
  exact ⟨rfl, hs⟩
theorem St.swapRow (h : St x S) {k B sz n n' : Nat} {e : TypeId} {v v' : Value} {l l' : List Value} (hk : S.ext k = RowC B e sz v n l) (t : Turned (fun z => v.ownBlock = some z) x y) (ho : y.ownsRow B e sz v' n' l') (hv : v'.ownBlock = v.ownBlock ∨ ∃ j, v'.ownBlock = some j ∧ x.heap.size ≤ j) : St y { S with ext := upd S.ext k (RowC B e sz v' n' l') } := by
  obtain ⟨own, q⟩ := h.side
  have hb := q (k + 10)
  rw [show S.C (k + 10) = S.ext k from rfl, hk] at hb
  have t' : Turned (fun z => ¬ Othr own x (k + 10) z) x y := t.mono (fun z e q => (hb.2 z q).2 e)
  have hD : ({ S with ext := upd S.ext k (RowC B e sz v' n' l') } : FS).C (k + 10) = RowC B e sz v' n' l' := upd_same _ _ _
  refine ⟨⟨nextO own x (k + 10), Side.went (k + 10) h.comp q (by rw [hD]; exact rowC_comp _ _ _ _ _ _) (onlyE S k _) ?_ t'⟩, fun i => ?_, h.laid⟩
  · rw [hD]
    refine ⟨ho, fun z hz => ⟨Nat.lt_of_lt_of_le (hb.2 z hz).1 t.size, fun e => ?_⟩⟩
    rcases hv with hv | ⟨i, hv, hi⟩
    · rw [hv] at e
      exact (hb.2 z hz).2 e
    · rw [hv] at e
      have := (hb.2 z hz).1
      have e := Option.some.inj e
      omega
  · by_cases q : i = k
    · subst q
      show Comp (upd S.ext i (RowC B e sz v' n' l') i)
      rw [upd_same]
      exact rowC_comp _ _ _ _ _ _
    · show Comp (upd S.ext k (RowC B e sz v' n' l') i)
      rw [upd_other _ _ _ _ q]
      exact h.ext i
theorem fenter (h : St x S) {j fb : Nat} {f : Flt} (hf : S.ext j = CelC fb 27 f.at) (h8 : f.cls = 7) (h13 : f.s1 = -1) (h14 : f.s2 = -1) (h15 : f.d = -1) (hon : S.ws.on.length < S.ws.size) (hnx : S.ws.next ≤ 10) : Calls Tryz.prog 166 #[.pointer (some ⟨S.wp, 0, none⟩), .agg #[.int .i64 7, .int .i64 (-1), .int .i64 (-1), .int .i64 (-1)]] x.drew fun e y => e = .returned (.tuple #[.int .i64 S.ws.next, .nilIface]) ∧ (y.cell? ⟨S.p, 3, none⟩ = some (.pointer (some ⟨S.wp, 0, none⟩)) ∧ y.cell? ⟨fb, 8, none⟩ = some (.int .i64 7) ∧ y.cell? ⟨fb, 13, none⟩ = some (.int .i64 (-1)) ∧ y.cell? ⟨fb, 14, none⟩ = some (.int .i64 (-1)) ∧ y.cell? ⟨fb, 15, none⟩ = some (.int .i64 (-1)) ∧ y.cell? ⟨fb, 0, none⟩ = some (.int .i64 f.seq)) ∧ ((∀ o, y.frozen? ⟨fb, o, none⟩ = false) ∧ fb < y.heap.size ∧ S.p < y.heap.size) ∧ St y { S with ws := S.ws.enter 7 (-1) (-1) (-1) } := by
  refine (h.drew.onWin (fun F k => wenter k 7 (-1) (-1) (-1) (by omega) (by omega) (by omega) (by omega) hon (by omega))).mono ?_
  rintro e y ⟨rfl, hs⟩
  have ky := hs.extc (k := j) hf
  have q8 : y.cell? ⟨fb, 8, none⟩ = some (.int .i64 f.cls) := ky.cell 8 (by decide)
  have q13 : y.cell? ⟨fb, 13, none⟩ = some (.int .i64 f.s1) := ky.cell 13 (by decide)
  have q14 : y.cell? ⟨fb, 14, none⟩ = some (.int .i64 f.s2) := ky.cell 14 (by decide)
  have q15 : y.cell? ⟨fb, 15, none⟩ = some (.int .i64 f.d) := ky.cell 15 (by decide)
  rw [h8] at q8
  rw [h13] at q13
  rw [h14] at q14
  rw [h15] at q15
  exact ⟨rfl, ⟨hs.core.cell 3 (by decide), q8, q13, q14, q15, ky.cell 0 (by decide)⟩, ⟨ky.free, ky.here, hs.core.here⟩, hs⟩
set_option maxRecDepth 100000 in
set_option maxHeartbeats 4000000 in
theorem ftake (h : St x S) {j fb B n : Nat} {v : Value} {l : List Value} (hj : j ≠ 0) (pc : Int) (code : Bool) (op : Int) (ho : op = 59 ∨ op = 0) (hp : pc = 0 ∨ pc = 4) (hf : S.ext j = CelC fb 27 (flt pc code op).at) (hr : S.ext 0 = RowC B 221 1 v n l) (hw : S.way = v) (hn2 : n ≤ 2) (hB : B ≤ S.w0.heap.size) (hon : S.ws.on.length < S.ws.size) (hnx : S.ws.next ≤ 10) (hn : S.R.evs.length < 1000) (hc : S.R.cyc ≤ 1000) : Calls Tryz.prog 91 #[.pointer (some ⟨S.p, 0, none⟩), .pointer (some ⟨fb, 0, none⟩)] x fun e y => e = .returned (.tuple #[]) ∧ ∃ v', St y (FS.told { S with ws := S.ws.enter 7 (-1) (-1) (-1), way := v', nx := pc + 4, ext := upd (upd S.ext j (CelC fb 27 (fly S.ws.next pc code op S.ps).at)) 0 (RowC B 221 1 v' (n + 1) (l ++ [.pointer (some ⟨fb, 0, none⟩)])) } (fly S.ws.next pc code op S.ps) 1) := by
  obtain ⟨q0, cap0, rfl⟩ := own_len (h.rowc hr)
  have c1 : x.cell? ⟨S.p, 1, none⟩ = some (.pointer (some ⟨S.G.p, 0, none⟩)) := h.core.cell 1 (by decide)
  have h3 := h.core.here
  have kf := h.extc hf
  have f1 : x.cell? ⟨fb, 1, none⟩ = some (.int .u32 pc) := kf.cell 1 (by decide)
  have f3 : x.cell? ⟨fb, 3, none⟩ = some (.int .i64 op) := kf.cell 3 (by decide)
  have f4 : x.cell? ⟨fb, 4, none⟩ = some (.int .i64 0) := kf.cell 4 (by decide)
  have f5 : x.cell? ⟨fb, 5, none⟩ = some (.int .i64 0) := kf.cell 5 (by decide)
  have f6 : x.cell? ⟨fb, 6, none⟩ = some (.int .i64 0) := kf.cell 6 (by decide)
  have f7 : x.cell? ⟨fb, 7, none⟩ = some (.int .i64 0) := kf.cell 7 (by decide)
  have h4 := kf.here
  have HG : Hid (Calls Tryz.prog 164 #[.pointer (some ⟨S.G.p, 0, none⟩), .int .u32 pc, .agg #[.int .i64 op, .int .i64 0, .int .i64 0, .int .i64 0, .int .i64 0]] x.drew fun e y => e = .returned (.tuple #[.int .u32 (pc + 4), .agg #[.int .i64 S.ps.hist, .int .i64 S.ps.top, .int .u32 (S.ps.stack S.ps.top)]]) ∧ (y.cell? ⟨S.p, 1, none⟩ = some (.pointer (some ⟨S.G.p, 0, none⟩)) ∧ y.cell? ⟨fb, 1, none⟩ = some (.int .u32 pc) ∧ y.cell? ⟨fb, 3, none⟩ = some (.int .i64 op) ∧ y.cell? ⟨fb, 4, none⟩ = some (.int .i64 0) ∧ y.cell? ⟨fb, 5, none⟩ = some (.int .i64 0) ∧ y.cell? ⟨fb, 6, none⟩ = some (.int .i64 0) ∧ y.cell? ⟨fb, 7, none⟩ = some (.int .i64 0) ∧ y.cell? ⟨fb, 9, none⟩ = some (.int .u32 0) ∧ y.cell? ⟨fb, 10, none⟩ = some (.int .i64 0) ∧ y.cell? ⟨fb, 11, none⟩ = some (.int .i64 0) ∧ y.cell? ⟨fb, 12, none⟩ = some (.int .u32 0)) ∧ ((∀ o, y.frozen? ⟨fb, o, none⟩ = false) ∧ fb < y.heap.size ∧ S.p < y.heap.size) ∧ St y S) := Hid.in (by
    refine (fguess h.drew op pc ho hp).mono ?_
    rintro e y ⟨rfl, hs⟩
    have ky := hs.extc hf
    exact ⟨rfl, ⟨hs.core.cell 1 (by decide), ky.cell 1 (by decide), ky.cell 3 (by decide), ky.cell 4 (by decide), ky.cell 5 (by decide), ky.cell 6 (by decide), ky.cell 7 (by decide), ky.cell 9 (by decide), ky.cell 10 (by decide), ky.cell 11 (by decide), ky.cell 12 (by decide)⟩, ⟨ky.free, ky.here, hs.core.here⟩, hs⟩)
  have d0 : S.p ≠ fb := h.ne hf
  have HF := Hid.in hf
  have HR := Hid.in hr
  clear h hf hr kf
  go_enter Tryz.func91, Tryz.ntmps91
  go_upto_region 0 with fail
  go_region_held3 (fun w' => w'.cell? ⟨S.p, 1, none⟩ = some (.pointer (some ⟨S.G.p, 0, none⟩)) ∧ w'.cell? ⟨fb, 1, none⟩ = some (.int .u32 pc) ∧ w'.cell? ⟨fb, 3, none⟩ = some (.int .i64 op) ∧ w'.cell? ⟨fb, 4, none⟩ = some (.int .i64 0) ∧ w'.cell? ⟨fb, 5, none⟩ = some (.int .i64 0) ∧ w'.cell? ⟨fb, 6, none⟩ = some (.int .i64 0) ∧ w'.cell? ⟨fb, 7, none⟩ = some (.int .i64 0)) (first | go_keep | ((refine ⟨?_, ?_, ?_, ?_, ?_, ?_, ?_⟩) <;> (repeat (rw [World.cell?_setCell_other _ _ _ _ (by intro q; injection q with _ q2 _; exact absurd q2 (by decide))])) <;> assumption)) (first
    | (go_at_call 164; refine HG.out.mono ?_; rintro e y ⟨rfl, ⟨e0, e1, e2, e3, e4, e5, e6, e7, e8, e9, e10⟩, ⟨eg, eh, ep⟩, hs⟩; have HY := Hid.in hs; clear hs))
  obtain ⟨V, hV⟩ : ∃ V, (((y.setCell ⟨fb, 9, none⟩ (.int .u32 (pc + 4))).setCell ⟨fb, 10, none⟩ (.int .i64 S.ps.hist)).setCell ⟨fb, 11, none⟩ (.int .i64 S.ps.top)).setCell ⟨fb, 12, none⟩ (.int .u32 (S.ps.stack S.ps.top)) = V := ⟨_, rfl⟩
  have tV : Turned (fun z => z = fb) y V := by
    rw [← hV]
    exact ((((Turned.refl (fun z => z = fb) y).set (b := fb) rfl _ _).set (b := fb) rfl _ _).set (b := fb) rfl _ _).set (b := fb) rfl _ _
  have kV : CellsAt 27 V fb ({ flt pc code op with guess := pc + 4, mh := S.ps.hist, mt := S.ps.top, mv := S.ps.stack S.ps.top } : Flt).at := by
    rw [← hV]
    exact (((((HY.out.extc HF.out).set 9 (by decide) _).set 10 (by decide) _).set 11 (by decide) _).set 12 (by decide) _).ext (fun i hi => range_of 27 (fun i => upd (upd (upd (upd (flt pc code op).at 9 (.int .u32 (pc + 4))) 10 (.int .i64 S.ps.hist)) 11 (.int .i64 S.ps.top)) 12 (.int .u32 (S.ps.stack S.ps.top)) i) (Flt.at { flt pc code op with guess := pc + 4, mh := S.ps.hist, mt := S.ps.top, mv := S.ps.stack S.ps.top }) (by kernel_rfl) i hi)
  have k1 := HY.out.swapExt (k := j) (b := fb) (n := 27) (f := (flt pc code op).at) _ HF.out tV kV
  have HN := Hid.in (fname k1 (j := j) (fb := fb) (f := { flt pc code op with guess := pc + 4, mh := S.ps.hist, mt := S.ps.top, mv := S.ps.stack S.ps.top }) (upd_same _ _ _) ho)
  try rw [hV]
  clear tV kV k1 hV e0 e1 e2 e3 e4 e5 e6 e7 e8 e9 e10 eg eh ep c1 f1 f3 f4 f5 f6 f7 h3 h4
  go_upto_region 2 with (go_at_call 165; go_must (refine HN.out.mono ?_; rintro e z ⟨rfl, hs⟩; simp only [upd_twice] at hs; have HZ := Hid.in hs; clear hs))
  have kz := HZ.out.extc (k := j) (b := fb) (n := 27) (f := ({ fly 0 pc code op S.ps with seq := 0 } : Flt).at) (upd_same _ _ _)
  have z3 : z.cell? ⟨S.p, 3, none⟩ = some (.pointer (some ⟨S.wp, 0, none⟩)) := HZ.out.core.cell 3 (by decide)
  have z8 : z.cell? ⟨fb, 8, none⟩ = some (.int .i64 7) := kz.cell 8 (by decide)
  have z13 : z.cell? ⟨fb, 13, none⟩ = some (.int .i64 (-1)) := kz.cell 13 (by decide)
  have z14 : z.cell? ⟨fb, 14, none⟩ = some (.int .i64 (-1)) := kz.cell 14 (by decide)
  have z15 : z.cell? ⟨fb, 15, none⟩ = some (.int .i64 (-1)) := kz.cell 15 (by decide)
  have zh := kz.here
  have zp : S.p < z.heap.size := HZ.out.core.here
  have HE := Hid.in (fenter HZ.out (j := j) (fb := fb) (f := fly 0 pc code op S.ps) (upd_same _ _ _) rfl rfl rfl rfl hon hnx)
  clear kz
  go_region_held3 (fun w' => w'.cell? ⟨S.p, 3, none⟩ = some (.pointer (some ⟨S.wp, 0, none⟩)) ∧ w'.cell? ⟨fb, 8, none⟩ = some (.int .i64 7) ∧ w'.cell? ⟨fb, 13, none⟩ = some (.int .i64 (-1)) ∧ w'.cell? ⟨fb, 14, none⟩ = some (.int .i64 (-1)) ∧ w'.cell? ⟨fb, 15, none⟩ = some (.int .i64 (-1))) (first | go_keep | ((refine ⟨?_, ?_, ?_, ?_, ?_⟩) <;> (repeat (rw [World.cell?_setCell_other _ _ _ _ (by intro q; injection q with _ q2 _; exact absurd q2 (by decide))])) <;> assumption)) (first
    | (go_at_call 166; refine HE.out.mono ?_; rintro e u ⟨rfl, ⟨e0, e1, e2, e3, e4, e5⟩, ⟨eg, eh, ep⟩, hs⟩; have HU := Hid.in hs; clear hs))
  have k3 := HU.out.onFlt (j := j) (fb := fb) (o := 0) (v := .int .i64 S.ws.next) (f := fly 0 pc code op S.ps) (f' := fly S.ws.next pc code op S.ps) (upd_same _ _ _) (by decide) (flt_seq (fly 0 pc code op S.ps) S.ws.next)
  simp only [upd_twice] at k3
  obtain ⟨X, hX⟩ : ∃ X, u.setCell ⟨fb, 0, none⟩ (.int .i64 S.ws.next) = X := ⟨_, rfl⟩
  rw [hX] at k3
  try rw [hX]
  have HX3 := Hid.in k3
  have HAC := Hid.in (faccess k3 (j := j) (fb := fb) (f := fly S.ws.next pc code op S.ps) (upd_same _ _ _) rfl)
  have hr3 : (upd S.ext j (CelC fb 27 (fly S.ws.next pc code op S.ps).at)) 0 = RowC B 221 1 (.slice q0 n cap0) n l := (upd_other _ _ _ _ (Ne.symm hj)).trans HR.out
  have c151 : X.cell? ⟨S.p, 151, none⟩ = some (.slice q0 n cap0) := (k3.core.cell 151 (by decide)).trans (congrArg some hw)
  have c151f : X.frozen? ⟨S.p, 151, none⟩ = false := k3.core.free 151
  have hXp : S.p < X.heap.size := k3.core.here
  obtain ⟨v', w1, hrun, r1, r2, r3⟩ := app_row (w := X) B 144 144 221 (.pointer none) 1 8 Tryz.underlying144 (by kernel_rfl) rfl (by decide) (.slice q0 n cap0) n l (k3.rowc (k := 0) hr3) #[.pointer (some ⟨fb, 0, none⟩)] 221 rfl (fun u hu => by simp at hu; subst hu; rfl) (by omega) (by decide) (Nat.le_trans hB k3.old.size)
  obtain ⟨q1, cap1, rfl⟩ := own_len r1
  have kw := k3.swapRow (k := 0) hr3 r2 r1 (by
    rcases r3 with e | e
    · exact Or.inl e
    · exact Or.inr ⟨_, e, Nat.le_succ _⟩)
  have wcell : w1.cell? ⟨S.p, 151, none⟩ = some (.slice q0 n cap0) := (kw.core.cell 151 (by decide)).trans (congrArg some hw)
  have wfr : w1.frozen? ⟨S.p, 151, none⟩ = false := kw.core.free 151
  have wp1 : S.p < w1.heap.size := kw.core.here
  have k5 := kw.setWay (.slice q1 (n + 1) cap1)
  obtain ⟨Y5, hY5⟩ : ∃ Y5, w1.setCell ⟨S.p, 151, none⟩ (.slice q1 (n + 1) cap1) = Y5 := ⟨_, rfl⟩
  have k5' : St Y5 { S with ws := S.ws.enter 7 (-1) (-1) (-1), way := (.slice q1 (n + 1) cap1), ext := upd (upd S.ext j (CelC fb 27 (fly S.ws.next pc code op S.ps).at)) 0 (RowC B 221 1 (.slice q1 (n + 1) cap1) (n + 1) (l ++ [.pointer (some ⟨fb, 0, none⟩)])) } := by
    rw [← hY5]
    exact k5
  have hf5 : (upd (upd S.ext j (CelC fb 27 (fly S.ws.next pc code op S.ps).at)) 0 (RowC B 221 1 (.slice q1 (n + 1) cap1) (n + 1) (l ++ [.pointer (some ⟨fb, 0, none⟩)]))) j = CelC fb 27 (fly S.ws.next pc code op S.ps).at := (upd_other _ _ _ _ hj).trans (upd_same _ _ _)
  have y9 : Y5.cell? ⟨fb, 9, none⟩ = some (.int .u32 (pc + 4)) := (k5'.extc hf5).cell 9 (by decide)
  have yh := (k5'.extc hf5).here
  have y152 : Y5.cell? ⟨S.p, 152, none⟩ = some (.int .u32 S.nx) := k5'.core.cell 152 (by decide)
  have yf152 : Y5.frozen? ⟨S.p, 152, none⟩ = false := k5'.core.free 152
  have yp : S.p < Y5.heap.size := k5'.core.here
  have k6 := k5'.setNext (pc + 4)
  have HT := Hid.in (ftell k6 (j := j) (fb := fb) (f := fly S.ws.next pc code op S.ps) hf5 1 (Or.inl rfl) (by show S.R.evs.length < 1024; omega) hc (by show 0 ≤ (S.ws.next : Int) ∧ (S.ws.next : Int) ≤ 1000; omega))
  have HRUN := Hid.in hrun
  clear hrun k3 kw k5 k5' k6 hX r1 r2 r3 e0 e1 e2 e3 e4 e5 eg eh ep z3 z8 z13 z14 z15 zh zp
  go_upto_region 5 with (go_at_call 160; go_must (refine HAC.out.mono ?_; rintro e q ⟨rfl, rfl⟩))
  go_upto_region 6 with (at_builtin; go_must (refine wpList_append_run rfl rfl rfl rfl HRUN.out ?_))
  try rw [hY5]
  clear hY5 c151 c151f hXp wcell wfr wp1
  go_wp2_with (go_at_call 128; go_must (refine HT.out.mono ?_; rintro e q ⟨rfl, hs⟩; have HQ := Hid.in hs; clear hs))
  exact bodyPost_end (results_none Tryz.results91 _ _ _) rfl ⟨rfl, (.slice q1 (n + 1) cap1), HQ.out⟩
end
end Go.Proofs.YtemamhkhjijdlaaGreatDoor
