import Derived.Test.YtemamhkhjijdlaaGreatDoorY35
/-
  CORE: a machine is made: behind the board, a core refused.
-/
namespace Go.Proofs.YtemamhkhjijdlaaGreatDoor
open Go Go.RowKit
set_option maxRecDepth 100000 in
set_option maxHeartbeats 4000000 in
theorem fmach_bad {u2 u3 u4 u5 u7 u8 u9 u10 u13 u14 u15 u16 u17 u18 u19 u20 u21 u22 u23 u24 u25 u26 u27 u28 u29 u30 u31 u32 u33 u34 u35 u36 u37 u38 u39 u40 u41 u42 u43 u44 u45 u46 u47 u48 u49 u50 u51 u52 u53 u54 u55 u56 u57 u58 u59 u60 u61 u62 u63 u64 u65 u66 u67 u68 u69 u70 u71 u72 u73 u74 u75 u76 u77 u78 u79 u80 u81 u82 u83 u84 u85 u86 : Value} (x : World) (pb cp kb kc : Nat) (c : Cf) (H17 : Hid (CellsAt 17 x pb (progF kb kc c))) (q gw hcap hb hcp b : Nat) (g : Bn) (y4 : World) (HXY : Hid (Below x.heap.size x y4)) (HKH : Hid (CellsAt 1 y4 hb (fun _ => .pointer (some ⟨q, 0, none⟩)))) (HC4 : Hid (∀ k, Comp ((upd (upd (upd (upd (C0 x) 5 (CelC q 45 (hartF gw hcap false))) 6 (CelC gw 1 (fun _ => .int .u32 1048691))) 4 (BusC g 0 (newBd c))) 8 (BrdC b g.p ⟨[], [], 0⟩)) k))) (HS4 : Hid (Side (upd (upd (upd (upd (C0 x) 5 (CelC q 45 (hartF gw hcap false))) 6 (CelC gw 1 (fun _ => .int .u32 1048691))) 4 (BusC g 0 (newBd c))) 8 (BrdC b g.p ⟨[], [], 0⟩)) y4)) (hC : ¬ okC c) : Code.wp Tryz.prog (tlB Tryz.f12) (bodyPost Tryz.prog Tryz.f12 fun e y => MacR x y c e) { tmps := #[.slice (some ⟨pb, 0, none⟩) 1 cp, .slice none 0 0, u2, u3, u4, u5, .slice (some ⟨hb, 0, none⟩) 1 hcp, u7, u8, u9, u10, .pointer (some ⟨b, 0, none⟩), .nilIface, u13, u14, u15, u16, u17, u18, u19, u20, u21, u22, u23, u24, u25, u26, u27, u28, u29, u30, u31, u32, u33, u34, u35, u36, u37, u38, u39, u40, u41, u42, u43, u44, u45, u46, u47, u48, u49, u50, u51, u52, u53, u54, u55, u56, u57, u58, u59, u60, u61, u62, u63, u64, u65, u66, u67, u68, u69, u70, u71, u72, u73, u74, u75, u76, u77, u78, u79, u80, u81, u82, u83, u84, u85, u86], defers := [] } y4 := by
  have hcb2 : ¬ (281474976710656 < Builtin.nextslicecap 1 0 * Tryz.t95.bytes) := by decide
  obtain ⟨QQ, hQQ⟩ : ∃ QQ, bodyPost Tryz.prog Tryz.f12 (fun e y => MacR x y c e) = QQ := ⟨_, rfl⟩
  rw [hQQ]
  have HQQ := Hid.in hQQ
  clear hQQ
  dsimp only [tlB, Tryz.f12]
  go_wp2_with fail
  refine wp_loop_rounds 2 ?_
  rw [rounds_succ]
  obtain ⟨X4, hX4⟩ : ∃ X4, y4.alloc (.cells #[.pointer (some ⟨b, 0, none⟩), .slice none 0 0] 74) = X4 := ⟨_, rfl⟩
  obtain ⟨mp, hmp⟩ : ∃ mp, y4.heap.size = mp := ⟨_, rfl⟩
  rw [hX4, hmp]
  have s5 : Side (upd (upd (upd (upd (upd (C0 x) 5 (CelC q 45 (hartF gw hcap false))) 6 (CelC gw 1 (fun _ => .int .u32 1048691))) 4 (BusC g 0 (newBd c))) 8 (BrdC b g.p ⟨[], [], 0⟩)) 16 (CelC mp 2 (mach0 b))) X4 := by
    rw [← hX4]
    exact Side.new 16 HC4.out HS4.out hmp (upd_same _ _ _) (fun j hj => upd_other _ _ _ _ hj) (fun i hi => by
      match i, hi with
      | 0, _ => rfl
      | 1, _ => rfl)
  have c5 := upd_comp HC4.out 16 (celC_comp mp 2 (mach0 b))
  have b4 : Below y4.heap.size y4 X4 := by rw [← hX4]; exact (Below.refl _ _).alloc (Nat.le_refl _) _
  have x4 : Below x.heap.size x X4 := HXY.out.trans (b4.mono HXY.out.size)
  obtain ⟨a0, a1, a2, a3, a4, a5, a6, a7, a8, a9, a10, a11, a12, a13, a14, a15, a16⟩ := cells17 (H17.out.below x4)
  have ah4 := (H17.out.below x4).here
  have HX4 := Hid.in x4
  have HS5 := Hid.in s5
  have HC5 := Hid.in c5
  have HKH4 := Hid.in (HKH.out.below b4)
  clear s5 c5 b4 x4 hX4 hmp
  go_upto_region 17 with fail
  obtain ⟨X5, hX5⟩ : ∃ X5, X4.alloc (.cells #[.slice (some ⟨kb, 0, none⟩) 1 kc, .int .i64 c.width, .int .i64 c.window, .int .i64 c.queue, .int .i64 c.regs, .int .i64 c.units, .int .i64 c.mul, .bool c.bold, .int .i64 c.kind, .int .i64 c.bits, .int .i64 c.hist, .int .i64 c.tg, .int .i64 c.ret, .int .i64 c.sets, .int .i64 c.ways, .int .i64 c.bus, .slice none 0 0] 51) = X5 := ⟨_, rfl⟩
  obtain ⟨tb2, htb2⟩ : ∃ tb2, X4.heap.size = tb2 := ⟨_, rfl⟩
  rw [hX5, htb2]
  have b5 : Below X4.heap.size X4 X5 := by rw [← hX5]; exact (Below.refl _ _).alloc (Nat.le_refl _) _
  have k5 : CellsAt 17 X5 tb2 (progF kb kc c) := by rw [← hX5, ← htb2]; exact cells_new X4 (prog_new kb kc c)
  have x5 : Below x.heap.size x X5 := HX4.out.trans (b5.mono HX4.out.size)
  have k6 : X5.cell? ⟨hb, 0, none⟩ = some (.pointer (some ⟨q, 0, none⟩)) := (HKH4.out.below b5).cell 0 (by decide)
  have kh6 := (HKH4.out.below b5).here
  clear a0 a1 a2 a3 a4 a5 a6 a7 a8 a9 a10 a11 a12 a13 a14 a15 a16 ah4 hX5 htb2
  obtain ⟨a0, a1, a2, a3, a4, a5, a6, a7, a8, a9, a10, a11, a12, a13, a14, a15, a16⟩ := cells17 k5
  have ah5 := k5.here
  have HX5 := Hid.in x5.drew
  have HS6 := Hid.in (Side.below 0 HC5.out HS5.out b5.drew)
  have HK5 := Hid.in k5
  have HKH5 := Hid.in (HKH4.out.below b5)
  clear x5 k5 b5
  have HCB := Hid.in (fcore_bad X5.drew kb kc c q b hC)
  refine reg17 (R := fun v1 v2 _ => v1 = .pointer none ∧ v2 = errV 2) HK5.out HKH5.out (Hid.in (HCB.out.mono (by
    rintro e z ⟨hy, rfl⟩
    exact ⟨_, _, rfl, hy, rfl, rfl⟩))) ?_
  rintro _ _ z hy ⟨rfl, rfl⟩
  have HZ := Hid.in hy
  clear hy a0 a1 a2 a3 a4 a5 a6 a7 a8 a9 a10 a11 a12 a13 a14 a15 a16 k6 kh6 ah5
  unfold errV
  go_wp2_with fail
  rw [← HQQ.out]
  exact bodyPost_ret (v := .tuple #[.pointer none, errV 2]) (by simp [results, Tryz.results12, go_sem, errV]) rfl (Or.inl ⟨fun k => hC k.2, rfl, HX5.out.trans (HZ.out.mono HX5.out.size)⟩)
end Go.Proofs.YtemamhkhjijdlaaGreatDoor
