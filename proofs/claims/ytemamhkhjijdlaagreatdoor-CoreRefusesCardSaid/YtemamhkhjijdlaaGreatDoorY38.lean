import Derived.Test.YtemamhkhjijdlaaGreatDoorY36
import Derived.Test.YtemamhkhjijdlaaGreatDoorY37
/-
  CORE: a machine is made.
-/
namespace Go.Proofs.YtemamhkhjijdlaaGreatDoor
open Go Go.RowKit
set_option maxRecDepth 100000 in
set_option maxHeartbeats 4000000 in
theorem fmachine (x : World) (hL : Laid x) (pb cp kb kc : Nat) (c : Cf) (hkb : kb < x.heap.size) (hkc : x.cell? ⟨kb, 0, none⟩ = some (.int .u32 1048691)) (h : CellsAt 17 x pb (progF kb kc c)) (h64 : -9223372036854775808 ≤ c.sets ∧ c.sets ≤ 9223372036854775807) : Calls Tryz.prog 12 #[.slice (some ⟨pb, 0, none⟩) 1 cp, .slice none 0 0] x fun e y => MacR x y c e := by
  have hcb : ¬ (281474976710656 < Builtin.nextslicecap 1 0 * Tryz.t90.bytes) := by decide
  obtain ⟨a0, a1, a2, a3, a4, a5, a6, a7, a8, a9, a10, a11, a12, a13, a14, a15, a16⟩ := cells17 h
  have ah := h.here
  have H17 := Hid.in h
  have HL := Hid.in hL
  have HKB := Hid.in hkb
  have HKC := Hid.in hkc
  have H64 := Hid.in h64
  clear h hL hkb hkc h64
  go_enter Tryz.func12, Tryz.ntmps12
  go_wp2_with fail
  refine wp_loop_rounds 2 ?_
  rw [rounds_succ]
  go_upto_region 5 with fail
  obtain ⟨X, hX⟩ : ∃ X, x.alloc (.cells #[.slice (some ⟨kb, 0, none⟩) 1 kc, .int .i64 c.width, .int .i64 c.window, .int .i64 c.queue, .int .i64 c.regs, .int .i64 c.units, .int .i64 c.mul, .bool c.bold, .int .i64 c.kind, .int .i64 c.bits, .int .i64 c.hist, .int .i64 c.tg, .int .i64 c.ret, .int .i64 c.sets, .int .i64 c.ways, .int .i64 c.bus, .slice none 0 0] 51) = X := ⟨_, rfl⟩
  obtain ⟨tb, htb⟩ : ∃ tb, x.heap.size = tb := ⟨_, rfl⟩
  have bX : Below x.heap.size x X := by rw [← hX]; exact (Below.refl _ _).alloc (Nat.le_refl _) _
  have kX : CellsAt 17 X tb (progF kb kc c) := by rw [← hX, ← htb]; exact cells_new x (prog_new kb kc c)
  rw [hX]
  have HBX := Hid.in bX
  have t0 : X.cell? ⟨tb, 0, none⟩ = some (.slice (some ⟨kb, 0, none⟩) 1 kc) := kX.cell 0 (by decide)
  have th := kX.here
  have HN := Hid.in (fnewhart X kb kc ((bX.cell (p := ⟨kb, 0, none⟩) HKB.out).trans HKC.out))
  rw [htb]
  clear hX bX kX a0 a1 a2 a3 a4 a5 a6 a7 a8 a9 a10 a11 a12 a13 a14 a15 a16
  have HTB := Hid.in htb
  clear htb
  go_upto_region 8 with (go_at_call 20; go_must (refine HN.out.mono ?_; rintro e y1 ⟨q, gw, hcap, rfl, k45, k1, hq, hg, hqg, hy⟩; have HK45 := Hid.in k45; have HK1 := Hid.in k1; have HQ := Hid.in hq; have HGG := Hid.in hg; have HQG := Hid.in hqg; have HY := Hid.in hy; clear k45 k1 hq hg hqg hy))
  clear t0 th HN
  go_wp2_with fail
  rw [rounds_succ]
  go_upto_region 10 with fail
  obtain ⟨hcp, hhcp⟩ : ∃ n, (Question.appendCap 1 0 90).cut (y1.tape y1.drawn (Question.appendCap 1 0 90)) = n := ⟨_, rfl⟩
  rw [hhcp]
  obtain ⟨W, hW⟩ : ∃ W, ((y1.alloc (.cells #[.pointer (some ⟨q, 0, none⟩)] 90)).alloc (.cells (#[.pointer (some ⟨q, 0, none⟩)] ++ Builtin.zeroCells #[.pointer none] (hcp - 1)) 90)).drew = W := ⟨_, rfl⟩
  rw [hW]
  obtain ⟨hb, hhb⟩ : ∃ hb, y1.heap.size + 1 = hb := ⟨_, rfl⟩
  rw [hhb]
  have bW : Below y1.heap.size y1 W := by rw [← hW]; exact (((Below.refl _ _).alloc (Nat.le_refl _) _).alloc (by simp) _).drew
  have kH : CellsAt 1 W hb (fun _ => .pointer (some ⟨q, 0, none⟩)) := by rw [← hW, ← hhb, ← World.size_alloc]; exact (cells_new _ (app1 _ _)).drew
  have x1 : Below x.heap.size x y1 := HBX.out.trans (HY.out.mono HBX.out.size)
  have xW : Below x.heap.size x W := x1.trans (bW.mono x1.size)
  have c2 := upd_comp (upd_comp (c0_comp x) 5 (celC_comp q 45 (hartF gw hcap false))) 6 (celC_comp gw 1 (fun _ => .int .u32 1048691))
  have sW : Side (upd (upd (C0 x) 5 (CelC q 45 (hartF gw hcap false))) 6 (CelC gw 1 (fun _ => .int .u32 1048691))) W := Side.below 0 c2 (Side.born2 (k := 5) (l := 6) (by decide) (c0_comp x) (Side.below 0 (c0_comp x) (c0_side x) HBX.out) HY.out HK45.out HK1.out HQ.out HGG.out HQG.out) bW
  have HXW := Hid.in xW
  have HKH := Hid.in kH
  have HSW := Hid.in sW
  have HC2 := Hid.in c2
  have HF0 := Hid.in (fboard W pb cp kb kc c (H17.out.below xW) H64.out)
  clear hW hhb hhcp bW kH x1 xW c2 sW HK45 HK1 HQ HGG HQG HY HBX HTB
  by_cases hB : okB c
  rotate_left
  · have HF : Hid (Calls Tryz.prog 21 #[.slice (some ⟨pb, 0, none⟩) 1 cp, .slice none 0 0] W fun e y => e = .returned (.tuple #[.pointer none, errV 2]) ∧ Below W.heap.size W y) := Hid.in (HF0.out.mono (by
      rintro e y ⟨h1, ⟨-, h2⟩ | ⟨h3, -⟩⟩
      · exact ⟨h2, h1⟩
      · exact absurd h3 hB))
    clear HF0
    go_wp2_with (go_at_call 21; go_must (refine HF.out.mono ?_; rintro e y4 ⟨rfl, hy⟩; have HY4 := Hid.in hy; clear hy; unfold errV))
    exact bodyPost_ret (v := .tuple #[.pointer none, errV 2]) (by simp [results, Tryz.results12, go_sem, errV]) rfl (Or.inl ⟨fun k => hB k.1, rfl, HXW.out.trans (HY4.out.mono HXW.out.size)⟩)
  · have HF : Hid (Calls Tryz.prog 21 #[.slice (some ⟨pb, 0, none⟩) 1 cp, .slice none 0 0] W fun e y => ∃ (b : Nat) (g : Bn), e = .returned (.tuple #[.pointer (some ⟨b, 0, none⟩), .nilIface]) ∧ Below W.heap.size W y ∧ Side (upd (upd (upd (upd (C0 x) 5 (CelC q 45 (hartF gw hcap false))) 6 (CelC gw 1 (fun _ => .int .u32 1048691))) 4 (BusC g 0 (newBd c))) 8 (BrdC b g.p ⟨[], [], 0⟩)) y) := Hid.in (HF0.out.mono (by
      rintro e y ⟨h1, ⟨h2, -⟩ | ⟨-, b, g, h3, -, h4⟩⟩
      · exact absurd hB h2
      · exact ⟨b, g, h3, h1, h4 _ HC2.out HSW.out⟩))
    have HBK := Hid.in hB
    rename_i K1 hK1
    have HK1 := Hid.in hK1
    clear HF0 hB hK1
    go_wp2_with (go_at_call 21; go_must (refine HF.out.mono ?_; rintro e y4 ⟨b, g, rfl, hy, hs⟩; have HY4 := Hid.in hy; have HS4 := Hid.in hs; clear hy hs))
    have c4 := Hid.in (upd_comp (upd_comp HC2.out 4 (busC_comp g 0 (newBd c))) 8 (brdC_comp b g.p ⟨[], [], 0⟩))
    have x4 := Hid.in (HXW.out.trans (HY4.out.mono HXW.out.size))
    have k4 := Hid.in (HKH.out.below HY4.out)
    by_cases hC : okC c
    · exact HK1.out _ _ (fmach_good x HL pb cp kb kc c HKB HKC H17 HBK q gw hcap hb hcp b g y4 x4 k4 c4 HS4 hC)
    · exact HK1.out _ _ (fmach_bad x pb cp kb kc c H17 q gw hcap hb hcp b g y4 x4 k4 c4 HS4 hC)
end Go.Proofs.YtemamhkhjijdlaaGreatDoor
