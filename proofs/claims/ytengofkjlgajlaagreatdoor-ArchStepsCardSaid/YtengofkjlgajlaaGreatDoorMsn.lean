/-
  ArchSteps: all of it.
-/
import Derived.Test.YtengofkjlgajlaaGreatDoorGq1
import Derived.Test.YtengofkjlgajlaaGreatDoorGs2
import Derived.Test.YtengofkjlgajlaaGreatDoorGs3
import Derived.Test.YtengofkjlgajlaaGreatDoorMse
import Derived.Test.YtengofkjlgajlaaGreatDoorGs4
import Derived.Test.YtengofkjlgajlaaGreatDoorMsl
import Derived.Test.YtengofkjlgajlaaGreatDoorGq3
import Derived.Test.YtengofkjlgajlaaGreatDoorGy1
namespace Go.Proofs.YtengofkjlgajlaaGreatDoor
open Go Go.RowKit
theorem hand_code {w : World} {cq : Option Addr} {n : Nat} {f : Nat → Int} (h : Hand .u32 w cq n f) (hu : ∀ i, i < n → U32 (f i)) (hn : 1 ≤ n) : ∃ cb co, cq = some ⟨cb, co, none⟩ ∧ CodeAt w cb co n f := by
  obtain ⟨c, o, h1, h2, -⟩ := h 0 (by omega)
  refine ⟨c, o, h1, h2, fun i hi => ?_, hu⟩
  obtain ⟨c', o', e1, e2, e3⟩ := h i hi
  rw [h1] at e1
  cases e1
  exact e3
theorem hand_dat {w : World} {q : Option Addr} {n : Nat} {mem : Nat → Nat} (h : Hand .u8 w q n (fun i => (mem i : Int))) : DatN w q n mem := h
theorem cells_lp {k : IntKind} {w y : World} {q : Option Addr} {n wb : Nat} {g : Nat → Int} (h : Hand k w q n g) (hb : Below w.heap.size w y) (hw : w.heap.size ≤ wb) : ∀ j, j < n → ∃ cb co, q = some ⟨cb, co, none⟩ ∧ cb ≠ wb ∧ cb < y.heap.size ∧ y.cell? ⟨cb, co + j, none⟩ = some (.int k (g j)) := fun j hj => by
  obtain ⟨c, o, h1, h2, h3⟩ := h j hj
  have := hb.size
  exact ⟨c, o, h1, by omega, by omega, (hb.cell (p := ⟨c, o + j, none⟩) h2).trans h3⟩
set_option maxRecDepth 100000 in
set_option maxHeartbeats 8000000 in
theorem steps_any (cq : Option Addr) (n cc : Nat) (dq : Option Addr) (len dc : Nat) (lq : Option Addr) (ll lc : Nat) (steps : Int) (f : Nat → Int) (mem : Nat → Nat) (g : Nat → Int) (w : World) (hL : Laid w) (hE : w.cell? ⟨0, 0, none⟩ = some (.iface 165 (.agg #[.pointer (some ⟨4, 27, none⟩)]))) (hcw : Hand .u32 w cq n f) (hfu : ∀ i, i < n → U32 (f i)) (hcq : cq = none → cc = 0) (hdat : Hand .u8 w dq len (fun i => (mem i : Int))) (hm8 : ∀ o, mem o < 256) (hdq : dq = none → dc = 0) (hli : Hand .i64 w lq ll g) (hll : ll ≤ 9223372036854775807) (hn4 : 4 * (n + 70) ≤ 281474976710656) (hl4 : len + 70 ≤ 281474976710656) : Calls Tryz.prog 3 #[.slice cq n cc, .slice dq len dc, .slice lq ll lc, .int .i64 steps] w fun e w' => e = .returned (.bool true) ∧ Below w.heap.size w w' := by
  obtain ⟨m, hm⟩ : ∃ m, n + 70 = m := ⟨_, rfl⟩
  obtain ⟨ml, hml⟩ : ∃ ml, len + 70 = ml := ⟨_, rfl⟩
  have i1 : (n : Int) + 70 = (m : Int) := by omega
  have i2 : (len : Int) + 70 = (ml : Int) := by omega
  have i3 : m ≤ 281474976710656 := by omega
  have i4 : ml ≤ 281474976710656 := by omega
  obtain ⟨Y1, hc1, hb1, hk1⟩ := wcopied w cq n cc m f hcw hcq (by omega)
  obtain ⟨Y2, hc2, hb2, hk2⟩ := bcopied Y1 dq len dc ml (fun i => (mem i : Int)) (hdat.below hb1) hdq (by omega)
  have HMK1 := Hid.in (wmade w m (by omega))
  have HMK2 := Hid.in (bmade Y1 ml (by omega))
  have HCP1 := Hid.in hc1
  have HCP2 := Hid.in hc2
  have HB2 := Hid.in (below2 hb1 hb2)
  have HW : Hid (CellsAt m Y2 w.heap.size (fun i => .int .u32 (if i < n then f i else 0))) := hk1.below hb2
  have HBB : Hid (CellsAt ml Y2 Y1.heap.size (fun i => .int .u8 (if i < len then (mem i : Int) else 0))) := hk2
  have HWB : Hid (w.heap.size < Y1.heap.size ∧ Y1.heap.size < Y2.heap.size) := ⟨hk1.here, hk2.here⟩
  have HL := Hid.in hL
  have HE := Hid.in hE
  have HCW := Hid.in hcw
  have HFU := Hid.in hfu
  have HDT := Hid.in hdat
  have HDQ := Hid.in hdq
  have HM8 := Hid.in hm8
  have HLI := Hid.in hli
  have hnm : n < m := by omega
  have hlm : len < ml := by omega
  clear hL hE hcw hfu hdat hdq hm8 hli hb1 hb2 hk1 hk2 hc1 hc2 hn4 hl4 hcq
  go_enter Tryz.func3, Tryz.ntmps3
  go_upto_region 5 with (refine wpl_make (v := .int .i64 m) (u := .int .i64 m) rfl rfl rfl rfl HMK1.out ?_)
  rw [HCP1.out]
  go_upto_region 5 with (refine wpl_make (v := .int .i64 ml) (u := .int .i64 ml) rfl rfl rfl rfl HMK2.out ?_)
  rw [HCP2.out]
  go_upto_region 5 with fail
  clear i1 i2 hm hml HMK1 HMK2 HCP1 HCP2
  obtain ⟨wb, hwb⟩ : ∃ wb, w.heap.size = wb := ⟨_, rfl⟩
  obtain ⟨bb, hbb⟩ : ∃ bb, Y1.heap.size = bb := ⟨_, rfl⟩
  have HSZ : Hid (w.heap.size = wb ∧ wb < bb ∧ bb < Y2.heap.size) := by
    have := HWB.out
    exact ⟨hwb, by omega, by omega⟩
  rw [hwb] at HW ⊢
  rw [hbb] at HBB ⊢
  clear hwb hbb HWB
  have m63 : m ≤ 9223372036854775807 := by omega
  have l63 : ml ≤ 9223372036854775807 := by omega
  have bD : Below Y2.heap.size Y2 Y2.drew := ⟨rfl, rfl, rfl, Nat.le_refl _, fun _ _ => rfl⟩
  have HBD := Hid.in (below2 HB2.out bD)
  have HWD := Hid.in (HW.out.below bD)
  have HBBD := Hid.in (HBB.out.below bD)
  clear bD
  cases himg : imageB n len
  · as_aux_lemma =>
      have HI := Hid.in himg
      clear himg
      refine wp_any (reg5 cq dq n cc len dc wb bb m ml hnm hlm Y2 (P := fun va vb y => va = .pointer none ∧ vb = .iface 34 (.int .i64 1) ∧ y = Y2.drew) ((mnew_bad (some ⟨wb, 0, none⟩) n m (some ⟨bb, 0, none⟩) len ml Y2.drew HI.out).mono fun e y h => ⟨_, _, h.1, rfl, rfl, h.2⟩) (fun va vb t48 t49 t50 t51 t52 t53 t54 t55 t56 t57 t58 t59 y hp => ?_))
      obtain ⟨rfl, rfl, rfl⟩ := hp
      go_upto_block 0 with (go_at_call 6; refine (rmnew_bad cq n cc dq len dc _ HI.out).mono ?_; rintro e x ⟨rfl, hx⟩; have hx2 := hx.symm; clear hx; subst hx2)
      refine wp_any (lp0 cq n m cc wb f _ m63 (cells_lp HCW.out HBD.out (by have := HSZ.out; omega)) HWD.out (fun t8 t15 t66 t67 t68 t69 t70 t71 t72 t73 t74 t75 t76 t77 t78 t79 t80 t81 t82 t83 t84 t85 t86 t87 t88 t89 t90 t91 t92 t93 t94 t95 t96 t97 t98 t99 t100 t101 t102 y3 hT3 => ?_))
      have HB3 := Hid.in (HBD.out.trans (hT3.below HBD.out.size (fun k e => by have := HSZ.out; omega)))
      have HBB3 := Hid.in (hT3.cells HBBD.out (by have := HSZ.out; omega))
      clear hT3
      go_upto_block 2 with fail
      refine wp_any (lp2 dq len ml dc bb (fun i => (mem i : Int)) _ l63 (cells_lp HDT.out HB3.out (by have := HSZ.out; omega)) HBB3.out (fun t8 t16 t103 t104 t105 t106 t107 t108 t109 t110 t111 t112 t113 t114 t115 t116 t117 t118 t119 t120 t121 t122 t123 t124 t125 t126 t127 t128 t129 t130 t131 t132 t133 t134 t135 t136 t137 t138 t139 y4 hT4 => ?_))
      have HB4 := Hid.in (HB3.out.trans (hT4.below HB3.out.size (fun k e => by have := HSZ.out; omega)))
      have HE4 := Hid.in ((HB4.out.cell (p := ⟨0, 0, none⟩) (cell_here HE.out)).trans HE.out)
      clear hT4
      go_wp2_with (go_at_call 7; refine (told_err 1 _ HE4.out).mono ?_; rintro e y5 ⟨rfl, hb5⟩; have HB5 := Hid.in (HB4.out.trans (hb5.mono HB4.out.size)); clear hb5)
      go_ret
      exact ⟨rfl, HB5.out⟩
  · have HI := Hid.in himg
    obtain ⟨b1, b2, b3, b4, b6⟩ := image_true n len himg
    obtain ⟨cb, co, rfl, hCA⟩ := hand_code HCW.out HFU.out b1
    have hCN : CodeAt Y2.drew wb 0 n f := ⟨HWD.out.here, fun i hi => by
      have := HWD.out.cell i (by omega)
      simp only [if_pos hi] at this
      rw [Nat.zero_add]
      exact this, HFU.out⟩
    have hDN : DatN Y2.drew (some ⟨bb, 0, none⟩) len mem := fun i hi => ⟨bb, 0, rfl, HBBD.out.here, by
      have := HBBD.out.cell i (by omega)
      simp only [if_pos hi] at this
      rw [Nat.zero_add]
      exact this⟩
    have HNN : Hid (n ≤ 4096) := b2
    have HLN : Hid (len ≤ 4096) := by show len ≤ 4096; omega
    have HL16 : Hid (len % 16 = 0) := by show len % 16 = 0; omega
    have HCA := Hid.in hCA
    clear himg hCA b1 b2 b3 b4 b6
    refine wp_any (reg5 (some ⟨cb, co, none⟩) dq n cc len dc wb bb m ml hnm hlm Y2 (P := fun va vb y => ∃ p hq cg cap dv, va = .pointer (some ⟨p, 0, none⟩) ∧ vb = .nilIface ∧ Mx Y2.drew y Y2.drew.heap.size p hq cg n cap dv (.slice none 0 0) (newH (.slice (some ⟨cg, 0, none⟩) n cap) len 0) len f ⟨mem, [], 0, false⟩) ((xnew_good wb 0 n m (some ⟨bb, 0, none⟩) len ml Y2.drew HI.out f hCN mem HM8.out hDN (fun e => by cases e)).mono fun e y ⟨p, hq, cg, cap, dv, h1, h2, _⟩ => ⟨_, _, h1, p, hq, cg, cap, dv, rfl, rfl, h2⟩) (fun va vb t48 t49 t50 t51 t52 t53 t54 t55 t56 t57 t58 t59 y1 hp => ?_))
    obtain ⟨p, hq, cg, cap, dv, rfl, rfl, hM⟩ := hp
    have HM := Hid.in hM
    have HY1 := Hid.in (below2 HBD.out hM.low)
    clear hM hCN hDN
    go_upto_block 0 with (go_at_call 6; refine (rmnew_good (some ⟨cb, co, none⟩) n cc dq len dc _ HI.out HLN.out mem HM8.out ((hand_dat HDT.out).below HY1.out) HDQ.out).mono ?_; rintro e y2 ⟨r, rh, db, rfl, hR, hlo, hb⟩; have HR := Hid.in hR; have HLO := Hid.in hlo; have HB12 := Hid.in hb; clear hR hlo hb)
    have HY2 := Hid.in (HY1.out.trans (HB12.out.mono HY1.out.size))
    have HWY := Hid.in ((HWD.out.below HM.out.low).below HB12.out)
    have HBY := Hid.in ((HBBD.out.below HM.out.low).below HB12.out)
    refine wp_any (lp0 (some ⟨cb, co, none⟩) n m cc wb f _ m63 (cells_lp HCW.out HY2.out (by have := HSZ.out; omega)) HWY.out (fun t8 t15 t66 t67 t68 t69 t70 t71 t72 t73 t74 t75 t76 t77 t78 t79 t80 t81 t82 t83 t84 t85 t86 t87 t88 t89 t90 t91 t92 t93 t94 t95 t96 t97 t98 t99 t100 t101 t102 y3 hT3 => ?_))
    have HB3 := Hid.in (HY2.out.trans (hT3.below HY2.out.size (fun k e => by have := HSZ.out; omega)))
    have HBB3 := Hid.in (hT3.cells HBY.out (by have := HSZ.out; omega))
    have HT3 := Hid.in hT3
    clear hT3
    go_upto_block 2 with fail
    refine wp_any (lp2 dq len ml dc bb (fun i => (mem i : Int)) _ l63 (cells_lp HDT.out HB3.out (by have := HSZ.out; omega)) HBB3.out (fun t8 t16 t103 t104 t105 t106 t107 t108 t109 t110 t111 t112 t113 t114 t115 t116 t117 t118 t119 t120 t121 t122 t123 t124 t125 t126 t127 t128 t129 t130 t131 t132 t133 t134 t135 t136 t137 t138 t139 y4 hT4 => ?_))
    have HLW := Hid.in (start_lw rfl HBD.out HM.out HR.out HLO.out HB12.out HT3.out hT4 (by have := HSZ.out; exact ⟨by omega, by show wb < Y2.heap.size; omega⟩) (by have := HSZ.out; exact ⟨by omega, by show bb < Y2.heap.size; omega⟩) HCA.out)
    clear hT4 HB3 HBB3 HT3 HWY HBY HY2 HB12 HLO HR HY1 HM HBBD HWD HBD HSZ HB2 HW HBB m63 l63 i3 i4 hnm hlm
    go_wp2_with (go_at_call 7; refine (told_nil _).mono ?_; rintro e y5 ⟨rfl, hb5⟩; have HL5 := Hid.in (HLW.out.below hb5); clear hb5)
    go_loopw [18] (fun kv wr => ∃ (k : Nat) (S : HS) (M : MS) (ov : Value), kv = .int .i64 k ∧ k ≤ 2000 ∧ Lw w wr p hq cg n cap dv ov r rh db cb co len f S M S M ∧ S.Fit ∧ S.code = .slice (some ⟨cb, co, none⟩) n cc ∧ S.size = len ∧ M.out.length ≤ k) (fun kv _ => 2001 - (intOf kv).toNat)
    case atStart => exact ⟨0, _, _, _, rfl, by omega, HL5.out, new_fit _ _ _ (by have := HLN.out; omega), rfl, rfl, by simp⟩
    case round =>
      obtain ⟨k, S, M, ov, rfl, hk, hK, hF, hco, hs, ho⟩ := hrel
      have HK := Hid.in hK
      have HF := Hid.in hF
      have HCO := Hid.in hco
      have HS := Hid.in hs
      have HO := Hid.in ho
      clear hK hF hco hs ho HL5 HLW
      by_cases hgo : (k : Int) < steps ∧ k < 2000
      · obtain ⟨g1, g2⟩ := hgo
        have g2' : (k : Int) < 2000 := by omega
        go_upto_block 6 with fail
        refine wp_any (lp6 lq ll lc g k w wr p hq cg n cap dv ov r rh db cb co len f S M hll HLI.out HK.out (fun t19 t163 t164 t165 t166 t167 t168 t169 t170 t171 t172 t173 t174 t175 t176 t177 t178 t179 t180 t181 t182 t183 t184 t185 t186 t187 t188 b y1 hK1 => ?_))
        obtain ⟨M1, hM1⟩ : ∃ M1, { M with line := b } = M1 := ⟨_, rfl⟩
        have HO1 : Hid (M1.out.length ≤ k) := by rw [← hM1]; exact HO.out
        rw [hM1] at hK1
        have HK1 := Hid.in hK1
        clear hK1 hM1
        obtain ⟨res, ok, S', M', hone⟩ := one_is M1 n f len HF.out HS.out
        obtain ⟨hF', hkept, hout, ⟨e0, e1, e2, e3, e4, e5, e6, rfl⟩, hz⟩ := one_fit hone HF.out HFU.out HNN.out HK1.out.mx.m8
        have HONE := Hid.in hone
        have HF' := Hid.in hF'
        have HKP := Hid.in hkept
        have HOUT : Hid (M'.out.length ≤ k + 1) := by have := HO1.out; show M'.out.length ≤ k + 1; omega
        have HP := Hid.in (pone HK1.out hone HF.out HS.out HL16.out HNN.out HLN.out (by have := HO1.out; omega) HL.out)
        have e16 : (k : Int).tmod 16 = (k : Int) % 16 := Int.tmod_eq_emod_of_nonneg (by omega)
        clear hone hF' hkept hout
        cases ok
        · have hz2 := hz rfl
          unfold zeroR at hz2
          simp only [Value.agg.injEq, Array.mk.injEq, List.cons.injEq, Value.int.injEq, and_true, true_and] at hz2
          have HZ := Hid.in hz2
          clear hz hz2
          go_upto_region 35 with (first
            | (go_at_call 9; refine HP.out.mono ?_; rintro e y2 ⟨rfl, ov', hK2⟩; have HK2 := Hid.in hK2; clear hK2)
            | (go_at_call 10; refine (rone (by have := HO1.out; omega) (HK2.out.below ((Below.refl _ _).alloc (Nat.le_refl _) (.cells #[.int .u32 e0, .int .u32 e1, .int .i64 e2, .int .u32 e3, .int .i64 e4, .int .u32 e5, .int .u32 e6] 41))) HONE.out HCO.out HF.out HNN.out HLN.out).mono ?_; rintro e y3 ⟨rfl, hK3, hT3⟩; have HK3 := Hid.in hK3; have HT3 := Hid.in hT3; clear hK3 hT3))
          obtain ⟨Z, hZ⟩ : ∃ Z, y3.alloc (.cells #[.int .u32 e0, .int .u32 e1, .int .i64 e2, .int .u32 e3, .int .i64 e4, .int .u32 e5, .int .u32 e6] 44) = Z := ⟨_, rfl⟩
          obtain ⟨xb, hxB⟩ : ∃ xb, y2.heap.size = xb := ⟨_, rfl⟩
          obtain ⟨yb, hyB⟩ : ∃ yb, y3.heap.size = yb := ⟨_, rfl⟩
          have bZ : Below y3.heap.size y3 Z := by rw [← hZ]; exact (Below.refl _ _).alloc (Nat.le_refl _) _
          have kx0 : CellsAt 7 (y2.alloc (.cells #[.int .u32 e0, .int .u32 e1, .int .i64 e2, .int .u32 e3, .int .i64 e4, .int .u32 e5, .int .u32 e6] 41)) y2.heap.size (fun i => #[.int .u32 e0, .int .u32 e1, .int .i64 e2, .int .u32 e3, .int .i64 e4, .int .u32 e5, .int .u32 e6].getD i undef) := cells_new y2 (fun i hi => by
            match i, hi with
            | 0, _ => rfl
            | 1, _ => rfl
            | 2, _ => rfl
            | 3, _ => rfl
            | 4, _ => rfl
            | 5, _ => rfl
            | 6, _ => rfl)
          have ky : CellsAt 7 Z yb (fun i => #[.int .u32 e0, .int .u32 e1, .int .i64 e2, .int .u32 e3, .int .i64 e4, .int .u32 e5, .int .u32 e6].getD i undef) := by
            rw [← hZ, ← hyB]
            exact cells_new y3 (fun i hi => by
              match i, hi with
              | 0, _ => rfl
              | 1, _ => rfl
              | 2, _ => rfl
              | 3, _ => rfl
              | 4, _ => rfl
              | 5, _ => rfl
              | 6, _ => rfl)
          have kx : CellsAt 7 Z xb (fun i => #[.int .u32 e0, .int .u32 e1, .int .i64 e2, .int .u32 e3, .int .i64 e4, .int .u32 e5, .int .u32 e6].getD i undef) := by
            rw [← hxB]
            refine (HT3.out.cells kx0 ?_).below bZ
            obtain ⟨a1, a2, a3⟩ := HK2.out.rx.at
            rintro ((e | e) | e)
            · omega
            · omega
            · omega
          rw [hZ, hxB, hyB]
          have HKZ := Hid.in (HK3.out.below bZ)
          have KX := Hid.in kx
          have KY := Hid.in ky
          have hxb : xb < Z.heap.size := kx.here
          have hyb : yb < Z.heap.size := ky.here
          clear hZ hxB hyB bZ kx0 ky kx HK2 HK3 HT3 HP HONE HK1 HK
          obtain ⟨rfl, rfl, rfl, rfl, rfl, rfl, rfl⟩ := HZ.out
          refine wp_any (reg35b xb Z hxb (KX.out.cell 0 (by decide)) (KX.out.cell 1 (by decide)) (KX.out.cell 2 (by decide)) (KX.out.cell 3 (by decide)) (KX.out.cell 4 (by decide)) (KX.out.cell 5 (by decide)) (KX.out.cell 6 (by decide)) (fun t199 t200 t201 t202 t203 t204 t205 t206 t207 t208 t209 t210 t211 t212 t213 t214 t215 t216 t217 t218 z hb => ?_))
          clear hyb KY
          have HKz := Hid.in (HKZ.out.below hb)
          clear hb HKZ KX hxb
          by_cases h5 : (k : Int) % 16 = 5
          · go_wp2_with (first
              | (go_at_call 12; refine (xdata_own HKz.out.mx HLN.out).mono ?_; rintro e z1 ⟨v', rfl, hb1, hown⟩; obtain ⟨q, c, rfl⟩ := own_slice hown; have HB1 := Hid.in hb1; have HOW := Hid.in hown; have HK4 := Hid.in (HKz.out.below hb1); have c1 : z1.cell? ⟨r, 1, none⟩ = some (.slice (some ⟨db, 0, none⟩) len len) := HK4.out.rx.c.cell 1 (by decide); have hr1 := HK4.out.rx.c.here; clear hb1 hown)
              | (go_at_call 13; refine (apart_any q c len z.heap.size db len M'.mem z1 HOW.out HK4.out.rx.d HK4.out.rx.m8 (fun e => by have h1 := (own_base HOW.out _ e).1; have h2 := HKz.out.rx.d.here; omega) HLN.out HB1.out.size).mono ?_; rintro e z2 ⟨rfl, hT⟩; have HK5 := Hid.in (HKz.out.below (HB1.out.trans (hT.below HB1.out.size (fun j hj => (own_base HOW.out j hj).1)))); clear hT))
            go_roundw
            case rel => exact ⟨k + 1, S', M', ov', by go_num, by omega, HK5.out, HF'.out, HKP.out.1.trans HCO.out, HKP.out.2.1.trans HS.out, HOUT.out⟩
            case measure =>
              simp [intOf]
              omega
          · go_wp2
            go_roundw
            case rel => exact ⟨k + 1, S', M', ov', by go_num, by omega, HKz.out, HF'.out, HKP.out.1.trans HCO.out, HKP.out.2.1.trans HS.out, HOUT.out⟩
            case measure =>
              simp [intOf]
              omega
        · clear hz
          go_upto_region 35 with (first
            | (go_at_call 9; refine HP.out.mono ?_; rintro e y2 ⟨rfl, ov', hK2⟩; have HK2 := Hid.in hK2; clear hK2)
            | (go_at_call 10; refine (rone (by have := HO1.out; omega) (HK2.out.below ((Below.refl _ _).alloc (Nat.le_refl _) (.cells #[.int .u32 e0, .int .u32 e1, .int .i64 e2, .int .u32 e3, .int .i64 e4, .int .u32 e5, .int .u32 e6] 41))) HONE.out HCO.out HF.out HNN.out HLN.out).mono ?_; rintro e y3 ⟨rfl, hK3, hT3⟩; have HK3 := Hid.in hK3; have HT3 := Hid.in hT3; clear hK3 hT3))
          obtain ⟨Z, hZ⟩ : ∃ Z, y3.alloc (.cells #[.int .u32 e0, .int .u32 e1, .int .i64 e2, .int .u32 e3, .int .i64 e4, .int .u32 e5, .int .u32 e6] 44) = Z := ⟨_, rfl⟩
          obtain ⟨xb, hxB⟩ : ∃ xb, y2.heap.size = xb := ⟨_, rfl⟩
          obtain ⟨yb, hyB⟩ : ∃ yb, y3.heap.size = yb := ⟨_, rfl⟩
          have bZ : Below y3.heap.size y3 Z := by rw [← hZ]; exact (Below.refl _ _).alloc (Nat.le_refl _) _
          have kx0 : CellsAt 7 (y2.alloc (.cells #[.int .u32 e0, .int .u32 e1, .int .i64 e2, .int .u32 e3, .int .i64 e4, .int .u32 e5, .int .u32 e6] 41)) y2.heap.size (fun i => #[.int .u32 e0, .int .u32 e1, .int .i64 e2, .int .u32 e3, .int .i64 e4, .int .u32 e5, .int .u32 e6].getD i undef) := cells_new y2 (fun i hi => by
            match i, hi with
            | 0, _ => rfl
            | 1, _ => rfl
            | 2, _ => rfl
            | 3, _ => rfl
            | 4, _ => rfl
            | 5, _ => rfl
            | 6, _ => rfl)
          have ky : CellsAt 7 Z yb (fun i => #[.int .u32 e0, .int .u32 e1, .int .i64 e2, .int .u32 e3, .int .i64 e4, .int .u32 e5, .int .u32 e6].getD i undef) := by
            rw [← hZ, ← hyB]
            exact cells_new y3 (fun i hi => by
              match i, hi with
              | 0, _ => rfl
              | 1, _ => rfl
              | 2, _ => rfl
              | 3, _ => rfl
              | 4, _ => rfl
              | 5, _ => rfl
              | 6, _ => rfl)
          have kx : CellsAt 7 Z xb (fun i => #[.int .u32 e0, .int .u32 e1, .int .i64 e2, .int .u32 e3, .int .i64 e4, .int .u32 e5, .int .u32 e6].getD i undef) := by
            rw [← hxB]
            refine (HT3.out.cells kx0 ?_).below bZ
            obtain ⟨a1, a2, a3⟩ := HK2.out.rx.at
            rintro ((e | e) | e)
            · omega
            · omega
            · omega
          rw [hZ, hxB, hyB]
          have HKZ := Hid.in (HK3.out.below bZ)
          have KX := Hid.in kx
          have KY := Hid.in ky
          have hxb : xb < Z.heap.size := kx.here
          have hyb : yb < Z.heap.size := ky.here
          clear hZ hxB hyB bZ kx0 ky kx HK2 HK3 HT3 HP HONE HK1 HK
          refine wp_any (reg35a xb yb e0 e1 e2 e3 e4 e5 e6 Z hxb hyb (KX.out.cell 0 (by decide)) (KX.out.cell 1 (by decide)) (KX.out.cell 2 (by decide)) (KX.out.cell 3 (by decide)) (KX.out.cell 4 (by decide)) (KX.out.cell 5 (by decide)) (KX.out.cell 6 (by decide)) (KY.out.cell 0 (by decide)) (KY.out.cell 1 (by decide)) (KY.out.cell 2 (by decide)) (KY.out.cell 3 (by decide)) (KY.out.cell 4 (by decide)) (KY.out.cell 5 (by decide)) (KY.out.cell 6 (by decide)) (fun t199 t200 t201 t202 t203 t204 t205 t206 t207 t208 t209 t210 t211 t212 t213 t214 t215 t216 t217 t218 z hb => ?_))
          clear hyb KY
          have HKz := Hid.in (HKZ.out.below hb)
          clear hb HKZ KX hxb
          by_cases h5 : (k : Int) % 16 = 5
          · go_wp2_with (first
              | (go_at_call 12; refine (xdata_own HKz.out.mx HLN.out).mono ?_; rintro e z1 ⟨v', rfl, hb1, hown⟩; obtain ⟨q, c, rfl⟩ := own_slice hown; have HB1 := Hid.in hb1; have HOW := Hid.in hown; have HK4 := Hid.in (HKz.out.below hb1); have c1 : z1.cell? ⟨r, 1, none⟩ = some (.slice (some ⟨db, 0, none⟩) len len) := HK4.out.rx.c.cell 1 (by decide); have hr1 := HK4.out.rx.c.here; clear hb1 hown)
              | (go_at_call 13; refine (apart_any q c len z.heap.size db len M'.mem z1 HOW.out HK4.out.rx.d HK4.out.rx.m8 (fun e => by have h1 := (own_base HOW.out _ e).1; have h2 := HKz.out.rx.d.here; omega) HLN.out HB1.out.size).mono ?_; rintro e z2 ⟨rfl, hT⟩; have HK5 := Hid.in (HKz.out.below (HB1.out.trans (hT.below HB1.out.size (fun j hj => (own_base HOW.out j hj).1)))); clear hT))
            go_roundw
            case rel => exact ⟨k + 1, S', M', ov', by go_num, by omega, HK5.out, HF'.out, HKP.out.1.trans HCO.out, HKP.out.2.1.trans HS.out, HOUT.out⟩
            case measure =>
              simp [intOf]
              omega
          · go_wp2
            go_roundw
            case rel => exact ⟨k + 1, S', M', ov', by go_num, by omega, HKz.out, HF'.out, HKP.out.1.trans HCO.out, HKP.out.2.1.trans HS.out, HOUT.out⟩
            case measure =>
              simp [intOf]
              omega
      · as_aux_lemma =>
          by_cases g1 : (k : Int) < steps
          · have g2 : ¬ (k : Int) < 2000 := by omega
            have g3 : decide ((k : Int) < 2000) = false := decide_eq_false g2
            have g4 : decide (k < 2000) = false := decide_eq_false (by omega)
            clear hgo
            go_wp2_with (first
              | (go_at_call 14; refine (xhart_any HK.out.mx).mono ?_; rintro e x ⟨rfl, hx⟩; have hx2 := hx.symm; clear hx; subst hx2)
              | (go_at_call 12; refine (xdata_own HK1.out.mx HLN.out).mono ?_; rintro e z2 ⟨v', rfl, hb2, hown⟩; obtain ⟨q2, c2, rfl⟩ := own_slice hown; have HB2 := Hid.in hb2; have HOW2 := Hid.in hown; have HK2 := Hid.in (HK1.out.below hb2); have HOW12 := Hid.in (own_turned HOW1.out (Turned.of_below (Q := fun _ => False) hb2) (fun _ _ e => e)); have d1 : z2.cell? ⟨r, 1, none⟩ = some (.slice (some ⟨db, 0, none⟩) len len) := HK2.out.rx.c.cell 1 (by decide); have dr2 := HK2.out.rx.c.here; clear hb2 hown)
              | (go_at_call 12; refine (xdata_own HK.out.mx HLN.out).mono ?_; rintro e z1 ⟨v', rfl, hb1, hown⟩; obtain ⟨q1, c1, rfl⟩ := own_slice hown; have HB1 := Hid.in hb1; have HOW1 := Hid.in hown; have HK1 := Hid.in (HK.out.below hb1); clear hb1 hown)
              | (go_at_call 15; refine (xout_any HK2.out.mx).mono ?_; rintro e x ⟨rfl, hx⟩; have hx2 := hx.symm; clear hx; subst hx2)
              | (go_at_call 13; refine (apart_any q2 c2 len z1.heap.size db len M.mem z3 HOW23.out HK3.out.rx.d HK3.out.rx.m8 (fun e => by have h1 := (own_base HOW2.out _ e).1; have h2 := HK1.out.rx.d.here; omega) HLN.out (Nat.le_trans HB2.out.size HS3.out)).mono ?_; rintro e z4 ⟨rfl, hT⟩; have HB4 := Hid.in (HB3.out.trans (hT.below HB3.out.size (fun j hj => Nat.le_trans HB1.out.size (own_base HOW2.out j hj).1))); have HK4 := Hid.in (HK.out.below HB4.out); have c2s : z4.cell? ⟨r, 2, none⟩ = some (.string (strOfNums M.out)) := HK4.out.rx.c.cell 2 (by decide); have c0s : z4.cell? ⟨r, 0, none⟩ = some (.pointer (some ⟨rh, 0, none⟩)) := HK4.out.rx.c.cell 0 (by decide); have cr4 := HK4.out.rx.c.here; clear hT)
              | (go_at_call 13; refine (apart_any q1 c1 len wr.heap.size db len M.mem z2 HOW12.out HK2.out.rx.d HK2.out.rx.m8 (fun e => by have h1 := (own_base HOW1.out _ e).1; have h2 := HK.out.rx.d.here; omega) HLN.out (Nat.le_trans HB1.out.size HB2.out.size)).mono ?_; rintro e z3 ⟨rfl, hT⟩; have HS3 := Hid.in hT.size; have HB3 := Hid.in ((HB1.out.trans (HB2.out.mono HB1.out.size)).trans (hT.below (Nat.le_trans HB1.out.size HB2.out.size) (fun j hj => (own_base HOW1.out j hj).1))); have HK3 := Hid.in (HK.out.below HB3.out); have HOW23 := Hid.in (own_turned HOW2.out hT (fun j hj e => by have h1 := (own_base HOW2.out j hj).1; have h2 := (own_base HOW1.out j e).2; omega)); have f1 : z3.cell? ⟨r, 1, none⟩ = some (.slice (some ⟨db, 0, none⟩) len len) := HK3.out.rx.c.cell 1 (by decide); have fr3 := HK3.out.rx.c.here; clear hT)
              | (go_at_call 16; refine (regs_any hq rh _ S _ HK4.out.mx.h HK4.out.rx.h).mono ?_; rintro e x ⟨rfl, hx⟩; have hx2 := hx.symm; clear hx; subst hx2)
              | (go_at_call 17; refine (csrs_any hq rh _ S _ HK4.out.mx.h HK4.out.rx.h).mono ?_; rintro e x ⟨rfl, hx⟩; have hx2 := hx.symm; clear hx; subst hx2))
            go_ret
            exact ⟨by simp, HK4.out.mx.low⟩
          · have g3 : decide ((k : Int) < steps) = false := decide_eq_false g1
            clear hgo
            go_wp2_with (first
              | (go_at_call 14; refine (xhart_any HK.out.mx).mono ?_; rintro e x ⟨rfl, hx⟩; have hx2 := hx.symm; clear hx; subst hx2)
              | (go_at_call 12; refine (xdata_own HK1.out.mx HLN.out).mono ?_; rintro e z2 ⟨v', rfl, hb2, hown⟩; obtain ⟨q2, c2, rfl⟩ := own_slice hown; have HB2 := Hid.in hb2; have HOW2 := Hid.in hown; have HK2 := Hid.in (HK1.out.below hb2); have HOW12 := Hid.in (own_turned HOW1.out (Turned.of_below (Q := fun _ => False) hb2) (fun _ _ e => e)); have d1 : z2.cell? ⟨r, 1, none⟩ = some (.slice (some ⟨db, 0, none⟩) len len) := HK2.out.rx.c.cell 1 (by decide); have dr2 := HK2.out.rx.c.here; clear hb2 hown)
              | (go_at_call 12; refine (xdata_own HK.out.mx HLN.out).mono ?_; rintro e z1 ⟨v', rfl, hb1, hown⟩; obtain ⟨q1, c1, rfl⟩ := own_slice hown; have HB1 := Hid.in hb1; have HOW1 := Hid.in hown; have HK1 := Hid.in (HK.out.below hb1); clear hb1 hown)
              | (go_at_call 15; refine (xout_any HK2.out.mx).mono ?_; rintro e x ⟨rfl, hx⟩; have hx2 := hx.symm; clear hx; subst hx2)
              | (go_at_call 13; refine (apart_any q2 c2 len z1.heap.size db len M.mem z3 HOW23.out HK3.out.rx.d HK3.out.rx.m8 (fun e => by have h1 := (own_base HOW2.out _ e).1; have h2 := HK1.out.rx.d.here; omega) HLN.out (Nat.le_trans HB2.out.size HS3.out)).mono ?_; rintro e z4 ⟨rfl, hT⟩; have HB4 := Hid.in (HB3.out.trans (hT.below HB3.out.size (fun j hj => Nat.le_trans HB1.out.size (own_base HOW2.out j hj).1))); have HK4 := Hid.in (HK.out.below HB4.out); have c2s : z4.cell? ⟨r, 2, none⟩ = some (.string (strOfNums M.out)) := HK4.out.rx.c.cell 2 (by decide); have c0s : z4.cell? ⟨r, 0, none⟩ = some (.pointer (some ⟨rh, 0, none⟩)) := HK4.out.rx.c.cell 0 (by decide); have cr4 := HK4.out.rx.c.here; clear hT)
              | (go_at_call 13; refine (apart_any q1 c1 len wr.heap.size db len M.mem z2 HOW12.out HK2.out.rx.d HK2.out.rx.m8 (fun e => by have h1 := (own_base HOW1.out _ e).1; have h2 := HK.out.rx.d.here; omega) HLN.out (Nat.le_trans HB1.out.size HB2.out.size)).mono ?_; rintro e z3 ⟨rfl, hT⟩; have HS3 := Hid.in hT.size; have HB3 := Hid.in ((HB1.out.trans (HB2.out.mono HB1.out.size)).trans (hT.below (Nat.le_trans HB1.out.size HB2.out.size) (fun j hj => (own_base HOW1.out j hj).1))); have HK3 := Hid.in (HK.out.below HB3.out); have HOW23 := Hid.in (own_turned HOW2.out hT (fun j hj e => by have h1 := (own_base HOW2.out j hj).1; have h2 := (own_base HOW1.out j e).2; omega)); have f1 : z3.cell? ⟨r, 1, none⟩ = some (.slice (some ⟨db, 0, none⟩) len len) := HK3.out.rx.c.cell 1 (by decide); have fr3 := HK3.out.rx.c.here; clear hT)
              | (go_at_call 16; refine (regs_any hq rh _ S _ HK4.out.mx.h HK4.out.rx.h).mono ?_; rintro e x ⟨rfl, hx⟩; have hx2 := hx.symm; clear hx; subst hx2)
              | (go_at_call 17; refine (csrs_any hq rh _ S _ HK4.out.mx.h HK4.out.rx.h).mono ?_; rintro e x ⟨rfl, hx⟩; have hx2 := hx.symm; clear hx; subst hx2))
            go_ret
            exact ⟨by simp, HK4.out.mx.low⟩
end Go.Proofs.YtengofkjlgajlaaGreatDoor
