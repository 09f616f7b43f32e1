/-
  LSQ's LAW LsqMemory: all of it.
-/
import Derived.Test.YthbffonedpeeiaaDoorZmg
import Derived.Test.YthbffonedpeeiaaDoorZmj
import Derived.Test.YthbffonedpeeiaaDoorZmh
import Derived.Test.YthbffonedpeeiaaDoorZmi
import Derived.Test.YthbffonedpeeiaaDoorZme
import Derived.Laws.MakeOwn
import Derived.Deep.CutBlock
import Derived.StillTailTactics
import Derived.Deep.DeepCutAuto
namespace Go.Proofs.YthbffonedpeeiaaDoor
open Go Go.RowKit
set_option maxRecDepth 100000 in
set_option maxHeartbeats 4000000 in
theorem memory_any (size : Int) (bold : Bool) (lp : Option Addr) (m cl : Nat) (op : Option Addr) (mo co : Nat) (g : Nat → Acc) (ord : Nat → Int) (w : World) (hsz : I64 size) (hl : Accs w lp m g) (ho : Ints w op mo ord) (hm : m ≤ cl ∧ cl ≤ 9223372036854775807) (hg : handleAt w) (hgs : 0 < w.heap.size) : Calls Tryd.prog 4 #[.int .i64 size, .bool bold, .slice lp m cl, .slice op mo co] w fun e w' => e = .returned (.bool true) ∧ Below w.heap.size w w' := by
  have HGR : Hid (∀ y, Below w.heap.size w y → handleAt y) := fun y hy => (hy.cell (p := ⟨0, 0, none⟩) hgs).trans hg
  have hps := pk_lt size 32 (by decide)
  have HP := Hid.in fun x => pick_any size 32 x hsz (by decide)
  obtain ⟨ps, hpse⟩ : ∃ ps, pk size 32 = ps := ⟨_, rfl⟩
  rw [hpse] at hps HP
  have HN : Hid (∀ x, w.heap.size ≤ x.heap.size → Calls Tryd.prog 5 #[.int .i64 (1 + (ps : Int))] x fun e x' => e = .returned (.tuple #[.pointer (some ⟨x.heap.size, 0, none⟩), .nilIface]) ∧ Qm x' w.heap.size x.heap.size (.slice none 0 0) ⟨1 + ps, []⟩ ∧ Below x.heap.size x x') := fun x hx => new_good w.heap.size (1 + ps) x hx (by omega)
  obtain ⟨n, hn⟩ : ∃ n, (if m ≤ 60 then m else 60) = n := ⟨_, rfl⟩
  have hn60 : n ≤ 60 := by rw [← hn]; split <;> omega
  have hnm : n ≤ m := by rw [← hn]; split <;> omega
  have HL : Hid (Accs w lp n g) := fun i hi => hl i (by omega)
  have HO := Hid.in ho
  have HNN := Hid.in hn
  have hcl := hm.1
  have hcl2 := hm.2
  clear hl ho hg hgs hsz hpse hm hn
  go_enter Tryd.func4, Tryd.ntmps4
  go_upto_if 41 with (first
    | (go_at_call 30; refine (HP.out _).mono ?_; rintro e x ⟨rfl, hx⟩; have hx2 := hx.symm; clear hx; subst hx2)
    | (go_at_call 5; refine (HN.out _ (Nat.le_refl _)).mono ?_; rintro e w1 ⟨rfl, k1, b1⟩; have HK1 := Hid.in k1; have HB1 := Hid.in b1; clear k1 b1))
  go_cut [11] (fun nv wd => nv = .int .i64 n ∧ wd = w1)
  case first =>
    by_cases h60 : m ≤ 60
    · have hn : m = n := by rw [← HNN.out, if_pos h60]
      subst hn
      have h61 : ¬ (60 : Int) < (m : Int) := by omega
      go_wp2
      go_meet
      exact ⟨rfl, rfl⟩
    · have hn : 60 = n := by rw [← HNN.out, if_neg h60]
      subst hn
      have h61 : (60 : Int) < (m : Int) := by omega
      go_wp2
      go_meet
      exact ⟨rfl, rfl⟩
  case rest =>
    obtain ⟨rfl, rfl⟩ := hcut
    go_upto_region 7 with fail
    refine wp_any (reg7 n m (1 + ps) w wc _ cl lp hn60 ⟨hnm, hcl⟩ HK1.out HB1.out (fun t42 t43 t44 t45 t46 t47 t48 t49 t50 t51 t52 t53 t54 t55 t56 y0 b hX0 => ?_))
    · have HX0 := Hid.in hX0
      have HHN := Hid.in hn60
      clear hX0 HP HN HK1 HB1 hps
      generalize w.heap.size = q at HX0 ⊢
      go_wp2
      go_loopw [13] (fun tv wr => ∃ (t r : Nat) (M : Ms) (v : Value), tv = .int .i64 t ∧ Xm w wr q v (.slice lp n cl) b n M ∧ Kept g n M r ∧ (t ≤ 4000 ∨ t + M.psi n r ≤ 4274)) (fun tv _ => 8001 - (intOf tv).toNat)
      case atStart => exact ⟨0, 0, _, _, rfl, HX0.out, kept0 g n _ (by omega), Or.inl (by omega)⟩
      case round =>
        obtain ⟨t, r, M, v, rfl, hX, hK, ht⟩ := hrel
        have HX := Hid.in hX
        have HK := Hid.in hK
        have HT := Hid.in ht
        have ht2 : t ≤ 4274 := by omega
        obtain ⟨hb0, c0, c1, c2, c3, -⟩ := hX.cells
        have HLN := Hid.in (len_any _ q v M.S wr hX.qm)
        have hsm := hX.qm.small.1
        have hio := hK.io
        have hlen := hK.len
        obtain ⟨ot, hot⟩ : ∃ ot, M.out = ot := ⟨_, rfl⟩
        rw [hot] at c3 hio hlen
        obtain ⟨ln, hln⟩ : ∃ ln, M.S.on.length = ln := ⟨_, rfl⟩
        rw [hln] at HLN hsm hlen
        have HOT := Hid.in hot
        have HLL := Hid.in hln
        have HLEN := Hid.in hlen
        clear hX hK ht hot hln hlen
        go_upto_region 9 with fail
        go_cut [67] (fun cv wd => cv = .bool (decide (ot < n ∨ 0 < ln)) ∧ wd = wr)
        case first =>
          as_aux_lemma =>
            by_cases h1 : ot < n
            · have h1' : (ot : Int) < (n : Int) := by omega
              go_wp2_with (go_at_call 31; refine HLN.out.mono ?_; rintro e x ⟨rfl, hx⟩; have hx2 := hx.symm; clear hx; subst hx2)
              go_meet
              exact ⟨by rw [decide_eq_true (p := ot < n ∨ 0 < ln) (Or.inl h1)], rfl⟩
            · have h1' : ¬ (ot : Int) < (n : Int) := by omega
              have h1d : decide ((ot : Int) < (n : Int)) = false := decide_eq_false h1'
              have h1e : decide (ot < n) = false := decide_eq_false h1
              by_cases h2 : 0 < ln
              · go_wp2_with (go_at_call 31; refine HLN.out.mono ?_; rintro e x ⟨rfl, hx⟩; have hx2 := hx.symm; clear hx; subst hx2)
                go_meet
                exact ⟨by rw [decide_eq_true (p := ot < n ∨ 0 < ln) (Or.inr h2)], rfl⟩
              · go_wp2_with (go_at_call 31; refine HLN.out.mono ?_; rintro e x ⟨rfl, hx⟩; have hx2 := hx.symm; clear hx; subst hx2)
                go_meet
                exact ⟨by rw [decide_eq_false (p := ot < n ∨ 0 < ln) (fun q => q.elim h1 h2)], rfl⟩
        case rest =>
          obtain ⟨rfl, rfl⟩ := hcut
          by_cases hgo : ot < n ∨ 0 < ln
          · rw [decide_eq_true hgo]
            have ht3 : ¬ (8000 : Int) < (t : Int) := by omega
            have hio2 := hio
            clear c0 c1 c2 c3 hb0 hsm
            go_upto_region 17 with (go_at_call 32; refine (xenter_any g n r w _ q cl v lp b M HL.out HHN.out HX.out HK.out HGR.out).mono ?_; rintro e x1 ⟨rfl, M1, v1, hX1, hK1, hA1, hle1, hfull⟩; have HX1 := Hid.in hX1; have HK1 := Hid.in hK1; have HA1 := Hid.in hA1; have HLE1 := Hid.in hle1; have HFU := Hid.in hfull; clear hX1 hK1 hA1 hle1 hfull)
            go_cut [83] (fun cv wd => cv = .bool (decide (t < mo ∧ t < 4000)) ∧ wd = x1)
            case first =>
              as_aux_lemma =>
                by_cases hc1 : t < mo
                · have hc1' : (t : Int) < (mo : Int) := by omega
                  by_cases hc2 : t < 4000
                  · have hc2' : (t : Int) < 4000 := by omega
                    go_wp2
                    go_meet
                    exact ⟨by rw [decide_eq_true (p := t < mo ∧ t < 4000) ⟨hc1, hc2⟩], rfl⟩
                  · have hc2d : decide (t < 4000) = false := decide_eq_false hc2
                    have hc2e : decide ((t : Int) < 4000) = false := decide_eq_false (by omega)
                    go_wp2
                    go_meet
                    exact ⟨by rw [decide_eq_false (p := t < mo ∧ t < 4000) (fun q => hc2 q.2)], rfl⟩
                · have hc1d : decide (t < mo) = false := decide_eq_false hc1
                  have hc1e : decide ((t : Int) < (mo : Int)) = false := decide_eq_false (by omega)
                  go_wp2
                  go_meet
                  exact ⟨by rw [decide_eq_false (p := t < mo ∧ t < 4000) (fun q => hc1 q.1)], rfl⟩
            case rest =>
            obtain ⟨rfl, rfl⟩ := hcut
            go_upto_if 83 with fail
            go_cut [15] (fun cv wd => ∃ c : Nat, cv = .int .i64 c ∧ (4000 ≤ t → c = 0) ∧ c < 1048576 ∧ wd = wc)
            case first =>
              as_aux_lemma =>
                by_cases hc0 : t < mo ∧ t < 4000
                · rw [decide_eq_true hc0]
                  obtain ⟨hc1, hc2⟩ := hc0
                  obtain ⟨ob, oo, hop, hol, hoc, hoi⟩ := HO.out t hc1
                  cases hop
                  have hoc := (HX1.out.low.cell (p := ⟨ob, oo + t, none⟩) hol).trans hoc
                  have hol' : ob < wc.heap.size := Nat.lt_of_lt_of_le hol HX1.out.low.size
                  have HPK := Hid.in (pick_any (ord t) 1048576 wc hoi (by decide))
                  have hpl := pk_lt (ord t) 1048576 (by decide)
                  generalize ord t = od at hoc HPK hpl
                  clear hoi
                  go_wp2_with (go_at_call 30; refine HPK.out.mono ?_; rintro e x ⟨rfl, hx⟩; have hx2 := hx.symm; clear hx; subst hx2)
                  go_meet
                  exact ⟨_, rfl, fun q => by omega, hpl, rfl⟩
                · rw [decide_eq_false hc0]
                  go_wp2
                  go_meet
                  exact ⟨0, rfl, fun _ => rfl, by decide, rfl⟩
            case rest =>
              obtain ⟨c, rfl, hc4, hcl3, rfl⟩ := hcut
              have HC4 := Hid.in hc4
              clear hc4
              obtain ⟨hb0, -, -, c2, c3, -⟩ := HX1.out.cells
              obtain ⟨i1, hi1⟩ : ∃ i1, M1.inn = i1 := ⟨_, rfl⟩
              have HI1 := Hid.in hi1
              have HO1 : Hid (M1.out = ot) := HA1.out.out.trans HOT.out
              rw [hi1] at c2
              rw [HO1.out] at c3
              have hi1n : i1 ≤ n := by rw [← hi1]; exact HK1.out.io.2
              have hoi1 : ot ≤ i1 := by rw [← hi1, ← HO1.out]; exact HK1.out.io.1
              clear hi1
              go_upto_region 20 with fail
              go_quiet (fail)
              generalize hW0 : wc.drewN nq = W0
              have hbW0 : Below wc.heap.size wc W0 := by rw [← hW0]; exact below_drewN wc nq
              have HXW := Hid.in (HX1.out.below hbW0)
              clear hW0 hbW0 c2 c3 hb0
              go_upto_if 97 with fail
              refine wp_any (cond97 g n r ot i1 c w W0 q cl v1 lp b M1 bold _ HL.out HHN.out HXW.out HK1.out HO1.out HI1.out hcl3 (by first | rfl | (simp; done) | (rw [decide_eq_decide]; omega)) (fun t98 t99 t100 t101 t102 t103 t104 t105 t106 t107 t108 t109 t110 t111 t112 t113 t114 t115 t116 t117 y2 M2 v2 hX2 hK2 ho2 hw2 => ?_))
              have HX2 := Hid.in hX2
              have HK2 := Hid.in hK2
              have HO2 := Hid.in ho2
              have HW2 := Hid.in hw2
              clear hX2 hK2 ho2 hw2
              go_upto_if 123 with fail
              refine wp_any (cond123 g n r w y2 q cl v2 lp b M2 _ HX2.out HK2.out (fun t124 t125 y3 M3 v3 r3 hX3 hK3 hr3 hr3' f1 f2 f3 f4 f5 => ?_))
              have HX3 := Hid.in hX3
              have HK3 := Hid.in hK3
              have HR3 := Hid.in hr3'
              have HF := Hid.in (And.intro f1 (And.intro f2 (And.intro f3 (And.intro f4 f5))))
              clear hX3 hK3 hr3 hr3' f1 f2 f3 f4 f5
              go_upto_region 26 with fail
              refine wp_any (reg26 g n r3 w y3 q cl v3 lp b M3 HL.out HX3.out HK3.out (fun t128 t129 t130 t131 t132 t133 t134 t135 t136 t137 t138 t139 t140 t141 t142 t143 t144 t145 t146 t147 t148 t149 t150 t151 t152 t153 t154 t155 t156 t157 t158 t159 t160 t161 t162 t163 t164 t165 t166 t167 t168 t169 t170 t171 t172 t173 t174 t175 t176 t177 t178 t179 t180 t181 t182 t183 t184 y4 hy4 => ?_))
              have HX4 := Hid.in (HX3.out.below hy4)
              clear hy4
              go_upto_if 185 with fail
              refine wp_then (wp_any (cond185 g n r3 w y4 q cl v3 lp b M3 HHN.out HX4.out HK3.out (fun t17 t186 t187 t188 t189 t190 t191 t192 t193 t194 t195 t196 t197 t198 t199 t200 t201 y5 M5 v5 r5 hX5 hK5 hq5 => ?_)))
              have HX5 := Hid.in hX5
              have HK5 := Hid.in hK5
              have HQ5 := Hid.in hq5
              clear hX5 hK5 hq5
              go_wp2
              go_roundw
              case rel =>
                refine ⟨t + 1, r5, M5, v5, by simp, HX5.out, HK5.out, ?_⟩
                refine psi_next HHN.out HX.out.qm.small.2 HK.out HT.out (fun h4 => ?_)
                obtain ⟨f1, f2, f3, f4, f5⟩ := HF.out
                have hc0 := HC4.out h4
                refine psi_step (M1 := M1) (M2 := M2) (M3 := M3) HK.out HK1.out HA1.out HLE1.out HFU.out ?_ (HR3.out (by rw [hc0]; rfl)) f1 f2 f3 f4 f5 HK5.out HQ5.out ?_ HK2.out
                · rcases HW2.out with ⟨q1, q2⟩ | ⟨q1, q2⟩
                  · exact Or.inl ⟨by rw [HI1.out, HO1.out]; exact q1, q2⟩
                  · exact Or.inr ⟨by rw [HO1.out]; exact q1, q2 hc0⟩
                · rw [HOT.out, HLL.out]
                  exact hgo
              case measure =>
                simp [intOf]
                omega
          · rw [decide_eq_false hgo]
            have hno : ot = n := by omega
            have hl0 : ln = 0 := by omega
            have hr0 : r = 0 := by have := HLEN.out; omega
            have HKN : Hid ((∀ k, k < n → (g k).st = false → M.got k = right g k) ∧ ∀ y, 64 ≤ y → y < 80 → M.mem y = seqM g n y) := by
              refine ⟨fun k hk hs => HK.out.gots k (by rw [HOT.out, hno]; exact hk) hs, fun y h1 h2 => ?_⟩
              have := HK.out.mem y h1 h2
              rw [hr0, HOT.out, hno] at this
              exact this
            have hmk5 : ∀ u : World, (Instr.makeSlice 68 (.int .i64 16) (.int .i64 16)).run Tryd.prog u = .ok (.slice (some ⟨u.heap.size, 0, none⟩) 16 16) (u.alloc (.cells (madeCells #[.int .u8 0] 16) 5)) := make_run (P := Tryd.prog) 68 5 (.int .u8 0) 1 Tryd.underlying68 (by kernel_rfl) rfl 16 (by omega) (by omega)
            clear c0 c1 c2 c3 hb0 hsm
            go_upto_block 2 with fail
            have hLS : Lastly w (wc.alloc (.cells (madeCells #[.int .u8 0] 16) 5)) q v (.slice lp n cl) b n M wc.heap.size (fun _ => 0) := by
              refine ⟨HX.out.below ((Below.refl _ _).alloc (Nat.le_refl _) _), cells_new wc (fun i hi => made_cell _ 16 i hi), fun i hi e => ?_, fun h => ?_, HX.out.low.size⟩
              · have := (HX.out.c i hi).here
                omega
              · have := (HX.out.qm.low _ h).2
                omega
            refine wp_any (blk2 g n m w _ q cl _ v lp b M HL.out HHN.out hnm (by omega) hLS HKN.out.1 (fun t8 t19 t20 t21 t22 t23 t203 t204 t205 t206 t207 t208 t209 t210 t211 t212 t213 t214 t215 t216 t217 t218 t219 t220 t221 t222 t223 t224 t225 t226 t227 t228 t229 t230 t231 t232 t233 t234 t235 t236 t237 t238 t239 t240 t241 t242 t243 t244 t245 t246 t247 t248 t249 t250 t251 t252 t253 t254 t255 y6 h6 => ?_))
            go_upto_block 6 with fail
            refine wp_any (blk6 g n w y6 q cl _ v lp b M h6 HKN.out.2 (fun t8 t24 t256 t257 t258 t259 t260 t261 t262 t263 t264 t265 t266 t267 t268 t269 t270 t271 y7 h7 => ?_))
            go_wp2
            go_ret
            exact ⟨rfl, h7⟩
end Go.Proofs.YthbffonedpeeiaaDoor
