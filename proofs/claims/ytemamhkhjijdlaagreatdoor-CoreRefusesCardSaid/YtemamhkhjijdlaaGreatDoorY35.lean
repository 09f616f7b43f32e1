import Derived.Test.YtemamhkhjijdlaaGreatDoorY34
import Derived.Test.YtemamhkhjijdlaaGreatDoorY25
import Derived.Test.YtemamhkhjijdlaaGreatDoorY30
import Derived.Deep.RegionHeld3
import Derived.Deep.DeepMust
/-
  CORE: its second cycle, whole.
-/
namespace Go.Proofs.YtemamhkhjijdlaaGreatDoor
open Go Go.RowKit
section
variable {x y : World} {S : FS}
theorem fret_mid (i : Ini S) {T : FS} (m : Mid S T) (h : St x T.tick) : Calls Tryz.prog 48 #[.pointer (some ⟨S.p, 0, none⟩)] x fun e z => e = .returned (.tuple #[]) ∧ ∃ T, Fin S T ∧ St z T := by
  rcases m with ⟨w1, b0, wb, cap, rfl⟩ | ⟨w2, b0, b1, wb', cap', wb, cap, E, hE, rfl⟩
  · exact fret_one i w1 h
  · exact fret_two i w2 hE h
theorem ffin_mid {T : FS} (m : Mid S T) (h : St x T.tick) : Calls Tryz.prog 47 #[.pointer (some ⟨S.p, 0, none⟩)] x fun e z => e = .returned (.tuple #[]) ∧ St z T.tick := by
  rcases m with ⟨w1, b0, wb, cap, rfl⟩ | ⟨w2, b0, b1, wb', cap', wb, cap, E, hE, rfl⟩
  · exact ffinish1 h (j0 := 1) (f0 := fly S.ws.next 0 true 59 S.ps) (took_row S 1 b0 0 true 59 (.slice (some ⟨wb, 0, none⟩) 1 cap) 1 [.pointer (some ⟨b0, 0, none⟩)]) rfl rfl (took_flt S (j := 1) (by decide) b0 0 true 59 (.slice (some ⟨wb, 0, none⟩) 1 cap) 1 [.pointer (some ⟨b0, 0, none⟩)]) rfl
  · exact ffinish2 h (j0 := 1) (j1 := 2) (f0 := fly S.ws.next 0 true 59 S.ps) (f1 := fly ((S.ws.next + 1 : Nat) : Int) 4 false 0 S.ps) ((hE 0 (by decide)).trans (took_row (S.took 1 b0 0 true 59 (.slice (some ⟨wb', 0, none⟩) 1 cap') 1 [.pointer (some ⟨b0, 0, none⟩)]) 2 b1 4 false 0 (.slice (some ⟨wb, 0, none⟩) 2 cap) 2 [.pointer (some ⟨b0, 0, none⟩), .pointer (some ⟨b1, 0, none⟩)])) rfl rfl ((hE 1 (by decide)).trans ((took_other (S.took 1 b0 0 true 59 (.slice (some ⟨wb', 0, none⟩) 1 cap') 1 [.pointer (some ⟨b0, 0, none⟩)]) (by decide) (by decide) b1 4 false 0 (.slice (some ⟨wb, 0, none⟩) 2 cap) 2 [.pointer (some ⟨b0, 0, none⟩), .pointer (some ⟨b1, 0, none⟩)]).trans (took_flt S (by decide) b0 0 true 59 (.slice (some ⟨wb', 0, none⟩) 1 cap') 1 [.pointer (some ⟨b0, 0, none⟩)]))) rfl rfl ((hE 2 (by decide)).trans (took_flt (S.took 1 b0 0 true 59 (.slice (some ⟨wb', 0, none⟩) 1 cap') 1 [.pointer (some ⟨b0, 0, none⟩)]) (by decide) b1 4 false 0 (.slice (some ⟨wb, 0, none⟩) 2 cap) 2 [.pointer (some ⟨b0, 0, none⟩), .pointer (some ⟨b1, 0, none⟩)])) rfl
theorem mid_hp {T : FS} (m : Mid S T) : T.hp = S.hp := by
  rcases m with ⟨_, b0, wb, cap, rfl⟩ | ⟨_, b0, b1, wb', cap', wb, cap, E, _, rfl⟩
  · rfl
  · rfl
set_option maxRecDepth 100000 in
set_option maxHeartbeats 4000000 in
theorem fstep1 (i : Ini S) {T : FS} (m : Mid S T) (h : St x T.tick) : Calls Tryz.prog 25 #[.pointer (some ⟨S.p, 0, none⟩), .slice none 0 0] x fun e y => e = .returned (.tuple #[]) ∧ ∃ T, Fin S T ∧ St y T := by
  obtain ⟨mq, mp, mh⟩ := mid_qs m
  have mhp := mid_hp m
  have tp : T.tick.p = S.p := mp
  have HL : Hid (Calls Tryz.prog 45 #[.pointer (some ⟨S.p, 0, none⟩)] x fun e y => e = .returned (.tuple #[]) ∧ St y T.tick) := Hid.in (by rw [← tp]; exact fline h)
  have HSP : Hid (∀ y, St y T.tick → Calls Tryz.prog 46 #[.pointer (some ⟨S.p, 0, none⟩), .slice none 0 0] y fun e y => e = .returned (.tuple #[]) ∧ St y T.tick) := Hid.in (fun y k => by rw [← tp]; exact fspoil k)
  have HH : Hid (∀ y, St y T.tick → (y.cell? ⟨S.p, 0, none⟩ = some (.pointer (some ⟨S.hp, 0, none⟩)) ∧ S.p < y.heap.size) ∧ Calls Tryz.prog 41 #[.pointer (some ⟨S.hp, 0, none⟩)] y fun e z => e = .returned (.bool false) ∧ z = y) := Hid.in (fun y k => by
    have q := fhalted k
    have c := k.core.cell 0 (by decide)
    have c2 := k.core.here
    rw [tp] at c c2
    rw [show T.tick.hl = false from mh.trans i.hl, show T.tick.hp = S.hp from mhp] at q
    exact ⟨⟨c.trans (by rw [show T.tick.coreF 0 = .pointer (some ⟨T.tick.hp, 0, none⟩) from rfl, show T.tick.hp = S.hp from mhp]), c2⟩, q⟩)
  have HFI : Hid (∀ y, St y T.tick → Calls Tryz.prog 47 #[.pointer (some ⟨S.p, 0, none⟩)] y fun e y => e = .returned (.tuple #[]) ∧ St y T.tick) := Hid.in (fun y k => ffin_mid m k)
  have HRE : Hid (∀ y, St y T.tick → Calls Tryz.prog 48 #[.pointer (some ⟨S.p, 0, none⟩)] y fun e z => e = .returned (.tuple #[]) ∧ ∃ T, Fin S T ∧ St z T) := Hid.in (fun y k => fret_mid i m k)
  have HH2 : Hid (∀ y U, Fin S U → St y U → (y.cell? ⟨S.p, 0, none⟩ = some (.pointer (some ⟨S.hp, 0, none⟩)) ∧ S.p < y.heap.size) ∧ Calls Tryz.prog 41 #[.pointer (some ⟨S.hp, 0, none⟩)] y fun e z => e = .returned (.bool true) ∧ z = y) := Hid.in (fun y U f k => by
    have q := fhalted k
    have c := k.core.cell 0 (by decide)
    have c2 := k.core.here
    rw [f.fix.p] at c c2
    rw [f.hl, f.fix.hp] at q
    exact ⟨⟨c.trans (by rw [show U.coreF 0 = .pointer (some ⟨U.hp, 0, none⟩) from rfl, f.fix.hp]), c2⟩, q⟩)
  have HDR : Hid (∀ y U, Fin S U → St y U → Calls Tryz.prog 51 #[.pointer (some ⟨S.p, 0, none⟩)] y fun e y => e = .returned (.tuple #[]) ∧ St y U) := Hid.in (fun y U f k => by
    obtain ⟨n, hn⟩ := i.qs
    rw [← f.fix.p]
    exact fdrain k (by rw [f.fix.qs, hn]; exact top_none n))
  clear h i m mq mp mh mhp tp
  go_enter Tryz.func25, Tryz.ntmps25
  go_upto_region 2 with (first
    | (go_at_call 45; go_must (refine HL.out.mono ?_; rintro e y1 ⟨rfl, hs⟩; have H1 := Hid.in hs; clear hs))
    | (go_at_call 46; go_must (refine (HSP.out _ H1.out).mono ?_; rintro e y2 ⟨rfl, hs⟩; have H2 := Hid.in hs; clear hs)))
  obtain ⟨⟨a1, a2⟩, a3⟩ := HH.out _ H2.out
  have HA3 := Hid.in a3
  clear a3
  go_upto_region 5 with (first
    | (go_at_call 41; go_must (refine HA3.out.mono ?_; rintro e z ⟨rfl, rfl⟩))
    | (go_at_call 47; go_must (refine (HFI.out _ H2.out).mono ?_; rintro e y3 ⟨rfl, hs⟩; have H3 := Hid.in hs; clear hs))
    | (go_at_call 48; go_must (refine (HRE.out _ H3.out).mono ?_; rintro e y4 ⟨rfl, U, hU, hs⟩; have H4 := Hid.in hs; have HU := Hid.in hU; clear hs hU)))
  clear a1 a2 HA3
  obtain ⟨⟨a1, a2⟩, a3⟩ := HH2.out _ _ HU.out H4.out
  have HA3 := Hid.in a3
  clear a3
  go_wp2_with (first
    | (go_at_call 41; go_must (refine HA3.out.mono ?_; rintro e z ⟨rfl, rfl⟩))
    | (go_at_call 51; go_must (refine (HDR.out _ _ HU.out H4.out).mono ?_; rintro e y7 ⟨rfl, hs⟩; have H7 := Hid.in hs; clear hs)))
  exact bodyPost_end (results_none Tryz.results25 _ _ _) rfl ⟨rfl, U, HU.out, H7.out⟩
end
end Go.Proofs.YtemamhkhjijdlaaGreatDoor
/-
  CORE: the machine, cycle by cycle.
-/
namespace Go.Proofs.YtemamhkhjijdlaaGreatDoor
open Go Go.RowKit
def machF (b mr cap : Nat) : Nat → Value
  | 0 => .pointer (some ⟨b, 0, none⟩)
  | _ => .slice (some ⟨mr, 0, none⟩) 1 cap
/-- where the machine stands -/
structure Mach (S : FS) (mp mr cap : Nat) : Prop where
  m : S.ext 6 = CelC mp 2 (machF S.b mr cap)
  r : S.ext 7 = CelC mr 1 (fun _ => .pointer (some ⟨S.p, 0, none⟩))
  on : S.bs.on = false
  ak : ∀ j, S.bs.ak j = none
theorem Mach.to {S T : FS} {mp mr cap : Nat} (m : Mach S mp mr cap) (hb : T.b = S.b) (hp : T.p = S.p) (hbs : T.bs = S.bs) (h6 : T.ext 6 = S.ext 6) (h7 : T.ext 7 = S.ext 7) : Mach T mp mr cap := ⟨by rw [h6, hb]; exact m.m, by rw [h7, hp]; exact m.r, by rw [hbs]; exact m.on, fun j => by rw [hbs]; exact m.ak j⟩
section
variable {x y : World} {S : FS}
theorem brd_cyc6 (gp : Nat) (evl : Value) (ne : Nat) (whl : Value) (nw cyc c : Nat) : ∀ i, i < 10 → upd (brdF gp evl ne whl nw cyc) 6 (.int .i64 c) i = brdF gp evl ne whl nw c i := fun i hi => by
  match i, hi with
  | 0, _ => rfl
  | 1, _ => rfl
  | 2, _ => rfl
  | 3, _ => rfl
  | 4, _ => rfl
  | 5, _ => rfl
  | 6, _ => rfl
  | 7, _ => rfl
  | 8, _ => rfl
  | 9, _ => rfl
theorem brd_cyc {b gp : Nat} {R : Rec} {F : Nat → Prop} (h : BrdC b gp R x F) (c : Nat) : BrdC b gp { R with cyc := c } (x.setCell ⟨b, 6, none⟩ (.int .i64 c)) F ∧ Turned (fun z => ¬ F z) x (x.setCell ⟨b, 6, none⟩ (.int .i64 c)) := by
  obtain ⟨C, evl, whl, hC, ha, h0, h1, h3⟩ := h
  obtain ⟨a, t⟩ := All.put (D := upd C 0 (CelC b 10 (brdF gp evl R.evs.length whl R.whs.length c))) 0 hC ha h0 (upd_same _ _ _) (fun j hj => upd_other _ _ _ _ hj) (by decide) (brd_cyc6 gp evl R.evs.length whl R.whs.length R.cyc c)
  refine ⟨⟨_, evl, whl, fun k => ?_, a, upd_same _ _ _, ?_, ?_⟩, t⟩
  · by_cases q : k = 0
    · subst q; rw [upd_same]; exact celC_comp _ _ _
    · rw [upd_other _ _ _ _ q]; exact hC k
  · rcases h1 with q | ⟨lb', cap', pb', q1, q2, q3, q4⟩
    · exact Or.inl q
    · exact Or.inr ⟨lb', cap', pb', q1, q2, by rw [upd_other _ _ _ _ (by decide)]; exact q3, by rw [upd_other _ _ _ _ (by decide)]; exact q4⟩
  · rcases h3 with q | ⟨lb', cap', pb', q1, q2, q3, q4⟩
    · exact Or.inl q
    · exact Or.inr ⟨lb', cap', pb', q1, q2, by rw [upd_other _ _ _ _ (by decide)]; exact q3, by rw [upd_other _ _ _ _ (by decide)]; exact q4⟩
theorem St.ofBrd (h : St x S) {v : Rec} (hs : ∀ F, BrdC S.b S.g.p S.R x F → BrdC S.b S.g.p v y F ∧ Turned (fun z => ¬ F z) x y) : St y { S with R := v } := by
  obtain ⟨o, q⟩ := h.side
  obtain ⟨a, t⟩ := hs _ (q 8)
  exact ⟨⟨nextO o x 8, Side.went (C := S.C) (D := ({ S with R := v } : FS).C) 8 h.comp q (brdC_comp _ _ _) (only8 S v) a t⟩, h.ext, h.laid⟩
theorem St.tick (h : St x S) : St (x.setCell ⟨S.b, 6, none⟩ (.int .i64 ((S.R.cyc + 1 : Nat) : Int))) S.tick := h.ofBrd (fun _ k => brd_cyc k (S.R.cyc + 1))
set_option maxRecDepth 100000 in
set_option maxHeartbeats 4000000 in
theorem fmstep (h : St x S) {mp mr cap : Nat} (m : Mach S mp mr cap) {U : FS → Prop} (hst : ∀ y, St y S → Calls Tryz.prog 25 #[.pointer (some ⟨S.p, 0, none⟩), .slice none 0 0] y fun e y => e = .returned (.tuple #[]) ∧ ∃ T, U T ∧ St y T) (hU : ∀ T, U T → Mach T mp mr cap ∧ T.b = S.b ∧ T.R.cyc ≤ 1000) : Calls Tryz.prog 14 #[.pointer (some ⟨mp, 0, none⟩)] x fun e y => e = .returned (.tuple #[]) ∧ ∃ T, U T ∧ St y T.tick := by
  obtain ⟨evl, whl, kb⟩ := h.brd
  have m0 : x.cell? ⟨mp, 0, none⟩ = some (.pointer (some ⟨S.b, 0, none⟩)) := (h.extc m.m).cell 0 (by decide)
  have mh := (h.extc m.m).here
  have b0 : x.cell? ⟨S.b, 0, none⟩ = some (.pointer (some ⟨S.g.p, 0, none⟩)) := kb.cell 0 (by decide)
  have bh := kb.here
  have HT := Hid.in (h.onBus (fun _ k => utick_idle k m.on (fun j _ => by rw [m.ak]; rfl)))
  have HST := Hid.in hst
  have HU := Hid.in hU
  have HM := Hid.in m
  clear h kb m hst hU
  go_enter Tryz.func14, Tryz.ntmps14
  go_upto_region 1 with (go_at_call 24; go_must (refine HT.out.mono ?_; rintro e y ⟨rfl, hs⟩; have HY := Hid.in hs; clear hs))
  have y1 : y.cell? ⟨mp, 1, none⟩ = some (.slice (some ⟨mr, 0, none⟩) 1 cap) := (HY.out.extc HM.out.m).cell 1 (by decide)
  have yh := (HY.out.extc HM.out.m).here
  have r0 : y.cell? ⟨mr, 0, none⟩ = some (.pointer (some ⟨S.p, 0, none⟩)) := (HY.out.extc HM.out.r).cell 0 (by decide)
  have rh := (HY.out.extc HM.out.r).here
  clear m0 mh b0 bh
  go_wp2_with fail
  refine wp_loop_rounds 2 ?_
  rw [rounds_succ]
  go_wp2_with (go_at_call 25; go_must (refine (HST.out _ HY.out).mono ?_; rintro e z ⟨rfl, T, hT, hs⟩; have HZ := Hid.in hs; have HT2 := Hid.in hT; clear hs hT))
  rw [rounds_succ]
  obtain ⟨mT, bT, cT⟩ := HU.out T HT2.out
  obtain ⟨evl2, whl2, kb2⟩ := HZ.out.brd
  have z0 : z.cell? ⟨mp, 0, none⟩ = some (.pointer (some ⟨T.b, 0, none⟩)) := (HZ.out.extc mT.m).cell 0 (by decide)
  have zh := (HZ.out.extc mT.m).here
  have z6 : z.cell? ⟨T.b, 6, none⟩ = some (.int .i64 T.R.cyc) := kb2.cell 6 (by decide)
  have zf := kb2.free 6
  have zb := kb2.here
  have e9 : ((T.R.cyc + 1 : Nat) : Int) = (T.R.cyc : Int) + 1 := by omega
  have HK := Hid.in HZ.out.tick
  rw [e9] at HK
  have hle : (T.R.cyc : Int) ≤ 1000 := by omega
  clear kb2 mT bT cT y1 yh r0 rh e9
  go_wp2_with fail
  exact bodyPost_end (results_none Tryz.results14 _ _ _) rfl ⟨rfl, T, HT2.out, HK.out⟩
set_option maxRecDepth 100000 in
set_option maxHeartbeats 4000000 in
theorem fmended (h : St x S) {mp mr cap : Nat} (m : Mach S mp mr cap) (ht : S.qs.top = false) : Calls Tryz.prog 13 #[.pointer (some ⟨mp, 0, none⟩)] x fun e y => e = .returned (.bool S.hl) ∧ St y S := by
  have y1 : x.cell? ⟨mp, 1, none⟩ = some (.slice (some ⟨mr, 0, none⟩) 1 cap) := (h.extc m.m).cell 1 (by decide)
  have yh := (h.extc m.m).here
  have r0 : x.cell? ⟨mr, 0, none⟩ = some (.pointer (some ⟨S.p, 0, none⟩)) := (h.extc m.r).cell 0 (by decide)
  have rh := (h.extc m.r).here
  have HE := Hid.in (fended h ht)
  clear h m ht
  cases hl : S.hl
  · rw [hl] at HE
    go_enter Tryz.func13, Tryz.ntmps13
    go_wp2_with fail
    refine wp_loop_rounds 1 ?_
    rw [rounds_succ]
    go_wp2_with (go_at_call 23; go_must (refine HE.out.mono ?_; rintro e z ⟨rfl, hs⟩; have HZ := Hid.in hs; clear hs))
    go_ret
    exact ⟨rfl, HZ.out⟩
  · rw [hl] at HE
    go_enter Tryz.func13, Tryz.ntmps13
    go_wp2_with fail
    refine wp_loop_rounds 2 ?_
    rw [rounds_succ]
    go_wp2_with (go_at_call 23; go_must (refine HE.out.mono ?_; rintro e z ⟨rfl, hs⟩; have HZ := Hid.in hs; clear hs))
    rw [rounds_succ]
    go_wp2_with fail
    go_ret
    exact ⟨rfl, HZ.out⟩
end
end Go.Proofs.YtemamhkhjijdlaaGreatDoor
/-
  CORE: a machine that has not begun, plainly and in memory.
-/
namespace Go.Proofs.YtemamhkhjijdlaaGreatDoor
open Go Go.RowKit
/-- what was there before, and nothing else -/
def C0 (w0 : World) : Nat → World → (Nat → Prop) → Prop
  | 0 => OldC w0
  | _ + 1 => NoC
theorem c0_comp (w0 : World) : ∀ k, Comp (C0 w0 k)
  | 0 => oldC_comp _
  | _ + 1 => noC_comp
theorem c0_side (w0 : World) : Side (C0 w0) w0 := ⟨fun _ => 0, fun k => match k with
  | 0 => ⟨Below.refl _ _, fun _ hz => absurd rfl hz.2⟩
  | _ + 1 => trivial⟩
def mach0 (b : Nat) : Nat → Value
  | 0 => .pointer (some ⟨b, 0, none⟩)
  | _ => .slice none 0 0
def startS (w0 : World) (c : Cf) (wp : Nat) (G : PG) (qp : Nat) (g : Bn) (hp hc hcap p b tp cb mp mr cap : Nat) : FS := ⟨w0, wp, newW c.window.toNat c.regs.toNat, G, newS, qp, ⟨c.queue.toNat, []⟩, g, newBd c, hp, hc, hcap, false, p, b, tp, cb, c, .slice none 0 0, 0, ⟨[], [], 0⟩, upd (upd (upd (fun _ => NoC) 0 (RowC w0.heap.size 221 1 (.slice none 0 0) 0 [])) 7 (CelC mr 1 (fun _ => .pointer (some ⟨p, 0, none⟩)))) 6 (CelC mp 2 (machF b mr cap))⟩
section
variable {w0 : World} {c : Cf} {wp : Nat} {G : PG} {qp : Nat} {g : Bn} {hp hc hcap p b tp cb mp mr cap : Nat}
theorem head_eq (o : Nat) : headF (startS w0 c wp G qp g hp hc hcap p b tp cb mp mr cap) o = headN hp G.p tp wp qp b o := by
  match o with
  | 0 => rfl
  | 1 => rfl
  | 2 => rfl
  | 3 => rfl
  | 4 => rfl
  | 5 => rfl
  | _ + 6 => rfl
theorem coreF_eq : (startS w0 c wp G qp g hp hc hcap p b tp cb mp mr cap).coreF = coreN hp G.p tp wp qp b cb c := by
  funext o
  unfold FS.coreF coreN
  rw [head_eq]
  rfl
theorem start_C : ∀ k, upd (upd (upd (upd (upd (upd (upd (upd (upd (upd (upd (upd (upd (C0 w0) 5 (CelC hp 45 (hartF hc hcap false))) 6 (CelC hc 1 (fun _ => .int .u32 1048691))) 4 (BusC g 0 (newBd c))) 8 (BrdC b g.p ⟨[], [], 0⟩)) 16 (CelC mp 2 (mach0 b))) 2 (PrdC G newS)) 1 (WinC wp (newW c.window.toNat c.regs.toNat))) 3 (QueC qp ⟨c.queue.toNat, []⟩)) 9 (CelC cb 5 ebk)) 7 (CelC p 156 (coreN hp G.p tp wp qp b cb c))) 10 (RowC w0.heap.size 221 1 (.slice none 0 0) 0 [])) 17 (CelC mr 1 (fun _ => .pointer (some ⟨p, 0, none⟩)))) 16 (CelC mp 2 (machF b mr cap)) k = (startS w0 c wp G qp g hp hc hcap p b tp cb mp mr cap).C k
  | 0 => rfl
  | 1 => rfl
  | 2 => rfl
  | 3 => rfl
  | 4 => rfl
  | 5 => rfl
  | 6 => rfl
  | 7 => by
    show CelC p 156 (coreN hp G.p tp wp qp b cb c) = CelC p 156 (startS w0 c wp G qp g hp hc hcap p b tp cb mp mr cap).coreF
    rw [coreF_eq]
  | 8 => rfl
  | 9 => rfl
  | 10 => rfl
  | 11 => rfl
  | 12 => rfl
  | 13 => rfl
  | 14 => rfl
  | 15 => rfl
  | 16 => rfl
  | 17 => rfl
  | k + 18 => by
    show _ = upd (upd (upd (fun _ => NoC) 0 (RowC w0.heap.size 221 1 (.slice none 0 0) 0 [])) 7 (CelC mr 1 (fun _ => .pointer (some ⟨p, 0, none⟩)))) 6 (CelC mp 2 (machF b mr cap)) (k + 8)
    rw [upd_other _ _ _ _ (by omega), upd_other _ _ _ _ (by omega), upd_other _ _ _ _ (by omega), upd_other _ _ _ _ (by omega), upd_other _ _ _ _ (by omega), upd_other _ _ _ _ (by omega), upd_other _ _ _ _ (by omega), upd_other _ _ _ _ (by omega), upd_other _ _ _ _ (by omega), upd_other _ _ _ _ (by omega), upd_other _ _ _ _ (by omega), upd_other _ _ _ _ (by omega), upd_other _ _ _ _ (by omega), upd_other _ _ _ _ (by omega), upd_other _ _ _ _ (by omega), upd_other _ _ _ _ (by omega)]
    rfl
theorem laid_off (hL : Laid w0) (hG : w0.heap.size ≤ G.p ∧ w0.heap.size ≤ G.gt ∧ w0.heap.size ≤ G.gs ∧ w0.heap.size ≤ G.gc) : Off G := fun k hk => by
  have hl : k < w0.heap.size := by
    rcases hk with rfl | rfl | rfl
    · exact hL.zb
    · exact hL.zo
    · exact hL.zl
  obtain ⟨h1, h2, h3, h4⟩ := hG
  exact ⟨by omega, by omega, by omega, by omega⟩
theorem start_ini (hL : Laid w0) (ok : okC c) (hG : w0.heap.size ≤ G.p ∧ w0.heap.size ≤ G.gt ∧ w0.heap.size ≤ G.gs ∧ w0.heap.size ≤ G.gc) (hns : 0 < G.ns) : Ini (startS w0 c wp G qp g hp hc hcap p b tp cb mp mr cap) := by
  obtain ⟨hi, -, -, hw, -⟩ := ok
  unfold Cf.inB at hi
  simp only [Bool.and_eq_true, decide_eq_true_eq] at hi
  refine ⟨rfl, rfl, rfl, rfl, ?_, ?_, rfl, rfl, rfl, ⟨_, rfl⟩, hi.1.1.2, hi.1.1.1, laid_off hL hG, ⟨Nat.zero_le _, hns⟩⟩
  · show 2 ≤ c.window.toNat
    omega
  · show c.window = ((c.window.toNat : Nat) : Int)
    omega
theorem start_mach : Mach (startS w0 c wp G qp g hp hc hcap p b tp cb mp mr cap) mp mr cap := ⟨rfl, rfl, rfl, fun _ => rfl⟩
end
section
variable {C : Nat → World → (Nat → Prop) → Prop} {x y : World}
/-- two plain blocks, born at once -/
theorem Side.born2 {k l q r n m : Nat} {f g : Nat → Value} (hkl : k ≠ l) (hC : ∀ j, Comp (C j)) (h : Side C x) (b : Below x.heap.size x y) (hf : CellsAt n y q f) (hg : CellsAt m y r g) (hq : x.heap.size ≤ q) (hr : x.heap.size ≤ r) (hn : q ≠ r) : Side (upd (upd C k (CelC q n f)) l (CelC r m g)) y := by
  obtain ⟨own, h⟩ := h
  refine ⟨fun z => if z < x.heap.size then own z else if z = r then l else k, fun j => ?_⟩
  by_cases j1 : j = l
  · subst j1
    rw [upd_same]
    refine ⟨hg, fun z hz => ⟨hz.1, fun e => hz.2 ?_⟩⟩
    subst e
    show (if z < x.heap.size then own z else if z = z then j else k) = j
    rw [if_neg (by omega), if_pos rfl]
  · rw [upd_other _ _ _ _ j1]
    by_cases j2 : j = k
    · subst j2
      rw [upd_same]
      refine ⟨hf, fun z hz => ⟨hz.1, fun e => hz.2 ?_⟩⟩
      subst e
      show (if z < x.heap.size then own z else if z = r then l else j) = j
      rw [if_neg (by omega), if_neg hn]
    · rw [upd_other _ _ _ _ j2]
      refine (hC j).less y _ _ ((hC j).turn x y _ (fun _ => False) (h j) (Turned.of_below b) (fun _ q => q.elim)) (fun z hz => ?_)
      obtain ⟨z1, z2⟩ := hz
      by_cases zx : z < x.heap.size
      · refine Or.inl ⟨zx, ?_⟩
        have z3 : (if z < x.heap.size then own z else if z = r then l else k) ≠ j := z2
        rw [if_pos zx] at z3
        exact z3
      · exact Or.inr ⟨by omega, z1⟩
end
end Go.Proofs.YtemamhkhjijdlaaGreatDoor
/-
  CORE: a machine is made: behind the board.
-/
namespace Go.Proofs.YtemamhkhjijdlaaGreatDoor
open Go Go.RowKit
/-- a machine, new -/
def NewM (x y : World) (c : Cf) (e : Ending) : Prop := ∃ (S : FS) (mp mr cap : Nat), e = .returned (.tuple #[.pointer (some ⟨mp, 0, none⟩), .nilIface]) ∧ St y S ∧ Ini S ∧ Mach S mp mr cap ∧ S.bs = newBd c ∧ S.w0 = x
def MacR (x y : World) (c : Cf) (e : Ending) : Prop := (¬ (okB c ∧ okC c) ∧ e = .returned (.tuple #[.pointer none, errV 2]) ∧ Below x.heap.size x y) ∨ ((okB c ∧ okC c) ∧ NewM x y c e)
theorem upd_swap {α : Type} (f : Nat → α) {i j : Nat} (h : i ≠ j) (a b : α) : upd (upd f i a) j b = upd (upd f j b) i a := funext fun k => by
  unfold upd
  by_cases q : k = j
  · subst q
    rw [if_pos rfl, if_neg (Ne.symm h), if_pos rfl]
  · rw [if_neg q]
    by_cases q2 : k = i
    · rw [if_pos q2, if_pos q2]
    · rw [if_neg q2, if_neg q2, if_neg q]
theorem start_st2 {w0 : World} {c : Cf} {wp : Nat} {G : PG} {qp : Nat} {g : Bn} {hp hc hcap p b tp cb mp mr cap : Nat} {z y2 : World} (hL : Laid w0) {C : Nat → World → (Nat → Prop) → Prop} (hCe : C = upd (upd (upd (upd (upd (upd (upd (upd (upd (upd (C0 w0) 5 (CelC hp 45 (hartF hc hcap false))) 6 (CelC hc 1 (fun _ => .int .u32 1048691))) 4 (BusC g 0 (newBd c))) 8 (BrdC b g.p ⟨[], [], 0⟩)) 16 (CelC mp 2 (mach0 b))) 2 (PrdC G newS)) 1 (WinC wp (newW c.window.toNat c.regs.toNat))) 3 (QueC qp ⟨c.queue.toNat, []⟩)) 9 (CelC cb 5 ebk)) 7 (CelC p 156 (coreN hp G.p tp wp qp b cb c))) (hC : ∀ k, Comp (C k)) (hS : Side C z) (t : Below (z.setCell ⟨mp, 1, none⟩ (.slice (some ⟨mr, 0, none⟩) 1 cap)).heap.size (z.setCell ⟨mp, 1, none⟩ (.slice (some ⟨mr, 0, none⟩) 1 cap)) y2) (hm : (z.setCell ⟨mp, 1, none⟩ (.slice (some ⟨mr, 0, none⟩) 1 cap)).heap.size ≤ mr) (hf : CellsAt 1 y2 mr (fun _ => .pointer (some ⟨p, 0, none⟩))) : St y2 (startS w0 c wp G qp g hp hc hcap p b tp cb mp mr cap) := by
  have s1 : Side (upd C 10 (RowC w0.heap.size 221 1 (.slice none 0 0) 0 [])) z := Side.born 10 hC hS (Below.refl _ _) (by rw [upd_same]; exact rowC_comp _ _ _ _ _ _) (by rw [upd_same]; exact ⟨World.ownsRow_nil _ _ _ _, fun z hz => ⟨hz, by simp [Value.ownBlock]⟩⟩) (fun j hj => upd_other _ _ _ _ hj)
  have c1 := upd_comp hC 10 (rowC_comp w0.heap.size 221 1 (.slice none 0 0) 0 [])
  have e16 : upd C 10 (RowC w0.heap.size 221 1 (.slice none 0 0) 0 []) 16 = CelC mp 2 (mach0 b) := by
    rw [upd_other _ _ _ _ (by decide), hCe]
    rfl
  have s2 := Side.put (D := upd (upd C 10 (RowC w0.heap.size 221 1 (.slice none 0 0) 0 [])) 16 (CelC mp 2 (machF b mr cap))) (o := 1) (v := .slice (some ⟨mr, 0, none⟩) 1 cap) 16 c1 s1 e16 (upd_same _ _ _) (fun j hj => upd_other _ _ _ _ hj) (by decide) (fun i hi => by
    match i, hi with
    | 0, _ => rfl
    | 1, _ => rfl)
  have c2 := upd_comp c1 16 (celC_comp mp 2 (machF b mr cap))
  have s3 : Side (upd (upd (upd C 10 (RowC w0.heap.size 221 1 (.slice none 0 0) 0 [])) 16 (CelC mp 2 (machF b mr cap))) 17 (CelC mr 1 (fun _ => .pointer (some ⟨p, 0, none⟩)))) y2 := Side.born 17 c2 s2 t (by rw [upd_same]; exact celC_comp _ _ _) (by rw [upd_same]; exact ⟨hf, fun z hz => ⟨Nat.lt_of_lt_of_le hz t.size, by omega⟩⟩) (fun j hj => upd_other _ _ _ _ hj)
  have c3 := upd_comp c2 17 (celC_comp mr 1 (fun _ => .pointer (some ⟨p, 0, none⟩)))
  rw [upd_swap _ (by decide)] at s3 c3
  have e := fun k => start_C (w0 := w0) (c := c) (wp := wp) (G := G) (qp := qp) (g := g) (hp := hp) (hc := hc) (hcap := hcap) (p := p) (b := b) (tp := tp) (cb := cb) (mp := mp) (mr := mr) (cap := cap) k
  rw [← hCe] at e
  refine ⟨?_, fun k => ?_, hL⟩
  · rw [← funext e]
    exact s3
  · have := c3 (k + 10)
    rw [e] at this
    exact this
def tlB (f : Func) : Code := match f.body with
  | some (.seq _ (.seq _ (.seq _ (.seq _ r)))) => r
  | _ => .skip
end Go.Proofs.YtemamhkhjijdlaaGreatDoor
/-
  CORE: a machine is made: the statement that makes a core.
-/
namespace Go.Proofs.YtemamhkhjijdlaaGreatDoor
open Go Go.RowKit
def regOf (t : Nat) : Code → Option Code
  | .region i o d => bif i == t then some (.region i o d) else none
  | .cond _ x y => (regOf t x).or (regOf t y)
  | .seq x y => (regOf t x).or (regOf t y)
  | .block _ x => regOf t x
  | .loop x => regOf t x
  | .scope x => regOf t x
  | _ => none
def regIn (c : Option Code) (t : Nat) : Code := (c.bind (regOf t)).getD .skip
set_option maxRecDepth 100000 in
set_option maxHeartbeats 4000000 in
theorem reg17 {u0 u1 u2 u3 u4 u5 u7 u8 u9 u10 u12 u13 u16 u17 u18 u19 u20 u21 u22 u23 u24 u25 u26 u27 u28 u29 u30 u31 u32 u33 u34 u35 u36 u37 u38 u39 u40 u41 u42 u43 u44 u45 u46 u47 u48 u49 u50 u51 u52 u53 u54 u55 u56 u57 u58 u59 u60 u61 u62 u63 u64 u65 u66 u67 u68 u69 u70 u71 u72 u73 u74 u75 u76 u77 u78 u79 u80 u81 u82 u83 u84 u85 u86 : Value} {K : Act → World → Prop} {Q' : Exit → Act → World → Prop} {kb kc : Nat} {c : Cf} {q hb hcp b tb2 : Nat} {X5 : World} {R : Value → Value → World → Prop} (k5 : CellsAt 17 X5 tb2 (progF kb kc c)) (kh : CellsAt 1 X5 hb (fun _ => .pointer (some ⟨q, 0, none⟩))) (HC : Hid (Calls Tryz.prog 22 #[.agg #[.slice (some ⟨kb, 0, none⟩) 1 kc, .int .i64 c.width, .int .i64 c.window, .int .i64 c.queue, .int .i64 c.regs, .int .i64 c.units, .int .i64 c.mul, .bool c.bold, .int .i64 c.kind, .int .i64 c.bits, .int .i64 c.hist, .int .i64 c.tg, .int .i64 c.ret, .int .i64 c.sets, .int .i64 c.ways, .int .i64 c.bus, .slice none 0 0], .int .i64 0, .pointer (some ⟨q, 0, none⟩), .pointer (some ⟨b, 0, none⟩)] X5.drew fun e z => ∃ v1 v2, e = .returned (.tuple #[v1, v2]) ∧ Below X5.drew.heap.size X5.drew z ∧ R v1 v2 z)) (hK : ∀ v1 v2 z, Below X5.drew.heap.size X5.drew z → R v1 v2 z → K { tmps := #[u0, u1, u2, u3, u4, u5, .slice (some ⟨hb, 0, none⟩) 1 hcp, u7, u8, u9, u10, .pointer (some ⟨b, 0, none⟩), u12, u13, .int .i64 0, .pointer (some ⟨tb2, 0, none⟩), v1, v2, u18, u19, u20, u21, u22, u23, u24, u25, u26, u27, u28, u29, u30, u31, u32, u33, u34, u35, u36, u37, u38, u39, u40, u41, u42, u43, u44, u45, u46, u47, u48, u49, u50, u51, u52, u53, u54, u55, u56, u57, u58, u59, u60, .tuple #[v1, v2], .agg #[.slice (some ⟨kb, 0, none⟩) 1 kc, .int .i64 c.width, .int .i64 c.window, .int .i64 c.queue, .int .i64 c.regs, .int .i64 c.units, .int .i64 c.mul, .bool c.bold, .int .i64 c.kind, .int .i64 c.bits, .int .i64 c.hist, .int .i64 c.tg, .int .i64 c.ret, .int .i64 c.sets, .int .i64 c.ways, .int .i64 c.bus, .slice none 0 0], .int .i64 0, .slice (some ⟨hb, 0, none⟩) 1 hcp, .int .i64 0, .pointer (some ⟨hb, 0, none⟩), .pointer (some ⟨q, 0, none⟩), .pointer (some ⟨b, 0, none⟩), .tuple #[v1, v2], v1, v2, u72, u73, u74, u75, u76, u77, u78, u79, u80, u81, u82, u83, u84, u85, u86], defers := [] } z) : Code.wp Tryz.prog (regIn Tryz.f12.body 17) (Exit.then K Q') { tmps := #[u0, u1, u2, u3, u4, u5, .slice (some ⟨hb, 0, none⟩) 1 hcp, u7, u8, u9, u10, .pointer (some ⟨b, 0, none⟩), u12, u13, .int .i64 0, .pointer (some ⟨tb2, 0, none⟩), u16, u17, u18, u19, u20, u21, u22, u23, u24, u25, u26, u27, u28, u29, u30, u31, u32, u33, u34, u35, u36, u37, u38, u39, u40, u41, u42, u43, u44, u45, u46, u47, u48, u49, u50, u51, u52, u53, u54, u55, u56, u57, u58, u59, u60, u61, u62, u63, u64, u65, u66, u67, u68, u69, u70, u71, u72, u73, u74, u75, u76, u77, u78, u79, u80, u81, u82, u83, u84, u85, u86], defers := [] } X5 := by
  obtain ⟨a0, a1, a2, a3, a4, a5, a6, a7, a8, a9, a10, a11, a12, a13, a14, a15, a16⟩ := cells17 k5
  have ah5 := k5.here
  have k6 : X5.cell? ⟨hb, 0, none⟩ = some (.pointer (some ⟨q, 0, none⟩)) := kh.cell 0 (by decide)
  have kh6 := kh.here
  have HK5 := Hid.in k5
  have HKH5 := Hid.in kh
  have HKK := Hid.in hK
  clear k5 kh hK
  show Code.wp _ (Code.region 17 _ true) _ _ _
  go_region_held3 (fun w' => w'.cell? ⟨tb2, 0, none⟩ = some (.slice (some ⟨kb, 0, none⟩) 1 kc) ∧ w'.cell? ⟨tb2, 1, none⟩ = some (.int .i64 c.width) ∧ w'.cell? ⟨tb2, 2, none⟩ = some (.int .i64 c.window) ∧ w'.cell? ⟨tb2, 3, none⟩ = some (.int .i64 c.queue) ∧ w'.cell? ⟨tb2, 4, none⟩ = some (.int .i64 c.regs) ∧ w'.cell? ⟨tb2, 5, none⟩ = some (.int .i64 c.units) ∧ w'.cell? ⟨tb2, 6, none⟩ = some (.int .i64 c.mul) ∧ w'.cell? ⟨tb2, 7, none⟩ = some (.bool c.bold) ∧ w'.cell? ⟨tb2, 8, none⟩ = some (.int .i64 c.kind) ∧ w'.cell? ⟨tb2, 9, none⟩ = some (.int .i64 c.bits) ∧ w'.cell? ⟨tb2, 10, none⟩ = some (.int .i64 c.hist) ∧ w'.cell? ⟨tb2, 11, none⟩ = some (.int .i64 c.tg) ∧ w'.cell? ⟨tb2, 12, none⟩ = some (.int .i64 c.ret) ∧ w'.cell? ⟨tb2, 13, none⟩ = some (.int .i64 c.sets) ∧ w'.cell? ⟨tb2, 14, none⟩ = some (.int .i64 c.ways) ∧ w'.cell? ⟨tb2, 15, none⟩ = some (.int .i64 c.bus) ∧ w'.cell? ⟨tb2, 16, none⟩ = some (.slice none 0 0) ∧ w'.cell? ⟨hb, 0, none⟩ = some (.pointer (some ⟨q, 0, none⟩))) (go_keep) (first
    | (go_at_call 22; refine HC.out.mono ?_; rintro e z ⟨v1, v2, rfl, hy, hR⟩; have hk := HK5.out.below ((Below.refl _ _).drew.trans hy); obtain ⟨f0, f1, f2, f3, f4, f5, f6, f7, f8, f9, f10, f11, f12, f13, f14, f15, f16⟩ := cells17 hk; have fh := hk.here; have kq := HKH5.out.below ((Below.refl _ _).drew.trans hy); have k7 : z.cell? ⟨hb, 0, none⟩ = some (.pointer (some ⟨q, 0, none⟩)) := kq.cell 0 (by decide); have kh7 := kq.here; clear hk kq; have HZ := Hid.in hy; have HR := Hid.in hR; clear hy hR))
  exact HKK.out v1 v2 z HZ.out HR.out
end Go.Proofs.YtemamhkhjijdlaaGreatDoor
