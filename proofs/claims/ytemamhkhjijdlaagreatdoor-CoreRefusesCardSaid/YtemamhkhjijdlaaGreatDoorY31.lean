import Derived.Test.YtemamhkhjijdlaaGreatDoorY26
/-
  CORE: the oldest one retires, and traps.
-/
namespace Go.Proofs.YtemamhkhjijdlaaGreatDoor
open Go Go.RowKit
section
variable {x y : World} {S : FS}
set_option maxRecDepth 100000 in
set_option maxHeartbeats 4000000 in
theorem fcommit2 (h : St x S) {T : FS} {j fb n wb cap B : Nat} {f : Flt} {l : List Value} (hj : j ≠ 5) (hhl : S.hl = false) (hf : S.ext j = CelC fb 27 f.at) (hr : S.ext 0 = RowC B 221 1 (.slice (some ⟨wb, 0, none⟩) 2 cap) 2 l) (hw : S.way = .slice (some ⟨wb, 0, none⟩) 2 cap) (hoff : Off S.G) (h1 : f.mh ≤ S.G.mask) (h2 : f.mt < S.G.ns) (hpc : 0 ≤ f.pc ∧ f.pc < 4294967296) (hd : f.d = -1) (hs : 0 ≤ f.seq ∧ f.seq ≤ 1000) (hn : S.R.evs.length < 1000) (hwn : S.R.whs.length < 1000) (hc : S.R.cyc ≤ 1000) (hon : 0 < S.ws.on.length) (hst : S.ws.st 0 = 2) (hq : T.qs = ⟨n, []⟩) (hTp : T.p = S.p) (hTq : T.qp = S.qp) (hTf : T.ext j = CelC fb 27 f.at)
    (ht : ∀ nb y ps, St y { S.did nb with ws := S.ws.pop, way := .slice (some ⟨wb, 1, none⟩) 1 (cap - 1), R := { S.R with evs := S.R.evs ++ [evC S.R.cyc f.seq f.pc 0 4], whs := S.R.whs ++ [whC 0 1048691 0 0 3 0 0] }, ps := ps } → Calls Tryz.prog 125 #[.pointer (some ⟨S.p, 0, none⟩), .int .i64 f.seq] y fun e z => e = .returned (.tuple #[]) ∧ St z { T with ps := ps, ext := upd T.ext 5 (CelC nb 7 (whC 0 1048691 0 0 3 0 0)) }) : Calls Tryz.prog 80 #[.pointer (some ⟨S.p, 0, none⟩), .pointer (some ⟨fb, 0, none⟩)] x fun e y => e = .returned (.tuple #[]) ∧ ∃ ps E, (∀ k, k ≠ 5 → E k = T.ext k) ∧ St y { T with ps := ps, ext := E, nx := 0 } := by
  have c0 : x.cell? ⟨S.p, 0, none⟩ = some (.pointer (some ⟨S.hp, 0, none⟩)) := h.core.cell 0 (by decide)
  have h3 := h.core.here
  have kf := h.extc hf
  have f24 : x.cell? ⟨fb, 24, none⟩ = some (.int .u32 0) := kf.cell 24 (by decide)
  have f25 : x.cell? ⟨fb, 25, none⟩ = some (.bool false) := kf.cell 25 (by decide)
  have h4 := kf.here
  have H0 := Hid.in h
  have HF := Hid.in hf
  have HR := Hid.in hr
  have HT := Hid.in ht
  have HQ := Hid.in hq
  have HTF := Hid.in hTf
  have HTP := Hid.in hTp
  have HTQ := Hid.in hTq
  have HN := Hid.in hn
  have HWN := Hid.in hwn
  have HCY := Hid.in hc
  have HOFF := Hid.in hoff
  have HON := Hid.in hon
  have HST := Hid.in hst
  have HDA := Hid.in (fdoA h hhl hf)
  have HDB := Hid.in (fdoB h hhl hj hf 161)
  have ne1 : S.p ≠ x.heap.size := by omega
  have ne2 : fb ≠ x.heap.size := by omega
  have ne3 : x.heap.size ≠ S.p := by omega
  have ne4 : x.heap.size ≠ fb := by omega
  have m1 := World.new_ne x ⟨S.p, 0, none⟩ c0
  have m2 := World.new_ne x ⟨fb, 24, none⟩ f24
  have m3 := World.new_ne x ⟨fb, 25, none⟩ f25
  have hp5 : S.p < x.heap.size + 1 := by omega
  have hf5 : fb < x.heap.size + 1 := by omega
  clear h hf hr ht hq hTf hTp hTq kf hn hwn hc hoff hon hst
  go_enter Tryz.func80, Tryz.ntmps80
  go_upto_region 0 with fail
  go_cut [4] (fun pv wc => ∃ nb, pv = .pointer (some ⟨nb, 0, none⟩) ∧ St wc (S.did nb))
  case first =>
    go_region_held3 (fun w' => w'.cell? ⟨S.p, 0, none⟩ = some (.pointer (some ⟨S.hp, 0, none⟩)) ∧ w'.cell? ⟨fb, 24, none⟩ = some (.int .u32 0) ∧ w'.cell? ⟨fb, 25, none⟩ = some (.bool false)) (go_keep) (first
      | (go_at_call 133; refine HDA.out.mono ?_; rintro e y ⟨rfl, ⟨e0, e1, e2, e3, e4⟩, hs⟩; have n1 := World.new_ne y ⟨S.p, 0, none⟩ e0; have n2 := World.new_ne y ⟨fb, 24, none⟩ e1; have n3 := World.new_ne y ⟨fb, 25, none⟩ e2; have HS := Hid.in hs; clear hs)
      | (go_at_call 133; refine HDB.out.mono ?_; rintro e y ⟨rfl, ⟨e0, e1, e2, e3, e4⟩, kn, hs⟩; obtain ⟨r0, r1, r2, r3, r4, r5, r6, r7, r8⟩ := seven kn; have HS := Hid.in hs; have HKN := Hid.in kn; clear hs kn))
    · go_wp2_with fail
      go_meet
      exact ⟨_, rfl, HS.out.newExt 5 (whC 0 1048691 0 0 3 0 0) rfl (wh_new 0 1048691 0 0 3 0 0)⟩
    · go_wp2_with fail
      go_meet
      have q := HS.out.swapExt (k := 5) (b := x.heap.size) (n := 7) (f := zW) (whC 0 1048691 0 0 3 0 0) (show upd S.ext 5 (CelC x.heap.size 7 zW) 5 = _ from upd_same _ _ _) (wh_turn y x.heap.size _ _ _ _ _ _ _) (wh_set HKN.out 0 1048691 0 0 3 0 0)
      simp only [upd_twice] at q
      exact ⟨_, rfl, q⟩
  case rest =>
    obtain ⟨nb, rfl, hs⟩ := hcut
    clear HDA HDB H0 c0 h3 f24 f25 h4 ne1 ne2 ne3 ne4 m1 m2 m3 hp5 hf5
    have HS := Hid.in hs
    have hf2 : (S.did nb).ext j = CelC fb 27 f.at := (upd_other _ _ _ _ hj).trans HF.out
    have hr2 : (S.did nb).ext 0 = RowC B 221 1 (.slice (some ⟨wb, 0, none⟩) 2 cap) 2 l := (show upd S.ext 5 (CelC nb 7 (whC 0 1048691 0 0 3 0 0)) 0 = _ from (upd_other _ _ _ _ (by decide)).trans HR.out)
    have hn2 : (S.did nb).ext 5 = CelC nb 7 (whC 0 1048691 0 0 3 0 0) := (show upd S.ext 5 (CelC nb 7 (whC 0 1048691 0 0 3 0 0)) 5 = _ from upd_same _ _ _)
    have HF2 := Hid.in hf2
    have HR2 := Hid.in hr2
    have HN2 := Hid.in hn2
    have c5 : wc.cell? ⟨S.p, 5, none⟩ = some (.pointer (some ⟨S.b, 0, none⟩)) := hs.core.cell 5 (by decide)
    have c6 : wc.cell? ⟨S.p, 6, none⟩ = some (.int .i64 0) := hs.core.cell 6 (by decide)
    have h3 : S.p < wc.heap.size := hs.core.here
    have kf := hs.extc hf2
    have f0 : wc.cell? ⟨fb, 0, none⟩ = some (.int .i64 f.seq) := kf.cell 0 (by decide)
    have f1 : wc.cell? ⟨fb, 1, none⟩ = some (.int .u32 f.pc) := kf.cell 1 (by decide)
    have h4 := kf.here
    have kn := hs.extc hn2
    have r0 : wc.cell? ⟨nb, 0, none⟩ = some (.int .u32 0) := kn.cell 0 (by decide)
    have r1 : wc.cell? ⟨nb, 1, none⟩ = some (.int .u32 1048691) := kn.cell 1 (by decide)
    have r2 : wc.cell? ⟨nb, 2, none⟩ = some (.int .i64 0) := kn.cell 2 (by decide)
    have r3 : wc.cell? ⟨nb, 3, none⟩ = some (.int .u32 0) := kn.cell 3 (by decide)
    have r4 : wc.cell? ⟨nb, 4, none⟩ = some (.int .i64 3) := kn.cell 4 (by decide)
    have r5 : wc.cell? ⟨nb, 5, none⟩ = some (.int .u32 0) := kn.cell 5 (by decide)
    have r6 : wc.cell? ⟨nb, 6, none⟩ = some (.int .u32 0) := kn.cell 6 (by decide)
    have h5 := kn.here
    have HNT := Hid.in (hs.drew.onBrd (fun F k => note_yes k (by have := HN.out; show S.R.evs.length < 1024; omega) (by have := HWN.out; show S.R.whs.length < 1024; omega) f.seq f.pc 0 1048691 0 0 3 0 0 HCY.out (by omega)))
    clear hs kf kn hf2 hr2 hn2
    go_upto_region 1 with fail
    go_still_tail 18, (by kernel_rfl)
    go_upto_region 2 with (go_at_call 96; go_must (refine HNT.out.mono ?_; rintro e y ⟨rfl, hs⟩; have HY := Hid.in hs; clear hs))
    clear c5 c6 h3 f0 f1 h4 r0 r1 r2 r3 r4 r5 r6 h5
    have c3 : y.cell? ⟨S.p, 3, none⟩ = some (.pointer (some ⟨S.wp, 0, none⟩)) := HY.out.core.cell 3 (by decide)
    have h3 : S.p < y.heap.size := HY.out.core.here
    have HW := Hid.in (HY.out.onWin (fun F k => wretire k HON.out HST.out))
    go_upto_region 3 with (go_at_call 134; go_must (refine HW.out.mono ?_; rintro e z ⟨rfl, hs⟩; have HZ := Hid.in hs; clear hs))
    clear c3 h3
    have kr := own_cell1 (HZ.out.rowc (k := 0) HR2.out)
    have q1 := kr.1.1
    have q2 := kr.1.2
    have c151 : z.cell? ⟨S.p, 151, none⟩ = some (.slice (some ⟨wb, 0, none⟩) 2 cap) := (HZ.out.core.cell 151 (by decide)).trans (congrArg some hw)
    have g151 : z.frozen? ⟨S.p, 151, none⟩ = false := HZ.out.core.free 151
    have h3 : S.p < z.heap.size := HZ.out.core.here
    clear kr
    go_upto_region 4 with fail
    have k1 : St (z.setCell ⟨S.p, 151, none⟩ (.slice (some ⟨wb, 1, none⟩) 1 (cap - 1))) { S.did nb with ws := S.ws.pop, way := .slice (some ⟨wb, 1, none⟩) 1 (cap - 1), R := { S.R with evs := S.R.evs ++ [evC S.R.cyc f.seq f.pc 0 4], whs := S.R.whs ++ [whC 0 1048691 0 0 3 0 0] } } := HZ.out.setWay (.slice (some ⟨wb, 1, none⟩) 1 (cap - 1))
    obtain ⟨V, hV⟩ : ∃ V, z.setCell ⟨S.p, 151, none⟩ (.slice (some ⟨wb, 1, none⟩) 1 (cap - 1)) = V := ⟨_, rfl⟩
    rw [hV] at k1
    try rw [hV]
    have kn := k1.extc (k := 5) HN2.out
    have r4 : V.cell? ⟨nb, 4, none⟩ = some (.int .i64 3) := kn.cell 4 (by decide)
    have r6 : V.cell? ⟨nb, 6, none⟩ = some (.int .u32 0) := kn.cell 6 (by decide)
    have h5 := kn.here
    have HTR := Hid.in (ftrap k1 (j := j) (fb := fb) (f := f) (T := { T with ext := upd T.ext 5 (CelC nb 7 (whC 0 1048691 0 0 3 0 0)) }) 0 n HF2.out HOFF.out h1 h2 hpc hd hs HQ.out HTP.out HTQ.out ((upd_other _ _ _ _ hj).trans HTF.out) (fun y ps k => HT.out nb y ps k))
    clear k1 kn c151 g151 h3 hV
    go_wp2_with (go_at_call 135; go_must (refine HTR.out.mono ?_; rintro e v ⟨rfl, ps, hs⟩; have HV := Hid.in hs; clear hs))
    exact bodyPost_ret (results_none Tryz.results80 _ _ _) rfl ⟨rfl, ps, upd T.ext 5 (CelC nb 7 (whC 0 1048691 0 0 3 0 0)), fun k hk => upd_other _ _ _ _ hk, HV.out⟩
set_option maxRecDepth 100000 in
set_option maxHeartbeats 4000000 in
theorem fcommit1 (h : St x S) {qa : Option Addr} (hqa : ∀ wb cap, S.way = .slice (some ⟨wb, 0, none⟩) 1 cap → (if cap = 1 then some (⟨wb, 0, none⟩ : Addr) else some ⟨wb, 1, none⟩) = qa) {T : FS} {j fb n wb cap B : Nat} {f : Flt} {l : List Value} (hj : j ≠ 5) (hhl : S.hl = false) (hf : S.ext j = CelC fb 27 f.at) (hr : S.ext 0 = RowC B 221 1 (.slice (some ⟨wb, 0, none⟩) 1 cap) 1 l) (hw : S.way = .slice (some ⟨wb, 0, none⟩) 1 cap) (hoff : Off S.G) (h1 : f.mh ≤ S.G.mask) (h2 : f.mt < S.G.ns) (hpc : 0 ≤ f.pc ∧ f.pc < 4294967296) (hd : f.d = -1) (hs : 0 ≤ f.seq ∧ f.seq ≤ 1000) (hn : S.R.evs.length < 1000) (hwn : S.R.whs.length < 1000) (hc : S.R.cyc ≤ 1000) (hon : 0 < S.ws.on.length) (hst : S.ws.st 0 = 2) (hq : T.qs = ⟨n, []⟩) (hTp : T.p = S.p) (hTq : T.qp = S.qp) (hTf : T.ext j = CelC fb 27 f.at)
    (ht : ∀ nb y ps, St y { S.did nb with ws := S.ws.pop, way := .slice qa 0 (cap - 1), R := { S.R with evs := S.R.evs ++ [evC S.R.cyc f.seq f.pc 0 4], whs := S.R.whs ++ [whC 0 1048691 0 0 3 0 0] }, ps := ps } → Calls Tryz.prog 125 #[.pointer (some ⟨S.p, 0, none⟩), .int .i64 f.seq] y fun e z => e = .returned (.tuple #[]) ∧ St z { T with ps := ps, ext := upd T.ext 5 (CelC nb 7 (whC 0 1048691 0 0 3 0 0)) }) : Calls Tryz.prog 80 #[.pointer (some ⟨S.p, 0, none⟩), .pointer (some ⟨fb, 0, none⟩)] x fun e y => e = .returned (.tuple #[]) ∧ ∃ ps E, (∀ k, k ≠ 5 → E k = T.ext k) ∧ St y { T with ps := ps, ext := E, nx := 0 } := by
  have c0 : x.cell? ⟨S.p, 0, none⟩ = some (.pointer (some ⟨S.hp, 0, none⟩)) := h.core.cell 0 (by decide)
  have h3 := h.core.here
  have kf := h.extc hf
  have f24 : x.cell? ⟨fb, 24, none⟩ = some (.int .u32 0) := kf.cell 24 (by decide)
  have f25 : x.cell? ⟨fb, 25, none⟩ = some (.bool false) := kf.cell 25 (by decide)
  have h4 := kf.here
  have H0 := Hid.in h
  have HQA := Hid.in (hqa _ _ hw)
  clear hqa
  have HF := Hid.in hf
  have HR := Hid.in hr
  have HT := Hid.in ht
  have HQ := Hid.in hq
  have HTF := Hid.in hTf
  have HTP := Hid.in hTp
  have HTQ := Hid.in hTq
  have HN := Hid.in hn
  have HWN := Hid.in hwn
  have HCY := Hid.in hc
  have HOFF := Hid.in hoff
  have HON := Hid.in hon
  have HST := Hid.in hst
  have HDA := Hid.in (fdoA h hhl hf)
  have HDB := Hid.in (fdoB h hhl hj hf 161)
  have ne1 : S.p ≠ x.heap.size := by omega
  have ne2 : fb ≠ x.heap.size := by omega
  have ne3 : x.heap.size ≠ S.p := by omega
  have ne4 : x.heap.size ≠ fb := by omega
  have m1 := World.new_ne x ⟨S.p, 0, none⟩ c0
  have m2 := World.new_ne x ⟨fb, 24, none⟩ f24
  have m3 := World.new_ne x ⟨fb, 25, none⟩ f25
  have hp5 : S.p < x.heap.size + 1 := by omega
  have hf5 : fb < x.heap.size + 1 := by omega
  clear h hf hr ht hq hTf hTp hTq kf hn hwn hc hoff hon hst
  go_enter Tryz.func80, Tryz.ntmps80
  go_upto_region 0 with fail
  go_cut [4] (fun pv wc => ∃ nb, pv = .pointer (some ⟨nb, 0, none⟩) ∧ St wc (S.did nb))
  case first =>
    go_region_held3 (fun w' => w'.cell? ⟨S.p, 0, none⟩ = some (.pointer (some ⟨S.hp, 0, none⟩)) ∧ w'.cell? ⟨fb, 24, none⟩ = some (.int .u32 0) ∧ w'.cell? ⟨fb, 25, none⟩ = some (.bool false)) (go_keep) (first
      | (go_at_call 133; refine HDA.out.mono ?_; rintro e y ⟨rfl, ⟨e0, e1, e2, e3, e4⟩, hs⟩; have n1 := World.new_ne y ⟨S.p, 0, none⟩ e0; have n2 := World.new_ne y ⟨fb, 24, none⟩ e1; have n3 := World.new_ne y ⟨fb, 25, none⟩ e2; have HS := Hid.in hs; clear hs)
      | (go_at_call 133; refine HDB.out.mono ?_; rintro e y ⟨rfl, ⟨e0, e1, e2, e3, e4⟩, kn, hs⟩; obtain ⟨r0, r1, r2, r3, r4, r5, r6, r7, r8⟩ := seven kn; have HS := Hid.in hs; have HKN := Hid.in kn; clear hs kn))
    · go_wp2_with fail
      go_meet
      exact ⟨_, rfl, HS.out.newExt 5 (whC 0 1048691 0 0 3 0 0) rfl (wh_new 0 1048691 0 0 3 0 0)⟩
    · go_wp2_with fail
      go_meet
      have q := HS.out.swapExt (k := 5) (b := x.heap.size) (n := 7) (f := zW) (whC 0 1048691 0 0 3 0 0) (show upd S.ext 5 (CelC x.heap.size 7 zW) 5 = _ from upd_same _ _ _) (wh_turn y x.heap.size _ _ _ _ _ _ _) (wh_set HKN.out 0 1048691 0 0 3 0 0)
      simp only [upd_twice] at q
      exact ⟨_, rfl, q⟩
  case rest =>
    obtain ⟨nb, rfl, hs⟩ := hcut
    clear HDA HDB H0 c0 h3 f24 f25 h4 ne1 ne2 ne3 ne4 m1 m2 m3 hp5 hf5
    have HS := Hid.in hs
    have hf2 : (S.did nb).ext j = CelC fb 27 f.at := (upd_other _ _ _ _ hj).trans HF.out
    have hr2 : (S.did nb).ext 0 = RowC B 221 1 (.slice (some ⟨wb, 0, none⟩) 1 cap) 1 l := (show upd S.ext 5 (CelC nb 7 (whC 0 1048691 0 0 3 0 0)) 0 = _ from (upd_other _ _ _ _ (by decide)).trans HR.out)
    have hn2 : (S.did nb).ext 5 = CelC nb 7 (whC 0 1048691 0 0 3 0 0) := (show upd S.ext 5 (CelC nb 7 (whC 0 1048691 0 0 3 0 0)) 5 = _ from upd_same _ _ _)
    have HF2 := Hid.in hf2
    have HR2 := Hid.in hr2
    have HN2 := Hid.in hn2
    have c5 : wc.cell? ⟨S.p, 5, none⟩ = some (.pointer (some ⟨S.b, 0, none⟩)) := hs.core.cell 5 (by decide)
    have c6 : wc.cell? ⟨S.p, 6, none⟩ = some (.int .i64 0) := hs.core.cell 6 (by decide)
    have h3 : S.p < wc.heap.size := hs.core.here
    have kf := hs.extc hf2
    have f0 : wc.cell? ⟨fb, 0, none⟩ = some (.int .i64 f.seq) := kf.cell 0 (by decide)
    have f1 : wc.cell? ⟨fb, 1, none⟩ = some (.int .u32 f.pc) := kf.cell 1 (by decide)
    have h4 := kf.here
    have kn := hs.extc hn2
    have r0 : wc.cell? ⟨nb, 0, none⟩ = some (.int .u32 0) := kn.cell 0 (by decide)
    have r1 : wc.cell? ⟨nb, 1, none⟩ = some (.int .u32 1048691) := kn.cell 1 (by decide)
    have r2 : wc.cell? ⟨nb, 2, none⟩ = some (.int .i64 0) := kn.cell 2 (by decide)
    have r3 : wc.cell? ⟨nb, 3, none⟩ = some (.int .u32 0) := kn.cell 3 (by decide)
    have r4 : wc.cell? ⟨nb, 4, none⟩ = some (.int .i64 3) := kn.cell 4 (by decide)
    have r5 : wc.cell? ⟨nb, 5, none⟩ = some (.int .u32 0) := kn.cell 5 (by decide)
    have r6 : wc.cell? ⟨nb, 6, none⟩ = some (.int .u32 0) := kn.cell 6 (by decide)
    have h5 := kn.here
    have HNT := Hid.in (hs.drew.onBrd (fun F k => note_yes k (by have := HN.out; show S.R.evs.length < 1024; omega) (by have := HWN.out; show S.R.whs.length < 1024; omega) f.seq f.pc 0 1048691 0 0 3 0 0 HCY.out (by omega)))
    clear hs kf kn hf2 hr2 hn2
    go_upto_region 1 with fail
    go_still_tail 18, (by kernel_rfl)
    go_upto_region 2 with (go_at_call 96; go_must (refine HNT.out.mono ?_; rintro e y ⟨rfl, hs⟩; have HY := Hid.in hs; clear hs))
    clear c5 c6 h3 f0 f1 h4 r0 r1 r2 r3 r4 r5 r6 h5
    have c3 : y.cell? ⟨S.p, 3, none⟩ = some (.pointer (some ⟨S.wp, 0, none⟩)) := HY.out.core.cell 3 (by decide)
    have h3 : S.p < y.heap.size := HY.out.core.here
    have HW := Hid.in (HY.out.onWin (fun F k => wretire k HON.out HST.out))
    go_upto_region 3 with (go_at_call 134; go_must (refine HW.out.mono ?_; rintro e z ⟨rfl, hs⟩; have HZ := Hid.in hs; clear hs))
    clear c3 h3
    have kr := own_cell1 (HZ.out.rowc (k := 0) HR2.out)
    have q1 := kr.1.1
    have q2 := kr.1.2
    have c151 : z.cell? ⟨S.p, 151, none⟩ = some (.slice (some ⟨wb, 0, none⟩) 1 cap) := (HZ.out.core.cell 151 (by decide)).trans (congrArg some hw)
    have g151 : z.frozen? ⟨S.p, 151, none⟩ = false := HZ.out.core.free 151
    have h3 : S.p < z.heap.size := HZ.out.core.here
    clear kr
    go_upto_region 4 with fail
    rw [HQA.out]
    have k1 : St (z.setCell ⟨S.p, 151, none⟩ (.slice qa 0 (cap - 1))) { S.did nb with ws := S.ws.pop, way := .slice qa 0 (cap - 1), R := { S.R with evs := S.R.evs ++ [evC S.R.cyc f.seq f.pc 0 4], whs := S.R.whs ++ [whC 0 1048691 0 0 3 0 0] } } := HZ.out.setWay (.slice qa 0 (cap - 1))
    obtain ⟨V, hV⟩ : ∃ V, z.setCell ⟨S.p, 151, none⟩ (.slice qa 0 (cap - 1)) = V := ⟨_, rfl⟩
    rw [hV] at k1
    try rw [hV]
    have kn := k1.extc (k := 5) HN2.out
    have r4 : V.cell? ⟨nb, 4, none⟩ = some (.int .i64 3) := kn.cell 4 (by decide)
    have r6 : V.cell? ⟨nb, 6, none⟩ = some (.int .u32 0) := kn.cell 6 (by decide)
    have h5 := kn.here
    have HTR := Hid.in (ftrap k1 (j := j) (fb := fb) (f := f) (T := { T with ext := upd T.ext 5 (CelC nb 7 (whC 0 1048691 0 0 3 0 0)) }) 0 n HF2.out HOFF.out h1 h2 hpc hd hs HQ.out HTP.out HTQ.out ((upd_other _ _ _ _ hj).trans HTF.out) (fun y ps k => HT.out nb y ps k))
    clear k1 kn c151 g151 h3 hV
    go_wp2_with (go_at_call 135; go_must (refine HTR.out.mono ?_; rintro e v ⟨rfl, ps, hs⟩; have HV := Hid.in hs; clear hs))
    exact bodyPost_ret (results_none Tryz.results80 _ _ _) rfl ⟨rfl, ps, upd T.ext 5 (CelC nb 7 (whC 0 1048691 0 0 3 0 0)), fun k hk => upd_other _ _ _ _ hk, HV.out⟩
end
end Go.Proofs.YtemamhkhjijdlaaGreatDoor
/-
  CORE: what retires; what is done by now.
-/
namespace Go.Proofs.YtemamhkhjijdlaaGreatDoor
open Go Go.RowKit
section
variable {x y : World} {S : FS}
set_option maxRecDepth 100000 in
set_option maxHeartbeats 4000000 in

theorem ffinish0 (h : St x S) (hw : S.way = .slice none 0 0) : Calls Tryz.prog 47 #[.pointer (some ⟨S.p, 0, none⟩)] x fun e y => e = .returned (.tuple #[]) ∧ St y S := by
  have c : x.cell? ⟨S.p, 151, none⟩ = some (.slice none 0 0) := (h.core.cell 151 (by decide)).trans (congrArg some hw)
  have h3 := h.core.here
  have HS := Hid.in h
  clear h
  go_enter Tryz.func47, Tryz.ntmps47
  go_wp2_with fail
  refine wp_loop_rounds 1 ?_
  rw [rounds_succ]
  go_wp2_with fail
  exact bodyPost_end (results_none Tryz.results47 _ _ _) rfl ⟨rfl, HS.out⟩
set_option maxRecDepth 100000 in
set_option maxHeartbeats 4000000 in
theorem ffinish1 (h : St x S) {wb cap B : Nat} {l : List Value} {b0 j0 : Nat} {f0 : Flt} (hr : S.ext 0 = RowC B 221 1 (.slice (some ⟨wb, 0, none⟩) 1 cap) 1 l) (hw : S.way = .slice (some ⟨wb, 0, none⟩) 1 cap) (l0 : l[0]? = some (.pointer (some ⟨b0, 0, none⟩))) (e0 : S.ext j0 = CelC b0 27 f0.at) (t0 : f0.stage = 0) : Calls Tryz.prog 47 #[.pointer (some ⟨S.p, 0, none⟩)] x fun e y => e = .returned (.tuple #[]) ∧ St y S := by
  have c : x.cell? ⟨S.p, 151, none⟩ = some (.slice (some ⟨wb, 0, none⟩) 1 cap) := (h.core.cell 151 (by decide)).trans (congrArg some hw)
  have h3 := h.core.here
  have kr := own_cell1 (h.rowc hr)
  have hwb := kr.2.1
  have w0 : x.cell? ⟨wb, 0, none⟩ = some (.pointer (some ⟨b0, 0, none⟩)) := kr.2.2 0 _ l0
  have s0 : x.cell? ⟨b0, 17, none⟩ = some (.int .i64 0) := ((h.extc e0).cell 17 (by decide)).trans (by rw [show Flt.at f0 17 = .int .i64 f0.stage from rfl, t0])
  have hh0 := (h.extc e0).here
  have HS := Hid.in h
  clear h kr hr e0
  go_enter Tryz.func47, Tryz.ntmps47
  go_wp2_with fail
  refine wp_loop_rounds 2 ?_
  rw [rounds_succ]
  go_upto_region 4 with fail
  go_quiet (fail)
  go_wp2_with fail
  rw [rounds_succ]
  go_wp2_with fail
  refine bodyPost_end (results_none Tryz.results47 _ _ _) rfl ⟨rfl, ?_⟩
  repeat (with_reducible first | exact HS.out | refine St.drewN ?_ _ | refine St.drew ?_)
set_option maxRecDepth 100000 in
set_option maxHeartbeats 4000000 in
theorem ffinish2 (h : St x S) {wb cap B : Nat} {l : List Value} {b0 j0 : Nat} {f0 : Flt} {b1 j1 : Nat} {f1 : Flt} (hr : S.ext 0 = RowC B 221 1 (.slice (some ⟨wb, 0, none⟩) 2 cap) 2 l) (hw : S.way = .slice (some ⟨wb, 0, none⟩) 2 cap) (l0 : l[0]? = some (.pointer (some ⟨b0, 0, none⟩))) (e0 : S.ext j0 = CelC b0 27 f0.at) (t0 : f0.stage = 0) (l1 : l[1]? = some (.pointer (some ⟨b1, 0, none⟩))) (e1 : S.ext j1 = CelC b1 27 f1.at) (t1 : f1.stage = 0) : Calls Tryz.prog 47 #[.pointer (some ⟨S.p, 0, none⟩)] x fun e y => e = .returned (.tuple #[]) ∧ St y S := by
  have c : x.cell? ⟨S.p, 151, none⟩ = some (.slice (some ⟨wb, 0, none⟩) 2 cap) := (h.core.cell 151 (by decide)).trans (congrArg some hw)
  have h3 := h.core.here
  have kr := own_cell1 (h.rowc hr)
  have hwb := kr.2.1
  have w0 : x.cell? ⟨wb, 0, none⟩ = some (.pointer (some ⟨b0, 0, none⟩)) := kr.2.2 0 _ l0
  have s0 : x.cell? ⟨b0, 17, none⟩ = some (.int .i64 0) := ((h.extc e0).cell 17 (by decide)).trans (by rw [show Flt.at f0 17 = .int .i64 f0.stage from rfl, t0])
  have hh0 := (h.extc e0).here
  have w1 : x.cell? ⟨wb, 1, none⟩ = some (.pointer (some ⟨b1, 0, none⟩)) := kr.2.2 1 _ l1
  have s1 : x.cell? ⟨b1, 17, none⟩ = some (.int .i64 0) := ((h.extc e1).cell 17 (by decide)).trans (by rw [show Flt.at f1 17 = .int .i64 f1.stage from rfl, t1])
  have hh1 := (h.extc e1).here
  have HS := Hid.in h
  clear h kr hr e0 e1
  go_enter Tryz.func47, Tryz.ntmps47
  go_wp2_with fail
  refine wp_loop_rounds 3 ?_
  rw [rounds_succ]
  go_upto_region 4 with fail
  go_quiet (fail)
  go_wp2_with fail
  rw [rounds_succ]
  go_upto_region 4 with fail
  go_quiet (fail)
  go_wp2_with fail
  rw [rounds_succ]
  go_wp2_with fail
  refine bodyPost_end (results_none Tryz.results47 _ _ _) rfl ⟨rfl, ?_⟩
  repeat (with_reducible first | exact HS.out | refine St.drewN ?_ _ | refine St.drew ?_)
end
end Go.Proofs.YtemamhkhjijdlaaGreatDoor
