import Derived.Test.YtnlagbiikpbjdaaGreatDoorAu1
import Derived.Deep.RegionHeld3
import Derived.RegionTactic
import Derived.StillTailTactics
import Derived.OwnWalk
/-
  THE MACHINE: what it does with what is asked.
-/
namespace Go.Proofs.YtnlagbiikpbjdaaGreatDoor
open Go Go.RowKit
/-- what is asked may be done: in data, or (of a store) at the device -/
def Good (op ad : Int) (sz len : Nat) : Prop := (∃ at', ad = ((65536 + at' : Nat) : Int) ∧ at' + sz ≤ len) ∨ (clR op = 5 ∧ 131072 ≤ ad)
/-- whose blocks may turn -/
def Mine (p : Nat) (dv ov : Value) (j : Nat) : Prop := j = p ∨ dv.ownBlock = some j ∨ ov.ownBlock = some j
theorem Turned.set {Q : Nat → Prop} {x y : World} (h : Turned Q x y) {b : Nat} (hb : Q b) (o : Nat) (v : Value) : Turned Q x (y.setCell ⟨b, o, none⟩ v) :=
  h.trans ((Turned.of_only ((Only.refl b y).set o v)).mono (fun i e => by rw [e]; exact hb))
section
variable {w0 w : World} {B p hq cg n cap len ol : Nat} {dv ov : Value} {S : HS} {f : Nat → Int}
theorem Mw.at (k : Mw w0 w B p hq cg n cap dv ov S len ol f) : p < w.heap.size ∧ hq < w.heap.size ∧ cg < w.heap.size ∧ ∀ db, Bytes w db len → db < w.heap.size := by
  obtain ⟨res, c⟩ := k.c
  exact ⟨c.here, k.h.here, k.code.here, fun db h => h.here⟩
theorem Mw.data (k : Mw w0 w B p hq cg n cap dv ov S len ol f) (hl : 0 < len) : ∃ db dc, dv = .slice (some ⟨db, 0, none⟩) len dc ∧ len ≤ dc ∧ Bytes w db len ∧ (db ≠ p ∧ db ≠ hq ∧ db ≠ cg ∧ ov.ownBlock ≠ some db ∧ B ≤ db) ∧ w.cell? ⟨p, 1, none⟩ = some (.slice (some ⟨db, 0, none⟩) len dc) := by
  obtain ⟨res, c⟩ := k.c
  rcases k.d with h | ⟨db, dc, h1, h2, h3, h4⟩
  · have := h.1
    omega
  · exact ⟨db, dc, h1, h2, h3, h4, by rw [← h1]; exact c.cell 1 (by decide)⟩
end
theorem mread_m {w0 w : World} {B p hq cg n cap len ol : Nat} {dv ov : Value} {S : HS} {f : Nat → Int} (k : Mw w0 w B p hq cg n cap dv ov S len ol f) (op ad : Int) (at' sz : Nat) (da : Int) (had : ad = ((65536 + at' : Nat) : Int)) (hin : at' + sz ≤ len) (hs : 0 < sz) (hs4 : sz ≤ 4) (hl : len ≤ 4096) : Calls Tryz.prog 45 #[.pointer (some ⟨p, 0, none⟩), qV op ad sz da] w fun e w' => (∃ v : Int, U32 v ∧ e = .returned (.int .u32 v)) ∧ Below w.heap.size w w' := by
  obtain ⟨db, dc, -, h2, h3, -, c1⟩ := k.data (by omega)
  exact mread_any p db len dc op ad at' sz da w k.at.1 c1 h3 had hin hs h2 hl hs4
theorem mwrite_m {w0 w : World} {B p hq cg n cap len ol : Nat} {dv ov : Value} {S : HS} {f : Nat → Int} (k : Mw w0 w B p hq cg n cap dv ov S len ol f) (op ad : Int) (at' sz : Nat) (da vv : Int) (had : ad = ((65536 + at' : Nat) : Int)) (hin : at' + sz ≤ len) (hs : 0 < sz) (hs4 : sz ≤ 4) (hl : len ≤ 4096) : Calls Tryz.prog 77 #[.pointer (some ⟨p, 0, none⟩), qV op ad sz da, .int .u32 vv] w fun e w' => e = .returned (.tuple #[]) ∧ Mw w0 w' B p hq cg n cap dv ov S len ol f ∧ Turned (Mine p dv ov) w w' := by
  obtain ⟨db, dc, h1, h2, h3, h4, c1⟩ := k.data (by omega)
  exact (mwrite_any p db len dc op ad at' sz da vv w k.at.1 c1 h3 had hin hs h2 hl hs4).mono fun e w' h => ⟨h.1, k.dat h1 h2 h4 h.2.1 h.2.2, (Turned.of_only h.2.1).mono (fun j e => Or.inr (Or.inl (by rw [h1, e]; rfl)))⟩
set_option maxRecDepth 100000 in
set_option maxHeartbeats 1000000 in
theorem mstore_dev {w0 w : World} {B p hq cg n cap len ol : Nat} {dv ov : Value} {S : HS} {f : Nat → Int} (k : Mw w0 w B p hq cg n cap dv ov S len ol f) (hB : B ≤ w.heap.size) (hol : ol ≤ 5000) (op ad : Int) (sz : Nat) (da : Int) (had : 131072 ≤ ad) : Calls Tryz.prog 46 #[.pointer (some ⟨p, 0, none⟩), qV op ad sz da] w fun e w' => e = .returned (.tuple #[]) ∧ (∃ ov', Fr ov ov' w.heap.size ∧ Mw w0 w' B p hq cg n cap dv ov' S len (ol + 1) f) ∧ Turned (Mine p dv ov) w w' := by
  obtain ⟨X, hX, bX, x0, x1, x2, x3, sX⟩ := boxW4 w (.int .i64 op) (.int .u32 ad) (.int .i64 sz) (.int .u32 da) 72
  have kX := (k.below bX).below ((Below.refl _ _).drew)
  have hd : decide (131072 ≤ ad) = true := decide_eq_true had
  obtain ⟨i0, hi0, hz0, hz1, hz2⟩ := info_parts (show (Tryz.prog.info? 5).map (fun i => (i.zero, i.size, i.bytes)) = some (some (.int .u8 0), 1, 1) by kernel_rfl)
  obtain ⟨Y, hY⟩ : ∃ Y, X.drew.alloc (.cells #[.int .u8 (da % 256)] 5) = Y := ⟨_, rfl⟩
  have bY : Below X.drew.heap.size X.drew Y := by rw [← hY]; exact (Below.refl _ _).alloc (Nat.le_refl _) _
  have kY := kX.below bY
  obtain ⟨l, hown⟩ := kY.o
  have hnew : Y.cell? ⟨X.heap.size, 0, none⟩ = some (.int .u8 (da % 256)) := by rw [← hY]; exact World.cell?_alloc_new X.drew _ _ 0
  obtain ⟨v', Z, hrun, r1, r2, r3, r4⟩ := run_append_own_at (P := Tryz.prog) (w := Y) B 23 23 5 i0 (.int .u8 0) 1 1 Tryz.underlying23 hi0 hz0 hz1 hz2 rfl (by decide) ov ol l hown ⟨X.heap.size, 0, none⟩ 1 1 [.int .u8 (da % 256)] rfl (fun j y hj => by
    match j, hj with
    | 0, hj => rw [← Option.some.inj hj]; exact hnew) (by simp [Value.oneCell']) (by unfold maxLen; omega) (by omega) (Nat.le_trans hB (Nat.le_trans bX.size bY.size))
  obtain ⟨q', cap', rfl⟩ : ∃ q' cap', v' = .slice q' (ol + 1) cap' := by
    rcases r1.2 with ⟨h, h0⟩ | ⟨g, cp, cur, h, -⟩
    · omega
    · exact ⟨_, _, h⟩
  obtain ⟨oq, oc, rfl⟩ : ∃ oq oc, ov = .slice oq ol oc := by
    rcases hown.2 with ⟨h, h0⟩ | ⟨g, cp, cur, h, -⟩
    · exact ⟨none, 0, by rw [h, h0]⟩
    · exact ⟨_, _, h⟩
  have HM := Hid.in (kY.out kY.at (turned_grown r2) r1 r4)
  have HFR : Hid (Fr (.slice oq ol oc) (.slice q' (ol + 1) cap') w.heap.size) := r4.elim Or.inl (fun h => Or.inr ⟨_, h, Nat.le_trans bX.size bY.size⟩)
  have HT : Hid (Turned (Mine p dv (.slice oq ol oc)) w (Z.setCell ⟨p, 2, none⟩ (.slice q' (ol + 1) cap'))) := (((Turned.of_below (Q := Mine p dv (.slice oq ol oc)) bX).trans (Turned.of_below (Below.refl _ _).drew)).trans (Turned.of_below bY)).trans ((turned_grown r2).mono (fun j e => Or.inr (Or.inr e))) |>.set (Or.inl rfl) 2 _
  obtain ⟨rs, cY⟩ := kY.c
  obtain ⟨rs', cX⟩ := kX.c
  have cZ := (turned_grown r2).cells cY kY.n2.1
  have e1 : X.drew.cell? ⟨p, 2, none⟩ = some (.slice oq ol oc) := cX.cell 2 (by decide)
  have e2 : Y.cell? ⟨p, 2, none⟩ = some (.slice oq ol oc) := cY.cell 2 (by decide)
  have e3 : Z.cell? ⟨p, 2, none⟩ = some (.slice oq ol oc) := cZ.cell 2 (by decide)
  have HST := Hid.in (fun (Q : Exit → Act → World → Prop) (hQ : ∀ c a a' w, Q (.panic c) a w → Q (.panic c) a' w) => st_reg hQ p w.heap.size oq ol oc da q' (ol + 1) cap' X.drew Y Z X rfl hY hrun e1 e2 e3 (cZ.free 2) x3)
  clear k kX kY hown hnew bX bY r1 r2 r3 r4 cX cY cZ hi0 hz0 hz1 hz2 hB hol had e1 e2 e3 hrun hY
  unfold qV
  go_enter Tryz.func46, Tryz.ntmps46
  go_upto_region 2 with fail
  refine wp_any (HST.out (Exit.then _ NoX) (fun _ _ _ _ h => h) _ rfl rfl rfl (fun a' ha => ?_))
  obtain ⟨tm, df⟩ := a'
  obtain rfl : df = [] := ha
  go_wp2
  exact bodyPost_ret (v := .tuple #[]) (results_none Tryz.results46 _ _ _) rfl ⟨rfl, ⟨_, HFR.out, HM.out⟩, HT.out⟩
set_option maxRecDepth 100000 in
set_option maxHeartbeats 1000000 in
theorem mstore_dat {w0 w : World} {B p hq cg n cap len ol : Nat} {dv ov : Value} {S : HS} {f : Nat → Int} (k : Mw w0 w B p hq cg n cap dv ov S len ol f) (op ad : Int) (at' sz : Nat) (da : Int) (had : ad = ((65536 + at' : Nat) : Int)) (hin : at' + sz ≤ len) (hs : 0 < sz) (hs4 : sz ≤ 4) (hl : len ≤ 4096) : Calls Tryz.prog 46 #[.pointer (some ⟨p, 0, none⟩), qV op ad sz da] w fun e w' => e = .returned (.tuple #[]) ∧ Mw w0 w' B p hq cg n cap dv ov S len ol f ∧ Turned (Mine p dv ov) w w' := by
  have hd : decide (131072 ≤ ad) = false := decide_eq_false (by omega)
  have hd2 : ¬ 131072 ≤ ad := by omega
  have HW : Hid (∀ x, Below w.heap.size w x → Calls Tryz.prog 77 #[.pointer (some ⟨p, 0, none⟩), .agg #[.int .i64 op, .int .u32 ad, .int .i64 sz, .int .u32 da], .int .u32 da] x fun e w' => e = .returned (.tuple #[]) ∧ Mw w0 w' B p hq cg n cap dv ov S len ol f ∧ Turned (Mine p dv ov) w w') := fun x hx => (mwrite_m (k.below hx) op ad at' sz da da had hin hs hs4 hl).mono fun e w' h => ⟨h.1, h.2.1, (Turned.of_below hx).trans h.2.2⟩
  clear k had hin hs hs4 hl
  unfold qV
  go_enter Tryz.func46, Tryz.ntmps46
  go_wp2_with (go_at_call 77; refine (HW.out _ ((Below.refl _ _).alloc (Nat.le_refl _) _)).mono ?_; rintro e x1 ⟨rfl, hM⟩; have HM := Hid.in hM; clear hM)
  exact bodyPost_end (results_none Tryz.results46 _ _ _) rfl ⟨rfl, HM.out⟩
end Go.Proofs.YtnlagbiikpbjdaaGreatDoor
/-
  THE MACHINE: atomic operations; whatever is asked.
-/
namespace Go.Proofs.YtnlagbiikpbjdaaGreatDoor
open Go Go.RowKit
set_option maxRecDepth 100000 in
set_option maxHeartbeats 1000000 in
theorem matomic_lr {w0 w : World} {B p hq cg n cap len ol : Nat} {dv ov : Value} {S : HS} {f : Nat → Int} (k : Mw w0 w B p hq cg n cap dv ov S len ol f) (ad : Int) (at' sz : Nat) (da : Int) (had : ad = ((65536 + at' : Nat) : Int)) (hin : at' + sz ≤ len) (hs : 0 < sz) (hs4 : sz ≤ 4) (hl : len ≤ 4096) : Calls Tryz.prog 47 #[.pointer (some ⟨p, 0, none⟩), qV 46 ad sz da] w fun e w' => (∃ (v : Int) (held : Bool), U32 v ∧ e = .returned (.tuple #[.int .u32 v, .bool held])) ∧ Mw w0 w' B p hq cg n cap dv ov S len ol f ∧ Turned (Mine p dv ov) w w' := by
  obtain ⟨X, hX, bX, x0, x1, x2, x3, sX⟩ := boxW4 w (.int .i64 46) (.int .u32 ad) (.int .i64 sz) (.int .u32 da) 72
  have kX := k.below bX
  obtain ⟨rs, cX⟩ := kX.c
  have e1 : X.cell? ⟨p, 3, none⟩ = some (.int .u32 rs) := cX.cell 3 (by decide)
  have f1 := cX.free 3
  have p1 := cX.here
  have hne : p ≠ w.heap.size := fun e => by have := k.at.1; omega
  have hne2 := hne.symm
  have HM := Hid.in (kX.res ad)
  have HT : Hid (Turned (Mine p dv ov) w (X.setCell ⟨p, 3, none⟩ (.int .u32 ad))) := (Turned.of_below (Q := Mine p dv ov) bX).set (Or.inl rfl) 3 _
  have HR : Hid (Calls Tryz.prog 45 #[.pointer (some ⟨p, 0, none⟩), .agg #[.int .i64 46, .int .u32 ad, .int .i64 sz, .int .u32 da]] (X.setCell ⟨p, 3, none⟩ (.int .u32 ad)) fun e w' => (∃ v : Int, U32 v ∧ e = .returned (.int .u32 v)) ∧ Below (X.setCell ⟨p, 3, none⟩ (.int .u32 ad)).heap.size (X.setCell ⟨p, 3, none⟩ (.int .u32 ad)) w') := mread_m (kX.res ad) 46 ad at' sz da had hin hs hs4 hl
  obtain ⟨zb, hzb⟩ : ∃ zb, w.heap.size = zb := ⟨_, rfl⟩
  rw [hzb] at x0 x1 x2 x3 sX hne hne2
  clear k kX cX bX had hin hs hs4 hl
  unfold qV
  go_enter Tryz.func47, Tryz.ntmps47
  go_upto_region 1 with fail
  try rw [hX, hzb]
  clear hX hzb
  go_wp2_with (go_at_call 45; refine HR.out.mono ?_; rintro e x1 ⟨⟨v, hv, rfl⟩, hb⟩; have HV := Hid.in hv; clear hv; have HM1 := Hid.in (HM.out.below hb); have HT1 := Hid.in (HT.out.trans (Turned.of_below hb)); clear hb)
  exact bodyPost_ret (v := .tuple #[.int .u32 v, .bool false]) (by simp [results, Tryz.results47, go_sem]) rfl ⟨⟨v, false, HV.out, rfl⟩, HM1.out, HT1.out⟩
set_option maxRecDepth 100000 in
set_option maxHeartbeats 1000000 in
theorem matomic_sc {w0 w : World} {B p hq cg n cap len ol : Nat} {dv ov : Value} {S : HS} {f : Nat → Int} (k : Mw w0 w B p hq cg n cap dv ov S len ol f) (ad : Int) (at' sz : Nat) (da : Int) (had : ad = ((65536 + at' : Nat) : Int)) (hin : at' + sz ≤ len) (hs : 0 < sz) (hs4 : sz ≤ 4) (hl : len ≤ 4096) : Calls Tryz.prog 47 #[.pointer (some ⟨p, 0, none⟩), qV 47 ad sz da] w fun e w' => (∃ (v : Int) (held : Bool), U32 v ∧ e = .returned (.tuple #[.int .u32 v, .bool held])) ∧ Mw w0 w' B p hq cg n cap dv ov S len ol f ∧ Turned (Mine p dv ov) w w' := by
  obtain ⟨X, hX, bX, x0, x1, x2, x3, sX⟩ := boxW4 w (.int .i64 47) (.int .u32 ad) (.int .i64 sz) (.int .u32 da) 72
  have kX := k.below bX
  obtain ⟨rs, cX⟩ := kX.c
  have e1 : X.cell? ⟨p, 3, none⟩ = some (.int .u32 rs) := cX.cell 3 (by decide)
  have f1 := cX.free 3
  have p1 := cX.here
  have hne : p ≠ w.heap.size := fun e => by have := k.at.1; omega
  have hne2 := hne.symm
  have HKX := Hid.in kX
  have HTX : Hid (Turned (Mine p dv ov) w X) := Turned.of_below bX
  have HW : Hid (∀ x, Mw w0 x B p hq cg n cap dv ov S len ol f → Calls Tryz.prog 77 #[.pointer (some ⟨p, 0, none⟩), .agg #[.int .i64 47, .int .u32 ad, .int .i64 sz, .int .u32 da], .int .u32 da] x fun e w' => e = .returned (.tuple #[]) ∧ Mw w0 w' B p hq cg n cap dv ov S len ol f ∧ Turned (Mine p dv ov) x w') := fun x kx => mwrite_m kx 47 ad at' sz da da had hin hs hs4 hl
  obtain ⟨zb, hzb⟩ : ∃ zb, w.heap.size = zb := ⟨_, rfl⟩
  rw [hzb] at x0 x1 x2 x3 sX hne hne2
  clear k kX cX bX had hin hs hs4 hl
  unfold qV
  go_enter Tryz.func47, Tryz.ntmps47
  go_upto_region 1 with fail
  try rw [hX, hzb]
  clear hX hzb
  go_upto_region 6 with fail
  go_quiet (fail)
  generalize hW : X.drewN nq = W
  have kW : Mw w0 W B p hq cg n cap dv ov S len ol f := by rw [← hW]; exact HKX.out.below (below_drewN (Below.refl _ _) _)
  have HMW := Hid.in (kW.res 0)
  have HTW : Hid (Turned (Mine p dv ov) w (W.setCell ⟨p, 3, none⟩ (.int .u32 0))) := by
    show Turned (Mine p dv ov) w _
    rw [← hW]
    exact (HTX.out.trans (Turned.of_below (below_drewN (Below.refl _ _) _))).set (Or.inl rfl) 3 _
  obtain ⟨rs2, cW⟩ := kW.c
  have g1 : W.cell? ⟨p, 3, none⟩ = some (.int .u32 rs2) := cW.cell 3 (by decide)
  have f2 := cW.free 3
  have p2 := cW.here
  have y0 : W.cell? ⟨zb, 0, none⟩ = some (.int .i64 47) := by rw [← hW]; exact x0
  have y1 : W.cell? ⟨zb, 1, none⟩ = some (.int .u32 ad) := by rw [← hW]; exact x1
  have y2 : W.cell? ⟨zb, 2, none⟩ = some (.int .i64 sz) := by rw [← hW]; exact x2
  have y3 : W.cell? ⟨zb, 3, none⟩ = some (.int .u32 da) := by rw [← hW]; exact x3
  have sW : zb < W.heap.size := by rw [← hW]; exact sX
  clear hW kW cW x0 x1 x2 x3 sX e1 f1 p1
  cases hh : (rs == ad)
  · go_wp2
    exact bodyPost_ret (v := .tuple #[.int .u32 0, .bool false]) (by simp [results, Tryz.results47, go_sem]) rfl ⟨⟨0, false, ⟨by decide, by decide⟩, rfl⟩, HMW.out, HTW.out⟩
  · go_wp2_with (go_at_call 77; refine (HW.out _ HMW.out).mono ?_; rintro e x1 ⟨rfl, hM, hT⟩; have HM1 := Hid.in hM; have HT1 := Hid.in (HTW.out.trans hT); clear hM hT)
    exact bodyPost_ret (v := .tuple #[.int .u32 0, .bool true]) (by simp [results, Tryz.results47, go_sem]) rfl ⟨⟨0, true, ⟨by decide, by decide⟩, rfl⟩, HM1.out, HT1.out⟩
set_option maxRecDepth 100000 in
set_option maxHeartbeats 2000000 in
theorem matomic_rmw {w0 w : World} {B p hq cg n cap len ol : Nat} {dv ov : Value} {S : HS} {f : Nat → Int} (k : Mw w0 w B p hq cg n cap dv ov S len ol f) (op ad : Int) (at' sz : Nat) (da : Int) (h46 : ¬ op = 46) (h47 : ¬ op = 47) (had : ad = ((65536 + at' : Nat) : Int)) (hin : at' + sz ≤ len) (hs : 0 < sz) (hs4 : sz ≤ 4) (hl : len ≤ 4096) : Calls Tryz.prog 47 #[.pointer (some ⟨p, 0, none⟩), qV op ad sz da] w fun e w' => (∃ (v : Int) (held : Bool), U32 v ∧ e = .returned (.tuple #[.int .u32 v, .bool held])) ∧ Mw w0 w' B p hq cg n cap dv ov S len ol f ∧ Turned (Mine p dv ov) w w' := by
  obtain ⟨X, hX, bX, x0, x1, x2, x3, sX⟩ := boxW4 w (.int .i64 op) (.int .u32 ad) (.int .i64 sz) (.int .u32 da) 72
  have HKX := Hid.in (k.below bX)
  have HR : Hid (Calls Tryz.prog 45 #[.pointer (some ⟨p, 0, none⟩), .agg #[.int .i64 op, .int .u32 ad, .int .i64 sz, .int .u32 da]] X fun e w' => (∃ v : Int, U32 v ∧ e = .returned (.int .u32 v)) ∧ Below X.heap.size X w') := mread_m (k.below bX) op ad at' sz da had hin hs hs4 hl
  obtain ⟨db, dc, h1, h2, h3, h4, c1⟩ := k.data (by omega)
  have HW : Hid (∀ x (vv : Int), Below w.heap.size w x → w.heap.size < x.heap.size → Calls Tryz.prog 77 #[.pointer (some ⟨p, 0, none⟩), .agg #[.int .i64 op, .int .u32 ad, .int .i64 sz, .int .u32 da], .int .u32 vv] x fun e w' => e = .returned (.tuple #[]) ∧ (Mw w0 w' B p hq cg n cap dv ov S len ol f ∧ Turned (Mine p dv ov) w w') ∧ ∀ o, w'.cell? ⟨w.heap.size, o, none⟩ = x.cell? ⟨w.heap.size, o, none⟩) := fun x vv hx hz => (mwrite_any p db len dc op ad at' sz da vv x (Nat.lt_of_lt_of_le k.at.1 hx.size) ((hx.cell (p := ⟨p, 1, none⟩) k.at.1).trans c1) (h3.turned (Q := fun _ => False) (Turned.of_below hx) (fun q => q)) had hin hs h2 hl hs4).mono fun e w' h => ⟨h.1, ⟨(k.below hx).dat h1 h2 h4 h.2.1 h.2.2, (Turned.of_below hx).trans ((Turned.of_only h.2.1).mono (fun j e => Or.inr (Or.inl (by rw [h1, e]; rfl))))⟩, fun o => World.cell?_of_block (w := x) (h.2.1.block w.heap.size hz (fun e => by have := h3.here; omega))⟩
  obtain ⟨zb, hzb⟩ : ∃ zb, w.heap.size = zb := ⟨_, rfl⟩
  have HBX := Hid.in bX
  rw [hzb] at x0 x1 x2 x3 sX HW HBX
  have h46d : (op == 46) = false := by simp; exact h46
  have h47d : (op == 47) = false := by simp; exact h47
  clear k bX had hin hs hs4 hl h1 h2 h3 h4 c1
  unfold qV
  go_enter Tryz.func47, Tryz.ntmps47
  go_upto_region 1 with fail
  try rw [hX, hzb]
  clear hX hzb
  go_upto_region 12 with (go_at_call 45; refine HR.out.mono ?_; rintro e X1 ⟨⟨v, hv, rfl⟩, hb⟩; have HV := Hid.in hv; clear hv; have HB1 := Hid.in hb; clear hb)
  have y0 : X1.cell? ⟨zb, 0, none⟩ = some (.int .i64 op) := (HB1.out.cell (p := ⟨zb, 0, none⟩) sX).trans x0
  have y1 : X1.cell? ⟨zb, 1, none⟩ = some (.int .u32 ad) := (HB1.out.cell (p := ⟨zb, 1, none⟩) sX).trans x1
  have y2 : X1.cell? ⟨zb, 2, none⟩ = some (.int .i64 sz) := (HB1.out.cell (p := ⟨zb, 2, none⟩) sX).trans x2
  have y3 : X1.cell? ⟨zb, 3, none⟩ = some (.int .u32 da) := (HB1.out.cell (p := ⟨zb, 3, none⟩) sX).trans x3
  have sY := Nat.lt_of_lt_of_le sX HB1.out.size
  have HK1 := Hid.in (HKX.out.below HB1.out)
  have HS : Hid (∀ x, Below X1.heap.size X1 x → Calls Tryz.prog 78 #[.int .i64 op, .int .u32 v, .int .u32 da] x fun e y => e = .returned (.int .u32 (swI op v da)) ∧ Below X1.heap.size X1 y ∧ y.cell? ⟨zb, 0, none⟩ = some (.int .i64 op) ∧ y.cell? ⟨zb, 1, none⟩ = some (.int .u32 ad) ∧ y.cell? ⟨zb, 2, none⟩ = some (.int .i64 sz) ∧ y.cell? ⟨zb, 3, none⟩ = some (.int .u32 da)) := fun x hx => by
    refine (p_swap op v da x).mono fun e y h => ?_
    have hy := below2 hx h.2
    exact ⟨h.1, hy, (hy.cell (p := ⟨zb, 0, none⟩) sY).trans y0, (hy.cell (p := ⟨zb, 1, none⟩) sY).trans y1, (hy.cell (p := ⟨zb, 2, none⟩) sY).trans y2, (hy.cell (p := ⟨zb, 3, none⟩) sY).trans y3⟩
  have HWB : Hid (∀ x, Below X1.heap.size X1 x → Below zb w x ∧ zb < x.heap.size) := fun x hx => ⟨(HBX.out.trans (HB1.out.mono (Nat.le_of_lt sX))).trans (hx.mono (Nat.le_of_lt sY)), Nat.lt_of_lt_of_le sY hx.size⟩
  clear x0 x1 x2 x3 sX
  go_region_held3 (fun w' => w'.cell? ⟨zb, 0, none⟩ = some (.int .i64 op) ∧ w'.cell? ⟨zb, 1, none⟩ = some (.int .u32 ad) ∧ w'.cell? ⟨zb, 2, none⟩ = some (.int .i64 sz) ∧ w'.cell? ⟨zb, 3, none⟩ = some (.int .u32 da)) (go_keep) (first
    | (go_at_call 78; refine (HS.out _ (by repeat (with_reducible first | exact Below.refl _ _ | refine Below.drew ?_))).mono ?_; rintro e y1 ⟨rfl, hy1, k1, k2, k3, k4⟩; have HY1 := Hid.in hy1; clear hy1)
    | (go_at_call 77; refine (HW.out _ _ (HWB.out _ HY1.out).1 (HWB.out _ HY1.out).2).mono ?_; rintro e y2 ⟨rfl, hM, hcc⟩; have HM := Hid.in hM; have l1 := (hcc 0).trans k1; have l2 := (hcc 1).trans k2; have l3 := (hcc 2).trans k3; have l4 := (hcc 3).trans k4; clear hM hcc))
  go_wp2
  exact bodyPost_ret (v := .tuple #[.int .u32 v, .bool false]) (by simp [results, Tryz.results47, go_sem]) rfl ⟨⟨v, false, HV.out, rfl⟩, HM.out.1, HM.out.2⟩
end Go.Proofs.YtnlagbiikpbjdaaGreatDoor
/-
  THE MACHINE: its hart; whatever is asked; a step.
-/
namespace Go.Proofs.YtnlagbiikpbjdaaGreatDoor
open Go Go.RowKit
theorem mhart_any {w0 w : World} {B p hq cg n cap len ol : Nat} {dv ov : Value} {S : HS} {f : Nat → Int} (k : Mw w0 w B p hq cg n cap dv ov S len ol f) : Calls Tryz.prog 14 #[.pointer (some ⟨p, 0, none⟩)] w fun e w' => e = .returned (.pointer (some ⟨hq, 0, none⟩)) ∧ w' = w := by
  obtain ⟨rs, c⟩ := k.c
  have c0 : w.cell? ⟨p, 0, none⟩ = some (.pointer (some ⟨hq, 0, none⟩)) := c.cell 0 (by decide)
  have hp := c.here
  clear k c
  go_enter Tryz.func14, Tryz.ntmps14
  go_wp2
  go_ret
  exact ⟨rfl, rfl⟩
/-- what is asked: nothing, or what may be done -/
def Asked (op ad : Int) (sz len : Nat) : Prop := (¬ clR op = 4 ∧ ¬ clR op = 5 ∧ ¬ clR op = 6) ∨ ((0 < sz ∧ sz ≤ 4) ∧ Good op ad sz len)
set_option maxRecDepth 100000 in
set_option maxHeartbeats 1000000 in
theorem mserve_any {w0 w : World} {B p hq cg n cap len ol : Nat} {dv ov : Value} {S : HS} {f : Nat → Int} (k : Mw w0 w B p hq cg n cap dv ov S len ol f) (hB : B ≤ w.heap.size) (hol : ol ≤ 5000) (hL : Laid w) (op ad : Int) (sz : Nat) (da : Int) (hl : len ≤ 4096) (ha : Asked op ad sz len) : Calls Tryz.prog 25 #[.pointer (some ⟨p, 0, none⟩), qV op ad sz da] w fun e w' => (∃ (v : Int) (held : Bool), U32 v ∧ e = .returned (.tuple #[.int .u32 v, .bool held])) ∧ (∃ ov' ol', ol' ≤ ol + 1 ∧ Fr ov ov' w.heap.size ∧ Mw w0 w' B p hq cg n cap dv ov' S len ol' f) ∧ Turned (Mine p dv ov) w w' := by
  obtain ⟨X, hX, bX, x0, x1, x2, x3, sX⟩ := boxW4 w (.int .i64 op) (.int .u32 ad) (.int .i64 sz) (.int .u32 da) 72
  have HC : Hid (Calls Tryz.prog 44 #[.int .i64 op] X fun e w' => e = .returned (.int .i64 (clR op)) ∧ Below X.heap.size X w') := p_class op X (hL.below bX)
  have HK := Hid.in (k.below bX)
  have HTX : Hid (Turned (Mine p dv ov) w X) := Turned.of_below bX
  have HBX := Hid.in (Nat.le_trans hB bX.size)
  have HA := Hid.in ha
  obtain ⟨zb, hzb⟩ : ∃ zb, w.heap.size = zb := ⟨_, rfl⟩
  rw [hzb] at x0 x1 x2 x3 sX
  have HZW := Hid.in hzb
  obtain ⟨c, hc⟩ : ∃ c, clR op = c := ⟨_, rfl⟩
  rw [hc] at HC
  have HCC := Hid.in hc
  clear k bX hB hL ha hc
  unfold qV
  go_enter Tryz.func25, Tryz.ntmps25
  go_upto_region 1 with fail
  try rw [hX, hzb]
  clear hX hzb
  go_upto_region 2 with (go_at_call 44; refine HC.out.mono ?_; rintro e X1 ⟨rfl, hb⟩; have HB1 := Hid.in hb; clear hb)
  have y0 : X1.cell? ⟨zb, 0, none⟩ = some (.int .i64 op) := (HB1.out.cell (p := ⟨zb, 0, none⟩) sX).trans x0
  have y1 : X1.cell? ⟨zb, 1, none⟩ = some (.int .u32 ad) := (HB1.out.cell (p := ⟨zb, 1, none⟩) sX).trans x1
  have y2 : X1.cell? ⟨zb, 2, none⟩ = some (.int .i64 sz) := (HB1.out.cell (p := ⟨zb, 2, none⟩) sX).trans x2
  have y3 : X1.cell? ⟨zb, 3, none⟩ = some (.int .u32 da) := (HB1.out.cell (p := ⟨zb, 3, none⟩) sX).trans x3
  have sY := Nat.lt_of_lt_of_le sX HB1.out.size
  have HK1 := Hid.in (HK.out.below HB1.out)
  have HT1 : Hid (Turned (Mine p dv ov) w X1) := HTX.out.trans (Turned.of_below HB1.out)
  have HB2 := Hid.in (Nat.le_trans HBX.out HB1.out.size)
  clear x0 x1 x2 x3 sX
  by_cases h4 : c = 4
  · subst h4
    have HR : Hid (Calls Tryz.prog 45 #[.pointer (some ⟨p, 0, none⟩), .agg #[.int .i64 op, .int .u32 ad, .int .i64 sz, .int .u32 da]] X1 fun e w' => (∃ v : Int, U32 v ∧ e = .returned (.int .u32 v)) ∧ Below X1.heap.size X1 w') := by
      rcases HA.out with h | ⟨hs, ⟨at', h1, h2⟩ | h⟩
      · exact absurd HCC.out h.1
      · exact mread_m HK1.out op ad at' sz da h1 h2 hs.1 hs.2 hl
      · have := HCC.out.symm.trans h.1
        omega
    go_wp2_with (go_at_call 45; refine HR.out.mono ?_; rintro e X2 ⟨⟨v, hv, rfl⟩, hb⟩; have HV := Hid.in hv; clear hv; have HM := Hid.in (HK1.out.below hb); have HT2 := Hid.in (HT1.out.trans (Turned.of_below hb)); clear hb)
    exact bodyPost_ret (v := .tuple #[.int .u32 v, .bool false]) (by simp [results, Tryz.results25, go_sem]) rfl ⟨⟨v, false, HV.out, rfl⟩, ⟨_, _, Nat.le_succ _, Or.inl rfl, HM.out⟩, HT2.out⟩
  by_cases h5 : c = 5
  · subst h5
    have HR : Hid (Calls Tryz.prog 46 #[.pointer (some ⟨p, 0, none⟩), .agg #[.int .i64 op, .int .u32 ad, .int .i64 sz, .int .u32 da]] X1 fun e w' => e = .returned (.tuple #[]) ∧ (∃ ov' ol', ol' ≤ ol + 1 ∧ Fr ov ov' w.heap.size ∧ Mw w0 w' B p hq cg n cap dv ov' S len ol' f) ∧ Turned (Mine p dv ov) X1 w') := by
      rcases HA.out with h | ⟨hs, ⟨at', h1, h2⟩ | h⟩
      · exact absurd HCC.out h.2.1
      · exact (mstore_dat HK1.out op ad at' sz da h1 h2 hs.1 hs.2 hl).mono fun e w' h => ⟨h.1, ⟨_, _, Nat.le_succ _, Or.inl rfl, h.2.1⟩, h.2.2⟩
      · exact (mstore_dev HK1.out HB2.out hol op ad sz da h.2).mono fun e w' h => ⟨h.1, ⟨h.2.1.choose, _, Nat.le_refl _, h.2.1.choose_spec.1.mono (by rw [HZW.out]; exact Nat.le_of_lt sY), h.2.1.choose_spec.2⟩, h.2.2⟩
    go_wp2_with (go_at_call 46; refine HR.out.mono ?_; rintro e X2 ⟨rfl, hM, hT⟩; have HM := Hid.in hM; have HT2 := Hid.in (HT1.out.trans hT); clear hM hT)
    exact bodyPost_ret (v := .tuple #[.int .u32 0, .bool false]) (by simp [results, Tryz.results25, go_sem]) rfl ⟨⟨0, false, ⟨by decide, by decide⟩, rfl⟩, HM.out, HT2.out⟩
  by_cases h6 : c = 6
  · subst h6
    have HR : Hid (Calls Tryz.prog 47 #[.pointer (some ⟨p, 0, none⟩), .agg #[.int .i64 op, .int .u32 ad, .int .i64 sz, .int .u32 da]] X1 fun e w' => (∃ (v : Int) (held : Bool), U32 v ∧ e = .returned (.tuple #[.int .u32 v, .bool held])) ∧ Mw w0 w' B p hq cg n cap dv ov S len ol f ∧ Turned (Mine p dv ov) X1 w') := by
      rcases HA.out with h | ⟨hs, ⟨at', h1, h2⟩ | h⟩
      · exact absurd HCC.out h.2.2
      · by_cases q1 : op = 46
        · subst q1
          exact matomic_lr HK1.out ad at' sz da h1 h2 hs.1 hs.2 hl
        by_cases q2 : op = 47
        · subst q2
          exact matomic_sc HK1.out ad at' sz da h1 h2 hs.1 hs.2 hl
        · exact matomic_rmw HK1.out op ad at' sz da q1 q2 h1 h2 hs.1 hs.2 hl
      · have := HCC.out.symm.trans h.1
        omega
    go_wp2_with (go_at_call 47; refine HR.out.mono ?_; rintro e X2 ⟨⟨v, held, hv, rfl⟩, hM, hT⟩; have HV := Hid.in hv; clear hv; have HM := Hid.in hM; have HT2 := Hid.in (HT1.out.trans hT); clear hM hT)
    exact bodyPost_ret (v := .tuple #[.int .u32 v, .bool held]) (by simp [results, Tryz.results25, go_sem]) rfl ⟨⟨v, held, HV.out, rfl⟩, ⟨_, _, Nat.le_succ _, Or.inl rfl, HM.out⟩, HT2.out⟩
  · have d4 : (c == 4) = false := by simp; exact h4
    have d5 : (c == 5) = false := by simp; exact h5
    have d6 : (c == 6) = false := by simp; exact h6
    go_wp2
    exact bodyPost_ret (v := .tuple #[.int .u32 0, .bool false]) (by simp [results, Tryz.results25, go_sem]) rfl ⟨⟨0, false, ⟨by decide, by decide⟩, rfl⟩, ⟨_, _, Nat.le_succ _, Or.inl rfl, HK1.out⟩, HT1.out⟩
end Go.Proofs.YtnlagbiikpbjdaaGreatDoor
