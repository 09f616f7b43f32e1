import Derived.Test.YtlogdmnhngbkaaaDoorY21
import Derived.Deep.Cut
import Derived.Deep.DeepCutAuto
/-
  BUS: do.
-/
namespace Go.Proofs.YtlogdmnhngbkaaaDoor
open Go Go.RowKit
/-- the line that the core has itself goes first -/
noncomputable def BS.do2 (S : BS) (l : Nat) : BS := if (S.c S.turn).st l = 0 then S else S.cput S.turn ((S.c S.turn).lowTo l 0)
open Classical in
noncomputable def BS.then' (S : BS) (l : Nat) : Nat := if S.oth l S.nc then 1 else 2
noncomputable def BS.do3 (S : BS) (l : Nat) : BS := S.cput S.turn ((S.c S.turn).fill l (S.then' l) (fun t => S.mem (l - 65536 + t)))
noncomputable def BS.do4 (S : BS) (l : Nat) : BS := if (S.c S.turn).full l then (S.do3 l).wb ((S.c S.turn).left l) else S.do3 l
noncomputable def BS.told4 (S : BS) (l : Nat) : List Snp := if (S.c S.turn).full l then [⟨S.turn, ((S.c S.turn).left l).a, ((S.c S.turn).left l).s, 0⟩] else []
theorem do2_same (S : BS) (l : Nat) : (S.do2 l).turn = S.turn ∧ (S.do2 l).nc = S.nc ∧ (S.do2 l).len = S.len := by
  unfold BS.do2
  split <;> exact ⟨rfl, rfl, rfl⟩
set_option maxRecDepth 100000 in
theorem storeCells_new (w : World) (e : Ln) (c : Array Value) (hc : c.size = 18) : (storeCells ⟨w.heap.size, 0, none⟩ e.vs).run Tryd.prog (w.alloc (.cells c 114)) = .ok () (w.alloc (.cells e.vs.toArray 114)) := by
  have := store_new w e c hc
  simp only [Instr.storeAt, Instr.sureAddr, Sem.run_bind, Sem.run_pure, Result.andThen_ok, go_sem] at this
  exact this
set_option maxRecDepth 100000 in
theorem storeCells_mid (w : World) (b : Nat) (e : Ln) (hc : w.there b 0 18) : (storeCells ⟨b, 0, none⟩ e.vs).run Tryd.prog w = .ok () (w.setCells b 0 e.vs) := by
  have := store_line w b 0 e hc
  simp only [Instr.storeAt, Instr.sureAddr, Sem.run_bind, Sem.run_pure, Result.andThen_ok, go_sem] at this
  exact this
section
variable {x : World} {g : Bn} {F : Nat → Prop} {N : Nat} {S : BS}
/-- what do leaves -/
def DoesT (g : Bn) (N : Nat) (D : BS) (T : List Snp) (y : World) (G : Nat → Prop) (e : Ending) (w' : World) : Prop := ∃ v, e = .returned v ∧ w'.ownsRow y.heap.size 84 4 v T.length (flatS T) ∧ Bu w' g (fun j => G j ∨ v.ownBlock = some j) N D ∧ Turned (fun j => ¬ G j) y w'
theorem box_new (x : World) (l : Nat) (wr : Bool) : CellsAt 2 (x.alloc (.cells #[.int .u32 l, .bool wr] 65)) x.heap.size (fun j => if j = 0 then .int .u32 l else .bool wr) := by
  refine ⟨by simp, fun o ho => ?_, fun o => World.frozen?_alloc_at _ _ _ _ rfl⟩
  rw [World.cell?_alloc_new, Array.getElem?_eq_getElem (by show o < 2; exact ho)]
  match o, ho with
  | 0, _ => rfl
  | 1, _ => rfl
  | q + 2, h => exact absurd h (by omega)
/-- all that do holds: the list of what it tells, the bus, the ask -/
structure Dz (x z : World) (g : Bn) (F G : Nat → Prop) (N bx l : Nat) (wr : Bool) (v : Value) (T : List Snp) (S : BS) : Prop where
  row : z.ownsRow (bx + 1) 84 4 v T.length (flatS T)
  u : Bu z g (fun j => ((F j ∨ j = bx) ∨ v.ownBlock = some j) ∨ G j) N S
  c : CellsAt 2 z bx (fun j => if j = 0 then .int .u32 l else .bool wr)
  t : Turned (fun j => ¬ F j) x z
  f : ∀ j, F j → j < bx
theorem Dz.bus {z w' : World} {G : Nat → Prop} {bx l : Nat} {wr : Bool} {v : Value} {T : List Snp} {S' : BS} (d : Dz x z g F G N bx l wr v T S) (u : Bu w' g (fun j => ((F j ∨ j = bx) ∨ v.ownBlock = some j) ∨ G j) N S') (t : Turned (fun j => ¬ (((F j ∨ j = bx) ∨ v.ownBlock = some j) ∨ G j)) z w') : Dz x w' g F G N bx l wr v T S' :=
  ⟨own_turned d.row t (fun _ hj q => q (Or.inl (Or.inr hj))), u, t.cells d.c (fun q => q (Or.inl (Or.inl (Or.inr rfl)))), d.t.trans (t.mono (fun _ q f => q (Or.inl (Or.inl (Or.inl f))))), d.f⟩
theorem Dz.below {z w' : World} {G : Nat → Prop} {bx l : Nat} {wr : Bool} {v : Value} {T : List Snp} (d : Dz x z g F G N bx l wr v T S) (b : Below z.heap.size z w') : Dz x w' g F G N bx l wr v T S := d.bus (d.u.below b) (Turned.of_below b)
theorem Dz.more {z w' : World} {G G' : Nat → Prop} {bx l : Nat} {wr : Bool} {v : Value} {T : List Snp} (d : Dz x z g F G N bx l wr v T S) (b : Below z.heap.size z w') (hG : ∀ j, G' j → z.heap.size ≤ j ∧ j < w'.heap.size) : Dz x w' g F G' N bx l wr v T S := by
  have d2 := d.below b
  exact ⟨d2.row, (d.u.fresh b).less (fun j hj => by
    rcases hj with hj | hj
    · exact Or.inl (Or.inl hj)
    · exact Or.inr (hG j hj)), d2.c, d2.t, d2.f⟩
theorem Dz.setG {z : World} {bx l lb : Nat} {wr : Bool} {v : Value} {T : List Snp} (d : Dz x z g F (fun j => j = lb) N bx l wr v T S) (hb : bx < lb) (hv : v.ownBlock ≠ some lb) (vs : List Value) : Dz x (z.setCells lb 0 vs) g F (fun j => j = lb) N bx l wr v T S := by
  have t : Turned (fun j => j = lb) z (z.setCells lb 0 vs) := turned_setCells _ _ _
  exact ⟨own_turned d.row t (fun j hj q => hv (by rw [hj, q])), (d.u.turn t (fun j hj _ => Or.inr hj)).less (fun j hj => Or.inl hj), t.cells d.c (by omega), d.t.trans (t.mono (fun j q f => by have := d.f j f; omega)), d.f⟩
theorem Dz.app {z : World} {G : Nat → Prop} {bx l : Nat} {wr : Bool} {v : Value} {T : List Snp} (d : Dz x z g F G N bx l wr v T S) (y : Snp) (hl : T.length ≤ 1000) : ∃ g2 cap z', (Builtin.append_ #[37, 37] 37 #[v, .slice (some ⟨z.heap.size, 0, none⟩) 1 1]).run Tryd.prog (z.alloc (.cells #[.int .i64 y.c, .int .u32 y.a, .int .i64 y.f, .int .i64 y.t] 84)) = .ok (.slice (some ⟨g2, 0, none⟩) (T.length + 1) cap) z' ∧ Dz x z' g F G N bx l wr (.slice (some ⟨g2, 0, none⟩) (T.length + 1) cap) (T ++ [y]) S ∧ Turned (fun j => v.ownBlock = some j) z z' := by
  obtain ⟨g2, cap, z', hrun, r1, r2, r3⟩ := app_snp z v T y d.row (by omega) (by have := d.c.here; omega)
  refine ⟨g2, cap, z', hrun, ⟨by rw [List.length_append]; exact r1, ?_, r2.cells d.c (fun q => by have := (own_base d.row bx q).1; omega), d.t.trans (r2.mono (fun j q f => ?_)), d.f⟩, r2⟩
  · refine (d.u.turn r2 (fun _ hz _ => Or.inl (Or.inr hz))).less (fun j hj => ?_)
    rcases hj with (hj | hj) | hj
    · exact Or.inl (Or.inl (Or.inl hj))
    · rcases r3 with q | ⟨i, q1, q2⟩
      · exact Or.inl (Or.inl (Or.inr (by rw [← q]; exact hj)))
      · rw [q1] at hj
        have := (own_base r1 i q1).2
        obtain rfl : i = j := by simpa using hj
        exact Or.inr ⟨q2, this⟩
    · exact Or.inl (Or.inr hj)
  · have := (own_base d.row j q).1
    have := d.f j f
    omega
theorem ubytes {z : World} (h : Bu z g F N S) (l : Nat) (hl : l < 4294967296) (h16 : l % 16 = 0) (hh : hasB l S.len = true) : Calls Tryd.prog 49 #[.slice (some ⟨g.mb, 0, none⟩) S.len g.mc, .int .u32 l] z fun e w' => e = .returned (.agg (bvs (fun t => S.mem (l - 65536 + t))).toArray) ∧ Below z.heap.size z w' := by
  obtain ⟨-, -, o3, o4, o5, -⟩ := h.own
  exact bytesOf_any g.mb l S.len g.mc S.mem z o3 hl h16 hh o4.2.2.2.1 o4.2.2.2.2.1 o5.2.1
set_option maxRecDepth 100000 in
set_option maxHeartbeats 4000000 in
theorem udo (h : Bu x g F N S) (l : Nat) (wr : Bool) (hl : l < 4294967296) (h16 : l % 16 = 0) (hh : hasB l S.len = true) (R : BS) (T : List Snp) (hR : R.turn = S.turn ∧ R.nc = S.nc ∧ R.len = S.len) (hT : T.length ≤ 4)
    (hlo : ∀ (y : World) (G : Nat → Prop), Bu y g G N S → Calls Tryd.prog 45 #[.pointer (some ⟨g.p, 0, none⟩), .agg #[.int .u32 l, .bool wr]] y fun e w' => ∃ v, e = .returned v ∧ w'.ownsRow y.heap.size 84 4 v T.length (flatS T) ∧ Bu w' g (fun j => G j ∨ v.ownBlock = some j) N R ∧ Turned (fun j => ¬ G j) y w')
    (hno : No (((R.do2 l).c S.turn).set (((R.do2 l).c S.turn).of l)) l)
    (hle : ((R.do2 l).c S.turn).full l = true → (((R.do2 l).c S.turn).left l).s = 3 → (∀ t, (((R.do2 l).c S.turn).left l).b t < 256) ∧ (((R.do2 l).c S.turn).left l).a < 4294967296 ∧ (((R.do2 l).c S.turn).left l).a % 16 = 0 ∧ hasB (((R.do2 l).c S.turn).left l).a S.len = true) : Calls Tryd.prog 29 #[.pointer (some ⟨g.p, 0, none⟩), .agg #[.int .u32 l, .bool wr]] x (DoesT g N ((R.do2 l).do4 l) (T ++ (R.do2 l).told4 l ++ [⟨S.turn, l, (R.c S.turn).st l, (R.do2 l).then' l⟩]) x F) := by
  obtain ⟨n1, n2, n3⟩ := do2_same R l
  rw [hR.1] at n1
  rw [hR.2.1] at n2
  rw [hR.2.2] at n3
  obtain ⟨Q, hQ⟩ : ∃ Q, R.do2 l = Q := ⟨_, rfl⟩
  rw [hQ] at n1 n2 n3 hno hle ⊢
  obtain ⟨st, hst⟩ : ∃ st, (R.c S.turn).st l = st := ⟨_, rfl⟩
  rw [hst]
  obtain ⟨lf, hlf⟩ : ∃ lf, (Q.c S.turn).left l = lf := ⟨_, rfl⟩
  obtain ⟨fu, hfu⟩ : ∃ fu, (Q.c S.turn).full l = fu := ⟨_, rfl⟩
  have HE4 : Hid (Q.do4 l = (if fu then (Q.do3 l).wb lf else Q.do3 l) ∧ Q.told4 l = (if fu then [⟨S.turn, lf.a, lf.s, 0⟩] else [])) := by
    show Q.do4 l = _ ∧ Q.told4 l = _
    unfold BS.do4 BS.told4
    rw [n1, hfu, hlf]
    exact ⟨rfl, rfl⟩
  have HE3 : Hid (Q.do3 l = Q.cput S.turn ((Q.c S.turn).fill l (Q.then' l) (fun t => Q.mem (l - 65536 + t)))) := by
    show Q.do3 l = _
    unfold BS.do3
    rw [n1]
  have HE5 : Hid ((Q.do3 l).len = S.len ∧ (Q.do3 l).turn = S.turn) := ⟨n3, n1⟩
  have HE6 : Hid ((Q.do4 l).turn = S.turn) := by
    show (Q.do4 l).turn = S.turn
    unfold BS.do4
    split <;> exact n1
  have HTHB : Hid (1 ≤ Q.then' l ∧ Q.then' l ≤ 3) := by
    show 1 ≤ Q.then' l ∧ Q.then' l ≤ 3
    unfold BS.then'
    split <;> omega
  have HTHE : Hid ((Q.oth l Q.nc → Q.then' l = 1) ∧ (¬ Q.oth l Q.nc → Q.then' l = 2)) := by
    show (Q.oth l Q.nc → Q.then' l = 1) ∧ (¬ Q.oth l Q.nc → Q.then' l = 2)
    unfold BS.then'
    exact ⟨fun q => if_pos q, fun q => if_neg q⟩
  obtain ⟨th, hth⟩ : ∃ th, Q.then' l = th := ⟨_, rfl⟩
  obtain ⟨D3, hD3⟩ : ∃ D3, Q.do3 l = D3 := ⟨_, rfl⟩
  obtain ⟨D4, hD4⟩ : ∃ D4, Q.do4 l = D4 := ⟨_, rfl⟩
  obtain ⟨T4, hT4⟩ : ∃ T4, Q.told4 l = T4 := ⟨_, rfl⟩
  rw [hth] at HE3 HTHB HTHE ⊢
  rw [hD3] at HE3 HE4 HE5
  rw [hD4] at HE4 HE6 ⊢
  rw [hT4] at HE4 ⊢
  have HFL := Hid.in (And.intro hlf hfu)
  have HQ := Hid.in hQ
  have HSS := Hid.in hst
  have HN1 := Hid.in n1
  have HN2 := Hid.in n2
  have HN3 := Hid.in n3
  rw [hlf, hfu] at hle
  clear hth hD3 hD4 hT4 hlf hfu hQ hst n1 n2 n3
  obtain ⟨W, hW⟩ : ∃ W, x.alloc (.cells #[.int .u32 l, .bool wr] 65) = W := ⟨_, rfl⟩
  obtain ⟨bx, hbx⟩ : ∃ bx, x.heap.size = bx := ⟨_, rfl⟩
  have b1 : Below x.heap.size x W := by rw [← hW]; exact (Below.refl _ _).alloc (Nat.le_refl _) _
  have sW : W.heap.size = bx + 1 := by rw [← hW, ← hbx]; simp
  have cW : CellsAt 2 W bx (fun j => if j = 0 then .int .u32 l else .bool wr) := by rw [← hW, ← hbx]; exact box_new x l wr
  have uW : Bu W g (fun j => F j ∨ j = bx) N S := (h.fresh b1).less (fun j hj => by
    rcases hj with hj | hj
    · exact Or.inl hj
    · exact Or.inr (by omega))
  have HLO := Hid.in (hlo W _ uW)
  have w0 : W.cell? ⟨bx, 0, none⟩ = some (.int .u32 l) := cW.cell 0 (by decide)
  have w1 : W.cell? ⟨bx, 1, none⟩ = some (.bool wr) := cW.cell 1 (by decide)
  have wh := cW.here
  have HCW := Hid.in cW
  have HTW : Hid (Turned (fun j => ¬ F j) x W) := Turned.of_below b1
  have HF : Hid (∀ j, F j → j < x.heap.size) := fun j hj => h.here hj
  have HSW := Hid.in sW
  have HBX := Hid.in hbx
  have HL := Hid.in hl
  have H16 := Hid.in h16
  have HH := Hid.in hh
  have HR := Hid.in hR
  have HLT := Hid.in hT
  have HNO := Hid.in hno
  have HLE := Hid.in hle
  have sz := h.own.2.2.2.1
  have HSZ := Hid.in sz
  clear hR hT hno hle hlo h hl h16 hh b1 sW cW uW sz
  go_enter Tryd.func29, Tryd.ntmps29
  go_upto_region 2 with (go_at_call 45; refine HLO.out.mono ?_; rintro e z ⟨v, rfl, hrow, hu, ht⟩; have HROW := Hid.in hrow; have HU := Hid.in hu; have HTZ := Hid.in ht; clear hrow hu ht)
  obtain ⟨o1, o2, -, o4, o5, -⟩ := HU.out.own
  obtain ⟨r1, r2, r3⟩ := HR.out
  have hlt : S.turn < S.nc := HSZ.out.2.2.2.2.2.1
  have hlt' : (S.turn : Int) < (S.nc : Int) := by omega
  have hnc : S.nc ≤ 2 := HSZ.out.2.1
  have p0 : z.cell? ⟨g.p, 0, none⟩ = some (.slice (some ⟨g.rb, 0, none⟩) S.nc g.rc) := by rw [← r2]; exact o1.cell 0 (by decide)
  have p5 : z.cell? ⟨g.p, 5, none⟩ = some (.int .i64 S.turn) := by rw [← r1]; exact o1.cell 5 (by decide)
  have q0 : z.cell? ⟨g.rb, S.turn, none⟩ = some (.pointer (some ⟨g.P S.turn, 0, none⟩)) := o2.cell S.turn (by rw [r2]; exact hlt)
  have hp := o1.here
  have hr := o2.here
  clear o1 o2 o4 o5 r1 r2 r3 w0 w1 wh
  go_region
  have dZ : Dz x z g F (fun _ => False) N bx l wr v T R := ⟨by rw [← HSW.out]; exact HROW.out, HU.out.less (fun j hj => by
    rcases hj with (hj | hj) | hj
    · exact Or.inl hj
    · exact Or.inr hj
    · exact hj.elim), HTZ.out.cells HCW.out (fun q => q (Or.inr rfl)), HTW.out.trans (HTZ.out.mono (fun j q f => q (Or.inl f))), fun j f => by rw [← HBX.out]; exact HF.out j f⟩
  obtain ⟨z1, hz1⟩ : ∃ z1, z.drew = z1 := ⟨_, rfl⟩
  have d1 : Dz x z1 g F (fun _ => False) N bx l wr v T R := dZ.below (by rw [← hz1]; exact ⟨rfl, rfl, rfl, Nat.le_refl _, fun _ _ => rfl⟩)
  rw [hz1]
  have x0 : z1.cell? ⟨bx, 0, none⟩ = some (.int .u32 l) := d1.c.cell 0 (by decide)
  have xh := d1.c.here
  have HST := Hid.in (ucst d1.u S.turn l (by rw [HR.out.2.1]; exact hlt) HL.out)
  rw [HSS.out] at HST
  have HD1 := Hid.in d1
  clear dZ hz1 d1 p0 p5 q0 hp hr HROW HU HTZ HCW HTW HF HLO
  go_upto_if 30 with (go_at_call 36; refine HST.out.mono ?_; rintro e z2 ⟨rfl, hz⟩; have HZ2 := Hid.in hz; clear hz)
  go_cut [] (fun wc => Dz x wc g F (fun _ => False) N bx l wr v T Q)
  case first =>
    have d2 := HD1.out.below HZ2.out
    by_cases hs : st = 0
    · have hs' : ((st : Int) != 0) = false := by rw [hs]; rfl
      have HE : Hid (Q = R) := by
        show Q = R
        rw [← HQ.out]
        unfold BS.do2
        rw [HR.out.1, if_pos (HSS.out.trans hs)]
      have HD2 := Hid.in d2
      clear d2 hs x0 xh
      go_wp2
      go_meet
      case rel => rw [HE.out]; exact HD2.out
    · have hs' : ((st : Int) != 0) = true := by simp; omega
      have HE : Hid (Q = R.cput S.turn ((R.c S.turn).lowTo l 0)) := by
        show Q = _
        rw [← HQ.out]
        unfold BS.do2
        rw [HR.out.1, if_neg (fun q => hs (HSS.out.symm.trans q))]
      have HLW := Hid.in (ulower d2.u S.turn l 0 (by rw [HR.out.2.1]; exact hlt) HL.out H16.out (by omega) (by rw [HSS.out]; omega))
      have y0 : z2.cell? ⟨bx, 0, none⟩ = some (.int .u32 l) := d2.c.cell 0 (by decide)
      have yh := d2.c.here
      have HD2 := Hid.in d2
      clear d2 hs x0 xh
      go_wp2_with (go_at_call 46; refine HLW.out.mono ?_; rintro e z3 ⟨rfl, hu, ht⟩; have HU3 := Hid.in hu; have HT3 := Hid.in ht; clear hu ht)
      go_meet
      case rel => rw [HE.out]; exact HD2.out.bus HU3.out HT3.out
  case rest =>
    have d2 := hcut
    clear hcut HD1 HST HZ2 x0 xh
    have x0 : wc.cell? ⟨bx, 0, none⟩ = some (.int .u32 l) := d2.c.cell 0 (by decide)
    have xh := d2.c.here
    have HOT := Hid.in (uoth d2.u l HL.out)
    have HD2 := Hid.in d2
    clear d2
    go_upto_if 38 with (go_at_call 47; refine HOT.out.mono ?_; rintro e z2 ⟨b, rfl, hb, hz⟩; have HB := Hid.in hb; have HZ2 := Hid.in hz; clear hb hz)
    go_cut [8] (fun tv wd => tv = .int .i64 (th : Nat) ∧ Dz x wd g F (fun _ => False) N bx l wr v T Q)
    case first =>
      have HD3 := Hid.in (HD2.out.below HZ2.out)
      clear x0 xh
      cases b
      · have HE : Hid (th = 2) := HTHE.out.2 (fun q => by have := HB.out.2 q; cases this)
        go_wp2
        go_meet
        case rel => rw [HE.out]; exact ⟨rfl, HD3.out⟩
      · have HE : Hid (th = 1) := HTHE.out.1 (HB.out.1 rfl)
        go_wp2
        go_meet
        case rel => rw [HE.out]; exact ⟨rfl, HD3.out⟩
    case rest =>
      obtain ⟨rfl, d3⟩ := hcut
      clear HD2 HZ2 HOT x0 xh HB
      have x0 : wc.cell? ⟨bx, 0, none⟩ = some (.int .u32 l) := d3.c.cell 0 (by decide)
      have xh := d3.c.here
      obtain ⟨o1, o2, o3, o4, o5, o6⟩ := d3.u.own
      have p2 : wc.cell? ⟨g.p, 2, none⟩ = some (.slice (some ⟨g.mb, 0, none⟩) S.len g.mc) := by rw [← HN3.out]; exact o1.cell 2 (by decide)
      have hp := o1.here
      have HBY : Hid (∀ y, Below wc.heap.size wc y → Calls Tryd.prog 49 #[.slice (some ⟨g.mb, 0, none⟩) S.len g.mc, .int .u32 l] y fun e w' => e = .returned (.agg (bvs (fun t => Q.mem (l - 65536 + t))).toArray) ∧ Below y.heap.size y w') := fun y hy => by
        have := ubytes (d3.below hy).u l HL.out H16.out (by rw [HN3.out]; exact HH.out)
        rw [HN3.out] at this
        exact this
      have HFI : Hid (∀ (G : Nat → Prop) (y : World), Dz x y g F G N bx l wr v T Q → Calls Tryd.prog 48 #[.pointer (some ⟨g.P S.turn, 0, none⟩), .int .u32 l, .agg (bvs (fun t => Q.mem (l - 65536 + t))).toArray, .int .i64 (th : Nat)] y fun e w' => e = .returned (.tuple #[.agg lf.vs.toArray, .bool fu, .nilIface]) ∧ Dz x w' g F G N bx l wr v T D3 ∧ Turned (fun j => ¬ G j) y w') := fun G y dy => by
        have := ufill dy.u S.turn l th (fun t => Q.mem (l - 65536 + t)) (by rw [HN2.out]; exact hlt) HL.out H16.out HTHB.out HNO.out
        rw [HFL.out.1, HFL.out.2] at this
        refine this.mono ?_
        rintro e w' ⟨rfl, hu, ht⟩
        rw [← HE3.out] at hu
        exact ⟨rfl, dy.bus hu ht, ht.mono (fun j q f => q (Or.inr f))⟩
      have HKP : Hid (∀ (G : Nat → Prop) (y : World), Dz x y g F G N bx l wr v T D3 → y.cell? ⟨bx, 0, none⟩ = some (.int .u32 l) ∧ y.cell? ⟨g.p, 2, none⟩ = some (.slice (some ⟨g.mb, 0, none⟩) S.len g.mc) ∧ bx < y.heap.size ∧ g.p < y.heap.size) := fun G y hd => ⟨hd.c.cell 0 (by decide), by rw [← HE5.out.1]; exact hd.u.own.1.cell 2 (by decide), hd.c.here, hd.u.own.1.here⟩
      have HVB : Hid (∀ j, v.ownBlock = some j → j < wc.heap.size) := fun j hj => (own_base d3.row j hj).2
      have HBW : Hid (∀ b, wc.heap.size ≤ b → bx < b) := fun b hb => by have := d3.c.here; omega
      have HVW : Hid (∀ b, wc.heap.size ≤ b → v.ownBlock ≠ some b) := fun b hb q => by have := HVB.out b q; omega
      have HD3 := Hid.in d3
      obtain ⟨bb, hbb⟩ : ∃ bb : Array Value, (bvs (fun t => Q.mem (l - 65536 + t))).toArray = bb := ⟨_, rfl⟩
      rw [hbb] at HBY HFI
      clear o1 o2 o3 o4 o5 o6 hbb d3 HNO
      have HBD : Hid (Below wc.heap.size wc wc.drew) := ⟨rfl, rfl, rfl, Nat.le_refl _, fun _ _ => rfl⟩
      have HTN : Hid (∀ y : World, (y.alloc (.cells zl 114)).there y.heap.size 0 18) := fun y => there_new y _
      have HNA : Hid (∀ y : World, Below y.heap.size y (y.alloc (.cells zl 114)) ∧ (y.alloc (.cells zl 114)).heap.size = y.heap.size + 1) := fun y => ⟨(Below.refl _ _).alloc (Nat.le_refl _) _, by simp⟩
      have HDB : Hid (∀ y, Below wc.heap.size wc y → Dz x y g F (fun _ => False) N bx l wr v T Q) := fun y hy => HD3.out.below hy
      have HDC : Hid (∀ y b, Below wc.heap.size wc y → wc.heap.size ≤ b → b < y.heap.size → Dz x y g F (fun j => j = b) N bx l wr v T Q) := fun y b hy h1 h2 => HD3.out.more hy (fun j hj => by rw [hj]; exact ⟨h1, h2⟩)
      have HSC : Hid (∀ y, Below wc.heap.size wc y → y.cell? ⟨bx, 0, none⟩ = some (.int .u32 l) ∧ y.cell? ⟨g.p, 2, none⟩ = some (.slice (some ⟨g.mb, 0, none⟩) S.len g.mc)) := fun y hy => ⟨(hy.cell (p := ⟨bx, 0, none⟩) xh).trans x0, (hy.cell (p := ⟨g.p, 2, none⟩) hp).trans p2⟩
      have HFIN : Hid (∀ (Y : World) (lb : Nat), Dz x Y g F (fun j => j = lb) N bx l wr v T D3 → wc.heap.size ≤ lb → Y.there lb 0 18 → lb < Y.heap.size → (Y.setCells lb 0 lf.vs).rangeAt lb 0 lf.vs ∧ lb < (Y.setCells lb 0 lf.vs).heap.size ∧ Dz x (Y.setCells lb 0 lf.vs) g F (fun j => j = lb) N bx l wr v T D3) := fun Y lb d h1 h2 h3 => by
        refine ⟨World.rangeAt_setCells_same _ _ _ _ (by rw [Ln.len]; exact h2), ?_, d.setG (HBW.out _ h1) (HVW.out _ h1) _⟩
        have t : Turned (fun j => j = lb) Y (Y.setCells lb 0 lf.vs) := turned_setCells _ _ _
        exact Nat.lt_of_lt_of_le h3 t.size
      clear HD3
      go_upto_region 9 with fail
      go_cut [9, 10, 11] (fun lp fv ev we => ∃ lb, lp = .pointer (some ⟨lb, 0, none⟩) ∧ fv = .bool fu ∧ ev = .nilIface ∧ we.rangeAt lb 0 lf.vs ∧ lb < we.heap.size ∧ Dz x we g F (fun j => j = lb) N bx l wr v T D3 ∧ v.ownBlock ≠ some lb)
      case first =>
        refine wp_region_held_drew (S := fun w' => w'.cell? ⟨bx, 0, none⟩ = some (.int .u32 l) ∧ w'.cell? ⟨g.p, 2, none⟩ = some (.slice (some ⟨g.mb, 0, none⟩) S.len g.mc)) (by kernel_rfl) ⟨x0, p2⟩ (fun hHeld => ?_)
        refine wpAnyH_take (i := 0) (v := .pointer (some ⟨g.P S.turn, 0, none⟩)) rfl (by kernel_rfl) (by kernel_rfl) (by kernel_rfl) (fun _ _ _ h => h) (Or.inl ⟨by rfl, fun w hSw => by go_simp⟩) hHeld ?_
        refine wpAnyH_take (i := 1) (v := .pointer (some ⟨bx, 0, none⟩)) rfl (by kernel_rfl) (by kernel_rfl) (by kernel_rfl) (fun _ _ _ h => h) (Or.inl ⟨by rfl, fun w hSw => by go_simp⟩) hHeld ?_
        refine wpAnyH_take (i := 2) (v := .int .u32 l) rfl (by kernel_rfl) (by kernel_rfl) (by kernel_rfl) (fun _ _ _ h => h) (Or.inl ⟨by rfl, fun w hSw => by obtain ⟨q1, q2⟩ := hSw; go_simp⟩) hHeld ?_
        refine wpAnyH_take (i := 3) (v := .pointer (some ⟨g.p, 0, none⟩)) rfl (by kernel_rfl) (by kernel_rfl) (by kernel_rfl) (fun _ _ _ h => h) (Or.inl ⟨by rfl, fun w hSw => by go_simp⟩) hHeld ?_
        refine wpAnyH_take (i := 4) (v := .pointer (some ⟨g.p, 0, none⟩)) rfl (by kernel_rfl) (by kernel_rfl) (by kernel_rfl) (fun _ _ _ h => h) (Or.inl ⟨by rfl, fun w hSw => by go_simp⟩) hHeld ?_
        refine wpAnyH_take (i := 5) (v := .pointer (some ⟨g.p, 2, none⟩)) rfl (by kernel_rfl) (by kernel_rfl) (by kernel_rfl) (fun _ _ _ h => h) (Or.inl ⟨by rfl, fun w hSw => by go_simp⟩) hHeld ?_
        refine wpAnyH_take (i := 6) (v := .slice (some ⟨g.mb, 0, none⟩) S.len g.mc) rfl (by kernel_rfl) (by kernel_rfl) (by kernel_rfl) (fun _ _ _ h => h) (Or.inl ⟨by rfl, fun w hSw => by obtain ⟨q1, q2⟩ := hSw; go_simp⟩) hHeld ?_
        refine wpAnyH_take (i := 7) (v := .pointer (some ⟨bx, 0, none⟩)) rfl (by kernel_rfl) (by kernel_rfl) (by kernel_rfl) (fun _ _ _ h => h) (Or.inl ⟨by rfl, fun w hSw => by go_simp⟩) hHeld ?_
        refine wpAnyH_take (i := 8) (v := .int .u32 l) rfl (by kernel_rfl) (by kernel_rfl) (by kernel_rfl) (fun _ _ _ h => h) (Or.inl ⟨by rfl, fun w hSw => by obtain ⟨q1, q2⟩ := hSw; go_simp⟩) hHeld ?_
        refine wpAnyH_take (i := 10) (v := .int .i64 (th : Nat)) rfl (by kernel_rfl) (by kernel_rfl) (by kernel_rfl) (fun _ _ _ h => h) (Or.inl ⟨by rfl, fun w hSw => by go_simp⟩) hHeld ?_
        refine wpAnyH_ready (rs := [9, 16]) (by kernel_rfl) (by simp) ?_
        refine AllReadyH.cons rfl (fun K hK => ?_) (AllReadyH.cons rfl (fun K hK => ?_) AllReadyH.nil)
        · skip
          go_simp
          go_at_call 49
          refine (HBY.out wc.drew HBD.out).mono ?_
          rintro e y1 ⟨rfl, hy1⟩
          have HY1 := Hid.in (HBD.out.trans hy1)
          clear hy1
          refine hK.out _ _ (HSC.out _ HY1.out) (fun hHeld => ?_)
          clear hK K
          refine wpAnyH_ready (rs := [11, 16]) (by kernel_rfl) (by simp) ?_
          refine AllReadyH.cons rfl (fun K hK => ?_) (AllReadyH.cons rfl (fun K hK => ?_) AllReadyH.nil)
          · skip
            go_simp
            go_at_call 48
            refine (HFI.out _ _ (HDB.out _ HY1.out)).mono ?_
            rintro e y2 ⟨rfl, hd, ht⟩
            have hys := ht.size
            clear ht
            refine hK.out _ _ ⟨(HKP.out _ _ hd).1, (HKP.out _ _ hd).2.1⟩ (fun hHeld => ?_)
            clear hK K
            refine wpAnyH_take (i := 12) (oi := { dst := some 39, op := _, type := _, pos := _, after := _, guard := none }) (v := (.tuple #[.agg lf.vs.toArray, .bool fu, .nilIface])) rfl (by kernel_rfl) (by kernel_rfl) (by kernel_rfl) (fun _ _ _ h => h) (Or.inl ⟨by rfl, fun w hSw => by go_simp⟩) hHeld ?_
            simp only [Act.put, List.setIfInBounds_toArray, List.set_cons_zero, List.set_cons_succ]
            refine wpAnyH_take (i := 13) (oi := { dst := some 52, op := _, type := _, pos := _, after := _, guard := none }) (v := .agg lf.vs.toArray) rfl (by kernel_rfl) (by kernel_rfl) (by kernel_rfl) (fun _ _ _ h => h) (Or.inl ⟨by rfl, fun w hSw => by go_simp⟩) hHeld ?_
            simp only [Act.put, List.setIfInBounds_toArray, List.set_cons_zero, List.set_cons_succ]
            refine wpAnyH_take (i := 14) (oi := { dst := some 53, op := _, type := _, pos := _, after := _, guard := none }) (v := .bool fu) rfl (by kernel_rfl) (by kernel_rfl) (by kernel_rfl) (fun _ _ _ h => h) (Or.inl ⟨by rfl, fun w hSw => by go_simp⟩) hHeld ?_
            simp only [Act.put, List.setIfInBounds_toArray, List.set_cons_zero, List.set_cons_succ]
            refine wpAnyH_take (i := 15) (oi := { dst := some 54, op := _, type := _, pos := _, after := _, guard := none }) (v := .nilIface) rfl (by kernel_rfl) (by kernel_rfl) (by kernel_rfl) (fun _ _ _ h => h) (Or.inl ⟨by rfl, fun w hSw => by go_simp⟩) hHeld ?_
            simp only [Act.put, List.setIfInBounds_toArray, List.set_cons_zero, List.set_cons_succ]
            refine wpAnyH_ready (rs := [16]) (by kernel_rfl) (by simp) ?_
            refine AllReadyH.cons rfl (fun K hK => ?_) AllReadyH.nil
            go_simp
            try rw [← zl]
            have hm := hd.more (HNA.out y2).1 (G' := fun j => j = y2.heap.size) (fun j hj => by rw [hj]; exact ⟨Nat.le_refl _, (by rw [(HNA.out _).2]; exact Nat.lt_succ_self _)⟩)
            refine hK.out _ _ ⟨(HKP.out _ _ hm).1, (HKP.out _ _ hm).2.1⟩ (fun hHeld => ?_)
            clear hK K
            refine wpAnyH_ready (rs := [17]) (by kernel_rfl) (by simp) ?_
            refine AllReadyH.cons rfl (fun K hK => ?_) AllReadyH.nil
            rw [if_pos (by kernel_rfl)]
            refine wp_store_mid 114 (.tmp 9) (.tmp 52) rfl y2.heap.size 0 lf.vs.toArray (by kernel_rfl) (by kernel_rfl) (by rw [Ln.sizeA]; exact (HTN.out y2)) (by rw [line_info, Ln.sizeA]) lf.oneA ?_
            have HFF := Hid.in (HFIN.out _ y2.heap.size hm (Nat.le_trans HY1.out.size hys) (HTN.out y2) (by rw [(HNA.out _).2]; exact Nat.lt_succ_self _))
            have HFS := Hid.in (HKP.out _ _ HFF.out.2.2)
            refine hK.out _ _ ⟨HFS.out.1, HFS.out.2.1⟩ (fun hHeld => ?_)
            clear hK K
            refine wpAnyH_take (i := 18) (v := .bool fu) rfl (by kernel_rfl) (by kernel_rfl) (by kernel_rfl) (fun _ _ _ h => h) (Or.inl ⟨by rfl, fun w hSw => by go_simp⟩) hHeld ?_
            refine wpAnyH_take (i := 19) (v := .nilIface) rfl (by kernel_rfl) (by kernel_rfl) (by kernel_rfl) (fun _ _ _ h => h) (Or.inl ⟨by rfl, fun w hSw => by go_simp⟩) hHeld ?_
            refine wpAnyH_done (by kernel_rfl) ?_ _
            go_wp2
            go_meet
            case rel => exact ⟨y2.heap.size, rfl, rfl, rfl, HFF.out.1, HFF.out.2.1, HFF.out.2.2, HVW.out _ (Nat.le_trans HY1.out.size hys)⟩
          · go_simp
            try rw [← zl]
            obtain ⟨ya, hya⟩ : ∃ ya, y1.alloc (.cells zl 114) = ya := ⟨_, rfl⟩
            have b2 : Below wc.heap.size wc ya := by rw [← hya]; exact HY1.out.trans ((HNA.out y1).1.mono HY1.out.size)
            have hs1 : y1.heap.size < ya.heap.size := by rw [← hya, (HNA.out _).2]; exact Nat.lt_succ_self _
            have hth0 : ya.there y1.heap.size 0 18 := by rw [← hya]; exact HTN.out y1
            rw [hya]
            clear hya
            refine hK.out _ _ (HSC.out _ b2) (fun hHeld => ?_)
            clear hK K
            refine wpAnyH_ready (rs := [11]) (by kernel_rfl) (by simp) ?_
            refine AllReadyH.cons rfl (fun K hK => ?_) AllReadyH.nil
            go_simp
            go_at_call 48
            refine (HFI.out _ _ (HDC.out _ y1.heap.size b2 HY1.out.size hs1)).mono ?_
            rintro e y2 ⟨rfl, hd, ht⟩
            have hth := there_turned hth0 ht hs1 (fun q => q rfl)
            have hsz := Nat.lt_of_lt_of_le hs1 ht.size
            clear hth0 hs1 ht
            refine hK.out _ _ ⟨(HKP.out _ _ hd).1, (HKP.out _ _ hd).2.1⟩ (fun hHeld => ?_)
            clear hK K
            refine wpAnyH_take (i := 12) (oi := { dst := some 39, op := _, type := _, pos := _, after := _, guard := none }) (v := (.tuple #[.agg lf.vs.toArray, .bool fu, .nilIface])) rfl (by kernel_rfl) (by kernel_rfl) (by kernel_rfl) (fun _ _ _ h => h) (Or.inl ⟨by rfl, fun w hSw => by go_simp⟩) hHeld ?_
            simp only [Act.put, List.setIfInBounds_toArray, List.set_cons_zero, List.set_cons_succ]
            refine wpAnyH_take (i := 13) (oi := { dst := some 52, op := _, type := _, pos := _, after := _, guard := none }) (v := .agg lf.vs.toArray) rfl (by kernel_rfl) (by kernel_rfl) (by kernel_rfl) (fun _ _ _ h => h) (Or.inl ⟨by rfl, fun w hSw => by go_simp⟩) hHeld ?_
            simp only [Act.put, List.setIfInBounds_toArray, List.set_cons_zero, List.set_cons_succ]
            refine wpAnyH_take (i := 14) (oi := { dst := some 53, op := _, type := _, pos := _, after := _, guard := none }) (v := .bool fu) rfl (by kernel_rfl) (by kernel_rfl) (by kernel_rfl) (fun _ _ _ h => h) (Or.inl ⟨by rfl, fun w hSw => by go_simp⟩) hHeld ?_
            simp only [Act.put, List.setIfInBounds_toArray, List.set_cons_zero, List.set_cons_succ]
            refine wpAnyH_take (i := 15) (oi := { dst := some 54, op := _, type := _, pos := _, after := _, guard := none }) (v := .nilIface) rfl (by kernel_rfl) (by kernel_rfl) (by kernel_rfl) (fun _ _ _ h => h) (Or.inl ⟨by rfl, fun w hSw => by go_simp⟩) hHeld ?_
            simp only [Act.put, List.setIfInBounds_toArray, List.set_cons_zero, List.set_cons_succ]
            refine wpAnyH_ready (rs := [17]) (by kernel_rfl) (by simp) ?_
            refine AllReadyH.cons rfl (fun K hK => ?_) AllReadyH.nil
            rw [if_pos (by kernel_rfl)]
            refine wp_store_mid 114 (.tmp 9) (.tmp 52) rfl y1.heap.size 0 lf.vs.toArray (by kernel_rfl) (by kernel_rfl) (by rw [Ln.sizeA]; exact hth) (by rw [line_info, Ln.sizeA]) lf.oneA ?_
            have HFF := Hid.in (HFIN.out _ y1.heap.size hd HY1.out.size hth hsz)
            have HFS := Hid.in (HKP.out _ _ HFF.out.2.2)
            refine hK.out _ _ ⟨HFS.out.1, HFS.out.2.1⟩ (fun hHeld => ?_)
            clear hK K
            refine wpAnyH_take (i := 18) (v := .bool fu) rfl (by kernel_rfl) (by kernel_rfl) (by kernel_rfl) (fun _ _ _ h => h) (Or.inl ⟨by rfl, fun w hSw => by go_simp⟩) hHeld ?_
            refine wpAnyH_take (i := 19) (v := .nilIface) rfl (by kernel_rfl) (by kernel_rfl) (by kernel_rfl) (fun _ _ _ h => h) (Or.inl ⟨by rfl, fun w hSw => by go_simp⟩) hHeld ?_
            refine wpAnyH_done (by kernel_rfl) ?_ _
            go_wp2
            go_meet
            case rel => exact ⟨y1.heap.size, rfl, rfl, rfl, HFF.out.1, HFF.out.2.1, HFF.out.2.2, HVW.out _ HY1.out.size⟩
        · go_simp
          try rw [← zl]
          obtain ⟨ya, hya⟩ : ∃ ya, (wc.alloc (.cells zl 114)).drew = ya := ⟨_, rfl⟩
          have b0 : Below wc.heap.size wc ya := by rw [← hya]; exact (HNA.out wc).1.drew
          have hs0 : wc.heap.size < ya.heap.size := by rw [← hya]; show wc.heap.size < (wc.alloc (.cells zl 114)).heap.size; rw [(HNA.out _).2]; exact Nat.lt_succ_self _
          have hth0 : ya.there wc.heap.size 0 18 := by rw [← hya]; exact HTN.out wc
          rw [hya]
          clear hya
          refine hK.out _ _ (HSC.out _ b0) (fun hHeld => ?_)
          clear hK K
          refine wpAnyH_ready (rs := [9]) (by kernel_rfl) (by simp) ?_
          refine AllReadyH.cons rfl (fun K hK => ?_) AllReadyH.nil
          go_simp
          go_at_call 49
          refine (HBY.out _ b0).mono ?_
          rintro e y1 ⟨rfl, hy1⟩
          have b1 := b0.trans (hy1.mono b0.size)
          have hth1 : y1.there wc.heap.size 0 18 := there_turned hth0 (Turned.of_below (Q := fun _ => False) hy1) hs0 (fun q => q)
          have hs1 : wc.heap.size < y1.heap.size := Nat.lt_of_lt_of_le hs0 hy1.size
          clear hth0 hs0 hy1 b0
          refine hK.out _ _ (HSC.out _ b1) (fun hHeld => ?_)
          clear hK K
          refine wpAnyH_ready (rs := [11]) (by kernel_rfl) (by simp) ?_
          refine AllReadyH.cons rfl (fun K hK => ?_) AllReadyH.nil
          go_simp
          go_at_call 48
          refine (HFI.out _ _ (HDC.out _ wc.heap.size b1 (Nat.le_refl _) hs1)).mono ?_
          rintro e y2 ⟨rfl, hd, ht⟩
          have hth := there_turned hth1 ht hs1 (fun q => q rfl)
          have hsz := Nat.lt_of_lt_of_le hs1 ht.size
          clear hth1 hs1 ht b1
          refine hK.out _ _ ⟨(HKP.out _ _ hd).1, (HKP.out _ _ hd).2.1⟩ (fun hHeld => ?_)
          clear hK K
          refine wpAnyH_take (i := 12) (oi := { dst := some 39, op := _, type := _, pos := _, after := _, guard := none }) (v := (.tuple #[.agg lf.vs.toArray, .bool fu, .nilIface])) rfl (by kernel_rfl) (by kernel_rfl) (by kernel_rfl) (fun _ _ _ h => h) (Or.inl ⟨by rfl, fun w hSw => by go_simp⟩) hHeld ?_
          simp only [Act.put, List.setIfInBounds_toArray, List.set_cons_zero, List.set_cons_succ]
          refine wpAnyH_take (i := 13) (oi := { dst := some 52, op := _, type := _, pos := _, after := _, guard := none }) (v := .agg lf.vs.toArray) rfl (by kernel_rfl) (by kernel_rfl) (by kernel_rfl) (fun _ _ _ h => h) (Or.inl ⟨by rfl, fun w hSw => by go_simp⟩) hHeld ?_
          simp only [Act.put, List.setIfInBounds_toArray, List.set_cons_zero, List.set_cons_succ]
          refine wpAnyH_take (i := 14) (oi := { dst := some 53, op := _, type := _, pos := _, after := _, guard := none }) (v := .bool fu) rfl (by kernel_rfl) (by kernel_rfl) (by kernel_rfl) (fun _ _ _ h => h) (Or.inl ⟨by rfl, fun w hSw => by go_simp⟩) hHeld ?_
          simp only [Act.put, List.setIfInBounds_toArray, List.set_cons_zero, List.set_cons_succ]
          refine wpAnyH_take (i := 15) (oi := { dst := some 54, op := _, type := _, pos := _, after := _, guard := none }) (v := .nilIface) rfl (by kernel_rfl) (by kernel_rfl) (by kernel_rfl) (fun _ _ _ h => h) (Or.inl ⟨by rfl, fun w hSw => by go_simp⟩) hHeld ?_
          simp only [Act.put, List.setIfInBounds_toArray, List.set_cons_zero, List.set_cons_succ]
          refine wpAnyH_ready (rs := [17]) (by kernel_rfl) (by simp) ?_
          refine AllReadyH.cons rfl (fun K hK => ?_) AllReadyH.nil
          rw [if_pos (by kernel_rfl)]
          refine wp_store_mid 114 (.tmp 9) (.tmp 52) rfl wc.heap.size 0 lf.vs.toArray (by kernel_rfl) (by kernel_rfl) (by rw [Ln.sizeA]; exact hth) (by rw [line_info, Ln.sizeA]) lf.oneA ?_
          have HFF := Hid.in (HFIN.out _ wc.heap.size hd (Nat.le_refl _) hth hsz)
          have HFS := Hid.in (HKP.out _ _ HFF.out.2.2)
          refine hK.out _ _ ⟨HFS.out.1, HFS.out.2.1⟩ (fun hHeld => ?_)
          clear hK K
          refine wpAnyH_take (i := 18) (v := .bool fu) rfl (by kernel_rfl) (by kernel_rfl) (by kernel_rfl) (fun _ _ _ h => h) (Or.inl ⟨by rfl, fun w hSw => by go_simp⟩) hHeld ?_
          refine wpAnyH_take (i := 19) (v := .nilIface) rfl (by kernel_rfl) (by kernel_rfl) (by kernel_rfl) (fun _ _ _ h => h) (Or.inl ⟨by rfl, fun w hSw => by go_simp⟩) hHeld ?_
          refine wpAnyH_done (by kernel_rfl) ?_ _
          go_wp2
          go_meet
          case rel => exact ⟨wc.heap.size, rfl, rfl, rfl, HFF.out.1, HFF.out.2.1, HFF.out.2.2, HVW.out _ (Nat.le_refl _)⟩
      case rest =>
        obtain ⟨lb, rfl, rfl, rfl, hrg, hlb, d4, hvl⟩ := hcut
        clear HBY HFI HKP HVB HBW HVW HBD HTN HNA HDB HDC HSC HFIN x0 xh p2 hp
        have HD4 := Hid.in d4
        have HRG := Hid.in hrg
        have HLB := Hid.in hlb
        have HVL := Hid.in hvl
        clear d4 hrg hlb hvl
        go_upto_if 55 with fail
        go_cut [5] (fun tv we => ∃ T' : List Snp, T' = T ++ T4 ∧ Dz x we g F (fun _ => False) N bx l wr tv T' D4)
        case first =>
          cases fu
          · have HE : Hid (D4 = D3 ∧ T4 = []) := by
              show D4 = D3 ∧ T4 = []
              have := HE4.out
              simpa using this
            go_wp2
            go_meet
            case rel =>
              refine ⟨T, by rw [HE.out.2, List.append_nil], ?_⟩
              rw [HE.out.1]
              exact ⟨HD4.out.row, HD4.out.u.less (fun j hj => by
                rcases hj with hj | hj
                · exact Or.inl hj
                · exact hj.elim), HD4.out.c, HD4.out.t, HD4.out.f⟩
          · have HE : Hid (D4 = D3.wb lf ∧ T4 = [⟨S.turn, lf.a, lf.s, 0⟩]) := by
              show D4 = D3.wb lf ∧ T4 = [⟨S.turn, lf.a, lf.s, 0⟩]
              have := HE4.out
              simpa using this
            have HWB := Hid.in (uback HD4.out.u lf (fun q => by
              rw [HE5.out.1]
              exact HLE.out rfl q))
            have hrg := HRG.out
            go_upto_region 12 with (first
              | (refine ld_line lb 0 lf hrg rfl _ rfl rfl ?_)
              | (go_at_call 50; refine HWB.out.mono ?_; rintro e w3 ⟨rfl, hu3, ht3⟩; have HU3 := Hid.in hu3; have HT3 := Hid.in ht3; clear hu3 ht3))
            clear hrg
            have d5 : Dz x w3 g F (fun j => j = lb) N bx l wr v T (D3.wb lf) := HD4.out.bus HU3.out HT3.out
            have f0 : w3.cell? ⟨lb, 0, none⟩ = some (.int .u32 lf.a) := HT3.out.to_cell HLB.out (fun q => q (Or.inr rfl)) (HRG.out 0 _ rfl)
            have f1 : w3.cell? ⟨lb, 1, none⟩ = some (.int .i64 lf.s) := HT3.out.to_cell HLB.out (fun q => q (Or.inr rfl)) (HRG.out 1 _ rfl)
            have fh : lb < w3.heap.size := Nat.lt_of_lt_of_le HLB.out HT3.out.size
            have bdr : Below w3.heap.size w3 w3.drew := ⟨rfl, rfl, rfl, Nat.le_refl _, fun _ _ => rfl⟩
            obtain ⟨zz, hzz⟩ : ∃ zz, w3.drew = zz := ⟨_, rfl⟩
            have dzz := d5.below bdr
            rw [hzz] at dzz
            obtain ⟨g2, cap, z5, hrun, d6, t6⟩ := dzz.app ⟨S.turn, lf.a, lf.s, 0⟩ (by have := HLT.out; omega)
            have HRUN := Hid.in hrun
            have HD6 := Hid.in d6
            have HS0 : Hid (zz.cell? ⟨g.p, 5, none⟩ = some (.int .i64 S.turn) ∧ zz.cell? ⟨lb, 0, none⟩ = some (.int .u32 lf.a) ∧ zz.cell? ⟨lb, 1, none⟩ = some (.int .i64 lf.s)) := ⟨by rw [← HE5.out.2]; exact dzz.u.own.1.cell 5 (by decide), by rw [← hzz]; exact f0, by rw [← hzz]; exact f1⟩
            have lzz : lb < zz.heap.size := by rw [← hzz]; exact fh
            have bal : Below zz.heap.size zz (zz.alloc (.cells #[.int .i64 (S.turn : Nat), .int .u32 (lf.a : Nat), .int .i64 (lf.s : Nat), .int .i64 0] 84)) := (Below.refl _ _).alloc (Nat.le_refl _) _
            have HS1 : Hid ((zz.alloc (.cells #[.int .i64 (S.turn : Nat), .int .u32 (lf.a : Nat), .int .i64 (lf.s : Nat), .int .i64 0] 84)).cell? ⟨g.p, 5, none⟩ = some (.int .i64 S.turn) ∧ (zz.alloc (.cells #[.int .i64 (S.turn : Nat), .int .u32 (lf.a : Nat), .int .i64 (lf.s : Nat), .int .i64 0] 84)).cell? ⟨lb, 0, none⟩ = some (.int .u32 lf.a) ∧ (zz.alloc (.cells #[.int .i64 (S.turn : Nat), .int .u32 (lf.a : Nat), .int .i64 (lf.s : Nat), .int .i64 0] 84)).cell? ⟨lb, 1, none⟩ = some (.int .i64 lf.s)) := ⟨(bal.cell (p := ⟨g.p, 5, none⟩) dzz.u.own.1.here).trans HS0.out.1, (bal.cell (p := ⟨lb, 0, none⟩) lzz).trans HS0.out.2.1, (bal.cell (p := ⟨lb, 1, none⟩) lzz).trans HS0.out.2.2⟩
            have HS2 : Hid (z5.cell? ⟨g.p, 5, none⟩ = some (.int .i64 S.turn) ∧ z5.cell? ⟨lb, 0, none⟩ = some (.int .u32 lf.a) ∧ z5.cell? ⟨lb, 1, none⟩ = some (.int .i64 lf.s)) := ⟨by rw [← HE5.out.2]; exact d6.u.own.1.cell 5 (by decide), t6.to_cell lzz HVL.out HS0.out.2.1, t6.to_cell lzz HVL.out HS0.out.2.2⟩
            clear bal lzz
            refine wp_region_held_drew (S := fun w' => w'.cell? ⟨g.p, 5, none⟩ = some (.int .i64 S.turn) ∧ w'.cell? ⟨lb, 0, none⟩ = some (.int .u32 lf.a) ∧ w'.cell? ⟨lb, 1, none⟩ = some (.int .i64 lf.s)) (by kernel_rfl) (by rw [hzz]; exact HS0.out) (fun hHeld => ?_)
            rw [hzz]
            rw [hzz] at hHeld
            clear hzz bdr hrun d6 t6 dzz
            refine wpAnyH_take (i := 0) (oi := { dst := some 59, op := _, type := _, pos := _, after := _, guard := none }) (v := v) rfl (by kernel_rfl) (by kernel_rfl) (by kernel_rfl) (fun _ _ _ h => h) (Or.inl ⟨by rfl, fun w hSw => by go_simp⟩) hHeld ?_
            simp only [Act.put, List.setIfInBounds_toArray, List.set_cons_zero, List.set_cons_succ]
            refine wpAnyH_take (i := 1) (oi := { dst := some 60, op := _, type := _, pos := _, after := _, guard := none }) (v := .pointer (some ⟨g.p, 0, none⟩)) rfl (by kernel_rfl) (by kernel_rfl) (by kernel_rfl) (fun _ _ _ h => h) (Or.inl ⟨by rfl, fun w hSw => by go_simp⟩) hHeld ?_
            simp only [Act.put, List.setIfInBounds_toArray, List.set_cons_zero, List.set_cons_succ]
            refine wpAnyH_take (i := 2) (oi := { dst := some 61, op := _, type := _, pos := _, after := _, guard := none }) (v := .pointer (some ⟨g.p, 0, none⟩)) rfl (by kernel_rfl) (by kernel_rfl) (by kernel_rfl) (fun _ _ _ h => h) (Or.inl ⟨by rfl, fun w hSw => by go_simp⟩) hHeld ?_
            simp only [Act.put, List.setIfInBounds_toArray, List.set_cons_zero, List.set_cons_succ]
            refine wpAnyH_take (i := 3) (oi := { dst := some 62, op := _, type := _, pos := _, after := _, guard := none }) (v := .pointer (some ⟨g.p, 5, none⟩)) rfl (by kernel_rfl) (by kernel_rfl) (by kernel_rfl) (fun _ _ _ h => h) (Or.inl ⟨by rfl, fun w hSw => by go_simp⟩) hHeld ?_
            simp only [Act.put, List.setIfInBounds_toArray, List.set_cons_zero, List.set_cons_succ]
            refine wpAnyH_take (i := 4) (oi := { dst := some 63, op := _, type := _, pos := _, after := _, guard := none }) (v := .int .i64 S.turn) rfl (by kernel_rfl) (by kernel_rfl) (by kernel_rfl) (fun _ _ _ h => h) (Or.inl ⟨by rfl, fun w hSw => by obtain ⟨q1, q2, q3⟩ := hSw; go_simp⟩) hHeld ?_
            simp only [Act.put, List.setIfInBounds_toArray, List.set_cons_zero, List.set_cons_succ]
            refine wpAnyH_take (i := 5) (oi := { dst := some 64, op := _, type := _, pos := _, after := _, guard := none }) (v := .pointer (some ⟨lb, 0, none⟩)) rfl (by kernel_rfl) (by kernel_rfl) (by kernel_rfl) (fun _ _ _ h => h) (Or.inl ⟨by rfl, fun w hSw => by go_simp⟩) hHeld ?_
            simp only [Act.put, List.setIfInBounds_toArray, List.set_cons_zero, List.set_cons_succ]
            refine wpAnyH_take (i := 6) (oi := { dst := some 65, op := _, type := _, pos := _, after := _, guard := none }) (v := .int .u32 lf.a) rfl (by kernel_rfl) (by kernel_rfl) (by kernel_rfl) (fun _ _ _ h => h) (Or.inl ⟨by rfl, fun w hSw => by obtain ⟨q1, q2, q3⟩ := hSw; go_simp⟩) hHeld ?_
            simp only [Act.put, List.setIfInBounds_toArray, List.set_cons_zero, List.set_cons_succ]
            refine wpAnyH_take (i := 7) (oi := { dst := some 66, op := _, type := _, pos := _, after := _, guard := none }) (v := .pointer (some ⟨lb, 1, none⟩)) rfl (by kernel_rfl) (by kernel_rfl) (by kernel_rfl) (fun _ _ _ h => h) (Or.inl ⟨by rfl, fun w hSw => by go_simp⟩) hHeld ?_
            simp only [Act.put, List.setIfInBounds_toArray, List.set_cons_zero, List.set_cons_succ]
            refine wpAnyH_take (i := 8) (oi := { dst := some 67, op := _, type := _, pos := _, after := _, guard := none }) (v := .int .i64 lf.s) rfl (by kernel_rfl) (by kernel_rfl) (by kernel_rfl) (fun _ _ _ h => h) (Or.inl ⟨by rfl, fun w hSw => by obtain ⟨q1, q2, q3⟩ := hSw; go_simp⟩) hHeld ?_
            simp only [Act.put, List.setIfInBounds_toArray, List.set_cons_zero, List.set_cons_succ]
            refine wpAnyH_take (i := 9) (oi := { dst := some 68, op := _, type := _, pos := _, after := _, guard := none }) (v := .agg #[.int .i64 S.turn, .int .u32 lf.a, .int .i64 lf.s, .int .i64 0]) rfl (by kernel_rfl) (by kernel_rfl) (by kernel_rfl) (fun _ _ _ h => h) (Or.inl ⟨by rfl, fun w hSw => by go_simp⟩) hHeld ?_
            simp only [Act.put, List.setIfInBounds_toArray, List.set_cons_zero, List.set_cons_succ]
            refine wpAnyH_ready (rs := [10]) (by kernel_rfl) (by simp) ?_
            refine AllReadyH.cons rfl (fun K hK => ?_) AllReadyH.nil
            go_simp
            refine hK.out _ _ HS1.out (fun hHeld => ?_)
            clear hK K
            refine wpAnyH_ready (rs := [11]) (by kernel_rfl) (by simp) ?_
            refine AllReadyH.cons rfl (fun K hK => ?_) AllReadyH.nil
            rw [if_pos (by kernel_rfl)]
            refine append_op0 (v := v) (u := .slice (some ⟨zz.heap.size, 0, none⟩) 1 1) rfl (by kernel_rfl) (by kernel_rfl) HRUN.out ?_
            refine hK.out _ _ HS2.out (fun hHeld => ?_)
            clear hK K
            refine wpAnyH_take (i := 12) (oi := { dst := some 5, op := _, type := _, pos := _, after := _, guard := none }) (v := .slice (some ⟨g2, 0, none⟩) (T.length + 1) cap) rfl (by kernel_rfl) (by kernel_rfl) (by kernel_rfl) (fun _ _ _ h => h) (Or.inl ⟨by rfl, fun w hSw => by go_simp⟩) hHeld ?_
            refine wpAnyH_done (by kernel_rfl) ?_ _
            go_wp2
            go_meet
            case rel =>
              refine ⟨T ++ [⟨S.turn, lf.a, lf.s, 0⟩], by rw [HE.out.2], ?_⟩
              rw [HE.out.1]
              have d6 := HD6.out
              exact ⟨d6.row, d6.u.less (fun j hj => by
                rcases hj with hj | hj
                · exact Or.inl hj
                · exact hj.elim), d6.c, d6.t, d6.f⟩
        case rest =>
          obtain ⟨T', hT', d5⟩ := hcut
          have HTE := Hid.in hT'
          have HLT : Hid (T'.length ≤ 10) := by
            show T'.length ≤ 10
            rw [hT', List.length_append]
            have h1 := HLT.out
            have h2 : T4.length ≤ 1 := by
              rw [HE4.out.2]
              split <;> simp
            omega
          clear hT'
          obtain ⟨tv, htv⟩ : ∃ tv, u5 = tv := ⟨_, rfl⟩
          rw [htv] at d5
          have x0 : wc.cell? ⟨bx, 0, none⟩ = some (.int .u32 l) := d5.c.cell 0 (by decide)
          go_upto_region 13 with fail
          rw [htv]
          clear htv
          have bdr : Below wc.heap.size wc wc.drew := ⟨rfl, rfl, rfl, Nat.le_refl _, fun _ _ => rfl⟩
          obtain ⟨zz, hzz⟩ : ∃ zz, wc.drew = zz := ⟨_, rfl⟩
          have dzz := d5.below bdr
          rw [hzz] at dzz
          obtain ⟨g2, cap, z5, hrun, d6, t6⟩ := dzz.app ⟨S.turn, l, st, th⟩ (by have := HLT.out; omega)
          have HRUN := Hid.in hrun
          have HD6 := Hid.in d6
          have HS0 : Hid (zz.cell? ⟨g.p, 5, none⟩ = some (.int .i64 S.turn) ∧ zz.cell? ⟨bx, 0, none⟩ = some (.int .u32 l)) := ⟨by rw [← HE6.out]; exact dzz.u.own.1.cell 5 (by decide), dzz.c.cell 0 (by decide)⟩
          have bal : Below zz.heap.size zz (zz.alloc (.cells #[.int .i64 (S.turn : Nat), .int .u32 (l : Nat), .int .i64 (st : Nat), .int .i64 (th : Nat)] 84)) := (Below.refl _ _).alloc (Nat.le_refl _) _
          have HS1 : Hid ((zz.alloc (.cells #[.int .i64 (S.turn : Nat), .int .u32 (l : Nat), .int .i64 (st : Nat), .int .i64 (th : Nat)] 84)).cell? ⟨g.p, 5, none⟩ = some (.int .i64 S.turn) ∧ (zz.alloc (.cells #[.int .i64 (S.turn : Nat), .int .u32 (l : Nat), .int .i64 (st : Nat), .int .i64 (th : Nat)] 84)).cell? ⟨bx, 0, none⟩ = some (.int .u32 l)) := ⟨(bal.cell (p := ⟨g.p, 5, none⟩) dzz.u.own.1.here).trans HS0.out.1, (bal.cell (p := ⟨bx, 0, none⟩) dzz.c.here).trans HS0.out.2⟩
          have HS2 : Hid (z5.cell? ⟨g.p, 5, none⟩ = some (.int .i64 S.turn) ∧ z5.cell? ⟨bx, 0, none⟩ = some (.int .u32 l)) := ⟨by rw [← HE6.out]; exact d6.u.own.1.cell 5 (by decide), d6.c.cell 0 (by decide)⟩
          clear bal
          refine wp_region_held_drew (S := fun w' => w'.cell? ⟨g.p, 5, none⟩ = some (.int .i64 S.turn) ∧ w'.cell? ⟨bx, 0, none⟩ = some (.int .u32 l)) (by kernel_rfl) (by rw [hzz]; exact HS0.out) (fun hHeld => ?_)
          rw [hzz]
          rw [hzz] at hHeld
          clear hzz bdr hrun d6 t6 dzz
          refine wpAnyH_take (i := 0) (oi := { dst := some 71, op := _, type := _, pos := _, after := _, guard := none }) (v := tv) rfl (by kernel_rfl) (by kernel_rfl) (by kernel_rfl) (fun _ _ _ h => h) (Or.inl ⟨by rfl, fun w hSw => by go_simp⟩) hHeld ?_
          simp only [Act.put, List.setIfInBounds_toArray, List.set_cons_zero, List.set_cons_succ]
          refine wpAnyH_take (i := 1) (oi := { dst := some 72, op := _, type := _, pos := _, after := _, guard := none }) (v := .pointer (some ⟨g.p, 0, none⟩)) rfl (by kernel_rfl) (by kernel_rfl) (by kernel_rfl) (fun _ _ _ h => h) (Or.inl ⟨by rfl, fun w hSw => by go_simp⟩) hHeld ?_
          simp only [Act.put, List.setIfInBounds_toArray, List.set_cons_zero, List.set_cons_succ]
          refine wpAnyH_take (i := 2) (oi := { dst := some 73, op := _, type := _, pos := _, after := _, guard := none }) (v := .pointer (some ⟨g.p, 0, none⟩)) rfl (by kernel_rfl) (by kernel_rfl) (by kernel_rfl) (fun _ _ _ h => h) (Or.inl ⟨by rfl, fun w hSw => by go_simp⟩) hHeld ?_
          simp only [Act.put, List.setIfInBounds_toArray, List.set_cons_zero, List.set_cons_succ]
          refine wpAnyH_take (i := 3) (oi := { dst := some 74, op := _, type := _, pos := _, after := _, guard := none }) (v := .pointer (some ⟨g.p, 5, none⟩)) rfl (by kernel_rfl) (by kernel_rfl) (by kernel_rfl) (fun _ _ _ h => h) (Or.inl ⟨by rfl, fun w hSw => by go_simp⟩) hHeld ?_
          simp only [Act.put, List.setIfInBounds_toArray, List.set_cons_zero, List.set_cons_succ]
          refine wpAnyH_take (i := 4) (oi := { dst := some 75, op := _, type := _, pos := _, after := _, guard := none }) (v := .int .i64 S.turn) rfl (by kernel_rfl) (by kernel_rfl) (by kernel_rfl) (fun _ _ _ h => h) (Or.inl ⟨by rfl, fun w hSw => by obtain ⟨q1, q2⟩ := hSw; go_simp⟩) hHeld ?_
          simp only [Act.put, List.setIfInBounds_toArray, List.set_cons_zero, List.set_cons_succ]
          refine wpAnyH_take (i := 5) (oi := { dst := some 76, op := _, type := _, pos := _, after := _, guard := none }) (v := .pointer (some ⟨bx, 0, none⟩)) rfl (by kernel_rfl) (by kernel_rfl) (by kernel_rfl) (fun _ _ _ h => h) (Or.inl ⟨by rfl, fun w hSw => by go_simp⟩) hHeld ?_
          simp only [Act.put, List.setIfInBounds_toArray, List.set_cons_zero, List.set_cons_succ]
          refine wpAnyH_take (i := 6) (oi := { dst := some 77, op := _, type := _, pos := _, after := _, guard := none }) (v := .int .u32 l) rfl (by kernel_rfl) (by kernel_rfl) (by kernel_rfl) (fun _ _ _ h => h) (Or.inl ⟨by rfl, fun w hSw => by obtain ⟨q1, q2⟩ := hSw; go_simp⟩) hHeld ?_
          simp only [Act.put, List.setIfInBounds_toArray, List.set_cons_zero, List.set_cons_succ]
          refine wpAnyH_take (i := 7) (oi := { dst := some 78, op := _, type := _, pos := _, after := _, guard := none }) (v := .int .i64 st) rfl (by kernel_rfl) (by kernel_rfl) (by kernel_rfl) (fun _ _ _ h => h) (Or.inl ⟨by rfl, fun w hSw => by go_simp⟩) hHeld ?_
          simp only [Act.put, List.setIfInBounds_toArray, List.set_cons_zero, List.set_cons_succ]
          refine wpAnyH_take (i := 8) (oi := { dst := some 79, op := _, type := _, pos := _, after := _, guard := none }) (v := .int .i64 th) rfl (by kernel_rfl) (by kernel_rfl) (by kernel_rfl) (fun _ _ _ h => h) (Or.inl ⟨by rfl, fun w hSw => by go_simp⟩) hHeld ?_
          simp only [Act.put, List.setIfInBounds_toArray, List.set_cons_zero, List.set_cons_succ]
          refine wpAnyH_take (i := 9) (oi := { dst := some 80, op := _, type := _, pos := _, after := _, guard := none }) (v := .agg #[.int .i64 S.turn, .int .u32 l, .int .i64 st, .int .i64 th]) rfl (by kernel_rfl) (by kernel_rfl) (by kernel_rfl) (fun _ _ _ h => h) (Or.inl ⟨by rfl, fun w hSw => by go_simp⟩) hHeld ?_
          simp only [Act.put, List.setIfInBounds_toArray, List.set_cons_zero, List.set_cons_succ]
          refine wpAnyH_ready (rs := [10]) (by kernel_rfl) (by simp) ?_
          refine AllReadyH.cons rfl (fun K hK => ?_) AllReadyH.nil
          go_simp
          refine hK.out _ _ HS1.out (fun hHeld => ?_)
          clear hK K
          refine wpAnyH_ready (rs := [11]) (by kernel_rfl) (by simp) ?_
          refine AllReadyH.cons rfl (fun K hK => ?_) AllReadyH.nil
          rw [if_pos (by kernel_rfl)]
          refine append_op0 (v := tv) (u := .slice (some ⟨zz.heap.size, 0, none⟩) 1 1) rfl (by kernel_rfl) (by kernel_rfl) HRUN.out ?_
          refine hK.out _ _ HS2.out (fun hHeld => ?_)
          clear hK K
          refine wpAnyH_take (i := 12) (oi := { dst := some 4, op := _, type := _, pos := _, after := _, guard := none }) (v := .slice (some ⟨g2, 0, none⟩) (T'.length + 1) cap) rfl (by kernel_rfl) (by kernel_rfl) (by kernel_rfl) (fun _ _ _ h => h) (Or.inl ⟨by rfl, fun w hSw => by go_simp⟩) hHeld ?_
          refine wpAnyH_done (by kernel_rfl) ?_ _
          go_wp2
          go_ret
          have d6 := HD6.out
          refine ⟨_, rfl, ?_, d6.u.less (fun j hj => ?_), d6.t⟩
          · have hr : z5.ownsRow (bx + 1) 84 4 (.slice (some ⟨g2, 0, none⟩) (T'.length + 1) cap) (T ++ (T4 ++ [Snp.mk S.turn l st th])).length (flatS (T ++ (T4 ++ [Snp.mk S.turn l st th]))) := by
              rw [← List.append_assoc, ← HTE.out]
              exact d6.row
            rw [HBX.out]
            exact own_lower hr (Nat.le_succ _)
          · rcases hj with hj | hj
            · exact Or.inl (Or.inl (Or.inl hj))
            · exact Or.inl (Or.inr hj)
end
end Go.Proofs.YtlogdmnhngbkaaaDoor
