import Derived.Test.YtlogdmnhngbkaaaDoorY19
/-
  BUS: the answer's Ask that is granted; keep.
-/
namespace Go.Proofs.YtlogdmnhngbkaaaDoor
open Go Go.RowKit
section
variable {x y : World} {g : Rn} {F : Nat → Prop} {rv : Nat → Value} {R : Nat → List Ln} {last left : Int} {S : BS}
theorem akc_upd (f : Int → Option (Nat × Bool)) (i : Nat) (o : Option (Nat × Bool)) (j : Nat) : upd (upd (upd (akc f) (i * 3) (akv o 0)) (i * 3 + 1) (akv o 1)) (i * 3 + 2) (akv o 2) j = akc (updO f (i : Nat) o) j := by
  by_cases h : j / 3 = i
  · have e1 : akc (updO f (i : Nat) o) j = akv o (j % 3) := by
      unfold akc updO
      rw [h, if_pos rfl]
    rw [e1]
    have hj : j = i * 3 ∨ j = i * 3 + 1 ∨ j = i * 3 + 2 := by omega
    rcases hj with rfl | rfl | rfl
    · rw [upd_other _ _ _ _ (by omega), upd_other _ _ _ _ (by omega), upd_same, show i * 3 % 3 = 0 by omega]
    · rw [upd_other _ _ _ _ (by omega), upd_same, show (i * 3 + 1) % 3 = 1 by omega]
    · rw [upd_same, show (i * 3 + 2) % 3 = 2 by omega]
  · have e1 : akc (updO f (i : Nat) o) j = akc f j := by
      unfold akc updO
      rw [if_neg (by omega)]
    rw [e1, upd_other _ _ _ _ (by omega), upd_other _ _ _ _ (by omega), upd_other _ _ _ _ (by omega)]
/-- one of the asks has changed -/
theorem Rb.asks (k : Rb x g rv R last left S) (t : Turned (fun j => j = g.ab) x y) {f : Int → Option (Nat × Bool)} (h : CellsAt (3 * S.nc) y g.ab (akc f)) : Rb y g rv R last left { S with ak := f } := by
  obtain ⟨d1, d2, d3, d4⟩ := k.d0
  exact ⟨t.cells k.c d2, t.cells k.row d3, fun i hi => (k.rc i hi).off t (fun z hz e => k.d1 i hi z (Or.inr (Or.inr (Or.inl e))) hz), k.sm, fun h => ⟨(k.m h).1, t.cells (k.m h).2 (d4 h).2.2⟩, h, k.ls, k.d0, k.d1, k.d2, k.sz, k.rm, k.m8⟩
theorem Rb.ask (k : Rb x g rv R last left S) (i : Nat) (hi : i < S.nc) (o : Option (Nat × Bool)) : Rb (((x.setCell ⟨g.ab, i * 3, none⟩ (akv o 0)).setCell ⟨g.ab, i * 3 + 1, none⟩ (akv o 1)).setCell ⟨g.ab, i * 3 + 2, none⟩ (akv o 2)) g rv R last left { S with ak := updO S.ak (i : Nat) o } ∧ Turned (fun j => j = g.ab) x (((x.setCell ⟨g.ab, i * 3, none⟩ (akv o 0)).setCell ⟨g.ab, i * 3 + 1, none⟩ (akv o 1)).setCell ⟨g.ab, i * 3 + 2, none⟩ (akv o 2)) := by
  have t : Turned (fun j => j = g.ab) x (((x.setCell ⟨g.ab, i * 3, none⟩ (akv o 0)).setCell ⟨g.ab, i * 3 + 1, none⟩ (akv o 1)).setCell ⟨g.ab, i * 3 + 2, none⟩ (akv o 2)) := (((Turned.refl (fun j => j = g.ab) x).set (b := g.ab) rfl _ _).set (b := g.ab) rfl _ _).set (b := g.ab) rfl _ _
  refine ⟨k.asks t ?_, t⟩
  refine (((k.ak.set (i * 3) (by omega) (akv o 0)).set (i * 3 + 1) (by omega) (akv o 1)).set (i * 3 + 2) (by omega) (akv o 2)).ext fun j _ => ?_
  exact akc_upd S.ak i o j
/-- memory has changed -/
theorem Rb.mems (k : Rb x g rv R last left S) (h0 : 0 < S.len) (t : Turned (fun j => j = g.mb) x y) {m : Nat → Nat} (h : CellsAt S.len y g.mb (fun o => .int .u8 (m o))) (h8 : ∀ o, m o < 256) : Rb y g rv R last left { S with mem := m } := by
  obtain ⟨d1, d2, d3, d4⟩ := k.d0
  obtain ⟨d5, d6, d7⟩ := d4 h0
  exact ⟨t.cells k.c d5.symm, t.cells k.row d6.symm, fun i hi => (k.rc i hi).off t (fun z hz e => k.d1 i hi z (Or.inr (Or.inr (Or.inr ⟨h0, e⟩))) hz), k.sm, fun _ => ⟨(k.m h0).1, h⟩, t.cells k.ak d7.symm, k.ls, k.d0, k.d1, k.d2, k.sz, k.rm, h8⟩
/-- its own cells have changed -/
theorem Rb.own {tu tk : Nat} {on : Bool} {last' left' : Int} (k : Rb x g rv R last left S) (t : Turned (fun j => j = g.p) x y) (h : CellsAt 7 y g.p (rbv g { S with turn := tu, on := on, tk := tk } last' left')) (hl : (on = false → last' = tu) ∧ (on = true → left' = (S.cyc : Int) - tk)) (htu : tu < S.nc) (htk : tk ≤ 10) : Rb y g rv R last' left' { S with turn := tu, on := on, tk := tk } := by
  obtain ⟨d1, d2, d3, d4⟩ := k.d0
  obtain ⟨s1, s2, s3, s4, s5, -, -⟩ := k.sz
  exact ⟨h, t.cells k.row d1.symm, fun i hi => (k.rc i hi).off t (fun z hz e => k.d1 i hi z (Or.inl e) hz), k.sm, fun h => ⟨(k.m h).1, t.cells (k.m h).2 (d4 h).1⟩, t.cells k.ak d2.symm, hl, k.d0, k.d1, k.d2, ⟨s1, s2, s3, s4, s5, htu, htk⟩, k.rm, k.m8⟩
set_option maxRecDepth 100000 in
set_option maxHeartbeats 1000000 in
theorem rask_good (hF : ∀ z, F z → z < x.heap.size ∧ ¬ g.its rv S z) (k : Rb x g rv R last left S) (core : Int) (a : Nat) (wr : Bool) (ha : a < 4294967296) (hh : S.has core a = true) (hb : (S.ak core).isSome = false) (hs : S.st core a < (if wr then 2 else 1)) : Calls Tryd.prog 6 #[.pointer (some ⟨g.p, 0, none⟩), .int .i64 core, .int .i64 a, .bool wr] x fun e w' => e = .returned (.int .i64 0) ∧ Ru w' g F { S with ak := updO S.ak core (some (lineOf a, wr)) } ∧ Turned (fun j => ¬ F j) x w' := by
  have HH := Hid.in (rwithin_any k core a ha)
  rw [hh] at HH
  have HS := Hid.in (rbstate_any k core a ha)
  obtain ⟨i, rfl, hi, -, -⟩ := has_core hh
  have c3 : x.cell? ⟨g.p, 3, none⟩ = some (.slice (some ⟨g.ab, 0, none⟩) S.nc g.ac) := k.c.cell 3 (by decide)
  have hp := k.c.here
  have hab := k.ak.here
  have hfz := k.ak.free
  have hu : undef = Value.tuple #[] := rfl
  have ca : x.cell? ⟨g.ab, i * 3, none⟩ = some (.bool false) := by
    have := k.ak.cell (i * 3) (by omega)
    rw [akc_0, hb] at this
    exact this
  have ca1 : x.cell? ⟨g.ab, i * 3 + 1, none⟩ = some (akc S.ak (i * 3 + 1)) := k.ak.cell (i * 3 + 1) (by omega)
  have ca2 : x.cell? ⟨g.ab, i * 3 + 2, none⟩ = some (akc S.ak (i * 3 + 2)) := k.ak.cell (i * 3 + 2) (by omega)
  obtain ⟨z1, h1⟩ : ∃ z1, akc S.ak (i * 3 + 1) = z1 := ⟨_, rfl⟩
  obtain ⟨z2, h2⟩ : ∃ z2, akc S.ak (i * 3 + 2) = z2 := ⟨_, rfl⟩
  rw [h1] at ca1
  rw [h2] at ca2
  have hi' : (i : Int) < (S.nc : Int) := by omega
  have hfin : Hid (Ru (((x.setCell ⟨g.ab, i * 3, none⟩ (.bool true)).setCell ⟨g.ab, i * 3 + 1, none⟩ (.int .i64 ((lineOf a : Nat) : Int))).setCell ⟨g.ab, i * 3 + 2, none⟩ (.bool wr)) g F { S with ak := updO S.ak (i : Nat) (some (lineOf a, wr)) } ∧ Turned (fun j => ¬ F j) x (((x.setCell ⟨g.ab, i * 3, none⟩ (.bool true)).setCell ⟨g.ab, i * 3 + 1, none⟩ (.int .i64 ((lineOf a : Nat) : Int))).setCell ⟨g.ab, i * 3 + 2, none⟩ (.bool wr))) := by
    obtain ⟨q1, q2⟩ := k.ask i hi (some (lineOf a, wr))
    exact Ru.step hF q1 rfl rfl (fun _ _ _ h => Or.inl h) q2 (fun z hz => Or.inl (Or.inl (Or.inr (Or.inr (Or.inl hz)))))
  have hmod : (a : Int).tmod 16 = ((a % 16 : Nat) : Int) := by rw [Int.tmod_eq_emod_of_nonneg (by omega)]; omega
  have hmod2 : (a : Int) % 16 = ((a % 16 : Nat) : Int) := by omega
  have hsub : (a : Int) - ((a % 16 : Nat) : Int) = ((lineOf a : Nat) : Int) := by unfold lineOf; omega
  have hwr : wrap64 ((lineOf a : Nat) : Int) = ((lineOf a : Nat) : Int) := by
    have : lineOf a ≤ a := by unfold lineOf; omega
    unfold wrap64; omega
  have hw0 : wrap64 ((a : Int) - ((a % 16 : Nat) : Int)) = ((lineOf a : Nat) : Int) := by rw [hsub]; exact hwr
  have hwa : wrap64 ((a % 16 : Nat) : Int) = ((a % 16 : Nat) : Int) := by unfold wrap64; omega
  generalize lineOf a = l at hfin hsub hw0
  generalize a % 16 = r at hmod hmod2 hsub hwa hw0
  generalize S.st i a = st at HS hs
  clear k hh ha hb hF h1 h2 hsub hwr
  cases wr
  · have hs3 : ¬ (0 : Int) < (st : Int) := by simp at hs; omega
    have q3 : decide ((0 : Int) < (st : Int)) = false := decide_eq_false hs3
    clear hs
    go_enter Tryd.func6, Tryd.ntmps6
    go_wp2_with (first
      | (go_at_call 26; refine HH.out.mono ?_; rintro e y ⟨rfl, hy⟩; have hy2 := hy.symm; clear hy; subst hy2)
      | (go_at_call 16; refine HS.out.mono ?_; rintro e y ⟨rfl, hy⟩; have hy2 := hy.symm; clear hy; subst hy2))
    go_ret
    exact ⟨rfl, hfin.out⟩
  · have hs3 : ¬ (2 : Int) ≤ (st : Int) := by simp at hs; omega
    have q3 : decide ((2 : Int) ≤ (st : Int)) = false := decide_eq_false hs3
    clear hs
    go_enter Tryd.func6, Tryd.ntmps6
    go_wp2_with (first
      | (go_at_call 26; refine HH.out.mono ?_; rintro e y ⟨rfl, hy⟩; have hy2 := hy.symm; clear hy; subst hy2)
      | (go_at_call 16; refine HS.out.mono ?_; rintro e y ⟨rfl, hy⟩; have hy2 := hy.symm; clear hy; subst hy2))
    go_ret
    exact ⟨rfl, hfin.out⟩
end
end Go.Proofs.YtlogdmnhngbkaaaDoor
/-
  BUS: the answer's keep.
-/
namespace Go.Proofs.YtlogdmnhngbkaaaDoor
open Go Go.RowKit
/-- memory, i bytes of a line laid into it -/
def kpm (m : Nat → Nat) (e : Ln) (i : Nat) : Nat → Nat := fun o => if e.a - 65536 ≤ o ∧ o < e.a - 65536 + i then e.b (o - (e.a - 65536)) else m o
theorem kpm_0 (m : Nat → Nat) (e : Ln) : kpm m e 0 = m := by
  funext o
  unfold kpm
  rw [if_neg (by omega)]
theorem kpm_16 (m : Nat → Nat) (e : Ln) : kpm m e 16 = wbm m e := rfl
theorem kpm_s (m : Nat → Nat) (e : Ln) (i o : Nat) : upd (fun o => Value.int .u8 (kpm m e i o : Nat)) (e.a - 65536 + i) (.int .u8 (e.b i : Nat)) o = Value.int .u8 (kpm m e (i + 1) o : Nat) := by
  by_cases h : o = e.a - 65536 + i
  · subst h
    rw [upd_same]
    unfold kpm
    rw [if_pos (by omega), show e.a - 65536 + i - (e.a - 65536) = i by omega]
  · rw [upd_other _ _ _ _ h]
    unfold kpm
    by_cases q : e.a - 65536 ≤ o ∧ o < e.a - 65536 + i
    · rw [if_pos q, if_pos (by omega)]
    · rw [if_neg q, if_neg (by omega)]
structure Kp (W wr : World) (mb len : Nat) (m : Nat → Nat) (e : Ln) (i : Nat) : Prop where
  m : CellsAt len wr mb (fun o => .int .u8 (kpm m e i o : Nat))
  t : Turned (fun j => j = mb) W wr
section
variable {x y : World} {g : Rn} {F : Nat → Prop} {rv : Nat → Value} {R : Nat → List Ln} {last left : Int} {S : BS}
set_option maxRecDepth 100000 in
set_option maxHeartbeats 1000000 in
theorem rkeep_no (e : Ln) (w : World) (p : Nat) (hs : ¬ e.s = 3) : Calls Tryd.prog 52 #[.pointer (some ⟨p, 0, none⟩), .agg e.rv.toArray] w fun r w' => r = .returned (.tuple #[]) ∧ Below w.heap.size w w' := by
  obtain ⟨W, hW⟩ : ∃ W, w.alloc (.cells e.rv.toArray 104) = W := ⟨_, rfl⟩
  have c1 : W.cell? ⟨w.heap.size, 1, none⟩ = some (.int .i64 e.s) := by rw [← hW, World.cell?_alloc_new]; rfl
  have hz : w.heap.size < W.heap.size := by rw [← hW]; simp
  have bA : Below w.heap.size w W := by rw [← hW]; exact (Below.refl _ _).alloc (Nat.le_refl _) _
  have HB := Hid.in bA
  have hs' : ((e.s : Int) == 3) = false := by simp; omega
  have hs2 : ¬ (e.s : Int) = 3 := by omega
  have hs3 : decide ((e.s : Int) = 3) = false := by simp; omega
  clear hs bA
  go_enter Tryd.func52, Tryd.ntmps52
  go_upto_region 1 with fail
  try rw [hW]
  clear hW
  go_wp2
  go_loopw [4] (fun u wr => u = .int .i64 0 ∧ W = wr) (fun _ _ => 0)
  case atStart => exact ⟨rfl, rfl⟩
  case round =>
    obtain ⟨rfl, rfl⟩ := hrel
    go_wp2
    exact bodyPost_end (results_none Tryd.results52 _ _ _) rfl ⟨rfl, HB.out⟩
set_option maxRecDepth 100000 in
set_option maxHeartbeats 2000000 in
theorem rkeep_yes (k : Rb x g rv R last left S) (e : Ln) (hs : e.s = 3) (h16 : e.a % 16 = 0) (ha : e.a < 4294967296) (hh : hasB e.a S.len = true) (h8 : ∀ t, t < 16 → e.b t < 256) : Calls Tryd.prog 52 #[.pointer (some ⟨g.p, 0, none⟩), .agg e.rv.toArray] x fun r w' => r = .returned (.tuple #[]) ∧ Rb w' g rv R last left { S with mem := wbm S.mem e } ∧ Turned (fun j => j = g.mb) x w' := by
  have hb : 65536 ≤ e.a ∧ e.a < 65536 + S.len := by simpa [hasB] using hh
  have h0 : 0 < S.len := by omega
  obtain ⟨W, hW⟩ : ∃ W, x.alloc (.cells e.rv.toArray 104) = W := ⟨_, rfl⟩
  obtain ⟨xb, hxb⟩ : ∃ xb, x.heap.size = xb := ⟨_, rfl⟩
  have b1 : Below x.heap.size x W := by rw [← hW]; exact (Below.refl _ _).alloc (Nat.le_refl _) _
  have s1 : xb < W.heap.size := by rw [← hW, ← hxb]; simp
  have rW : W.rangeAt xb 0 e.rv := by rw [← hW, ← hxb]; exact rrange_new x e _
  have kW := k.below b1
  obtain ⟨hmq, hm⟩ := kW.m h0
  have xm : xb ≠ g.mb := fun q => by have := (k.m h0).2.here; omega
  have pm : g.p ≠ g.mb := fun q => (k.d0.2.2.2 h0).1 q.symm
  have hp := kW.c.here
  have m2 : W.cell? ⟨g.p, 2, none⟩ = some (.slice (some ⟨g.mb, 0, none⟩) S.len g.mc) := by rw [← hmq]; exact kW.c.cell 2 (by decide)
  have hsz := k.sz
  have HC : Hid (∀ wr, Turned (fun j => j = g.mb) W wr → wr.cell? ⟨xb, 0, none⟩ = some (.int .i64 e.a) ∧ wr.cell? ⟨xb, 1, none⟩ = some (.int .i64 e.s) ∧ (∀ j, j < 16 → wr.cell? ⟨xb, 2 + j, none⟩ = some (.int .u8 (e.b j : Nat))) ∧ wr.cell? ⟨g.p, 2, none⟩ = some (.slice (some ⟨g.mb, 0, none⟩) S.len g.mc) ∧ xb < wr.heap.size ∧ g.p < wr.heap.size) := by
    intro wr t
    refine ⟨t.to_cell s1 xm (rW 0 _ rfl), t.to_cell s1 xm (rW 1 _ rfl), fun j hj => t.to_cell s1 xm ?_, t.to_cell hp pm m2, Nat.lt_of_lt_of_le s1 t.size, Nat.lt_of_lt_of_le hp t.size⟩
    have := rW (2 + j) _ (e.rat2 j hj)
    rwa [Nat.zero_add] at this
  have HF : Hid (∀ wr, Kp W wr g.mb S.len S.mem e 16 → Rb wr g rv R last left { S with mem := wbm S.mem e } ∧ Turned (fun j => j = g.mb) x wr) := by
    intro wr kp
    refine ⟨kW.mems h0 kp.t kp.m (fun o => ?_), (Turned.of_below b1).trans kp.t⟩
    unfold wbm
    split
    · exact h8 _ (by omega)
    · exact k.m8 o
  have HST : Hid (∀ wr i, i < 16 → Kp W wr g.mb S.len S.mem e i → Kp W (wr.setCell ⟨g.mb, e.a - 65536 + i, none⟩ (.int .u8 (e.b i : Nat))).drew g.mb S.len S.mem e (i + 1)) := by
    intro wr i hi kp
    have c1 := ((kp.m).set (e.a - 65536 + i) (by omega) (.int .u8 (e.b i : Nat))).ext fun o _ => kpm_s S.mem e i o
    exact ⟨c1.drew, (kp.t.set rfl _ _).drew⟩
  have K0 : Kp W W g.mb S.len S.mem e 0 := ⟨by rw [kpm_0]; exact hm, Turned.refl _ _⟩
  have HK0 := Hid.in K0
  obtain ⟨b, hbb⟩ : ∃ b : Nat, e.a - 65536 = b := ⟨_, rfl⟩
  have hab : (e.a : Int) - 65536 = (b : Int) := by omega
  rw [hbb] at HST
  obtain ⟨len, hlen⟩ : ∃ len, S.len = len := ⟨_, rfl⟩
  have hbl : b + 16 ≤ len := by omega
  have hl4 : len ≤ 4096 := by omega
  rw [hlen] at HC HST HK0
  have HLEN := Hid.in hlen
  have hs3 : decide ((e.s : Int) = 3) = true := by rw [hs]; rfl
  rw [hs] at HC
  have hmc := k.rm.2.2.2.2
  rw [hlen] at hmc
  generalize e.a = ea at HC hab
  clear kW hm rW k hb hh h16 ha K0 hsz b1 m2 hs hbb hlen h0
  go_enter Tryd.func52, Tryd.ntmps52
  go_upto_region 1 with fail
  try rw [hW]
  try rw [hxb]
  clear hW hxb
  go_wp2
  go_loopw [4] (fun u wr => ∃ i : Nat, u = .int .i64 i ∧ i ≤ 16 ∧ Hid (Kp W wr g.mb len S.mem e i)) (fun v _ => 17 - (intOf v).toNat)
  case atStart => exact ⟨0, rfl, by omega, HK0⟩
  case round =>
    obtain ⟨i, rfl, hi, HKP⟩ := hrel
    obtain ⟨e0, e1, e2, e3, e4, e5⟩ := HC.out wr HKP.out.t
    by_cases hlt : i < 16
    · have eb := e2 i hlt
      have hmm := HKP.out.m.cell (b + i) (by omega)
      have hmf := HKP.out.m.free (b + i)
      have hmh := HKP.out.m.here
      have hi4 : (b : Int) + (i : Int) < (len : Int) := by omega
      have hi5 : (i : Int) < 16 := by omega
      have hi6 : (b : Int) ≤ 4096 := by omega
      have hlt' : decide ((i : Int) < 16) = true := decide_eq_true (by omega)
      clear e2
      go_upto_region 4 with fail
      go_region
      all_goals (try go_wp2)
      all_goals exact ⟨⟨i + 1, by simp, by omega, HST.out wr i hlt HKP.out⟩, by simp only [intOf]; omega⟩
    · have hlt' : decide ((i : Int) < 16) = false := decide_eq_false (by omega)
      obtain rfl : i = 16 := by omega
      go_wp2
      exact bodyPost_end (results_none Tryd.results52 _ _ _) rfl ⟨rfl, HF.out _ (by rw [HLEN.out]; exact HKP.out)⟩
end
end Go.Proofs.YtlogdmnhngbkaaaDoor
