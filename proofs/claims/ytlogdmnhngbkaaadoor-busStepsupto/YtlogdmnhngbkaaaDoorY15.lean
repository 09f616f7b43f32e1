import Derived.Test.YtlogdmnhngbkaaaDoorY14
/-
  BUS: has, State, Busy.
-/
namespace Go.Proofs.YtlogdmnhngbkaaaDoor
open Go Go.RowKit
/-- the state of an address's line in a cache -/
noncomputable def CS.st (T : CS) (a : Nat) : Nat :=
  open Classical in if h : ∃ i, At (T.set (T.of a)) a i then ((T.set (T.of a)).getD h.choose l0).s else 0
theorem CS.st_at {T : CS} {a i : Nat} (h : At (T.set (T.of a)) a i) : T.st a = ((T.set (T.of a)).getD i l0).s := by
  unfold CS.st
  have hx : ∃ i, At (T.set (T.of a)) a i := ⟨i, h⟩
  rw [dif_pos hx, at_inj hx.choose_spec h]
theorem CS.st_no {T : CS} {a : Nat} (h : No (T.set (T.of a)) a) : T.st a = 0 := by
  unfold CS.st
  rw [dif_neg (fun ⟨i, hi⟩ => h i hi.1 hi.2.1)]
theorem cst_any (B p h c : Nat) (V : Nat → Value) (T : CS) (a : Nat) (w : World) (k : Ch w B p h c V T) (ha : a < 4294967296) : Calls Tryd.prog 36 #[.pointer (some ⟨p, 0, none⟩), .int .u32 a] w fun e w' => e = .returned (.int .i64 (T.st a : Nat)) ∧ Below w.heap.size w w' := by
  rcases at_or_no (T.set (T.of a)) a with ⟨i, h1⟩ | h1
  · rw [CS.st_at h1]
    exact state_at B p h c V T a i w k ha h1
  · rw [CS.st_no h1]
    exact state_no B p h c V T a w k ha h1
def BS.has (S : BS) (core : Int) (a : Nat) : Bool := decide (0 ≤ core) && decide (core < S.nc) && hasB a S.len
section
variable {x : World} {B p rb rc mb mc nb ab kn ka : Nat} {P H C : Nat → Nat} {V : Nat → Nat → Value} {S : BS}
set_option maxRecDepth 100000 in
theorem bhas_any (k : Bm x B p rb rc mb mc nb ab kn ka P H C V S) (core : Int) (a : Nat) (ha : a < 4294967296) : Calls Tryd.prog 24 #[.pointer (some ⟨p, 0, none⟩), .int .i64 core, .int .u32 a] x fun e w' => e = .returned (.bool (S.has core a)) ∧ w' = x := by
  have c0 : x.cell? ⟨p, 0, none⟩ = some (.slice (some ⟨rb, 0, none⟩) S.nc rc) := k.c.cell 0 (by decide)
  have c2 : x.cell? ⟨p, 2, none⟩ = some (.slice (some ⟨mb, 0, none⟩) S.len mc) := k.c.cell 2 (by decide)
  have hp := k.c.here
  have HM := Hid.in (mhas_any (some ⟨mb, 0, none⟩) a S.len mc x ha k.sz.2.2.2.1)
  unfold BS.has
  clear k ha
  by_cases h0 : 0 ≤ core
  · by_cases h1 : core < (S.nc : Int)
    · rw [decide_eq_true h0, decide_eq_true h1]
      go_enter Tryd.func24, Tryd.ntmps24
      go_wp2_with (go_at_call 43; refine HM.out.mono ?_; rintro e y ⟨rfl, hy⟩; have hy2 := hy.symm; clear hy; subst hy2)
      go_ret
      exact ⟨rfl, rfl⟩
    · rw [decide_eq_true h0, decide_eq_false h1]
      go_enter Tryd.func24, Tryd.ntmps24
      go_wp2
      go_ret
      exact ⟨rfl, rfl⟩
  · rw [decide_eq_false h0]
    go_enter Tryd.func24, Tryd.ntmps24
    go_wp2
    go_ret
    exact ⟨rfl, rfl⟩
theorem has_core {core : Int} {a : Nat} (h : S.has core a = true) : ∃ i : Nat, core = i ∧ i < S.nc ∧ 65536 ≤ a ∧ a < 65536 + S.len := by
  unfold BS.has hasB at h
  simp only [Bool.and_eq_true, decide_eq_true_eq] at h
  exact ⟨core.toNat, by omega, by omega, h.2.1, h.2.2⟩
noncomputable def BS.st (S : BS) (core : Int) (a : Nat) : Nat := if S.has core a then (S.c core.toNat).st a else 0
set_option maxRecDepth 100000 in
theorem bstate_any (k : Bm x B p rb rc mb mc nb ab kn ka P H C V S) (core : Int) (a : Nat) (ha : a < 4294967296) : Calls Tryd.prog 15 #[.pointer (some ⟨p, 0, none⟩), .int .i64 core, .int .u32 a] x fun e w' => e = .returned (.int .i64 (S.st core a : Nat)) ∧ Below x.heap.size x w' := by
  have HH := Hid.in (bhas_any k core a ha)
  cases hh : S.has core a
  · have e : S.st core a = 0 := by unfold BS.st; rw [hh]; rfl
    rw [e]
    rw [hh] at HH
    clear k ha
    go_enter Tryd.func15, Tryd.ntmps15
    go_wp2_with (go_at_call 24; refine HH.out.mono ?_; rintro e y ⟨rfl, hy⟩; have hy2 := hy.symm; clear hy; subst hy2)
    go_ret
    exact ⟨rfl, Below.refl _ _⟩
  · obtain ⟨i, rfl, hi, -, -⟩ := has_core hh
    have e : S.st i a = (S.c i).st a := by unfold BS.st; rw [hh]; rfl
    rw [e]
    rw [hh] at HH
    have HS := Hid.in (cst_any B (P i) (H i) (C i) (V i) (S.c i) a x (k.ch i hi) ha)
    have c0 : x.cell? ⟨p, 0, none⟩ = some (.slice (some ⟨rb, 0, none⟩) S.nc rc) := k.c.cell 0 (by decide)
    have r0 : x.cell? ⟨rb, i, none⟩ = some (.pointer (some ⟨P i, 0, none⟩)) := k.row.cell i hi
    have hp := k.c.here
    have hr := k.row.here
    have hi' : (i : Int) < (S.nc : Int) := by omega
    clear k ha hh e
    go_enter Tryd.func15, Tryd.ntmps15
    go_wp2_with (first
      | (go_at_call 24; refine HH.out.mono ?_; rintro e y ⟨rfl, hy⟩; have hy2 := hy.symm; clear hy; subst hy2)
      | (go_at_call 36; refine HS.out.mono ?_; rintro e y ⟨rfl, hb⟩; have HB := Hid.in hb; clear hb))
    go_ret
    exact ⟨rfl, HB.out⟩
end
end Go.Proofs.YtlogdmnhngbkaaaDoor
/-
  BUS: Busy, Read.
-/
namespace Go.Proofs.YtlogdmnhngbkaaaDoor
open Go Go.RowKit
theorem zero_ask (w : World) : (zeroValue 65).run Tryd.prog w = .ok (.agg #[.int .u32 0, .bool false]) w := by kernel_rfl
theorem wf_i64 {a : Int} (h : -9223372036854775808 ≤ a ∧ a ≤ 9223372036854775807) : (Lit.int .i64 a).wf = true := by
  simp [Lit.wf, IntKind.min, IntKind.max, IntKind.signed, IntKind.bits]
  omega
theorem wf_u32 {a : Nat} (h : a < 4294967296) : (Lit.int .u32 (a : Int)).wf = true := by
  simp [Lit.wf, IntKind.min, IntKind.max, IntKind.signed, IntKind.bits]
  omega
def i64 (a : Int) : Prop := -9223372036854775808 ≤ a ∧ a ≤ 9223372036854775807
section
variable {x : World} {B p rb rc mb mc nb ab kn ka : Nat} {P H C : Nat → Nat} {V : Nat → Nat → Value} {S : BS}
theorem ask_look (k : Bm x B p rb rc mb mc nb ab kn ka P H C V S) (core : Int) (hc : i64 core) : ∃ (l : Nat) (b : Bool), (Instr.lookup 69 (.map (some ab)) (.int .i64 core) true).run Tryd.prog x = .ok (.tuple #[.agg #[.int .u32 l, .bool b], .bool (S.ak core).isSome]) x ∧ (Instr.lookup 69 (.map (some ab)) (.int .i64 core) false).run Tryd.prog x = .ok (.agg #[.int .u32 l, .bool b]) x ∧ ∀ q, S.ak core = some q → q = (l, b) := by
  have h1 := k.ak.look Tryd.underlying3 Tryd.underlying69 (zero_ask x) (wf_i64 hc)
  have h2 := k.ak.look1 Tryd.underlying3 Tryd.underlying69 (zero_ask x) (wf_i64 hc)
  unfold encA at h1 h2
  cases ha : S.ak core with
  | none =>
    rw [ha] at h1 h2
    exact ⟨0, false, h1, h2, fun q hq => by cases hq⟩
  | some u =>
    rw [ha] at h1 h2
    exact ⟨u.1, u.2, h1, h2, fun q hq => by cases hq; rfl⟩
set_option maxRecDepth 100000 in
theorem bbusy_any (k : Bm x B p rb rc mb mc nb ab kn ka P H C V S) (core : Int) (hc : i64 core) : Calls Tryd.prog 17 #[.pointer (some ⟨p, 0, none⟩), .int .i64 core] x fun e w' => e = .returned (.bool (S.ak core).isSome) ∧ Below x.heap.size x w' := by
  obtain ⟨l, b, hr, -, -⟩ := ask_look k core hc
  have c4 : x.cell? ⟨p, 4, none⟩ = some (.map (some ab)) := k.c.cell 4 (by decide)
  have hp := k.c.here
  generalize (S.ak core).isSome = is at hr ⊢
  clear k hc
  go_enter Tryd.func17, Tryd.ntmps17
  go_wp2
  go_ret
  exact ⟨rfl, (Below.refl _ _).alloc (Nat.le_refl _) _⟩
end
end Go.Proofs.YtlogdmnhngbkaaaDoor
/-
  BUS: what changes in it; Ask.
-/
namespace Go.Proofs.YtlogdmnhngbkaaaDoor
open Go Go.RowKit
def updO {α : Type} (f : Int → Option α) (a : Int) (v : Option α) : Int → Option α := fun x => if x = a then v else f x
theorem encA_upd (f : Int → Option (Nat × Bool)) (a : Int) (v : Option (Nat × Bool)) : encA (updO f a v) = updF (encA f) a (v.map askV) := by
  funext x
  unfold encA updO updF
  split <;> rfl
theorem encN_upd (f : Int → Option (Nat → Nat)) (a : Int) (v : Option (Nat → Nat)) : encN (updO f a v) = updF (encN f) a (v.map fun b => .agg (bvs b).toArray) := by
  funext x
  unfold encN updO updF
  split <;> rfl
section
variable {x y : World} {B p rb rc mb mc nb ab kn ka : Nat} {P H C : Nat → Nat} {V : Nat → Nat → Value} {S : BS}
theorem Bm.chs {z : Nat} (k : Bm x B p rb rc mb mc nb ab kn ka P H C V S) (t : Turned (fun j => j = z) x y) (hz : own5 p rb mb nb ab z) : ∀ i, i < S.nc → Ch y B (P i) (H i) (C i) (V i) (S.c i) := fun i hi => (k.ch i hi).off t (fun j hj e => k.d1 i hi z hz (by rw [← e]; exact hj))
theorem Bm.asks {ka' : Nat} {f : Int → Option (Nat × Bool)} (k : Bm x B p rb rc mb mc nb ab kn ka P H C V S) (t : Turned (fun j => j = ab) x y) (h : MapAt y 3 .i64 ab ka' (encA f)) : Bm y B p rb rc mb mc nb ab kn ka' P H C V { S with ak := f } := by
  obtain ⟨-, -, -, h4, -, -, h7, -, h9, h10⟩ := k.d0
  exact ⟨t.cells k.c h4, t.cells k.row h7, k.chs t (Or.inr (Or.inr (Or.inr (Or.inr rfl)))), t.cells k.m h9, k.nw.turned t h10, h, k.d0, k.d1, k.d2, k.lo, k.sz, k.rm, k.m8⟩
theorem Bm.newer {kn' : Nat} {f : Int → Option (Nat → Nat)} (k : Bm x B p rb rc mb mc nb ab kn ka P H C V S) (t : Turned (fun j => j = nb) x y) (h : MapAt y 31 .u32 nb kn' (encN f)) : Bm y B p rb rc mb mc nb ab kn' ka P H C V { S with nw := f } := by
  obtain ⟨-, -, h3, -, -, h6, -, h8, -, h10⟩ := k.d0
  exact ⟨t.cells k.c h3, t.cells k.row h6, k.chs t (Or.inr (Or.inr (Or.inr (Or.inl rfl)))), t.cells k.m h8, h, k.ak.turned t (fun e => h10 e.symm), k.d0, k.d1, k.d2, k.lo, k.sz, k.rm, k.m8⟩
theorem Bm.mems {m : Nat → Nat} (k : Bm x B p rb rc mb mc nb ab kn ka P H C V S) (t : Turned (fun j => j = mb) x y) (h : CellsAt S.len y mb (fun o => .int .u8 (m o))) (h8 : ∀ o, m o < 256) : Bm y B p rb rc mb mc nb ab kn ka P H C V { S with mem := m } := by
  obtain ⟨-, h2, -, -, h5, -, -, h8', h9, -⟩ := k.d0
  exact ⟨t.cells k.c h2, t.cells k.row h5, k.chs t (Or.inr (Or.inr (Or.inl rfl))), h, k.nw.turned t (fun e => h8' e.symm), k.ak.turned t (fun e => h9 e.symm), k.d0, k.d1, k.d2, k.lo, k.sz, k.rm, h8⟩
/-- its own block has changed: turn, goesOn, ticks -/
theorem Bm.own {tu tk : Nat} {on : Bool} (k : Bm x B p rb rc mb mc nb ab kn ka P H C V S) (t : Turned (fun j => j = p) x y) (h : CellsAt 8 y p (bv rb rc mb mc nb ab { S with turn := tu, on := on, tk := tk })) (htu : tu < S.nc) (htk : tk ≤ 10) : Bm y B p rb rc mb mc nb ab kn ka P H C V { S with turn := tu, on := on, tk := tk } := by
  obtain ⟨h1, h2, h3, h4, -⟩ := k.d0
  obtain ⟨s1, s2, s3, s4, s5, -, -⟩ := k.sz
  exact ⟨h, t.cells k.row (fun e => h1 e.symm), k.chs t (Or.inl rfl), t.cells k.m (fun e => h2 e.symm), k.nw.turned t (fun e => h3 e.symm), k.ak.turned t (fun e => h4 e.symm), k.d0, k.d1, k.d2, k.lo, ⟨s1, s2, s3, s4, s5, htu, htk⟩, k.rm, k.m8⟩
/-- what Ask answers -/
noncomputable def BS.askE (S : BS) (core : Int) (a : Nat) (wr : Bool) : Int := if S.has core a then (if (S.ak core).isSome ∨ (if wr then 2 else 1) ≤ S.st core a then 7 else 0) else 3
theorem st_le (S : BS) (core : Int) (a : Nat) (h : ∀ i a, (S.c i).st a ≤ 3) : S.st core a ≤ 3 := by
  unfold BS.st
  split
  · exact h _ _
  · omega
set_option maxRecDepth 100000 in
set_option maxHeartbeats 1000000 in
theorem bask_no (k : Bm x B p rb rc mb mc nb ab kn ka P H C V S) (core : Int) (a : Nat) (wr : Bool) (ha : a < 4294967296) (hh : S.has core a = false) : Calls Tryd.prog 5 #[.pointer (some ⟨p, 0, none⟩), .int .i64 core, .int .u32 a, .bool wr] x fun e w' => e = .returned (errV 3) ∧ w' = x := by
  have HH := Hid.in (bhas_any k core a ha)
  rw [hh] at HH
  unfold errV
  clear k ha hh
  go_enter Tryd.func5, Tryd.ntmps5
  go_wp2_with (go_at_call 24; refine HH.out.mono ?_; rintro e y ⟨rfl, hy⟩; have hy2 := hy.symm; clear hy; subst hy2)
  go_ret
  exact ⟨rfl, rfl⟩
set_option maxRecDepth 100000 in
set_option maxHeartbeats 1000000 in
theorem bask_state (k : Bm x B p rb rc mb mc nb ab kn ka P H C V S) (core : Int) (hc : i64 core) (a : Nat) (wr : Bool) (ha : a < 4294967296) (hh : S.has core a = true) (hs : (S.ak core).isSome = true ∨ (if wr then 2 else 1) ≤ S.st core a) : Calls Tryd.prog 5 #[.pointer (some ⟨p, 0, none⟩), .int .i64 core, .int .u32 a, .bool wr] x fun e w' => e = .returned (errV 7) ∧ Below x.heap.size x w' := by
  have HH := Hid.in (bhas_any k core a ha)
  rw [hh] at HH
  have HB := Hid.in (bbusy_any k core hc)
  have HST : Hid (∀ y, Below x.heap.size x y → Calls Tryd.prog 15 #[.pointer (some ⟨p, 0, none⟩), .int .i64 core, .int .u32 a] y fun e w' => e = .returned (.int .i64 (S.st core a : Nat)) ∧ Below y.heap.size y w') := fun y hy => bstate_any (k.below hy) core a ha
  unfold errV
  cases hb : (S.ak core).isSome
  · rw [hb] at HB
    have hs2 : (if wr then 2 else 1) ≤ S.st core a := by
      rcases hs with h | h
      · rw [hb] at h; cases h
      · exact h
    generalize S.st core a = st at HST hs2
    clear k ha hh hc hs
    cases wr
    · have hs3 : (1 : Int) ≤ (st : Int) := by simp at hs2; omega
      clear hs2 hb
      go_enter Tryd.func5, Tryd.ntmps5
      go_wp2_with (first
        | (go_at_call 24; refine HH.out.mono ?_; rintro e y ⟨rfl, hy⟩; have hy2 := hy.symm; clear hy; subst hy2)
        | (go_at_call 17; refine HB.out.mono ?_; rintro e y ⟨rfl, hy⟩; have HY := Hid.in hy; clear hy)
        | (go_at_call 15; refine (HST.out _ HY.out).mono ?_; rintro e z ⟨rfl, hz⟩; have HZ := Hid.in (HY.out.trans (hz.mono HY.out.size)); clear hz))
      go_ret
      exact ⟨rfl, HZ.out⟩
    · have hs3 : (2 : Int) ≤ (st : Int) := by simp at hs2; omega
      clear hs2 hb
      go_enter Tryd.func5, Tryd.ntmps5
      go_wp2_with (first
        | (go_at_call 24; refine HH.out.mono ?_; rintro e y ⟨rfl, hy⟩; have hy2 := hy.symm; clear hy; subst hy2)
        | (go_at_call 17; refine HB.out.mono ?_; rintro e y ⟨rfl, hy⟩; have HY := Hid.in hy; clear hy)
        | (go_at_call 15; refine (HST.out _ HY.out).mono ?_; rintro e z ⟨rfl, hz⟩; have HZ := Hid.in (HY.out.trans (hz.mono HY.out.size)); clear hz))
      go_ret
      exact ⟨rfl, HZ.out⟩
  · rw [hb] at HB
    clear k ha hh hc hs hb HST
    cases wr
    all_goals
      go_enter Tryd.func5, Tryd.ntmps5
      go_wp2_with (first
        | (go_at_call 24; refine HH.out.mono ?_; rintro e y ⟨rfl, hy⟩; have hy2 := hy.symm; clear hy; subst hy2)
        | (go_at_call 17; refine HB.out.mono ?_; rintro e y ⟨rfl, hy⟩; have HY := Hid.in hy; clear hy))
      go_ret
      exact ⟨rfl, HY.out⟩
set_option maxRecDepth 100000 in
set_option maxHeartbeats 1000000 in
theorem bask_good (k : Bm x B p rb rc mb mc nb ab kn ka P H C V S) (core : Int) (hc : i64 core) (a : Nat) (wr : Bool) (ha : a < 4294967296) (hh : S.has core a = true) (hb : (S.ak core).isSome = false) (hs : S.st core a < (if wr then 2 else 1)) (hka : ka < maxLen) : Calls Tryd.prog 5 #[.pointer (some ⟨p, 0, none⟩), .int .i64 core, .int .u32 a, .bool wr] x fun e w' => e = .returned .nilIface ∧ Bm w' B p rb rc mb mc nb ab kn (ka + 1) P H C V { S with ak := updO S.ak core (some (lineOf a, wr)) } ∧ Turned (fun j => j = ab) x w' := by
  have HK := Hid.in k
  have HH := Hid.in (bhas_any k core a ha)
  rw [hh] at HH
  have HB := Hid.in (bbusy_any k core hc)
  rw [hb] at HB
  have HST : Hid (∀ y, Below x.heap.size x y → Calls Tryd.prog 15 #[.pointer (some ⟨p, 0, none⟩), .int .i64 core, .int .u32 a] y fun e w' => e = .returned (.int .i64 (S.st core a : Nat)) ∧ Below y.heap.size y w') := fun y hy => bstate_any (k.below hy) core a ha
  have HLO : Hid (∀ y, Calls Tryd.prog 25 #[.int .u32 a] y fun e w' => e = .returned (.int .u32 (lineOf a : Nat)) ∧ w' = y) := fun y => blineOf_any a y ha
  have HC := Hid.in hc
  have HKA := Hid.in hka
  generalize S.st core a = st at HST hs
  clear k ha hh hc hb hka
  cases wr
  · have hs3 : (st : Int) < 1 := by simp at hs; omega
    clear hs
    go_enter Tryd.func5, Tryd.ntmps5
    go_upto_region 8 with (first
      | (go_at_call 24; refine HH.out.mono ?_; rintro e y ⟨rfl, hy⟩; have hy2 := hy.symm; clear hy; subst hy2)
      | (go_at_call 17; refine HB.out.mono ?_; rintro e y ⟨rfl, hy⟩; have HY := Hid.in hy; clear hy)
      | (go_at_call 15; refine (HST.out _ HY.out).mono ?_; rintro e z ⟨rfl, hz⟩; have HZ := Hid.in (HY.out.trans (hz.mono HY.out.size)); clear hz))
    have bD : Below z.heap.size z z.drew := ⟨rfl, rfl, rfl, Nat.le_refl _, fun _ _ => rfl⟩
    have kD := (HK.out.below HZ.out).below bD
    obtain ⟨Y, hrun, hmap, htu⟩ := kD.ak.put Tryd.underlying3 Tryd.underlying69 HKA.out (wf_i64 HC.out) (askV (lineOf a, false))
    have HF := Hid.in (kD.asks htu (f := updO S.ak core (some (lineOf a, false))) (by rw [encA_upd]; exact hmap))
    have HT : Hid (Turned (fun j => j = ab) x Y) := (Turned.of_below (HZ.out.trans (bD.mono HZ.out.size))).trans htu
    have c4 : z.cell? ⟨p, 4, none⟩ = some (.map (some ab)) := (HK.out.below HZ.out).c.cell 4 (by decide)
    have hp := (HK.out.below HZ.out).c.here
    unfold askV at hrun
    clear kD hmap htu bD
    go_region_with (go_at_call 25; refine (HLO.out _).mono ?_; rintro e y2 ⟨rfl, hy⟩; have hy2 := hy.symm; clear hy; subst hy2)
    all_goals (try go_wp2)
    all_goals
      go_ret
      exact ⟨rfl, HF.out, HT.out⟩
  · have hs3 : (st : Int) < 2 := by simp at hs; omega
    clear hs
    go_enter Tryd.func5, Tryd.ntmps5
    go_upto_region 8 with (first
      | (go_at_call 24; refine HH.out.mono ?_; rintro e y ⟨rfl, hy⟩; have hy2 := hy.symm; clear hy; subst hy2)
      | (go_at_call 17; refine HB.out.mono ?_; rintro e y ⟨rfl, hy⟩; have HY := Hid.in hy; clear hy)
      | (go_at_call 15; refine (HST.out _ HY.out).mono ?_; rintro e z ⟨rfl, hz⟩; have HZ := Hid.in (HY.out.trans (hz.mono HY.out.size)); clear hz))
    have bD : Below z.heap.size z z.drew := ⟨rfl, rfl, rfl, Nat.le_refl _, fun _ _ => rfl⟩
    have kD := (HK.out.below HZ.out).below bD
    obtain ⟨Y, hrun, hmap, htu⟩ := kD.ak.put Tryd.underlying3 Tryd.underlying69 HKA.out (wf_i64 HC.out) (askV (lineOf a, true))
    have HF := Hid.in (kD.asks htu (f := updO S.ak core (some (lineOf a, true))) (by rw [encA_upd]; exact hmap))
    have HT : Hid (Turned (fun j => j = ab) x Y) := (Turned.of_below (HZ.out.trans (bD.mono HZ.out.size))).trans htu
    have c4 : z.cell? ⟨p, 4, none⟩ = some (.map (some ab)) := (HK.out.below HZ.out).c.cell 4 (by decide)
    have hp := (HK.out.below HZ.out).c.here
    unfold askV at hrun
    clear kD hmap htu bD
    go_region_with (go_at_call 25; refine (HLO.out _).mono ?_; rintro e y2 ⟨rfl, hy⟩; have hy2 := hy.symm; clear hy; subst hy2)
    all_goals (try go_wp2)
    all_goals
      go_ret
      exact ⟨rfl, HF.out, HT.out⟩
end
end Go.Proofs.YtlogdmnhngbkaaaDoor
/-
  BUS: Read.
-/
namespace Go.Proofs.YtlogdmnhngbkaaaDoor
open Go Go.RowKit
/-- one of its caches is another -/
def BS.cput (S : BS) (i : Nat) (T : CS) : BS := { S with c := fun j => if j = i then T else S.c j }
theorem same_n (T : CS) (i : Nat) (l : List Ln) : (T.put i l).n = T.n := rfl
theorem if_same {α : Type} (i : Nat) (f : Nat → α) : (fun j => if j = i then f i else f j) = f := by
  funext j
  split
  · rename_i e; rw [e]
  · rfl
section
variable {x y : World} {B p rb rc mb mc nb ab kn ka : Nat} {P H C : Nat → Nat} {V : Nat → Nat → Value} {S : BS}
/-- one of its caches has changed, its rows stand where they stood -/
theorem Bm.cache1 (k : Bm x B p rb rc mb mc nb ab kn ka P H C V S) (i : Nat) (hi : i < S.nc) {T : CS} (hT : T.n = (S.c i).n) (ch : Ch y B (P i) (H i) (C i) (V i) T) (t : Turned (mine (P i) (H i) (S.c i).n (V i)) x y) : Bm y B p rb rc mb mc nb ab kn ka P H C V (S.cput i T) := by
  have h := k.cache i hi hT ch (fun j q _ hq => Or.inl hq) t
  rw [if_same i V] at h
  exact h
set_option maxRecDepth 100000 in
theorem bread_no (k : Bm x B p rb rc mb mc nb ab kn ka P H C V S) (core : Int) (a : Nat) (z : Int) (ha : a < 4294967296) (hh : S.has core a = false) : Calls Tryd.prog 11 #[.pointer (some ⟨p, 0, none⟩), .int .i64 core, .int .u32 a, .int .i64 z] x fun e w' => e = .returned (.tuple #[.int .u32 0, .bool false]) ∧ w' = x := by
  have HH := Hid.in (bhas_any k core a ha)
  rw [hh] at HH
  clear k ha hh
  go_enter Tryd.func11, Tryd.ntmps11
  go_wp2_with (go_at_call 24; refine HH.out.mono ?_; rintro e y ⟨rfl, hy⟩; have hy2 := hy.symm; clear hy; subst hy2)
  exact bodyPost_ret (v := .tuple #[.int .u32 0, .bool false]) (by simp [results, Tryd.results11, go_sem]) rfl ⟨rfl, rfl⟩
/-- Read, where there are such a core and such an address, is its cache's -/
theorem bread_of {R : Value → Value → World → Prop} (k : Bm x B p rb rc mb mc nb ab kn ka P H C V S) (i : Nat) (a : Nat) (z : Int) (ha : a < 4294967296) (hh : S.has i a = true) (hr : Calls Tryd.prog 31 #[.pointer (some ⟨P i, 0, none⟩), .int .u32 a, .int .i64 z] x fun e w' => ∃ u v, e = .returned (.tuple #[u, v]) ∧ R u v w') : Calls Tryd.prog 11 #[.pointer (some ⟨p, 0, none⟩), .int .i64 i, .int .u32 a, .int .i64 z] x fun e w' => ∃ u v, e = .returned (.tuple #[u, v]) ∧ R u v w' := by
  have HH := Hid.in (bhas_any k i a ha)
  rw [hh] at HH
  obtain ⟨i', hii, hi, -, -⟩ := has_core hh
  obtain rfl : i = i' := by omega
  have HR := Hid.in hr
  have c0 : x.cell? ⟨p, 0, none⟩ = some (.slice (some ⟨rb, 0, none⟩) S.nc rc) := k.c.cell 0 (by decide)
  have r0 : x.cell? ⟨rb, i, none⟩ = some (.pointer (some ⟨P i, 0, none⟩)) := k.row.cell i hi
  have hp := k.c.here
  have hrr := k.row.here
  have hi' : (i : Int) < (S.nc : Int) := by omega
  clear k ha hh hr hii hi
  go_enter Tryd.func11, Tryd.ntmps11
  go_wp2_with (first
    | (go_at_call 24; refine HH.out.mono ?_; rintro e y ⟨rfl, hy⟩; have hy2 := hy.symm; clear hy; subst hy2)
    | (go_at_call 31; refine HR.out.mono ?_; rintro e y ⟨u, v, rfl, hq⟩; have HQ := Hid.in hq; clear hq))
  exact bodyPost_ret (v := .tuple #[u, v]) (by simp [results, Tryd.results11, go_sem]) rfl ⟨u, v, rfl, HQ.out⟩
theorem bread_miss (k : Bm x B p rb rc mb mc nb ab kn ka P H C V S) (i a : Nat) (z : Int) (ha : a < 4294967296) (hh : S.has i a = true) (hno : No ((S.c i).set ((S.c i).of a)) a ∨ fits a z = false) : Calls Tryd.prog 11 #[.pointer (some ⟨p, 0, none⟩), .int .i64 i, .int .u32 a, .int .i64 z] x fun e w' => e = .returned (.tuple #[.int .u32 0, .bool false]) ∧ Below x.heap.size x w' := by
  obtain ⟨i', hii, hi, -, -⟩ := has_core hh
  obtain rfl : i = i' := by omega
  refine (bread_of (R := fun u v w' => u = .int .u32 0 ∧ v = .bool false ∧ Below x.heap.size x w') k i a z ha hh ((read_no B (P i) (H i) (C i) (V i) (S.c i) a z x (k.ch i hi) ha hno).mono fun e w' h => ⟨_, _, h.1, rfl, rfl, h.2⟩)).mono fun e w' h => ?_
  obtain ⟨u, v, rfl, rfl, rfl, hb⟩ := h
  exact ⟨rfl, hb⟩
theorem bread_hit (k : Bm x B p rb rc mb mc nb ab kn ka P H C V S) (i a z j : Nat) (ha : a < 4294967296) (hh : S.has i a = true) (hA : At ((S.c i).set ((S.c i).of a)) a j) (hz : fits a z = true) (hb : ∀ t, t < 16 → (((S.c i).set ((S.c i).of a)).getD j l0).b t < 256) : Calls Tryd.prog 11 #[.pointer (some ⟨p, 0, none⟩), .int .i64 i, .int .u32 a, .int .i64 z] x fun e w' => e = .returned (.tuple #[.int .u32 (leN (fun t => (((S.c i).set ((S.c i).of a)).getD j l0).b (a % 16 + t)) z : Nat), .bool true]) ∧ Bm w' B p rb rc mb mc nb ab kn ka P H C V (S.cput i ((S.c i).used ((S.c i).of a) j)) ∧ Turned (mine (P i) (H i) (S.c i).n (V i)) x w' := by
  obtain ⟨i', hii, hi, -, -⟩ := has_core hh
  obtain rfl : i = i' := by omega
  refine (bread_of (R := fun u v w' => u = .int .u32 (leN (fun t => (((S.c i).set ((S.c i).of a)).getD j l0).b (a % 16 + t)) z : Nat) ∧ v = .bool true ∧ Ch w' B (P i) (H i) (C i) (V i) ((S.c i).used ((S.c i).of a) j) ∧ Turned (mine (P i) (H i) (S.c i).n (V i)) x w') k i a z ha hh ((read_at B (P i) (H i) (C i) (V i) (S.c i) a z j x (k.ch i hi) ha hA hz hb).mono fun e w' h => ⟨_, _, h.1, rfl, rfl, h.2⟩)).mono fun e w' h => ?_
  obtain ⟨u, v, rfl, rfl, rfl, hc, ht⟩ := h
  exact ⟨rfl, k.cache1 i hi rfl hc ht, ht⟩
end
end Go.Proofs.YtlogdmnhngbkaaaDoor
