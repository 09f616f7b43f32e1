/-
  BUS: what changes in it; Ask.
-/
import Derived.Test.YtbbaopldebdoiaaBu5
namespace Go.Proofs.Ytbbaopldebdoiaa
open Go Go.RowKit
def updO {α : Type} (f : Int → Option α) (a : Int) (v : Option α) : Int → Option α := fun x => if x = a then v else f x
theorem encA_upd (f : Int → Option (Nat × Bool)) (a : Int) (v : Option (Nat × Bool)) : encA (updO f a v) = updF (encA f) a (v.map askV) := by
  funext x
  unfold encA updO updF
  split <;> rfl
theorem encN_upd (f : Int → Option (Nat → Nat)) (a : Int) (v : Option (Nat → Nat)) : encN (updO f a v) = updF (encN f) a (v.map fun b => .agg (bvs b).toArray) := by
  funext x
  unfold encN updO updF
  split <;> rfl
section
variable {x y : World} {B p rb rc mb mc nb ab kn ka : Nat} {P H C : Nat → Nat} {V : Nat → Nat → Value} {S : BS}
theorem Bm.chs {z : Nat} (k : Bm x B p rb rc mb mc nb ab kn ka P H C V S) (t : Turned (fun j => j = z) x y) (hz : own5 p rb mb nb ab z) : ∀ i, i < S.nc → Ch y B (P i) (H i) (C i) (V i) (S.c i) := fun i hi => (k.ch i hi).off t (fun j hj e => k.d1 i hi z hz (by rw [← e]; exact hj))
theorem Bm.asks {ka' : Nat} {f : Int → Option (Nat × Bool)} (k : Bm x B p rb rc mb mc nb ab kn ka P H C V S) (t : Turned (fun j => j = ab) x y) (h : MapAt y 3 .i64 ab ka' (encA f)) : Bm y B p rb rc mb mc nb ab kn ka' P H C V { S with ak := f } := by
  obtain ⟨-, -, -, h4, -, -, h7, -, h9, h10⟩ := k.d0
  exact ⟨t.cells k.c h4, t.cells k.row h7, k.chs t (Or.inr (Or.inr (Or.inr (Or.inr rfl)))), t.cells k.m h9, k.nw.turned t h10, h, k.d0, k.d1, k.d2, k.lo, k.sz, k.rm, k.m8⟩
theorem Bm.newer {kn' : Nat} {f : Int → Option (Nat → Nat)} (k : Bm x B p rb rc mb mc nb ab kn ka P H C V S) (t : Turned (fun j => j = nb) x y) (h : MapAt y 33 .u32 nb kn' (encN f)) : Bm y B p rb rc mb mc nb ab kn' ka P H C V { S with nw := f } := by
  obtain ⟨-, -, h3, -, -, h6, -, h8, -, h10⟩ := k.d0
  exact ⟨t.cells k.c h3, t.cells k.row h6, k.chs t (Or.inr (Or.inr (Or.inr (Or.inl rfl)))), t.cells k.m h8, h, k.ak.turned t (fun e => h10 e.symm), k.d0, k.d1, k.d2, k.lo, k.sz, k.rm, k.m8⟩
theorem Bm.mems {m : Nat → Nat} (k : Bm x B p rb rc mb mc nb ab kn ka P H C V S) (t : Turned (fun j => j = mb) x y) (h : CellsAt S.len y mb (fun o => .int .u8 (m o))) (h8 : ∀ o, m o < 256) : Bm y B p rb rc mb mc nb ab kn ka P H C V { S with mem := m } := by
  obtain ⟨-, h2, -, -, h5, -, -, h8', h9, -⟩ := k.d0
  exact ⟨t.cells k.c h2, t.cells k.row h5, k.chs t (Or.inr (Or.inr (Or.inl rfl))), h, k.nw.turned t (fun e => h8' e.symm), k.ak.turned t (fun e => h9 e.symm), k.d0, k.d1, k.d2, k.lo, k.sz, k.rm, h8⟩
/-- its own block has changed: turn, goesOn, ticks -/
theorem Bm.own {tu tk : Nat} {on : Bool} (k : Bm x B p rb rc mb mc nb ab kn ka P H C V S) (t : Turned (fun j => j = p) x y) (h : CellsAt 8 y p (bv rb rc mb mc nb ab { S with turn := tu, on := on, tk := tk })) (htu : tu < S.nc) (htk : tk ≤ 10) : Bm y B p rb rc mb mc nb ab kn ka P H C V { S with turn := tu, on := on, tk := tk } := by
  obtain ⟨h1, h2, h3, h4, -⟩ := k.d0
  obtain ⟨s1, s2, s3, s4, s5, -, -⟩ := k.sz
  exact ⟨h, t.cells k.row (fun e => h1 e.symm), k.chs t (Or.inl rfl), t.cells k.m (fun e => h2 e.symm), k.nw.turned t (fun e => h3 e.symm), k.ak.turned t (fun e => h4 e.symm), k.d0, k.d1, k.d2, k.lo, ⟨s1, s2, s3, s4, s5, htu, htk⟩, k.rm, k.m8⟩
/-- what Ask answers -/
noncomputable def BS.askE (S : BS) (core : Int) (a : Nat) (wr : Bool) : Int := if S.has core a then (if (S.ak core).isSome ∨ (if wr then 2 else 1) ≤ S.st core a then 7 else 0) else 3
theorem st_le (S : BS) (core : Int) (a : Nat) (h : ∀ i a, (S.c i).st a ≤ 3) : S.st core a ≤ 3 := by
  unfold BS.st
  split
  · exact h _ _
  · omega
set_option maxRecDepth 100000 in
set_option maxHeartbeats 1000000 in
theorem bask_no (k : Bm x B p rb rc mb mc nb ab kn ka P H C V S) (core : Int) (a : Nat) (wr : Bool) (ha : a < 4294967296) (hh : S.has core a = false) : Calls Try.prog 8 #[.pointer (some ⟨p, 0, none⟩), .int .i64 core, .int .u32 a, .bool wr] x fun e w' => e = .returned (errV 3) ∧ w' = x := by
  have HH := Hid.in (bhas_any k core a ha)
  rw [hh] at HH
  unfold errV
  clear k ha hh
  go_enter Try.func8, Try.ntmps8
  go_wp2_with (go_at_call 17; refine HH.out.mono ?_; rintro e y ⟨rfl, hy⟩; have hy2 := hy.symm; clear hy; subst hy2)
  go_ret
  exact ⟨rfl, rfl⟩
set_option maxRecDepth 100000 in
set_option maxHeartbeats 1000000 in
theorem bask_state (k : Bm x B p rb rc mb mc nb ab kn ka P H C V S) (core : Int) (hc : i64 core) (a : Nat) (wr : Bool) (ha : a < 4294967296) (hh : S.has core a = true) (hs : (S.ak core).isSome = true ∨ (if wr then 2 else 1) ≤ S.st core a) : Calls Try.prog 8 #[.pointer (some ⟨p, 0, none⟩), .int .i64 core, .int .u32 a, .bool wr] x fun e w' => e = .returned (errV 7) ∧ Below x.heap.size x w' := by
  have HH := Hid.in (bhas_any k core a ha)
  rw [hh] at HH
  have HB := Hid.in (bbusy_any k core hc)
  have HST : Hid (∀ y, Below x.heap.size x y → Calls Try.prog 6 #[.pointer (some ⟨p, 0, none⟩), .int .i64 core, .int .u32 a] y fun e w' => e = .returned (.int .i64 (S.st core a : Nat)) ∧ Below y.heap.size y w') := fun y hy => bstate_any (k.below hy) core a ha
  unfold errV
  cases hb : (S.ak core).isSome
  · rw [hb] at HB
    have hs2 : (if wr then 2 else 1) ≤ S.st core a := by
      rcases hs with h | h
      · rw [hb] at h; cases h
      · exact h
    generalize S.st core a = st at HST hs2
    clear k ha hh hc hs
    cases wr
    · have hs3 : (1 : Int) ≤ (st : Int) := by simp at hs2; omega
      clear hs2 hb
      go_enter Try.func8, Try.ntmps8
      go_wp2_with (first
        | (go_at_call 17; refine HH.out.mono ?_; rintro e y ⟨rfl, hy⟩; have hy2 := hy.symm; clear hy; subst hy2)
        | (go_at_call 7; refine HB.out.mono ?_; rintro e y ⟨rfl, hy⟩; have HY := Hid.in hy; clear hy)
        | (go_at_call 6; refine (HST.out _ HY.out).mono ?_; rintro e z ⟨rfl, hz⟩; have HZ := Hid.in (HY.out.trans (hz.mono HY.out.size)); clear hz))
      go_ret
      exact ⟨rfl, HZ.out⟩
    · have hs3 : (2 : Int) ≤ (st : Int) := by simp at hs2; omega
      clear hs2 hb
      go_enter Try.func8, Try.ntmps8
      go_wp2_with (first
        | (go_at_call 17; refine HH.out.mono ?_; rintro e y ⟨rfl, hy⟩; have hy2 := hy.symm; clear hy; subst hy2)
        | (go_at_call 7; refine HB.out.mono ?_; rintro e y ⟨rfl, hy⟩; have HY := Hid.in hy; clear hy)
        | (go_at_call 6; refine (HST.out _ HY.out).mono ?_; rintro e z ⟨rfl, hz⟩; have HZ := Hid.in (HY.out.trans (hz.mono HY.out.size)); clear hz))
      go_ret
      exact ⟨rfl, HZ.out⟩
  · rw [hb] at HB
    clear k ha hh hc hs hb HST
    cases wr
    all_goals
      go_enter Try.func8, Try.ntmps8
      go_wp2_with (first
        | (go_at_call 17; refine HH.out.mono ?_; rintro e y ⟨rfl, hy⟩; have hy2 := hy.symm; clear hy; subst hy2)
        | (go_at_call 7; refine HB.out.mono ?_; rintro e y ⟨rfl, hy⟩; have HY := Hid.in hy; clear hy))
      go_ret
      exact ⟨rfl, HY.out⟩
set_option maxRecDepth 100000 in
set_option maxHeartbeats 1000000 in
theorem bask_good (k : Bm x B p rb rc mb mc nb ab kn ka P H C V S) (core : Int) (hc : i64 core) (a : Nat) (wr : Bool) (ha : a < 4294967296) (hh : S.has core a = true) (hb : (S.ak core).isSome = false) (hs : S.st core a < (if wr then 2 else 1)) (hka : ka < maxLen) : Calls Try.prog 8 #[.pointer (some ⟨p, 0, none⟩), .int .i64 core, .int .u32 a, .bool wr] x fun e w' => e = .returned .nilIface ∧ Bm w' B p rb rc mb mc nb ab kn (ka + 1) P H C V { S with ak := updO S.ak core (some (lineOf a, wr)) } ∧ Turned (fun j => j = ab) x w' := by
  have HK := Hid.in k
  have HH := Hid.in (bhas_any k core a ha)
  rw [hh] at HH
  have HB := Hid.in (bbusy_any k core hc)
  rw [hb] at HB
  have HST : Hid (∀ y, Below x.heap.size x y → Calls Try.prog 6 #[.pointer (some ⟨p, 0, none⟩), .int .i64 core, .int .u32 a] y fun e w' => e = .returned (.int .i64 (S.st core a : Nat)) ∧ Below y.heap.size y w') := fun y hy => bstate_any (k.below hy) core a ha
  have HLO : Hid (∀ y, Calls Try.prog 19 #[.int .u32 a] y fun e w' => e = .returned (.int .u32 (lineOf a : Nat)) ∧ w' = y) := fun y => blineOf_any a y ha
  have HC := Hid.in hc
  have HKA := Hid.in hka
  generalize S.st core a = st at HST hs
  clear k ha hh hc hb hka
  cases wr
  · have hs3 : (st : Int) < 1 := by simp at hs; omega
    clear hs
    go_enter Try.func8, Try.ntmps8
    go_upto_region 8 with (first
      | (go_at_call 17; refine HH.out.mono ?_; rintro e y ⟨rfl, hy⟩; have hy2 := hy.symm; clear hy; subst hy2)
      | (go_at_call 7; refine HB.out.mono ?_; rintro e y ⟨rfl, hy⟩; have HY := Hid.in hy; clear hy)
      | (go_at_call 6; refine (HST.out _ HY.out).mono ?_; rintro e z ⟨rfl, hz⟩; have HZ := Hid.in (HY.out.trans (hz.mono HY.out.size)); clear hz))
    have bD : Below z.heap.size z z.drew := ⟨rfl, rfl, rfl, Nat.le_refl _, fun _ _ => rfl⟩
    have kD := (HK.out.below HZ.out).below bD
    obtain ⟨Y, hrun, hmap, htu⟩ := kD.ak.put Try.underlying3 Try.underlying52 HKA.out (wf_i64 HC.out) (askV (lineOf a, false))
    have HF := Hid.in (kD.asks htu (f := updO S.ak core (some (lineOf a, false))) (by rw [encA_upd]; exact hmap))
    have HT : Hid (Turned (fun j => j = ab) x Y) := (Turned.of_below (HZ.out.trans (bD.mono HZ.out.size))).trans htu
    have c4 : z.cell? ⟨p, 4, none⟩ = some (.map (some ab)) := (HK.out.below HZ.out).c.cell 4 (by decide)
    have hp := (HK.out.below HZ.out).c.here
    unfold askV at hrun
    clear kD hmap htu bD
    go_region_with (go_at_call 19; refine (HLO.out _).mono ?_; rintro e y2 ⟨rfl, hy⟩; have hy2 := hy.symm; clear hy; subst hy2)
    all_goals (try go_wp2)
    all_goals
      go_ret
      exact ⟨rfl, HF.out, HT.out⟩
  · have hs3 : (st : Int) < 2 := by simp at hs; omega
    clear hs
    go_enter Try.func8, Try.ntmps8
    go_upto_region 8 with (first
      | (go_at_call 17; refine HH.out.mono ?_; rintro e y ⟨rfl, hy⟩; have hy2 := hy.symm; clear hy; subst hy2)
      | (go_at_call 7; refine HB.out.mono ?_; rintro e y ⟨rfl, hy⟩; have HY := Hid.in hy; clear hy)
      | (go_at_call 6; refine (HST.out _ HY.out).mono ?_; rintro e z ⟨rfl, hz⟩; have HZ := Hid.in (HY.out.trans (hz.mono HY.out.size)); clear hz))
    have bD : Below z.heap.size z z.drew := ⟨rfl, rfl, rfl, Nat.le_refl _, fun _ _ => rfl⟩
    have kD := (HK.out.below HZ.out).below bD
    obtain ⟨Y, hrun, hmap, htu⟩ := kD.ak.put Try.underlying3 Try.underlying52 HKA.out (wf_i64 HC.out) (askV (lineOf a, true))
    have HF := Hid.in (kD.asks htu (f := updO S.ak core (some (lineOf a, true))) (by rw [encA_upd]; exact hmap))
    have HT : Hid (Turned (fun j => j = ab) x Y) := (Turned.of_below (HZ.out.trans (bD.mono HZ.out.size))).trans htu
    have c4 : z.cell? ⟨p, 4, none⟩ = some (.map (some ab)) := (HK.out.below HZ.out).c.cell 4 (by decide)
    have hp := (HK.out.below HZ.out).c.here
    unfold askV at hrun
    clear kD hmap htu bD
    go_region_with (go_at_call 19; refine (HLO.out _).mono ?_; rintro e y2 ⟨rfl, hy⟩; have hy2 := hy.symm; clear hy; subst hy2)
    all_goals (try go_wp2)
    all_goals
      go_ret
      exact ⟨rfl, HF.out, HT.out⟩
end
end Go.Proofs.Ytbbaopldebdoiaa
