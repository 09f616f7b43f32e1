import Derived.Test.YtlogdmnhngbkaaaDoorY18
/-
  BUS: lowerOthers.
-/
namespace Go.Proofs.YtlogdmnhngbkaaaDoor
open Go Go.RowKit
/-- what is told of a line that has changed -/
structure Snp where
  c : Nat
  a : Nat
  f : Nat
  t : Nat
def Snp.vs (e : Snp) : List Value := [.int .i64 e.c, .int .u32 e.a, .int .i64 e.f, .int .i64 e.t]
def flatS (l : List Snp) : List Value := l.flatMap Snp.vs
theorem flatS_app (l m : List Snp) : flatS (l ++ m) = flatS l ++ flatS m := List.flatMap_append
theorem flatS_one (e : Snp) : flatS [e] = e.vs := by simp [flatS]
theorem own_lower {W : World} {base base' : Nat} {e : TypeId} {size : Nat} {v : Value} {k : Nat} {xs : List Value} (h : W.ownsRow base e size v k xs) (hb : base' ≤ base) : W.ownsRow base' e size v k xs := by
  refine ⟨h.1, ?_⟩
  rcases h.2 with q | ⟨g, cap, cur, q1, q2, q3⟩
  · exact Or.inl q
  · exact Or.inr ⟨g, cap, cur, q1, by omega, q3⟩
theorem app_snp {B : Nat} (x : World) (v : Value) (l : List Snp) (y : Snp) (hr : x.ownsRow B 84 4 v l.length (flatS l)) (hl : l.length ≤ 1000000) (hB : B ≤ x.heap.size) : ∃ g cap z, (Builtin.append_ #[37, 37] 37 #[v, .slice (some ⟨x.heap.size, 0, none⟩) 1 1]).run Tryd.prog (x.alloc (.cells #[.int .i64 y.c, .int .u32 y.a, .int .i64 y.f, .int .i64 y.t] 84)) = .ok (.slice (some ⟨g, 0, none⟩) (l.length + 1) cap) z ∧ z.ownsRow B 84 4 (.slice (some ⟨g, 0, none⟩) (l.length + 1) cap) (l.length + 1) (flatS (l ++ [y])) ∧ Turned (fun j => v.ownBlock = some j) x z ∧ ((Value.slice (some ⟨g, 0, none⟩) (l.length + 1) cap).ownBlock = v.ownBlock ∨ ∃ j, (Value.slice (some ⟨g, 0, none⟩) (l.length + 1) cap).ownBlock = some j ∧ x.heap.size ≤ j) := by
  obtain ⟨i0, hi0, hz0, hz1, hz2⟩ := info_parts (show (Tryd.prog.info? 84).map (fun i => (i.zero, i.size, i.bytes)) = some (some (.agg #[.int .i64 0, .int .u32 0, .int .i64 0, .int .i64 0]), 4, 32) by kernel_rfl)
  obtain ⟨v', w1, hrun, r1, r2, r3, r4⟩ := run_append_own_at (P := Tryd.prog) (w := x.alloc (.cells #[.int .i64 y.c, .int .u32 y.a, .int .i64 y.f, .int .i64 y.t] 84)) B 37 37 84 i0 (.agg #[.int .i64 0, .int .u32 0, .int .i64 0, .int .i64 0]) 4 32 Tryd.underlying37 hi0 hz0 hz1 hz2 rfl (by decide) v l.length (flatS l) (hr.alloc _) ⟨x.heap.size, 0, none⟩ 1 1 y.vs rfl (fun j u hj => by
      rw [Addr.add_lit, Nat.zero_add]
      refine (World.cell?_alloc_new x _ _ j).trans ?_
      rw [← hj]
      simp [Snp.vs]) (fun u hu => by
      simp [Snp.vs] at hu
      rcases hu with rfl | rfl | rfl | rfl <;> rfl) (by unfold maxLen; omega) (by omega) (by simp; omega)
  obtain ⟨g, cap, rfl⟩ := own_succ r1
  have e : flatS l ++ y.vs = flatS (l ++ [y]) := by rw [flatS_app, flatS_one]
  rw [e] at r1
  refine ⟨g, cap, w1, hrun, r1, (((Turned.refl _ x).alloc _).trans (turned_grown r2)), ?_⟩
  rcases r4 with q | q
  · exact Or.inl q
  · exact Or.inr ⟨_, q, by rw [World.size_alloc]; exact Nat.le_succ _⟩
/-- is a core to let go of a line? -/
def BS.lows (S : BS) (l to i : Nat) : Prop := i ≠ S.turn ∧ to < (S.c i).st l
open Classical in
noncomputable def BS.lowAt (S : BS) (l to i : Nat) : BS := if S.lows l to i then (S.cput i ((S.c i).lowTo l to)).wb ((S.c i).ln l) else S
noncomputable def BS.lowN (S : BS) (l to : Nat) : Nat → BS
  | 0 => S
  | n + 1 => (S.lowN l to n).lowAt l to n
open Classical in
noncomputable def BS.toldAt (S : BS) (l to i : Nat) : List Snp := if S.lows l to i then [⟨i, l, ((S.c i).ln l).s, to⟩] else []
noncomputable def BS.toldN (S : BS) (l to : Nat) : Nat → List Snp
  | 0 => []
  | n + 1 => S.toldN l to n ++ S.toldAt l to n
theorem lowAt_same (S : BS) (l to i : Nat) : (S.lowAt l to i).turn = S.turn ∧ (S.lowAt l to i).nc = S.nc ∧ (S.lowAt l to i).len = S.len ∧ ∀ j, j ≠ i → (S.lowAt l to i).c j = S.c j := by
  unfold BS.lowAt
  split
  · exact ⟨rfl, rfl, rfl, fun j hj => if_neg hj⟩
  · exact ⟨rfl, rfl, rfl, fun _ _ => rfl⟩
theorem lowN_same (S : BS) (l to : Nat) : ∀ n, (S.lowN l to n).turn = S.turn ∧ (S.lowN l to n).nc = S.nc ∧ (S.lowN l to n).len = S.len ∧ ∀ j, n ≤ j → (S.lowN l to n).c j = S.c j
  | 0 => ⟨rfl, rfl, rfl, fun _ _ => rfl⟩
  | n + 1 => by
    obtain ⟨a1, a2, a3, a4⟩ := lowN_same S l to n
    obtain ⟨b1, b2, b3, b4⟩ := lowAt_same (S.lowN l to n) l to n
    exact ⟨b1.trans a1, b2.trans a2, b3.trans a3, fun j hj => (b4 j (by omega)).trans (a4 j (by omega))⟩
theorem told_le (S : BS) (l to : Nat) : ∀ n, (S.toldN l to n).length ≤ n
  | 0 => Nat.le_refl _
  | n + 1 => by
    have := told_le S l to n
    show (S.toldN l to n ++ S.toldAt l to n).length ≤ n + 1
    rw [List.length_append]
    have : (S.toldAt l to n).length ≤ 1 := by
      unfold BS.toldAt
      split <;> simp
    omega
theorem low_yes {S : BS} {l to i : Nat} (h : S.lows l to i) : (S.lowN l to (i + 1)) = ((S.lowN l to i).cput i ((S.c i).lowTo l to)).wb ((S.c i).ln l) ∧ S.toldN l to (i + 1) = S.toldN l to i ++ [⟨i, l, ((S.c i).ln l).s, to⟩] := by
  obtain ⟨a1, a2, a3, a4⟩ := lowN_same S l to i
  have e := a4 i (Nat.le_refl _)
  constructor
  · show (S.lowN l to i).lowAt l to i = _
    unfold BS.lowAt
    rw [if_pos (by unfold BS.lows; rw [a1, e]; exact h), e]
  · show S.toldN l to i ++ S.toldAt l to i = _
    unfold BS.toldAt
    rw [if_pos h]
theorem low_no {S : BS} {l to i : Nat} (h : ¬ S.lows l to i) : (S.lowN l to (i + 1)) = S.lowN l to i ∧ S.toldN l to (i + 1) = S.toldN l to i := by
  obtain ⟨a1, a2, a3, a4⟩ := lowN_same S l to i
  have e := a4 i (Nat.le_refl _)
  constructor
  · show (S.lowN l to i).lowAt l to i = _
    unfold BS.lowAt
    rw [if_neg (by unfold BS.lows; rw [a1, e]; exact h)]
  · show S.toldN l to i ++ S.toldAt l to i = _
    unfold BS.toldAt
    rw [if_neg h, List.append_nil]
theorem ln_a {T : CS} {a : Nat} (h : T.st a ≠ 0) : (T.ln a).a = lineOf a := (CS.st_ix h).1.2.1
section
variable {x : World} {g : Bn} {F : Nat → Prop} {N : Nat} {S : BS}
/-- cells of the bus' own block, of its row of caches -/
theorem Bu.own (h : Bu x g F N S) : CellsAt 8 x g.p (bv g.rb g.rc g.mb g.mc g.nb g.ab S) ∧ CellsAt S.nc x g.rb (fun i => .pointer (some ⟨g.P i, 0, none⟩)) ∧ CellsAt S.len x g.mb (fun o => .int .u8 (S.mem o)) ∧ (1 ≤ S.nc ∧ S.nc ≤ 2 ∧ S.cyc ≤ 10 ∧ S.len ≤ 4096 ∧ S.len % 16 = 0 ∧ S.turn < S.nc ∧ S.tk ≤ 10) ∧ (S.nc ≤ g.rc ∧ S.len ≤ g.mc ∧ g.rc ≤ 9223372036854775807 ∧ g.mc ≤ 9223372036854775807) ∧ ∀ o, S.mem o < 256 := by
  obtain ⟨V, kn, ka, k, -⟩ := h
  exact ⟨k.c, k.row, k.m, k.sz, k.rm, k.m8⟩
set_option maxRecDepth 100000 in
set_option maxHeartbeats 4000000 in
theorem ulow_w (h : Bu x g F N S) (l : Nat) (hl : l < 4294967296) (h16 : l % 16 = 0) (hh : hasB l S.len = true) (h8 : ∀ i, i < S.nc → ∀ t, ((S.c i).ln l).b t < 256) : Calls Tryd.prog 45 #[.pointer (some ⟨g.p, 0, none⟩), .agg #[.int .u32 l, .bool true]] x fun e w' => ∃ v, e = .returned v ∧ w'.ownsRow x.heap.size 84 4 v (S.toldN l 0 S.nc).length (flatS (S.toldN l 0 S.nc)) ∧ Bu w' g (fun j => F j ∨ v.ownBlock = some j) N (S.lowN l 0 S.nc) ∧ Turned (fun j => ¬ F j) x w' := by
  obtain ⟨W, hW⟩ : ∃ W, x.alloc (.cells #[.int .u32 l, .bool true] 65) = W := ⟨_, rfl⟩
  obtain ⟨bx, hbx⟩ : ∃ bx, x.heap.size = bx := ⟨_, rfl⟩
  have b1 : Below x.heap.size x W := by rw [← hW]; exact (Below.refl _ _).alloc (Nat.le_refl _) _
  have sW : W.heap.size = bx + 1 := by rw [← hW, ← hbx]; simp
  have cW : CellsAt 2 W bx (fun j => if j = 0 then .int .u32 l else .bool true) := by
    rw [← hW, ← hbx]
    refine ⟨by simp, fun o ho => ?_, fun o => World.frozen?_alloc_at _ _ _ _ rfl⟩
    rw [World.cell?_alloc_new, Array.getElem?_eq_getElem (by show o < 2; exact ho)]
    match o, ho with
    | 0, _ => rfl
    | 1, _ => rfl
    | q + 2, h => exact absurd h (by omega)
  have uW : Bu W g (fun j => F j ∨ j = bx ∨ (Value.slice none 0 0).ownBlock = some j) N S := (h.fresh b1).less (fun j hj => by
    rcases hj with hj | hj | hj
    · exact Or.inl hj
    · exact Or.inr (by omega)
    · simp [Value.ownBlock] at hj)
  obtain ⟨o1, o2, -, o4, o5, -⟩ := uW.own
  have c0 : W.cell? ⟨g.p, 0, none⟩ = some (.slice (some ⟨g.rb, 0, none⟩) S.nc g.rc) := o1.cell 0 (by decide)
  have hp := o1.here
  have hnc : S.nc ≤ 2 := o4.2.1
  have w1 : W.cell? ⟨bx, 1, none⟩ = some (.bool true) := cW.cell 1 (by decide)
  have wh := cW.here
  have HUW := Hid.in uW
  have HCW := Hid.in cW
  have HTW : Hid (Turned (fun j => ¬ F j) x W) := Turned.of_below b1
  have HSN := Hid.in (lowN_same S l 0)
  have HTL := Hid.in (told_le S l 0)
  have HYES : Hid (∀ i, S.lows l 0 i → (S.lowN l 0 (i + 1)) = ((S.lowN l 0 i).cput i ((S.c i).lowTo l 0)).wb ((S.c i).ln l) ∧ S.toldN l 0 (i + 1) = S.toldN l 0 i ++ [⟨i, l, ((S.c i).ln l).s, 0⟩]) := fun i h => low_yes h
  have HNO : Hid (∀ i, ¬ S.lows l 0 i → (S.lowN l 0 (i + 1)) = S.lowN l 0 i ∧ S.toldN l 0 (i + 1) = S.toldN l 0 i) := fun i h => low_no h
  have HL := Hid.in hl
  have H16 := Hid.in h16
  have HH := Hid.in hh
  have H8 := Hid.in h8
  have HSW := Hid.in sW
  have HF : Hid (∀ j, F j → j < x.heap.size) := fun j hj => h.here hj
  have hR0 : S.lowN l 0 0 = S := rfl
  have hT0 : S.toldN l 0 0 = [] := rfl
  have HBX := Hid.in hbx
  obtain ⟨R, hR⟩ : ∃ R, S.lowN l 0 = R := ⟨_, rfl⟩
  obtain ⟨T, hT⟩ : ∃ T, S.toldN l 0 = T := ⟨_, rfl⟩
  rw [hR] at HSN HYES HNO hR0 ⊢
  rw [hT] at HTL HYES HNO hT0 ⊢
  have HR0 := Hid.in hR0
  have HT0 := Hid.in hT0
  clear hR hT hR0 hT0 h hl h16 hh h8 b1 sW cW uW o1 o2 o4 o5
  go_enter Tryd.func45, Tryd.ntmps45
  go_upto_region 5 with fail
  try rw [hW]
  try rw [hbx]
  clear hW hbx
  go_wp2
  go_loopw [6, 18] (fun tv iv wr => ∃ i : Nat, iv = .int .i64 i ∧ i ≤ S.nc ∧ wr.ownsRow (bx + 1) 84 4 tv (T i).length (flatS (T i)) ∧ Bu wr g (fun j => F j ∨ j = bx ∨ tv.ownBlock = some j) N (R i) ∧ CellsAt 2 wr bx (fun j => if j = 0 then .int .u32 l else .bool true) ∧ Turned (fun j => ¬ F j) x wr) (fun _ iv _ => 3 - (intOf iv).toNat)
  case atStart => exact ⟨0, rfl, by omega, by rw [HT0.out]; exact World.ownsRow_nil _ _ _ _, by rw [HR0.out]; exact HUW.out, HCW.out, HTW.out⟩
  case round =>
    obtain ⟨i, rfl, hi, hrow, hu, hc, ht⟩ := hrel
    have HROW := Hid.in hrow
    have HU := Hid.in hu
    have HC := Hid.in hc
    have HT := Hid.in ht
    clear hrow hu hc ht HUW HCW HTW
    obtain ⟨s1, s2, s3, s4⟩ := HSN.out i
    by_cases hlt : i < S.nc
    · have hlt' : (i : Int) < (S.nc : Int) := by omega
      have hlt2 : i < (R i).nc := by rw [s2]; exact hlt
      obtain ⟨o1, o2, -, o4, o5, -⟩ := HU.out.own
      have r0 : wr.cell? ⟨g.rb, i, none⟩ = some (.pointer (some ⟨g.P i, 0, none⟩)) := o2.cell i hlt2
      have hr := o2.here
      have d5 : wr.cell? ⟨g.p, 5, none⟩ = some (.int .i64 S.turn) := by rw [← s1]; exact o1.cell 5 (by decide)
      have dp := o1.here
      have x0 : wr.cell? ⟨bx, 0, none⟩ = some (.int .u32 l) := HC.out.cell 0 (by decide)
      have xh := HC.out.here
      have HST := Hid.in (ucst HU.out i l hlt2 HL.out)
      rw [s4 i (Nat.le_refl _)] at HST
      have HS4 := Hid.in (s4 i (Nat.le_refl _))
      have HLT2 := Hid.in hlt2
      have HS3 := Hid.in s3
      clear o1 o2 o4 o5 s1 s2 s3 s4 hlt2
      have hnext : ∀ z, Below wr.heap.size wr z → ¬ S.lows l 0 i → ∃ j : Nat, Value.int .i64 ((i : Int) + 1) = .int .i64 j ∧ j ≤ S.nc ∧ z.ownsRow (bx + 1) 84 4 u6 (T j).length (flatS (T j)) ∧ Bu z g (fun q => F q ∨ q = bx ∨ u6.ownBlock = some q) N (R j) ∧ CellsAt 2 z bx (fun j => if j = 0 then .int .u32 l else .bool true) ∧ Turned (fun j => ¬ F j) x z := fun z hz hn => by
        obtain ⟨n1, n2⟩ := HNO.out i hn
        refine ⟨i + 1, by simp, by omega, ?_, ?_, HC.out.below hz, HT.out.trans (Turned.of_below hz)⟩
        · rw [n2]; exact own_turned HROW.out (Turned.of_below (Q := fun _ => False) hz) (fun _ _ q => q)
        · rw [n1]; exact HU.out.below hz
      have HNX := Hid.in hnext
      clear hnext
      by_cases ht : (i : Int) = (S.turn : Int)
      · have hq : ((i : Int) == (S.turn : Int)) = true := by simp; omega
        have HTT := Hid.in ht
        clear ht
        go_wp2
        go_roundw
        case rel => exact HNX.out _ (Below.refl _ _) (fun h => h.1 (by have := HTT.out; omega))
        case measure =>
          simp [intOf]
          omega
      · have hq : ((i : Int) == (S.turn : Int)) = false := by simp; omega
        have HTT := Hid.in ht
        clear ht
        by_cases hs : (S.c i).st l ≤ 0
        · have HSS := Hid.in hs
          obtain ⟨st, hst⟩ : ∃ st, (S.c i).st l = st := ⟨_, rfl⟩
          rw [hst] at HST hs
          have hs' : (st : Int) ≤ 0 := by omega
          clear hs hst
          go_wp2_with (go_at_call 36; refine HST.out.mono ?_; rintro e z ⟨rfl, hz⟩; have HZ := Hid.in hz; clear hz)
          go_roundw
          case rel => exact HNX.out _ HZ.out (fun h => by have := h.2; have := HSS.out; omega)
          case measure =>
            simp [intOf]
            omega
        · have HLW : Hid (S.lows l 0 i) := ⟨by have := HTT.out; omega, by omega⟩
          have HLO : Hid (∀ z, Below wr.heap.size wr z → Calls Tryd.prog 46 #[.pointer (some ⟨g.P i, 0, none⟩), .int .u32 l, .int .i64 0] z fun e w' => e = .returned (.tuple #[.agg ((S.c i).ln l).vs.toArray, .nilIface]) ∧ Bu w' g (fun q => F q ∨ q = bx ∨ u6.ownBlock = some q) N ((R i).cput i ((S.c i).lowTo l 0)) ∧ Turned (fun j => ¬ (F j ∨ j = bx ∨ u6.ownBlock = some j)) z w') := fun z hz => by
            have := ulower (HU.out.below hz) i l 0 HLT2.out HL.out H16.out (by omega) (by rw [HS4.out]; omega)
            rw [HS4.out] at this
            exact this
          have hbad : ((S.c i).ln l).s = 3 → (∀ t, ((S.c i).ln l).b t < 256) ∧ ((S.c i).ln l).a < 4294967296 ∧ ((S.c i).ln l).a % 16 = 0 ∧ hasB ((S.c i).ln l).a S.len = true := fun _ => by
            rw [ln_a (T := S.c i) (a := l) (by omega), lineOf_self H16.out]
            exact ⟨H8.out i hlt, HL.out, H16.out, HH.out⟩
          obtain ⟨e, he⟩ : ∃ e, (S.c i).ln l = e := ⟨_, rfl⟩
          obtain ⟨y1, y2⟩ := HYES.out i HLW.out
          rw [he] at HLO hbad y1 y2
          have HBAD := Hid.in hbad
          have HY1 := Hid.in y1
          have HY2 := Hid.in y2
          obtain ⟨st, hst⟩ : ∃ st, (S.c i).st l = st := ⟨_, rfl⟩
          rw [hst] at HST hs
          have hs' : ¬ ((st : Int) ≤ 0) := by omega
          clear hs hst y1 y2 hbad he HNX HNO HYES
          go_upto_region 10 with (first
            | (go_at_call 36; refine HST.out.mono ?_; rintro e' z ⟨rfl, hz⟩; have HZ := Hid.in hz; have xz := (hz.cell (p := ⟨bx, 0, none⟩) xh).trans x0; have xhz := Nat.lt_of_lt_of_le xh hz.size; clear hz)
            | (go_at_call 46; refine (HLO.out _ HZ.out).mono ?_; rintro e' w2 ⟨rfl, hu2, ht2⟩; have HU2 := Hid.in hu2; have HT2 := Hid.in ht2; clear hu2 ht2)
            | (refine st_new w2 e zl rfl w2.heap.size rfl rfl rfl _ _ rfl rfl rfl ?_))
          obtain ⟨X, hX⟩ : ∃ X, w2.alloc (.cells e.vs.toArray 114) = X := ⟨_, rfl⟩
          obtain ⟨lb, hlb⟩ : ∃ lb, w2.heap.size = lb := ⟨_, rfl⟩
          have b2 : Below w2.heap.size w2 X := by rw [← hX]; exact (Below.refl _ _).alloc (Nat.le_refl _) _
          have rX : X.rangeAt lb 0 e.vs := by rw [← hX, ← hlb]; exact range_new w2 e _
          have sX : X.heap.size = lb + 1 := by rw [← hX, ← hlb]; simp
          have uX : Bu X g (fun q => (F q ∨ q = bx ∨ u6.ownBlock = some q) ∨ (w2.heap.size ≤ q ∧ q < X.heap.size)) N _ := HU2.out.fresh b2
          rw [hlb, sX] at uX
          have uX2 := uX.less (F' := fun q => (F q ∨ q = bx ∨ u6.ownBlock = some q) ∨ q = lb) (fun z hz => by
            rcases hz with hz | hz
            · exact Or.inl hz
            · exact Or.inr (by omega))
          have tX : Turned (fun j => ¬ (F j ∨ j = bx ∨ u6.ownBlock = some j)) wr X := ((Turned.of_below HZ.out).trans HT2.out).trans (Turned.of_below b2)
          have rowX : X.ownsRow (bx + 1) 84 4 u6 (T i).length (flatS (T i)) := own_turned HROW.out tX (fun j hj q => q (Or.inr (Or.inr hj)))
          have cX : CellsAt 2 X bx (fun j => if j = 0 then .int .u32 l else .bool true) := tX.cells HC.out (fun q => q (Or.inr (Or.inl rfl)))
          have HWB := Hid.in (uback uX2 e (by
            show e.s = 3 → _
            intro q
            obtain ⟨z1, z2, z3, z4⟩ := HBAD.out q
            refine ⟨z1, z2, z3, ?_⟩
            show hasB e.a (R i).len = true
            rw [HS3.out]
            exact z4))
          have HTX := Hid.in tX
          have HRX := Hid.in rowX
          have HCX := Hid.in cX
          have HRR := Hid.in rX
          have HSX := Hid.in sX
          rw [hX, hlb]
          clear hX b2 uX uX2 tX rowX cX hlb xz xhz x0 xh sX
          go_upto_region 11 with (first
            | (refine ld_line lb 0 e rX rfl _ rfl rfl ?_)
            | (go_at_call 50; refine HWB.out.mono ?_; rintro e' w3 ⟨rfl, hu3, ht3⟩; have HU3 := Hid.in hu3; have HT3 := Hid.in ht3; clear hu3 ht3))
          have row3 := own_turned HRX.out HT3.out (fun j hj q => q (Or.inl (Or.inr (Or.inr hj))))
          have c3 := HT3.out.cells HCX.out (fun q => q (Or.inl (Or.inr (Or.inl rfl))))
          have x0 : w3.cell? ⟨bx, 0, none⟩ = some (.int .u32 l) := c3.cell 0 (by decide)
          have xh := c3.here
          have l1 : w3.cell? ⟨lb, 1, none⟩ = some (.int .i64 e.s) := (World.cell?_of_block (HT3.out.block lb (by rw [HSX.out]; omega) (fun q => q (Or.inr rfl)))).trans (HRR.out 1 _ rfl)
          have lh : lb < w3.heap.size := Nat.lt_of_lt_of_le (by rw [HSX.out]; omega) HT3.out.size
          have tl := HTL.out i
          have h31 : bx + 1 ≤ w3.heap.size := by have := c3.here; omega
          obtain ⟨g2, cap, z4, hrun, r1, r2, r3⟩ := app_snp w3 u6 (T i) ⟨i, l, e.s, 0⟩ row3 (by omega) h31
          have HR1 := Hid.in r1
          have HR2 := Hid.in r2
          have HR3 := Hid.in r3
          have HC3 := Hid.in c3
          clear rX row3 c3 r1 r2 r3 tl h31
          go_wp2_with (at_builtin; refine wpList_append_run rfl rfl rfl rfl hrun ?_)
          go_roundw
          case rel =>
            refine ⟨i + 1, by simp, by omega, ?_, ?_, ?_, ?_⟩
            · rw [HY2.out, List.length_append]
              exact HR1.out
            · rw [HY1.out]
              have u4 := HU3.out.turn HR2.out (fun z hz _ => Or.inl (Or.inr (Or.inr hz)))
              refine u4.less (fun z hz => ?_)
              rcases hz with hz | hz | hz
              · exact Or.inl (Or.inl (Or.inl hz))
              · exact Or.inl (Or.inl (Or.inr (Or.inl hz)))
              · rcases HR3.out with q | ⟨j, q1, q2⟩
                · exact Or.inl (Or.inl (Or.inr (Or.inr (by rw [← q]; exact hz))))
                · rw [q1] at hz
                  have := (own_base HR1.out j q1).2
                  obtain rfl : j = z := by simpa using hz
                  exact Or.inr ⟨q2, this⟩
            · exact HR2.out.cells HC3.out (fun q => by have := (own_base HROW.out bx q).1; omega)
            · have m1 : Turned (fun j => ¬ F j) wr X := HTX.out.mono (fun j q f => q (Or.inl f))
              have m2 : Turned (fun j => ¬ F j) X w3 := HT3.out.mono (fun j q f => q (Or.inl (Or.inl f)))
              refine ((HT.out.trans m1).trans m2).trans (HR2.out.mono (fun j q f => ?_))
              have := (own_base HROW.out j q).1
              have f1 := HBX.out
              have f2 := HF.out j f
              omega
          case measure =>
            simp [intOf]
            omega
    · obtain rfl : i = S.nc := by omega
      clear s1 s2 s3 s4
      go_wp2
      go_ret
      refine ⟨u6, rfl, ?_, HU.out.less (fun j hj => ?_), HT.out⟩
      · rw [HBX.out]
        exact own_lower HROW.out (by omega)
      · rcases hj with hj | hj
        · exact Or.inl hj
        · exact Or.inr (Or.inr hj)
set_option maxRecDepth 100000 in
set_option maxHeartbeats 4000000 in
theorem ulow_r (h : Bu x g F N S) (l : Nat) (hl : l < 4294967296) (h16 : l % 16 = 0) (hh : hasB l S.len = true) (h8 : ∀ i, i < S.nc → ∀ t, ((S.c i).ln l).b t < 256) : Calls Tryd.prog 45 #[.pointer (some ⟨g.p, 0, none⟩), .agg #[.int .u32 l, .bool false]] x fun e w' => ∃ v, e = .returned v ∧ w'.ownsRow x.heap.size 84 4 v (S.toldN l 1 S.nc).length (flatS (S.toldN l 1 S.nc)) ∧ Bu w' g (fun j => F j ∨ v.ownBlock = some j) N (S.lowN l 1 S.nc) ∧ Turned (fun j => ¬ F j) x w' := by
  obtain ⟨W, hW⟩ : ∃ W, x.alloc (.cells #[.int .u32 l, .bool false] 65) = W := ⟨_, rfl⟩
  obtain ⟨bx, hbx⟩ : ∃ bx, x.heap.size = bx := ⟨_, rfl⟩
  have b1 : Below x.heap.size x W := by rw [← hW]; exact (Below.refl _ _).alloc (Nat.le_refl _) _
  have sW : W.heap.size = bx + 1 := by rw [← hW, ← hbx]; simp
  have cW : CellsAt 2 W bx (fun j => if j = 0 then .int .u32 l else .bool false) := by
    rw [← hW, ← hbx]
    refine ⟨by simp, fun o ho => ?_, fun o => World.frozen?_alloc_at _ _ _ _ rfl⟩
    rw [World.cell?_alloc_new, Array.getElem?_eq_getElem (by show o < 2; exact ho)]
    match o, ho with
    | 0, _ => rfl
    | 1, _ => rfl
    | q + 2, h => exact absurd h (by omega)
  have uW : Bu W g (fun j => F j ∨ j = bx ∨ (Value.slice none 0 0).ownBlock = some j) N S := (h.fresh b1).less (fun j hj => by
    rcases hj with hj | hj | hj
    · exact Or.inl hj
    · exact Or.inr (by omega)
    · simp [Value.ownBlock] at hj)
  obtain ⟨o1, o2, -, o4, o5, -⟩ := uW.own
  have c0 : W.cell? ⟨g.p, 0, none⟩ = some (.slice (some ⟨g.rb, 0, none⟩) S.nc g.rc) := o1.cell 0 (by decide)
  have hp := o1.here
  have hnc : S.nc ≤ 2 := o4.2.1
  have w1 : W.cell? ⟨bx, 1, none⟩ = some (.bool false) := cW.cell 1 (by decide)
  have wh := cW.here
  have HUW := Hid.in uW
  have HCW := Hid.in cW
  have HTW : Hid (Turned (fun j => ¬ F j) x W) := Turned.of_below b1
  have HSN := Hid.in (lowN_same S l 1)
  have HTL := Hid.in (told_le S l 1)
  have HYES : Hid (∀ i, S.lows l 1 i → (S.lowN l 1 (i + 1)) = ((S.lowN l 1 i).cput i ((S.c i).lowTo l 1)).wb ((S.c i).ln l) ∧ S.toldN l 1 (i + 1) = S.toldN l 1 i ++ [⟨i, l, ((S.c i).ln l).s, 1⟩]) := fun i h => low_yes h
  have HNO : Hid (∀ i, ¬ S.lows l 1 i → (S.lowN l 1 (i + 1)) = S.lowN l 1 i ∧ S.toldN l 1 (i + 1) = S.toldN l 1 i) := fun i h => low_no h
  have HL := Hid.in hl
  have H16 := Hid.in h16
  have HH := Hid.in hh
  have H8 := Hid.in h8
  have HSW := Hid.in sW
  have HF : Hid (∀ j, F j → j < x.heap.size) := fun j hj => h.here hj
  have hR0 : S.lowN l 1 0 = S := rfl
  have hT0 : S.toldN l 1 0 = [] := rfl
  have HBX := Hid.in hbx
  obtain ⟨R, hR⟩ : ∃ R, S.lowN l 1 = R := ⟨_, rfl⟩
  obtain ⟨T, hT⟩ : ∃ T, S.toldN l 1 = T := ⟨_, rfl⟩
  rw [hR] at HSN HYES HNO hR0 ⊢
  rw [hT] at HTL HYES HNO hT0 ⊢
  have HR0 := Hid.in hR0
  have HT0 := Hid.in hT0
  clear hR hT hR0 hT0 h hl h16 hh h8 b1 sW cW uW o1 o2 o4 o5
  go_enter Tryd.func45, Tryd.ntmps45
  go_upto_region 5 with fail
  try rw [hW]
  try rw [hbx]
  clear hW hbx
  go_wp2
  go_loopw [6, 18] (fun tv iv wr => ∃ i : Nat, iv = .int .i64 i ∧ i ≤ S.nc ∧ wr.ownsRow (bx + 1) 84 4 tv (T i).length (flatS (T i)) ∧ Bu wr g (fun j => F j ∨ j = bx ∨ tv.ownBlock = some j) N (R i) ∧ CellsAt 2 wr bx (fun j => if j = 0 then .int .u32 l else .bool false) ∧ Turned (fun j => ¬ F j) x wr) (fun _ iv _ => 3 - (intOf iv).toNat)
  case atStart => exact ⟨0, rfl, by omega, by rw [HT0.out]; exact World.ownsRow_nil _ _ _ _, by rw [HR0.out]; exact HUW.out, HCW.out, HTW.out⟩
  case round =>
    obtain ⟨i, rfl, hi, hrow, hu, hc, ht⟩ := hrel
    have HROW := Hid.in hrow
    have HU := Hid.in hu
    have HC := Hid.in hc
    have HT := Hid.in ht
    clear hrow hu hc ht HUW HCW HTW
    obtain ⟨s1, s2, s3, s4⟩ := HSN.out i
    by_cases hlt : i < S.nc
    · have hlt' : (i : Int) < (S.nc : Int) := by omega
      have hlt2 : i < (R i).nc := by rw [s2]; exact hlt
      obtain ⟨o1, o2, -, o4, o5, -⟩ := HU.out.own
      have r0 : wr.cell? ⟨g.rb, i, none⟩ = some (.pointer (some ⟨g.P i, 0, none⟩)) := o2.cell i hlt2
      have hr := o2.here
      have d5 : wr.cell? ⟨g.p, 5, none⟩ = some (.int .i64 S.turn) := by rw [← s1]; exact o1.cell 5 (by decide)
      have dp := o1.here
      have x0 : wr.cell? ⟨bx, 0, none⟩ = some (.int .u32 l) := HC.out.cell 0 (by decide)
      have xh := HC.out.here
      have HST := Hid.in (ucst HU.out i l hlt2 HL.out)
      rw [s4 i (Nat.le_refl _)] at HST
      have HS4 := Hid.in (s4 i (Nat.le_refl _))
      have HLT2 := Hid.in hlt2
      have HS3 := Hid.in s3
      clear o1 o2 o4 o5 s1 s2 s3 s4 hlt2
      have hnext : ∀ z, Below wr.heap.size wr z → ¬ S.lows l 1 i → ∃ j : Nat, Value.int .i64 ((i : Int) + 1) = .int .i64 j ∧ j ≤ S.nc ∧ z.ownsRow (bx + 1) 84 4 u6 (T j).length (flatS (T j)) ∧ Bu z g (fun q => F q ∨ q = bx ∨ u6.ownBlock = some q) N (R j) ∧ CellsAt 2 z bx (fun j => if j = 0 then .int .u32 l else .bool false) ∧ Turned (fun j => ¬ F j) x z := fun z hz hn => by
        obtain ⟨n1, n2⟩ := HNO.out i hn
        refine ⟨i + 1, by simp, by omega, ?_, ?_, HC.out.below hz, HT.out.trans (Turned.of_below hz)⟩
        · rw [n2]; exact own_turned HROW.out (Turned.of_below (Q := fun _ => False) hz) (fun _ _ q => q)
        · rw [n1]; exact HU.out.below hz
      have HNX := Hid.in hnext
      clear hnext
      by_cases ht : (i : Int) = (S.turn : Int)
      · have hq : ((i : Int) == (S.turn : Int)) = true := by simp; omega
        have HTT := Hid.in ht
        clear ht
        go_wp2
        go_roundw
        case rel => exact HNX.out _ (Below.refl _ _) (fun h => h.1 (by have := HTT.out; omega))
        case measure =>
          simp [intOf]
          omega
      · have hq : ((i : Int) == (S.turn : Int)) = false := by simp; omega
        have HTT := Hid.in ht
        clear ht
        by_cases hs : (S.c i).st l ≤ 1
        · have HSS := Hid.in hs
          obtain ⟨st, hst⟩ : ∃ st, (S.c i).st l = st := ⟨_, rfl⟩
          rw [hst] at HST hs
          have hs' : (st : Int) ≤ 1 := by omega
          clear hs hst
          go_wp2_with (go_at_call 36; refine HST.out.mono ?_; rintro e z ⟨rfl, hz⟩; have HZ := Hid.in hz; clear hz)
          go_roundw
          case rel => exact HNX.out _ HZ.out (fun h => by have := h.2; have := HSS.out; omega)
          case measure =>
            simp [intOf]
            omega
        · have HLW : Hid (S.lows l 1 i) := ⟨by have := HTT.out; omega, by omega⟩
          have HLO : Hid (∀ z, Below wr.heap.size wr z → Calls Tryd.prog 46 #[.pointer (some ⟨g.P i, 0, none⟩), .int .u32 l, .int .i64 1] z fun e w' => e = .returned (.tuple #[.agg ((S.c i).ln l).vs.toArray, .nilIface]) ∧ Bu w' g (fun q => F q ∨ q = bx ∨ u6.ownBlock = some q) N ((R i).cput i ((S.c i).lowTo l 1)) ∧ Turned (fun j => ¬ (F j ∨ j = bx ∨ u6.ownBlock = some j)) z w') := fun z hz => by
            have := ulower (HU.out.below hz) i l 1 HLT2.out HL.out H16.out (by omega) (by rw [HS4.out]; omega)
            rw [HS4.out] at this
            exact this
          have hbad : ((S.c i).ln l).s = 3 → (∀ t, ((S.c i).ln l).b t < 256) ∧ ((S.c i).ln l).a < 4294967296 ∧ ((S.c i).ln l).a % 16 = 0 ∧ hasB ((S.c i).ln l).a S.len = true := fun _ => by
            rw [ln_a (T := S.c i) (a := l) (by omega), lineOf_self H16.out]
            exact ⟨H8.out i hlt, HL.out, H16.out, HH.out⟩
          obtain ⟨e, he⟩ : ∃ e, (S.c i).ln l = e := ⟨_, rfl⟩
          obtain ⟨y1, y2⟩ := HYES.out i HLW.out
          rw [he] at HLO hbad y1 y2
          have HBAD := Hid.in hbad
          have HY1 := Hid.in y1
          have HY2 := Hid.in y2
          obtain ⟨st, hst⟩ : ∃ st, (S.c i).st l = st := ⟨_, rfl⟩
          rw [hst] at HST hs
          have hs' : ¬ ((st : Int) ≤ 1) := by omega
          clear hs hst y1 y2 hbad he HNX HNO HYES
          go_upto_region 10 with (first
            | (go_at_call 36; refine HST.out.mono ?_; rintro e' z ⟨rfl, hz⟩; have HZ := Hid.in hz; have xz := (hz.cell (p := ⟨bx, 0, none⟩) xh).trans x0; have xhz := Nat.lt_of_lt_of_le xh hz.size; clear hz)
            | (go_at_call 46; refine (HLO.out _ HZ.out).mono ?_; rintro e' w2 ⟨rfl, hu2, ht2⟩; have HU2 := Hid.in hu2; have HT2 := Hid.in ht2; clear hu2 ht2)
            | (refine st_new w2 e zl rfl w2.heap.size rfl rfl rfl _ _ rfl rfl rfl ?_))
          obtain ⟨X, hX⟩ : ∃ X, w2.alloc (.cells e.vs.toArray 114) = X := ⟨_, rfl⟩
          obtain ⟨lb, hlb⟩ : ∃ lb, w2.heap.size = lb := ⟨_, rfl⟩
          have b2 : Below w2.heap.size w2 X := by rw [← hX]; exact (Below.refl _ _).alloc (Nat.le_refl _) _
          have rX : X.rangeAt lb 0 e.vs := by rw [← hX, ← hlb]; exact range_new w2 e _
          have sX : X.heap.size = lb + 1 := by rw [← hX, ← hlb]; simp
          have uX : Bu X g (fun q => (F q ∨ q = bx ∨ u6.ownBlock = some q) ∨ (w2.heap.size ≤ q ∧ q < X.heap.size)) N _ := HU2.out.fresh b2
          rw [hlb, sX] at uX
          have uX2 := uX.less (F' := fun q => (F q ∨ q = bx ∨ u6.ownBlock = some q) ∨ q = lb) (fun z hz => by
            rcases hz with hz | hz
            · exact Or.inl hz
            · exact Or.inr (by omega))
          have tX : Turned (fun j => ¬ (F j ∨ j = bx ∨ u6.ownBlock = some j)) wr X := ((Turned.of_below HZ.out).trans HT2.out).trans (Turned.of_below b2)
          have rowX : X.ownsRow (bx + 1) 84 4 u6 (T i).length (flatS (T i)) := own_turned HROW.out tX (fun j hj q => q (Or.inr (Or.inr hj)))
          have cX : CellsAt 2 X bx (fun j => if j = 0 then .int .u32 l else .bool false) := tX.cells HC.out (fun q => q (Or.inr (Or.inl rfl)))
          have HWB := Hid.in (uback uX2 e (by
            show e.s = 3 → _
            intro q
            obtain ⟨z1, z2, z3, z4⟩ := HBAD.out q
            refine ⟨z1, z2, z3, ?_⟩
            show hasB e.a (R i).len = true
            rw [HS3.out]
            exact z4))
          have HTX := Hid.in tX
          have HRX := Hid.in rowX
          have HCX := Hid.in cX
          have HRR := Hid.in rX
          have HSX := Hid.in sX
          rw [hX, hlb]
          clear hX b2 uX uX2 tX rowX cX hlb xz xhz x0 xh sX
          go_upto_region 11 with (first
            | (refine ld_line lb 0 e rX rfl _ rfl rfl ?_)
            | (go_at_call 50; refine HWB.out.mono ?_; rintro e' w3 ⟨rfl, hu3, ht3⟩; have HU3 := Hid.in hu3; have HT3 := Hid.in ht3; clear hu3 ht3))
          have row3 := own_turned HRX.out HT3.out (fun j hj q => q (Or.inl (Or.inr (Or.inr hj))))
          have c3 := HT3.out.cells HCX.out (fun q => q (Or.inl (Or.inr (Or.inl rfl))))
          have x0 : w3.cell? ⟨bx, 0, none⟩ = some (.int .u32 l) := c3.cell 0 (by decide)
          have xh := c3.here
          have l1 : w3.cell? ⟨lb, 1, none⟩ = some (.int .i64 e.s) := (World.cell?_of_block (HT3.out.block lb (by rw [HSX.out]; omega) (fun q => q (Or.inr rfl)))).trans (HRR.out 1 _ rfl)
          have lh : lb < w3.heap.size := Nat.lt_of_lt_of_le (by rw [HSX.out]; omega) HT3.out.size
          have tl := HTL.out i
          have h31 : bx + 1 ≤ w3.heap.size := by have := c3.here; omega
          obtain ⟨g2, cap, z4, hrun, r1, r2, r3⟩ := app_snp w3 u6 (T i) ⟨i, l, e.s, 1⟩ row3 (by omega) h31
          have HR1 := Hid.in r1
          have HR2 := Hid.in r2
          have HR3 := Hid.in r3
          have HC3 := Hid.in c3
          clear rX row3 c3 r1 r2 r3 tl h31
          go_wp2_with (at_builtin; refine wpList_append_run rfl rfl rfl rfl hrun ?_)
          go_roundw
          case rel =>
            refine ⟨i + 1, by simp, by omega, ?_, ?_, ?_, ?_⟩
            · rw [HY2.out, List.length_append]
              exact HR1.out
            · rw [HY1.out]
              have u4 := HU3.out.turn HR2.out (fun z hz _ => Or.inl (Or.inr (Or.inr hz)))
              refine u4.less (fun z hz => ?_)
              rcases hz with hz | hz | hz
              · exact Or.inl (Or.inl (Or.inl hz))
              · exact Or.inl (Or.inl (Or.inr (Or.inl hz)))
              · rcases HR3.out with q | ⟨j, q1, q2⟩
                · exact Or.inl (Or.inl (Or.inr (Or.inr (by rw [← q]; exact hz))))
                · rw [q1] at hz
                  have := (own_base HR1.out j q1).2
                  obtain rfl : j = z := by simpa using hz
                  exact Or.inr ⟨q2, this⟩
            · exact HR2.out.cells HC3.out (fun q => by have := (own_base HROW.out bx q).1; omega)
            · have m1 : Turned (fun j => ¬ F j) wr X := HTX.out.mono (fun j q f => q (Or.inl f))
              have m2 : Turned (fun j => ¬ F j) X w3 := HT3.out.mono (fun j q f => q (Or.inl (Or.inl f)))
              refine ((HT.out.trans m1).trans m2).trans (HR2.out.mono (fun j q f => ?_))
              have := (own_base HROW.out j q).1
              have f1 := HBX.out
              have f2 := HF.out j f
              omega
          case measure =>
            simp [intOf]
            omega
    · obtain rfl : i = S.nc := by omega
      clear s1 s2 s3 s4
      go_wp2
      go_ret
      refine ⟨u6, rfl, ?_, HU.out.less (fun j hj => ?_), HT.out⟩
      · rw [HBX.out]
        exact own_lower HROW.out (by omega)
      · rcases hj with hj | hj
        · exact Or.inl hj
        · exact Or.inr (Or.inr hj)
end
end Go.Proofs.YtlogdmnhngbkaaaDoor
