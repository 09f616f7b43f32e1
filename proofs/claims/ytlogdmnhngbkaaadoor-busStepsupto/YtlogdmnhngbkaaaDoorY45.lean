import Derived.Test.YtlogdmnhngbkaaaDoorY43
import Derived.Test.YtlogdmnhngbkaaaDoorY44
import Derived.Deep.RegionHeld3
/-
  BUS' LAW BusSteps: made: both are made.
-/
namespace Go.Proofs.YtlogdmnhngbkaaaDoor
open Go Go.RowKit
/-- what is made -/
def PB (E : Int) (X : World) (S : BS) (pb : Option Addr) (w' : World) : Prop := (E ≠ 0 ∧ pb = none) ∨ (E = 0 ∧ ∃ gp : Bn, pb = some ⟨gp.p, 0, none⟩ ∧ Bu w' gp (fun j => j < X.heap.size) 0 S)
def RB (E : Int) (Y : World) (S : BS) (rb : Option Addr) (w' : World) : Prop := (E ≠ 0 ∧ rb = none) ∨ (E = 0 ∧ ∃ gr : Rn, rb = some ⟨gr.p, 0, none⟩ ∧ (S.len = 0 → gr.mq = none ∧ gr.mc = 0) ∧ Ru w' gr (fun j => j < Y.heap.size) S)
/-- both News -/
theorem both_new (X : World) (sv : Value) (B n : Nat) (fs fw : Nat → Int) (cyc : Int) (ab len m : Nat) (f : Nat → Nat) (hr : X.ownsRow B 56 2 sv n (shL fs fw n)) (h64 : ∀ i, i < n → -9223372036854775808 ≤ fs i ∧ fs i ≤ 9223372036854775807) (hc : CellsAt m X ab (allM len f 0)) (hm : len ≤ m) (hf : ∀ o, f o < 256) : ∃ (E : Int) (S : BS), (E = 0 → Iv S f) ∧ S.len = len ∧
    Calls Tryd.prog 22 #[sv, .int .i64 cyc, .slice (some ⟨ab, 0, none⟩) len m] X (fun e w' => ∃ pb, e = .returned (.tuple #[.pointer pb, errOf E]) ∧ PB E X S pb w' ∧ Below X.heap.size X w') ∧
    ∀ (Y : World) (sp wp : Option Addr) (sc wc : Nat) (dq : Option Addr) (dc : Nat), IntsB Y sp n fs → IntsB Y wp n fw → HandB Y dq len f → (dq = none → dc = 0) → Calls Tryd.prog 23 #[.slice sp n sc, .slice wp n wc, .int .i64 cyc, .slice dq len dc] Y (fun e w' => ∃ rb, e = .returned (.tuple #[.pointer rb, .int .i64 E]) ∧ RB E Y S rb w' ∧ Below Y.heap.size Y w') := by
  obtain ⟨q, cap, rfl, hq⟩ := own_slice hr
  have hD : HandB X (some ⟨ab, 0, none⟩) len f := fun i hi => ⟨ab, 0, rfl, hc.here, by
    rw [Nat.zero_add, hc.cell i (by omega)]
    unfold allM
    rw [if_neg (by omega), if_pos hi]⟩
  by_cases hcf : 1 ≤ n ∧ n ≤ 2 ∧ 0 ≤ cyc ∧ cyc ≤ 10
  · obtain ⟨n1, n2, c1, c2⟩ := hcf
    obtain ⟨cy, rfl⟩ : ∃ cy : Nat, cyc = cy := ⟨cyc.toNat, by omega⟩
    obtain ⟨g, rfl⟩ := hq (by omega)
    have hcells : ∀ i, i < n → X.cell? ⟨g, i * 2, none⟩ = some (.int .i64 (fs i)) ∧ X.cell? ⟨g, i * 2 + 1, none⟩ = some (.int .i64 (fw i)) := fun i hi => by
      obtain ⟨e1, e2⟩ := shL_at fs fw n i hi
      exact ⟨by rw [World.ownsRow.cellAt hr (i * 2) (by omega)]; exact e1, by rw [World.ownsRow.cellAt hr (i * 2 + 1) (by omega)]; exact e2⟩
    have gh := (own_base hr g rfl).2
    have hp := unewG X g cap n fs fw cy (some ⟨ab, 0, none⟩) len m f ⟨n1, n2⟩ hcells h64 gh (by omega) hD (fun h => by cases h) hf
    have hq2 := fun (Y : World) (sp wp : Option Addr) (sc wc : Nat) (dq : Option Addr) (dc : Nat) (a1 : IntsB Y sp n fs) (a2 : IntsB Y wp n fw) (a3 : HandB Y dq len f) (a4 : dq = none → dc = 0) => rnewG Y sp wp n sc wc fs fw cy dq len dc f (by omega) a1 a2 (by omega) a3 a4 hf
    by_cases hsh : ∀ i, i < n → shOk fs fw i
    · by_cases hd : dOk len
      · refine ⟨0, newG n cy (toN fs) (toN fw) len f, fun _ => Iv.start n cy _ _ len f ⟨n1, n2⟩ ⟨hd.2, hd.1⟩ (fun i hi => by have := (sh_nat (hsh i hi)).2.2.1; omega) (fun i hi => (sh_nat (hsh i hi)).2.2.2.1) hf, rfl, hp.mono ?_, fun Y sp wp sc wc dq dc a1 a2 a3 a4 => (hq2 Y sp wp sc wc dq dc a1 a2 a3 a4).mono ?_⟩
        · rintro e w' ⟨b, h | h | h⟩
          · obtain ⟨⟨i, hi, hn⟩, -⟩ := h
            exact absurd (hsh i hi) hn
          · exact absurd hd h.2.1
          · obtain ⟨-, -, gp, rfl, hb⟩ := h
            exact ⟨_, rfl, Or.inr ⟨rfl, gp, rfl, hb⟩, b⟩
        · rintro e w' ⟨b, h | h | h⟩
          · obtain ⟨⟨i, hi, hn⟩, -⟩ := h
            exact absurd (hsh i hi) hn
          · exact absurd hd h.2.1
          · obtain ⟨-, -, gr, rfl, h0, hb⟩ := h
            exact ⟨_, rfl, Or.inr ⟨rfl, gr, rfl, h0, hb⟩, b⟩
      · refine ⟨1, newG n cy (toN fs) (toN fw) len f, fun h => absurd h (by decide), rfl, hp.mono ?_, fun Y sp wp sc wc dq dc a1 a2 a3 a4 => (hq2 Y sp wp sc wc dq dc a1 a2 a3 a4).mono ?_⟩
        · rintro e w' ⟨b, h | h | h⟩
          · obtain ⟨⟨i, hi, hn⟩, -⟩ := h
            exact absurd (hsh i hi) hn
          · obtain ⟨-, -, rfl⟩ := h
            exact ⟨none, by rw [errOf_ne (by decide)], Or.inl ⟨by decide, rfl⟩, b⟩
          · exact absurd h.2.1 hd
        · rintro e w' ⟨b, h | h | h⟩
          · obtain ⟨⟨i, hi, hn⟩, -⟩ := h
            exact absurd (hsh i hi) hn
          · obtain ⟨-, -, rfl⟩ := h
            exact ⟨none, rfl, Or.inl ⟨by decide, rfl⟩, b⟩
          · exact absurd h.2.1 hd
    · refine ⟨2, newG n cy (toN fs) (toN fw) len f, fun h => absurd h (by decide), rfl, hp.mono ?_, fun Y sp wp sc wc dq dc a1 a2 a3 a4 => (hq2 Y sp wp sc wc dq dc a1 a2 a3 a4).mono ?_⟩
      · rintro e w' ⟨b, h | h | h⟩
        · obtain ⟨-, rfl⟩ := h
          exact ⟨none, by rw [errOf_ne (by decide)], Or.inl ⟨by decide, rfl⟩, b⟩
        · exact absurd h.1 hsh
        · exact absurd h.1 hsh
      · rintro e w' ⟨b, h | h | h⟩
        · obtain ⟨-, rfl⟩ := h
          exact ⟨none, rfl, Or.inl ⟨by decide, rfl⟩, b⟩
        · exact absurd h.1 hsh
        · exact absurd h.1 hsh
  · refine ⟨2, newG n 0 (toN fs) (toN fw) len f, fun h => absurd h (by decide), rfl, (unew_conf X q n cap cyc (some ⟨ab, 0, none⟩) len m hcf).mono ?_, fun Y sp wp sc wc dq dc _ _ _ _ => (rnew_conf Y sp wp n sc n wc cyc dq len dc hcf).mono ?_⟩
    · rintro e w' ⟨rfl, rfl⟩
      exact ⟨none, by rw [errOf_ne (by decide)], Or.inl ⟨by decide, rfl⟩, Below.refl _ _⟩
    · rintro e w' ⟨rfl, rfl⟩
      exact ⟨none, rfl, Or.inl ⟨by decide, rfl⟩, Below.refl _ _⟩
/-- a copy into a longer row -/
theorem mcopy70 (x : World) (q : Option Addr) (n cc m : Nat) (g : Nat → Nat) (hD : HandB x q n g) (hq0 : q = none → cc = 0) (hm : n ≤ m) : ∃ y, (Builtin.copy_ #[23, 23] 3 #[.slice (some ⟨x.heap.size, 0, none⟩) m m, .slice q n cc]).run Tryd.prog (x.alloc (.cells (madeCells #[.int .u8 0] m) 5)) = .ok (goInt n) y ∧ Below x.heap.size x y ∧ CellsAt m y x.heap.size (allM n g 0) := by
  have bA : Below x.heap.size x (x.alloc (.cells (madeCells #[.int .u8 0] m) 5)) := (Below.refl _ _).alloc (Nat.le_refl _) _
  have hs : (Tryd.prog.info? 5).map (·.size) = some 1 := by kernel_rfl
  have hg : (x.alloc (.cells (madeCells #[.int .u8 0] m) 5)).heap[x.heap.size]? = some (.cells (madeCells #[.int .u8 0] m) 5 (0, 0)) := by
    show (x.heap.push _)[x.heap.size]? = _
    simp
  have hz : (madeCells #[Value.int .u8 0] m).size = m := size_madeCells _ _
  have hzc : ∀ o, o < m → (madeCells #[Value.int .u8 0] m)[o]? = some (.int .u8 0) := fun o ho => made_cell _ m o ho
  cases q with
  | none =>
    obtain rfl : n = 0 := by
      rcases Nat.eq_zero_or_pos n with h | h
      · exact h
      · obtain ⟨c, o, h1, -⟩ := hD 0 h
        cases h1
    obtain rfl := hq0 rfl
    refine ⟨_, run_copy_nil (P := Tryd.prog) _ 23 23 3 5 ⟨x.heap.size, 0, none⟩ m m Tryd.underlying23 (by cases h : Tryd.prog.info? 5 <;> simp_all), bA, by simp, fun o ho => ?_, frz hg⟩
    rw [World.cell?_alloc_new, hzc o ho]
    unfold allM
    rw [if_neg (by omega), if_neg (by omega)]
  | some a =>
    have hD' := hD.below bA
    have hr := run_copy_row (P := Tryd.prog) _ 23 23 3 5 x.heap.size 0 m m a n cc _ _ ((List.range n).map fun i => .int .u8 (g i : Nat)) Tryd.underlying23 hs hg (by rw [List.length_map, List.length_range]; exact (Nat.min_eq_left hm).symm) (fun j u hj => by
      have hjn : j < n := by
        have := (List.getElem?_eq_some_iff.1 hj).1
        simpa using this
      rw [List.getElem?_map, List.getElem?_range hjn] at hj
      obtain ⟨c, o, h1, h2, h3⟩ := hD' j hjn
      obtain rfl := Option.some.inj h1
      rw [Addr.add_lit, h3]
      exact hj) (by simp [hz]; exact hm) (by
      intro u hu
      obtain ⟨i, _, rfl⟩ := List.mem_map.1 hu
      rfl)
    refine ⟨_, by simpa using hr, below_setR bA (Nat.le_refl _) _, ?_, fun o ho => ?_, fun o => ?_⟩
    · exact (Array.getElem?_eq_some_iff.1 (setRow_heap _ _ _ _ _ _ hg)).1
    · rw [cell_setRow_same _ _ o _ _ _ _ hg]
      unfold allM
      rw [if_neg (by omega)]
      by_cases h : o < n
      · rw [if_pos h]
        simp [List.getElem?_append, h]
      · rw [if_neg h]
        have := hzc o ho
        simp [List.getElem?_append, h]
        rw [show n + (o - n) = o by omega]
        exact this
    · exact frz (setRow_heap _ _ _ _ _ _ hg) o
end Go.Proofs.YtlogdmnhngbkaaaDoor
/-
  BUS' LAW BusSteps: made, the walk.
-/
namespace Go.Proofs.YtlogdmnhngbkaaaDoor
open Go Go.RowKit
/-- what made leaves -/
def MadeP (w : World) (e : Ending) (w' : World) : Prop := Below w.heap.size w w' ∧ (e = .returned (.tuple #[.pointer none, .pointer none, .bool true]) ∨ ∃ (gp : Bn) (gr : Rn) (S : BS) (f : Nat → Nat), e = .returned (.tuple #[.pointer (some ⟨gp.p, 0, none⟩), .pointer (some ⟨gr.p, 0, none⟩), .bool true]) ∧ Two w' gp gr (fun j => j < w.heap.size) 0 S S ∧ Iv S f ∧ (S.len = 0 → gr.mq = none ∧ gr.mc = 0))
theorem IntsB.below {x y : World} {p : Option Addr} {n : Nat} {f : Nat → Int} (h : IntsB x p n f) (b : Below x.heap.size x y) : IntsB y p n f := fun i hi => by
  obtain ⟨c, o, h1, h2, h3⟩ := h i hi
  exact ⟨c, o, h1, Nat.lt_of_lt_of_le h2 b.size, (b.cell (p := ⟨c, o + i, none⟩) h2).trans h3⟩
theorem IntsB.less {x : World} {p : Option Addr} {n k : Nat} {f : Nat → Int} (h : IntsB x p n f) (hk : k ≤ n) : IntsB x p k f := fun i hi => h i (by omega)
theorem two_made {X Y1 W2 : World} {gp : Bn} {gr : Rn} {S : BS} (hb : Bu Y1 gp (fun j => j < X.heap.size) 0 S) (h1 : X.heap.size ≤ Y1.heap.size) (hr : Ru W2 gr (fun j => j < Y1.heap.size) S) (b : Below Y1.heap.size Y1 W2) : Two W2 gp gr (fun j => j < X.heap.size) 0 S S := by
  refine ⟨fun z => Y1.heap.size ≤ z ∧ z < W2.heap.size, fun z => z < Y1.heap.size, (hb.fresh b).less (fun z hz => hz), hr.less (fun z hz => ?_), fun z hz => ?_⟩
  · rcases hz with hz | hz
    · have hz : z < X.heap.size := hz
      show z < Y1.heap.size
      omega
    · exact hz
  · by_cases q : z < Y1.heap.size
    · exact Or.inr (Or.inr q)
    · exact Or.inr (Or.inl ⟨by omega, hz⟩)
set_option maxRecDepth 100000 in
set_option maxHeartbeats 4000000 in
theorem mreg10 {u4 u5 u6 u7 u8 u9 u10 u11 u12 u14 u15 u16 u17 u18 u19 u20 u21 u22 u23 u24 u25 u26 u27 u28 u29 u30 u31 u32 u33 u34 u35 u36 u37 u38 u39 u40 u41 u42 u43 u44 u45 u46 u47 u48 u49 u50 u51 u52 u53 u54 u55 u56 u57 u58 u59 u60 u61 u62 u63 u64 u65 u66 u67 u68 u69 u70 u71 u72 u73 u74 u75 u76 u77 u78 u79 u80 u81 u82 u83 u84 u85 u86 u87 u88 u89 u90 u91 u92 u93 u94 u95 u96 u97 u98 u99 u100 u101 u102 u103 u104 u105 u106 u107 u108 u109 u110 u111 u112 u113 u114 u115 u116 u117 u118 u119 u120 u121 u122 u123 u124 u125 u126 u127 u128 u129 u130 u131 u132 u133 u134 u135 u136 u137 u138 u139 u140 u141 u142 u143 u144 u145 u146 u147 u148 u149 u150 u151 u152 u153 u154 u155 u156 u157 u158 u159 u160 u161 u162 u163 : Value} {ds : List Deferred} {W : World} {sp wp : Option Addr} {n1 c1 n2 c2 n : Nat} {fs fw : Nat → Int} {cyc E : Int} {S : BS} {dq : Option Addr} {len dc : Nat} {f : Nat → Nat} (hn1 : n ≤ n1) (hn2 : n ≤ n2) (hc1 : n1 ≤ c1) (hc2 : n2 ≤ c2) (hs0 : sp = none → c1 = 0) (hw0 : wp = none → c2 = 0) (hnr : ∀ (Y : World), IntsB Y sp n fs → IntsB Y wp n fw → HandB Y dq len f → ∀ (sc wc : Nat) (sp' wp' : Option Addr), sp = sp' → wp = wp' → Calls Tryd.prog 23 #[.slice sp' n sc, .slice wp' n wc, .int .i64 cyc, .slice dq len dc] Y (fun e w' => ∃ rb, e = .returned (.tuple #[.pointer rb, .int .i64 E]) ∧ RB E Y S rb w' ∧ Below Y.heap.size Y w')) (a1 : IntsB W sp n1 fs) (a2 : IntsB W wp n2 fw) (a3 : HandB W dq len f) {K : Act → World → Prop} (hk : ∀ (t65 t66 t67 t68 t69 t70 t71 t72 t73 t74 t75 t76 : Value) (rb : Option Addr) (y : World), RB E W S rb y → Below W.heap.size W y → K ⟨#[.slice sp n1 c1, .slice wp n2 c2, .int .i64 cyc, .slice dq len dc, u4, u5, u6, u7, u8, u9, u10, u11, u12, .int .i64 (n : Nat), u14, u15, u16, .pointer rb, .int .i64 E, u19, u20, u21, u22, u23, u24, u25, u26, u27, u28, u29, u30, u31, u32, u33, u34, u35, u36, u37, u38, u39, u40, u41, u42, u43, u44, u45, u46, u47, u48, u49, u50, u51, u52, u53, u54, u55, u56, u57, u58, u59, u60, u61, u62, u63, u64, t65, t66, t67, t68, t69, t70, t71, t72, t73, t74, t75, t76, u77, u78, u79, u80, u81, u82, u83, u84, u85, u86, u87, u88, u89, u90, u91, u92, u93, u94, u95, u96, u97, u98, u99, u100, u101, u102, u103, u104, u105, u106, u107, u108, u109, u110, u111, u112, u113, u114, u115, u116, u117, u118, u119, u120, u121, u122, u123, u124, u125, u126, u127, u128, u129, u130, u131, u132, u133, u134, u135, u136, u137, u138, u139, u140, u141, u142, u143, u144, u145, u146, u147, u148, u149, u150, u151, u152, u153, u154, u155, u156, u157, u158, u159, u160, u161, u162, u163], ds⟩ y) : (regIn Tryd.f4.body 10).wp Tryd.prog (Exit.then K NoX) ⟨#[.slice sp n1 c1, .slice wp n2 c2, .int .i64 cyc, .slice dq len dc, u4, u5, u6, u7, u8, u9, u10, u11, u12, .int .i64 (n : Nat), u14, u15, u16, u17, u18, u19, u20, u21, u22, u23, u24, u25, u26, u27, u28, u29, u30, u31, u32, u33, u34, u35, u36, u37, u38, u39, u40, u41, u42, u43, u44, u45, u46, u47, u48, u49, u50, u51, u52, u53, u54, u55, u56, u57, u58, u59, u60, u61, u62, u63, u64, u65, u66, u67, u68, u69, u70, u71, u72, u73, u74, u75, u76, u77, u78, u79, u80, u81, u82, u83, u84, u85, u86, u87, u88, u89, u90, u91, u92, u93, u94, u95, u96, u97, u98, u99, u100, u101, u102, u103, u104, u105, u106, u107, u108, u109, u110, u111, u112, u113, u114, u115, u116, u117, u118, u119, u120, u121, u122, u123, u124, u125, u126, u127, u128, u129, u130, u131, u132, u133, u134, u135, u136, u137, u138, u139, u140, u141, u142, u143, u144, u145, u146, u147, u148, u149, u150, u151, u152, u153, u154, u155, u156, u157, u158, u159, u160, u161, u162, u163], ds⟩ W := by
  have HQ := Hid.in hk
  have bD : Below W.heap.size W W.drew := ⟨rfl, rfl, rfl, Nat.le_refl _, fun _ _ => rfl⟩
  have HNR := Hid.in (hnr W.drew ((a1.less hn1).below bD) ((a2.less hn2).below bD) (a3.below bD))
  have h1' : (n : Int) ≤ (c1 : Int) := by omega
  have h2' : (n : Int) ≤ (c2 : Int) := by omega
  have HBD := Hid.in bD
  clear hk hnr a1 a2 a3 bD
  show Code.wp _ (Code.region 10 _ true) _ _ _
  rcases sp with _ | ⟨sb, so, spp⟩ <;> rcases wp with _ | ⟨wb, wo, wpp⟩
  · obtain rfl := hs0 rfl
    obtain rfl := hw0 rfl
    obtain rfl : n1 = 0 := by omega
    obtain rfl : n2 = 0 := by omega
    obtain rfl : n = 0 := by omega
    go_region_with (go_at_call 23; refine (HNR.out _ _ _ _ rfl rfl).mono ?_; rintro e z ⟨rb, rfl, hrb, hbz⟩; have HRB := Hid.in hrb; have HBZ := Hid.in hbz; clear hrb hbz)
    all_goals (try go_wp2)
    all_goals exact HQ.out _ _ _ _ _ _ _ _ _ _ _ _ rb _ HRB.out (HBD.out.trans HBZ.out)
  · obtain rfl := hs0 rfl
    obtain rfl : n1 = 0 := by omega
    obtain rfl : n = 0 := by omega
    go_region_with (go_at_call 23; refine (HNR.out _ _ _ _ rfl rfl).mono ?_; rintro e z ⟨rb, rfl, hrb, hbz⟩; have HRB := Hid.in hrb; have HBZ := Hid.in hbz; clear hrb hbz)
    all_goals (try go_wp2)
    all_goals exact HQ.out _ _ _ _ _ _ _ _ _ _ _ _ rb _ HRB.out (HBD.out.trans HBZ.out)
  · obtain rfl := hw0 rfl
    obtain rfl : n2 = 0 := by omega
    obtain rfl : n = 0 := by omega
    go_region_with (go_at_call 23; refine (HNR.out _ _ _ _ rfl rfl).mono ?_; rintro e z ⟨rb, rfl, hrb, hbz⟩; have HRB := Hid.in hrb; have HBZ := Hid.in hbz; clear hrb hbz)
    all_goals (try go_wp2)
    all_goals exact HQ.out _ _ _ _ _ _ _ _ _ _ _ _ rb _ HRB.out (HBD.out.trans HBZ.out)
  · go_region_with (go_at_call 23; refine (HNR.out _ _ _ _ rfl rfl).mono ?_; rintro e z ⟨rb, rfl, hrb, hbz⟩; have HRB := Hid.in hrb; have HBZ := Hid.in hbz; clear hrb hbz)
    all_goals (try go_wp2)
    all_goals exact HQ.out _ _ _ _ _ _ _ _ _ _ _ _ rb _ HRB.out (HBD.out.trans HBZ.out)

set_option maxRecDepth 100000 in
set_option maxHeartbeats 4000000 in
theorem made_any (w : World) (sp wp : Option Addr) (n1 c1 n2 c2 : Nat) (fs fw : Nat → Int) (cyc : Int) (dq : Option Addr) (len dc : Nat) (f : Nat → Nat) (hs : IntsB w sp n1 fs) (hw : IntsB w wp n2 fw) (hn1 : n1 ≤ c1 ∧ n1 ≤ 1048576) (hn2 : n2 ≤ c2 ∧ n2 ≤ 1048576) (hs0 : sp = none → c1 = 0) (hw0 : wp = none → c2 = 0) (h64 : ∀ i, i < n1 → -9223372036854775808 ≤ fs i ∧ fs i ≤ 9223372036854775807) (hD : HandB w dq len f) (hdl : ∀ c o, dq = some ⟨c, o, none⟩ → c < w.heap.size) (hspl : ∀ c o, sp = some ⟨c, o, none⟩ → c < w.heap.size) (hwpl : ∀ c o, wp = some ⟨c, o, none⟩ → c < w.heap.size) (hd0 : dq = none → dc = 0) (hl : len ≤ 1048576) (hf : ∀ o, f o < 256) (hgs : 0 < w.heap.size) (hg : handleAt w) : Calls Tryd.prog 4 #[.slice sp n1 c1, .slice wp n2 c2, .int .i64 cyc, .slice dq len dc] w (MadeP w) := by
  obtain ⟨n, hn⟩ : ∃ n, n = min n1 n2 := ⟨_, rfl⟩
  have hnn1 : n ≤ n1 := by omega
  have hnn2 : n ≤ n2 := by omega
  obtain ⟨m, hm⟩ : ∃ m, m = len + 70 := ⟨_, rfl⟩
  have hmi : (len : Int) + 70 = (m : Int) := by omega
  have hm1 : m ≤ 1048646 := by omega
  have hml : len ≤ m := by omega
  have HS := Hid.in hs
  have HW := Hid.in hw
  have HD := Hid.in hD
  have HN := Hid.in hn
  have HM := Hid.in hm
  have H64 := Hid.in h64
  have HDL := Hid.in hdl
  have HSPL := Hid.in hspl
  have HWPL := Hid.in hwpl
  have HD0 := Hid.in hd0
  have HF := Hid.in hf
  have HG : Hid (∀ y, Below w.heap.size w y → handleAt y) := fun y hy => (hy.cell (p := ⟨0, 0, none⟩) hgs).trans hg
  have HS0 := Hid.in hs0
  have HW0 := Hid.in hw0
  clear hs hw hD hn hm h64 hdl hspl hwpl hd0 hf hg hs0 hw0 hgs
  go_enter Tryd.func4, Tryd.ntmps4
  go_upto_block 0 with fail
  refine wp_any (mblk0 HS.out HW.out HN.out hn1.2 ?_)
  intro t12 t22 t23 t24 t25 t26 t27 t28 t29 t30 t31 t32 t33 t34 t35 t36 t37 t38 t39 t40 t41 t42 t43 t44 t45 sv y hrow hb
  have hrow0 := hrow
  obtain ⟨q, cap, rfl, hq⟩ := own_slice hrow
  have HROW := Hid.in hrow0
  have HB := Hid.in hb
  have HQ := Hid.in hq
  have HMK := Hid.in (make_run (P := Tryd.prog) 23 5 (.int .u8 0) 1 Tryd.underlying23 (by kernel_rfl) rfl m (by omega) (by omega) y)
  have hDy : HandB y dq len f := HD.out.below hb
  obtain ⟨X, hcp, hbX, hcX⟩ := mcopy70 y dq len dc m f hDy HD0.out hml
  have HCP := Hid.in hcp
  have HBX := Hid.in hbX
  have HCX := Hid.in hcX
  clear hrow hrow0 hb hq hDy hcp hbX hcX
  go_upto_region 8 with (refine wpl_make (v := .int .i64 m) (u := .int .i64 m) rfl rfl rfl rfl HMK.out ?_)
  go_upto_region 9 with fail
  rw [HCP.out]
  go_upto_region 9 with fail
  obtain ⟨ab, hab⟩ : ∃ ab, y.heap.size = ab := ⟨_, rfl⟩
  have hrX := own_turned HROW.out (Turned.of_below (Q := fun _ => False) HBX.out) (fun _ _ q => q)
  have hcX := HCX.out
  rw [hab] at hcX
  obtain ⟨E, S, hiv, hSl, hnp, hnr⟩ := both_new X (.slice q n cap) w.heap.size n fs fw cyc ab len m f hrX (fun i hi => H64.out i (by omega)) hcX hml HF.out
  have HIV := Hid.in hiv
  have HSL := Hid.in hSl
  have HNP := Hid.in hnp
  have HNR := Hid.in hnr
  have HRX := Hid.in hrX
  have HCX2 := Hid.in hcX
  have HAB := Hid.in hab
  have habX : ab < X.heap.size := hcX.here
  have HQL : Hid (∀ z, (Value.slice q n cap).ownBlock = some z → w.heap.size ≤ z ∧ z < y.heap.size) := fun z hz => own_base HROW.out z hz
  try rw [hab]
  clear hiv hSl hnp hnr hrX hcX hab HMK HCP HCX
  go_upto_region 10 with (go_at_call 22; refine HNP.out.mono ?_; rintro e Y1 ⟨pb, rfl, hpb, hbY⟩; have HPB := Hid.in hpb; have HBY := Hid.in hbY; clear hpb hbY)
  have hsY : Below w.heap.size w Y1 := (HB.out.trans (HBX.out.mono HB.out.size)).trans (HBY.out.mono (Nat.le_trans HB.out.size HBX.out.size))
  have HSY := Hid.in hsY
  have a1 : IntsB Y1 sp n1 fs := HS.out.below hsY
  have a2 : IntsB Y1 wp n2 fw := HW.out.below hsY
  have a3 : HandB Y1 dq len f := HD.out.below hsY
  clear hsY
  refine wp_any (mreg10 (E := E) (S := S) hnn1 hnn2 hn1.1 hn2.1 HS0.out HW0.out (fun Y h1 h2 h3 sc wc sp' wp' e1 e2 => ?_) a1 a2 a3 ?_)
  · exact HNR.out Y sp' wp' sc wc dq dc (e1 ▸ h1) (e2 ▸ h2) h3 HD0.out
  intro s65 s66 s67 s68 s69 s70 s71 s72 s73 s74 s75 s76 rb W2 hrb hbW
  have HRB := Hid.in hrb
  have HBW := Hid.in hbW
  clear hrb hbW a1 a2 a3
  have hbW0 : Below w.heap.size w W2 := HSY.out.trans (HBW.out.mono HSY.out.size)
  have HW0 := Hid.in hbW0
  have HGW := Hid.in (HG.out W2 hbW0)
  clear hbW0
  go_upto_block 2 with (go_at_call 7; refine (ltoldB_of E _ HGW.out).mono ?_; rintro e W3 ⟨rfl, hb3⟩; have HB3 := Hid.in hb3; clear hb3)
  have b3 : Below w.heap.size w W3 := HW0.out.trans (HB3.out.mono HW0.out.size)
  have x3 : Below X.heap.size X W3 := (HBY.out.trans (HBW.out.mono HBY.out.size)).trans (HB3.out.mono (Nat.le_trans HBY.out.size HBW.out.size))
  have B3 := Hid.in b3
  have X3 := Hid.in x3
  have d1 : HandB W3 dq len f := HD.out.below b3
  have d2 : ∀ c o, dq = some ⟨c, o, none⟩ → c ≠ ab := fun c o e h => by
    have := HDL.out c o e
    have := HB.out.size
    have := HAB.out
    omega
  have d3 : CellsAt m W3 ab (allM len f 0) := HCX2.out.below x3
  clear b3 x3
  refine wp_any (mblk2 (m := m) d1 d2 d3 HM.out hl ?_)
  clear d1 d2 d3
  intro a20 a80 a81 a82 a83 a84 a85 a86 a87 a88 a89 a90 a91 a92 a93 a94 a95 a96 a97 a98 a99 a100 a101 a102 a103 a104 a105 a106 a107 a108 a109 a110 a111 a112 a113 a114 a115 a116 a117 a118 a119 W4 ht4
  have HT4 := Hid.in ht4
  clear ht4
  go_upto_block 4 with fail
  have y4 : Turned (fun j => j = ab) X W4 := (Turned.of_below X3.out).trans HT4.out
  have w4 : Below w.heap.size w W4 := B3.out.trans (HT4.out.below B3.out.size (fun k e => by
    have := HB.out.size
    have := HAB.out
    have e : k = ab := e
    omega))
  have Y4 := Hid.in y4
  have W4' := Hid.in w4
  have e1 : IntsB W4 sp n1 fs := HS.out.below w4
  have e2 : IntsB W4 wp n2 fw := HW.out.below w4
  have e3 := own_turned HRX.out y4 (fun z hz q => by
    have := HQL.out z hz
    have := HAB.out
    have q : z = ab := q
    omega)
  clear y4 w4
  refine wp_any (mblk4 (B := w.heap.size) e1 e2 ⟨hnn1, hnn2⟩ hn1.2 e3 HSPL.out HWPL.out ?_)
  clear e1 e2 e3
  intro b21 b120 b121 b122 b123 b124 b125 b126 b127 b128 b129 b130 b131 b132 b133 b134 b135 b136 b137 b138 b139 b140 b141 b142 b143 b144 b145 b146 b147 b148 b149 b150 b151 b152 b153 W5 ht5
  have HT5 := Hid.in ht5
  clear ht5
  have W5' : Hid (Below w.heap.size w W5) := W4'.out.trans (HT5.out.below W4'.out.size (fun k e => (HQL.out k e).1))
  rcases HPB.out with ⟨hE, rfl⟩ | ⟨hE, gp, rfl, hbu⟩
  · rcases HRB.out with ⟨_, rfl⟩ | ⟨hE', -⟩
    · go_wp2_with fail
      exact bodyPost_ret (v := .tuple #[.pointer none, .pointer none, .bool true]) (by simp [results, Tryd.results4, go_sem]) rfl ⟨W5'.out, Or.inl rfl⟩
    · exact absurd hE' hE
  · rcases HRB.out with ⟨hE', -⟩ | ⟨_, gr, rfl, h0, hru⟩
    · exact absurd hE hE'
    · go_wp2_with fail
      have t2 := two_made hbu HBY.out.size hru HBW.out
      have t3 := t2.below HB3.out
      have t4 := t3.turn (G := fun j => j < X.heap.size) HT4.out (fun z e _ => by have e : z = ab := e; show z < X.heap.size; omega) (fun z q => Or.inl q)
      have t5 := t4.turn (G := fun j => j < X.heap.size) HT5.out (fun z e _ => by
        have := HQL.out z e
        have := HBX.out.size
        show z < X.heap.size
        omega) (fun z q => Or.inl q)
      have t6 := t5.less (G := fun j => j < w.heap.size) (fun z q => by
        have q : z < w.heap.size := q
        have := HB.out.size
        have := HBX.out.size
        show z < X.heap.size
        omega)
      exact bodyPost_ret (v := .tuple #[.pointer (some ⟨gp.p, 0, none⟩), .pointer (some ⟨gr.p, 0, none⟩), .bool true]) (by simp [results, Tryd.results4, go_sem]) rfl ⟨W5'.out, Or.inr ⟨gp, gr, S, f, rfl, t6, HIV.out hE, h0⟩⟩
end Go.Proofs.YtlogdmnhngbkaaaDoor
/-
  B_ _ _ _ _ _ _ _ _ _ _ _ _ _ _ _ _ _ _ _ _ _ _ _ _ _ _ _ _ _ _ _ _ _ _ _ _ _ _ _ _ _ _ _ _ _ _ _ _ _ _ _ _ _ _ _ _ _ _ _ _ _ _ _ _ _ _ _ _ _ _ _ _ _ _ _ _ _ _ _ _ _ _ _ _ _ _ _ _ _ _ _ _ _ _ _ _ _ _ _ _ _ _ _ _ _ _ _ _ _ _ _ _ _ _ _ _ _ _ _ _ _ _ _ _ _ _ _ _ _ _ _ _ _ _ _ _ _' LAW BusSteps: a round.
-/
namespace Go.Proofs.YtlogdmnhngbkaaaDoor
open Go Go.RowKit
/-- the law's state -/
def Nx (gp : Bn) (gr : Rn) (F : Nat → Prop) (N L : Nat) (y : World) : Prop := ∃ S f, Two y gp gr F N S S ∧ Iv S f ∧ S.len = L
theorem Cg.f8 {S : BS} {f : Nat → Nat} (h : Cg S f) (o : Nat) (ho : o < S.len) : f o < 256 := by
  rcases h.se.out o ho with e | ⟨i, e, hL, -, ha⟩
  · rw [← e]
    exact h.m8 o
  · obtain ⟨-, -, -, -, -, -, hb, h8⟩ := h.se.line i e hL
    have e1 := hb (o % 16) (by omega)
    have e2 : e.a - 65536 + o % 16 = o := by rw [ha]; unfold lineOf; omega
    rw [e2] at e1
    rw [← e1]
    exact h8 _
def ov5 (kd A B C D : Int) (o : Nat) : Value := match o with
  | 0 => .int .i64 kd
  | 1 => .int .i64 A
  | 2 => .int .i64 B
  | 3 => .int .i64 C
  | _ => .int .i64 D
structure Rd (W : World) (gp : Bn) (gr : Rn) (F : Nat → Prop) (N bb a : Nat) (S : BS) (f : Nat → Nat) (kd A B C D : Int) : Prop where
  h : Two W gp gr F N S S
  iv : Iv S f
  hm0 : S.len = 0 → gr.mq = none ∧ gr.mc = 0
  hN : N < 1000000
  ha : a < 4294967296
  hA : i64 A
  hb : F bb
  hc : CellsAt 5 W bb (ov5 kd A B C D)
  hge : F 0
  hg : handleAt W
end Go.Proofs.YtlogdmnhngbkaaaDoor
