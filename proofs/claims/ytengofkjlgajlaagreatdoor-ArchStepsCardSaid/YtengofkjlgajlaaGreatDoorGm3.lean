import Derived.Test.YtengofkjlgajlaaGreatDoorGm2
import Derived.Test.YtengofkjlgajlaaGreatDoorGa5
import Derived.Laws.BytesArg
/-
  THE MACHINE, EXACTLY: New.
-/
namespace Go.Proofs.YtengofkjlgajlaaGreatDoor
open Go Go.RowKit
/-- what is handed in: these bytes -/
def DatN (w : World) (q : Option Addr) (len : Nat) (mem : Nat → Nat) : Prop := ∀ i, i < len → ∃ c o, q = some ⟨c, o, none⟩ ∧ c < w.heap.size ∧ w.cell? ⟨c, o + i, none⟩ = some (.int .u8 (mem i : Nat))
theorem DatN.below {w w' : World} {q : Option Addr} {len : Nat} {mem : Nat → Nat} (h : DatN w q len mem) (hb : Below w.heap.size w w') : DatN w' q len mem := fun i hi => by
  obtain ⟨c, o, h1, h2, h3⟩ := h i hi
  exact ⟨c, o, h1, Nat.lt_of_lt_of_le h2 hb.size, (hb.cell (p := ⟨c, o + i, none⟩) h2).trans h3⟩
theorem own_row8 {w : World} {base : Nat} {e : TypeId} {v : Value} {n : Nat} {g : Nat → Nat} (hn : 0 < n) (h : w.ownsRow base e 1 v n ((List.range n).map fun i => .int .u8 (g i : Nat))) : ∃ b cap, v = .slice (some ⟨b, 0, none⟩) n cap ∧ n ≤ cap ∧ base ≤ b ∧ Row8 w b n g := by
  rcases h.2 with ⟨_, h0⟩ | ⟨b, cap, cur, h1, h2, h3, h4, h5, h6, h7⟩
  · omega
  · refine ⟨b, cap, h1, h4, h2, ?_, fun o ho => ?_, fun o => by simp [World.frozen?, h3]⟩
    · rcases Nat.lt_or_ge b w.heap.size with q | q
      · exact q
      · rw [Array.getElem?_eq_none q] at h3
        cases h3
    · have e1 : (cur.toList.take (n * 1))[o]? = some (.int .u8 (g o : Nat)) := by
        rw [h7, List.getElem?_map, List.getElem?_range ho]
        rfl
      rw [List.getElem?_take, if_pos (by omega)] at e1
      simp only [World.cell?, h3]
      simpa using e1
/-- a copy of the data -/
theorem xcopied (x : World) (q : Option Addr) (len dc : Nat) (mem : Nat → Nat) (hD : DatN x q len mem) (hq0 : q = none → dc = 0) (hl : len ≤ 4096) : ∃ v' y, (∃ d1 d2 d3, v' = .slice d1 d2 d3) ∧ (Builtin.append_ #[23, 23] 23 #[.slice none 0 0, .slice q len dc]).run Tryz.prog x = .ok v' y ∧ Below x.heap.size x y ∧ ((len = 0 ∧ v' = .slice none 0 0) ∨ ∃ db c, v' = .slice (some ⟨db, 0, none⟩) len c ∧ len ≤ c ∧ Row8 y db len mem ∧ x.heap.size ≤ db) := by
  cases q with
  | none =>
    obtain rfl : len = 0 := by
      rcases Nat.eq_zero_or_pos len with h | h
      · exact h
      · obtain ⟨c, o, h1, -⟩ := hD 0 h
        cases h1
    obtain rfl := hq0 rfl
    refine ⟨.slice none 0 0, x, ⟨_, _, _, rfl⟩, ?_, Below.refl _ _, Or.inl ⟨rfl, rfl⟩⟩
    kernel_rfl
  | some a =>
    obtain ⟨i0, hi0, hz0, hz1, hz2⟩ := info_parts (show (Tryz.prog.info? 5).map (fun i => (i.zero, i.size, i.bytes)) = some (some (.int .u8 0), 1, 1) by kernel_rfl)
    have hg : ∀ i, i < len → x.cell? (a.add i) = some (.int .u8 (mem i : Nat)) := fun i hi => by
      obtain ⟨c, o, h1, h2, h3⟩ := hD i hi
      obtain rfl := Option.some.inj h1
      rw [Addr.add_lit]
      exact h3
    obtain ⟨v', y, hrun, r1, r2, r3, r4⟩ := run_append_own_at (P := Tryz.prog) (w := x) x.heap.size 23 23 5 i0 (.int .u8 0) 1 1 Tryz.underlying23 hi0 hz0 hz1 hz2 rfl (by decide) (.slice none 0 0) 0 [] ⟨rfl, Or.inl ⟨rfl, rfl⟩⟩ a len dc ((List.range len).map fun i => .int .u8 (mem i : Nat)) (by simp) (fun j u hj => by
      have hjn : j < len := by
        have := (List.getElem?_eq_some_iff.1 hj).1
        simpa using this
      rw [List.getElem?_map, List.getElem?_range hjn] at hj
      rw [hg j hjn]
      exact hj) (by
      intro u hu
      obtain ⟨i, _, rfl⟩ := List.mem_map.1 hu
      rfl) (by unfold maxLen; omega) (by omega) (Nat.le_refl _)
    have hsh : ∃ d1 d2 d3, v' = .slice d1 d2 d3 := by
      rcases r1.2 with ⟨h, -⟩ | ⟨g, cp, cur, h, -⟩
      · exact ⟨_, _, _, h⟩
      · exact ⟨_, _, _, h⟩
    refine ⟨v', y, hsh, hrun, ?_, ?_⟩
    · exact (turned_grown r2).below (Nat.le_refl _) (fun j hj => by cases hj)
    · rw [Nat.zero_add, List.nil_append] at r1
      rcases Nat.eq_zero_or_pos len with h | h
      · exact Or.inl ⟨h, r3.2 ⟨rfl, h⟩⟩
      · right
        obtain ⟨b, c, e1, e2, e3, e4⟩ := own_row8 h r1
        exact ⟨b, c, e1, e2, e4, e3⟩
set_option maxRecDepth 100000 in
set_option maxHeartbeats 2000000 in
theorem xnew_good (cb co n cp : Nat) (q : Option Addr) (len dc : Nat) (w : World) (h : imageB n len = true) (f : Nat → Int) (hC : CodeAt w cb co n f) (mem : Nat → Nat) (hm8 : ∀ o, mem o < 256) (hD : DatN w q len mem) (hq0 : q = none → dc = 0) : Calls Tryz.prog 5 #[.slice (some ⟨cb, co, none⟩) n cp, .slice q len dc] w fun e w' => ∃ p hq cg cap dv, e = .returned (.tuple #[.pointer (some ⟨p, 0, none⟩), .nilIface]) ∧ Mx w w' w.heap.size p hq cg n cap dv (.slice none 0 0) (newH (.slice (some ⟨cg, 0, none⟩) n cap) len 0) len f ⟨mem, [], 0, false⟩ ∧ Below w.heap.size w w' := by
  have HN := Hid.in (pnew_good cb co n cp len 0 w h (by decide) f hC)
  obtain ⟨b1, b2, b3, b4, b6⟩ := image_true n len h
  have HD : Hid (∀ x, Below w.heap.size w x → ∃ v' y, (∃ d1 d2 d3, v' = .slice d1 d2 d3) ∧ (Builtin.append_ #[23, 23] 23 #[.slice none 0 0, .slice q len dc]).run Tryz.prog x = .ok v' y ∧ Below x.heap.size x y ∧ ((len = 0 ∧ v' = .slice none 0 0) ∨ ∃ db c, v' = .slice (some ⟨db, 0, none⟩) len c ∧ len ≤ c ∧ Row8 y db len mem ∧ x.heap.size ≤ db)) := fun x hx => xcopied x q len dc mem (hD.below hx) hq0 (by omega)
  clear h hC hD hq0 b1 b2 b3 b4 b6
  go_enter Tryz.func5, Tryz.ntmps5
  go_upto_region 4 with (go_at_call 18; refine HN.out.mono ?_; rintro e X1 ⟨hq, cg, cap, rfl, h1, h2, h3, h4, h5, h6⟩; have HK1 := Hid.in h1; have HK2 := Hid.in h2; have HK3 := Hid.in h3; have HK4 := Hid.in h4; have HK5 := Hid.in h5; have HK6 := Hid.in h6; clear h1 h2 h3 h4 h5 h6)
  obtain ⟨_, Y, ⟨d1, d2, d3, rfl⟩, hrun, hbY, hdat⟩ := HD.out X1 HK6.out
  have HRUN := Hid.in hrun
  have HBY := Hid.in hbY
  have HDT := Hid.in hdat
  clear hrun hbY hdat
  go_wp2_with (at_builtin; refine wpl_append (v := .slice none 0 0) (u := .slice q len dc) rfl rfl rfl rfl HRUN.out ?_)
  have bZ : Below Y.heap.size Y (Y.alloc (.cells #[.pointer (some ⟨hq, 0, none⟩), .slice d1 d2 d3, .slice none 0 0, .int .u32 0, .bool false] 70)) := (Below.refl _ _).alloc (Nat.le_refl _) _
  have l1 := HK1.out.here
  have l2 := HK2.out.here
  have l3 := HBY.out.size
  have l4 := HK6.out.size
  refine bodyPost_ret (v := .tuple #[.pointer (some ⟨Y.heap.size, 0, none⟩), .nilIface]) (by simp [results, Tryz.results5, go_sem]) rfl ⟨_, hq, cg, cap, .slice d1 d2 d3, rfl, ?_, below2 (below2 HK6.out HBY.out) bZ⟩
  refine ⟨cells_new Y (fun i hi => ?_), (HK1.out.below HBY.out).below bZ, (HK2.out.below HBY.out).below bZ, ?_, ⟨rfl, Or.inl ⟨rfl, rfl⟩⟩, ⟨by omega, by omega, HK5.out⟩, ⟨by simp [Value.ownBlock], by simp [Value.ownBlock], by simp [Value.ownBlock]⟩, ⟨by omega, HK3.out, HK4.out⟩, below2 (below2 HK6.out HBY.out) bZ, hm8⟩
  · match i, hi with
    | 0, _ => rfl
    | 1, _ => rfl
    | 2, _ => rfl
    | 3, _ => rfl
    | 4, _ => rfl
  · rcases HDT.out with h | ⟨db, c, h1, h2, h3, h4⟩
    · exact Or.inl h
    · have := h3.here
      exact Or.inr ⟨db, c, h1, h2, h3.below bZ, by omega, by omega, by omega, by simp [Value.ownBlock], by omega⟩
end Go.Proofs.YtengofkjlgajlaaGreatDoor
/-
  THE MACHINE, EXACTLY: its line, its data.
-/
namespace Go.Proofs.YtengofkjlgajlaaGreatDoor
open Go Go.RowKit
section
variable {w0 w : World} {B p hq cg n cap len : Nat} {dv ov : Value} {S : HS} {f : Nat → Int} {M : MS}
set_option maxRecDepth 100000 in
theorem xline_any (k : Mx w0 w B p hq cg n cap dv ov S len f M) (on : Bool) : Calls Tryz.prog 8 #[.pointer (some ⟨p, 0, none⟩), .bool on] w fun e w' => e = .returned (.tuple #[]) ∧ Mx w0 w' B p hq cg n cap dv ov S len f { M with line := on } ∧ Only p w w' := by
  have c4 := k.c.cell 4 (by decide)
  have hp := k.c.here
  have hf := k.c.free 4
  have HK := Hid.in (k.line on)
  clear k
  go_enter Tryz.func8, Tryz.ntmps8
  go_wp2
  exact bodyPost_end (results_none Tryz.results8 _ _ _) rfl ⟨rfl, HK.out, (Only.refl p w).set 4 _⟩
set_option maxRecDepth 100000 in
theorem xhart_any (k : Mx w0 w B p hq cg n cap dv ov S len f M) : Calls Tryz.prog 14 #[.pointer (some ⟨p, 0, none⟩)] w fun e w' => e = .returned (.pointer (some ⟨hq, 0, none⟩)) ∧ w' = w := by
  have c0 : w.cell? ⟨p, 0, none⟩ = some (.pointer (some ⟨hq, 0, none⟩)) := k.c.cell 0 (by decide)
  have hp := k.c.here
  clear k
  go_enter Tryz.func14, Tryz.ntmps14
  go_wp2
  exact bodyPost_ret (v := .pointer (some ⟨hq, 0, none⟩)) (by simp [results, Tryz.results14, go_sem]) rfl ⟨rfl, rfl⟩
theorem Mx.dat_is (k : Mx w0 w B p hq cg n cap dv ov S len f M) : ∃ q dc, dv = .slice q len dc ∧ DatN w q len M.mem ∧ (q = none → dc = 0) := by
  rcases k.d with h | ⟨db, dc, h1, h2, h3, h4⟩
  · obtain ⟨rfl, h⟩ := h
    exact ⟨none, 0, h, fun i hi => by omega, fun _ => rfl⟩
  · exact ⟨_, dc, h1, fun i hi => ⟨db, 0, rfl, h3.here, by rw [Nat.zero_add]; exact h3.cell i hi⟩, fun e => by cases e⟩
theorem wpl_convert {P : Program} {ops : Array Oper} {Q : Exit → Act → World → Prop} {rest : List Oper} {o : Oper} {a : Act} {w w' : World} {x : Operand} {s t : TypeId} {v v' : Value} (hg : o.guard = none) (ho : o.op = Op.convert s t x) (hx : a.eval x = v) (hr : (convert s t v).run P w = .ok v' w') (h : wpList P ops Q rest (a.put o.dst v') w') : wpList P ops Q (o :: rest) a w := by
  unfold wpList
  rw [if_pos (by unfold Region.wanted; rw [hg])]
  refine Or.inl ?_
  unfold Oper.wp
  simp [execOp, ho, hx, hr, Result.andThen]
  exact h
theorem Mx.out_is (k : Mx w0 w B p hq cg n cap dv ov S len f M) : (∃ q l c, ov = .slice q l c) ∧ (convert 23 9 ov).run Tryz.prog w = .ok (.string (strOfNums M.out)) w := by
  rcases k.o.2 with ⟨h, h0⟩ | ⟨b, cp, cur, h1, h2, h3, h4, h5, h6, h7⟩
  · refine ⟨⟨_, _, _, h⟩, ?_⟩
    have e : M.out = [] := List.eq_nil_of_length_eq_zero (by simpa using h0)
    rw [h, e]
    exact run_convert_bytes_nil w _ 5 Tryz.underlying23 Tryz.underlying5 0 0 _ Tryz.underlying9
  · refine ⟨⟨_, _, _, h1⟩, ?_⟩
    rw [h1]
    refine run_convert_bytes_arg w _ 5 Tryz.underlying23 Tryz.underlying5 b 0 _ cp M.out rfl (fun i hi => ?_) _ Tryz.underlying9
    have e1 : (cur.toList.take (M.out.length * 1))[i]? = some (.int .u8 (M.out.getD i 0)) := by
      rw [h7, List.getElem?_map, List.getElem?_eq_getElem hi]
      simp [List.getD, List.getElem?_eq_getElem hi]
    rw [List.getElem?_take, if_pos (by omega)] at e1
    simp only [World.cell?, h3]
    simpa using e1
set_option maxRecDepth 100000 in
theorem xout_any (k : Mx w0 w B p hq cg n cap dv ov S len f M) : Calls Tryz.prog 15 #[.pointer (some ⟨p, 0, none⟩)] w fun e w' => e = .returned (.string (strOfNums M.out)) ∧ w' = w := by
  have c2 : w.cell? ⟨p, 2, none⟩ = some ov := k.c.cell 2 (by decide)
  have hp := k.c.here
  obtain ⟨⟨q, l, c, rfl⟩, hr⟩ := k.out_is
  have HR := Hid.in hr
  clear hr k
  go_enter Tryz.func15, Tryz.ntmps15
  go_wp2_with (refine wpl_convert (v := .slice q l c) rfl rfl rfl HR.out ?_)
  exact bodyPost_ret (v := .string (strOfNums M.out)) (by simp [results, Tryz.results15, go_sem]) rfl ⟨rfl, rfl⟩
end
end Go.Proofs.YtengofkjlgajlaaGreatDoor
/-
  THE MACHINE, EXACTLY: what Data hands on is a row of its own.
-/
namespace Go.Proofs.YtengofkjlgajlaaGreatDoor
open Go Go.RowKit
theorem own_set {x : World} {B : Nat} {e : TypeId} {g n cap : Nat} {xs : List Value} {size : Nat} (h : x.ownsRow B e size (.slice (some ⟨g, 0, none⟩) n cap) n xs) (i : Nat) (u : Value) : (x.setCell ⟨g, i, none⟩ u).ownsRow B e size (.slice (some ⟨g, 0, none⟩) n cap) n (xs.set i u) := by
  obtain ⟨h1, h2⟩ := h
  refine ⟨by simp [h1], ?_⟩
  rcases h2 with ⟨h3, _⟩ | ⟨g', cap', cur, hv, a2, a3, a4, a5, a6, a7⟩
  · cases h3
  · cases hv
    obtain ⟨hlt, hk⟩ := Array.getElem?_eq_some_iff.1 a3
    refine Or.inr ⟨g, cap, cur.setIfInBounds i u, rfl, a2, ?_, a4, a5, by simpa using a6, ?_⟩
    · show (x.heap.modify g _)[g]? = _
      rw [Array.getElem?_eq_getElem (by rw [Array.size_modify]; exact hlt), Array.getElem_modify_self, hk]
      rfl
    · rw [Array.toList_setIfInBounds, ← a7, List.take_set]
/-- a copy of the data -/
theorem xcopied_own (x : World) (q : Option Addr) (len dc : Nat) (mem : Nat → Nat) (hD : DatN x q len mem) (hq0 : q = none → dc = 0) (hl : len ≤ 4096) : ∃ v' y, (∃ d1 d2 d3, v' = .slice d1 d2 d3) ∧ (Builtin.append_ #[23, 23] 23 #[.slice none 0 0, .slice q len dc]).run Tryz.prog x = .ok v' y ∧ Below x.heap.size x y ∧ y.ownsRow x.heap.size 5 1 v' len ((List.range len).map fun i => .int .u8 (mem i : Nat)) := by
  cases q with
  | none =>
    obtain rfl : len = 0 := by
      rcases Nat.eq_zero_or_pos len with h | h
      · exact h
      · obtain ⟨c, o, h1, -⟩ := hD 0 h
        cases h1
    obtain rfl := hq0 rfl
    refine ⟨.slice none 0 0, x, ⟨_, _, _, rfl⟩, ?_, Below.refl _ _, rfl, Or.inl ⟨rfl, rfl⟩⟩
    kernel_rfl
  | some a =>
    obtain ⟨i0, hi0, hz0, hz1, hz2⟩ := info_parts (show (Tryz.prog.info? 5).map (fun i => (i.zero, i.size, i.bytes)) = some (some (.int .u8 0), 1, 1) by kernel_rfl)
    have hg : ∀ i, i < len → x.cell? (a.add i) = some (.int .u8 (mem i : Nat)) := fun i hi => by
      obtain ⟨c, o, h1, h2, h3⟩ := hD i hi
      obtain rfl := Option.some.inj h1
      rw [Addr.add_lit]
      exact h3
    obtain ⟨v', y, hrun, r1, r2, r3, r4⟩ := run_append_own_at (P := Tryz.prog) (w := x) x.heap.size 23 23 5 i0 (.int .u8 0) 1 1 Tryz.underlying23 hi0 hz0 hz1 hz2 rfl (by decide) (.slice none 0 0) 0 [] ⟨rfl, Or.inl ⟨rfl, rfl⟩⟩ a len dc ((List.range len).map fun i => .int .u8 (mem i : Nat)) (by simp) (fun j u hj => by
      have hjn : j < len := by
        have := (List.getElem?_eq_some_iff.1 hj).1
        simpa using this
      rw [List.getElem?_map, List.getElem?_range hjn] at hj
      rw [hg j hjn]
      exact hj) (by
      intro u hu
      obtain ⟨i, _, rfl⟩ := List.mem_map.1 hu
      rfl) (by unfold maxLen; omega) (by omega) (Nat.le_refl _)
    have hsh : ∃ d1 d2 d3, v' = .slice d1 d2 d3 := by
      rcases r1.2 with ⟨h, -⟩ | ⟨g, cp, cur, h, -⟩
      · exact ⟨_, _, _, h⟩
      · exact ⟨_, _, _, h⟩
    refine ⟨v', y, hsh, hrun, ?_, ?_⟩
    · exact (turned_grown r2).below (Nat.le_refl _) (fun j hj => by cases hj)
    · rw [Nat.zero_add, List.nil_append] at r1
      exact r1
section
variable {w0 w : World} {B p hq cg n cap len : Nat} {dv ov : Value} {S : HS} {f : Nat → Int} {M : MS}
set_option maxRecDepth 100000 in
theorem xdata_own (k : Mx w0 w B p hq cg n cap dv ov S len f M) (hl : len ≤ 4096) : Calls Tryz.prog 12 #[.pointer (some ⟨p, 0, none⟩)] w fun e w' => ∃ v', e = .returned v' ∧ Below w.heap.size w w' ∧ w'.ownsRow w.heap.size 5 1 v' len ((List.range len).map fun i => .int .u8 (M.mem i : Nat)) := by
  have c1 : w.cell? ⟨p, 1, none⟩ = some dv := k.c.cell 1 (by decide)
  have hp := k.c.here
  obtain ⟨q, dc, rfl, hD, hq0⟩ := k.dat_is
  obtain ⟨_, Y, ⟨d1, d2, d3, rfl⟩, hrun, hbY, hdat⟩ := xcopied_own w q len dc M.mem hD hq0 hl
  have HRUN := Hid.in hrun
  have HBY := Hid.in hbY
  have HDT := Hid.in hdat
  clear hrun hbY hdat hD hq0 k
  go_enter Tryz.func12, Tryz.ntmps12
  go_wp2_with (at_builtin; refine wpl_append (v := .slice none 0 0) (u := .slice q len dc) rfl rfl rfl rfl HRUN.out ?_)
  exact bodyPost_ret (v := .slice d1 d2 d3) (by simp [results, Tryz.results12, go_sem]) rfl ⟨_, rfl, HBY.out, HDT.out⟩
end
end Go.Proofs.YtengofkjlgajlaaGreatDoor
