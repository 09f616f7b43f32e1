import Derived.Test.YtlogdmnhngbkaaaDoorY30
import Derived.Test.YtlogdmnhngbkaaaDoorY19
/-
  BUS: the answer's Read and Write; the program's, where it refuses.
-/
namespace Go.Proofs.YtlogdmnhngbkaaaDoor
open Go Go.RowKit
section
variable {x : World} {g : Rn} {F : Nat → Prop} {S : BS}
theorem ruhas (h : Ru x g F S) (core : Int) (a : Nat) (ha : a < 4294967296) : Calls Tryd.prog 26 #[.pointer (some ⟨g.p, 0, none⟩), .int .i64 core, .int .i64 a] x fun e w' => e = .returned (.bool (S.has core a)) ∧ w' = x := by
  obtain ⟨rv, R, last, left, k, -⟩ := h
  exact rwithin_any k core a ha
set_option maxRecDepth 100000 in
theorem ruread_no (h : Ru x g F S) (core : Int) (a : Nat) (z : Int) (ha : a < 4294967296) (hh : S.has core a = false) : Calls Tryd.prog 12 #[.pointer (some ⟨g.p, 0, none⟩), .int .i64 core, .int .i64 a, .int .i64 z] x fun e w' => e = .returned (.tuple #[.int .u32 0, .bool false]) ∧ w' = x := by
  have HH := Hid.in (ruhas h core a ha)
  rw [hh] at HH
  clear h ha hh
  go_enter Tryd.func12, Tryd.ntmps12
  go_wp2_with (go_at_call 26; refine HH.out.mono ?_; rintro e y ⟨rfl, hy⟩; have hy2 := hy.symm; clear hy; subst hy2)
  exact bodyPost_ret (v := .tuple #[.int .u32 0, .bool false]) (by simp [results, Tryd.results12, go_sem]) rfl ⟨rfl, rfl⟩
set_option maxRecDepth 100000 in
theorem ruread_of {P : Value → Value → World → Prop} (h : Ru x g F S) (i : Nat) (a : Nat) (z : Int) (ha : a < 4294967296) (hh : S.has i a = true) (hr : Calls Tryd.prog 32 #[.pointer (some ⟨g.q i, 0, none⟩), .int .i64 a, .int .i64 z] x fun e w' => ∃ u v, e = .returned (.tuple #[u, v]) ∧ P u v w') : Calls Tryd.prog 12 #[.pointer (some ⟨g.p, 0, none⟩), .int .i64 i, .int .i64 a, .int .i64 z] x fun e w' => ∃ u v, e = .returned (.tuple #[u, v]) ∧ P u v w' := by
  have HH := Hid.in (ruhas h i a ha)
  rw [hh] at HH
  obtain ⟨i', hii, hi, -, -⟩ := has_core hh
  obtain rfl : i = i' := by omega
  have HR := Hid.in hr
  obtain ⟨last, left, o1, o2, -⟩ := h.own
  have c0 : x.cell? ⟨g.p, 0, none⟩ = some (.slice (some ⟨g.cb, 0, none⟩) S.nc g.cc) := o1.cell 0 (by decide)
  have r0 : x.cell? ⟨g.cb, i, none⟩ = some (.pointer (some ⟨g.q i, 0, none⟩)) := o2.cell i hi
  have hp := o1.here
  have hrr := o2.here
  have hi' : (i : Int) < (S.nc : Int) := by omega
  clear h ha hh hr hii hi o1 o2
  go_enter Tryd.func12, Tryd.ntmps12
  go_wp2_with (first
    | (go_at_call 26; refine HH.out.mono ?_; rintro e y ⟨rfl, hy⟩; have hy2 := hy.symm; clear hy; subst hy2)
    | (go_at_call 32; refine HR.out.mono ?_; rintro e y ⟨u, v, rfl, hq⟩; have HQ := Hid.in hq; clear hq))
  exact bodyPost_ret (v := .tuple #[u, v]) (by simp [results, Tryd.results12, go_sem]) rfl ⟨u, v, rfl, HQ.out⟩
theorem ruread_miss (h : Ru x g F S) (i a : Nat) (z : Int) (ha : a < 4294967296) (hh : S.has i a = true) (hno : No ((S.c i).set ((S.c i).of a)) a ∨ fits a z = false) : Calls Tryd.prog 12 #[.pointer (some ⟨g.p, 0, none⟩), .int .i64 i, .int .i64 a, .int .i64 z] x fun e w' => e = .returned (.tuple #[.int .u32 0, .bool false]) ∧ w' = x := by
  obtain ⟨i', hii, hi, -, -⟩ := has_core hh
  obtain rfl : i = i' := by omega
  have h0 := h
  obtain ⟨rv, R, last, left, k, hF⟩ := h
  refine (ruread_of (P := fun u v w' => u = .int .u32 0 ∧ v = .bool false ∧ w' = x) h0 i a z ha hh ((rread_no g.B (g.q i) (rv i) (S.c i).n (S.c i).ways (R i) a z x (k.rc i hi) ha (hno.imp ((k.sm i hi).no a).1 id)).mono fun e w' h => ⟨_, _, h.1, rfl, rfl, h.2⟩)).mono fun e w' h => ?_
  obtain ⟨u, v, rfl, rfl, rfl, hb⟩ := h
  exact ⟨rfl, hb⟩
theorem ruread_hit (h : Ru x g F S) (i a z j : Nat) (ha : a < 4294967296) (hh : S.has i a = true) (hA : At ((S.c i).set ((S.c i).of a)) a j) (hz : fits a z = true) : Calls Tryd.prog 12 #[.pointer (some ⟨g.p, 0, none⟩), .int .i64 i, .int .i64 a, .int .i64 z] x fun e w' => e = .returned (.tuple #[.int .u32 (leN (fun t => (((S.c i).set ((S.c i).of a)).getD j l0).b (a % 16 + t)) z : Nat), .bool true]) ∧ Ru w' g F (S.cput i ((S.c i).used ((S.c i).of a) j)) ∧ Turned (fun j => ¬ F j) x w' := by
  obtain ⟨i', hii, hi, -, -⟩ := has_core hh
  obtain rfl : i = i' := by omega
  have h0 := h
  obtain ⟨rv, R, last, left, k, hF⟩ := h
  have sm := k.sm i hi
  obtain ⟨q, hq⟩ := sm.both hA
  obtain ⟨X, e, Y, h1, h2', h3, h4, h5, h6, h7, h8⟩ := sm.at hA hq
  have hem := sm.line e (by rw [h1]; simp)
  rw [h4]
  have hus : (S.c i).used ((S.c i).of a) j = (S.c i).put ((S.c i).of a) (rest ((S.c i).set ((S.c i).of a)) j ++ [e]) := by unfold CS.used; rw [h4]
  have := rread_at g.B (g.q i) (rv i) (S.c i).n (S.c i).ways (R i) a z q x (k.rc i hi) ha hq hz (by rw [h3]; exact hem.2.2.2)
  rw [h3] at this
  refine (ruread_of (P := fun u v w' => u = .int .u32 (leN (fun t => e.b (a % 16 + t)) z : Nat) ∧ v = .bool true ∧ Ru w' g F (S.cput i ((S.c i).used ((S.c i).of a) j)) ∧ Turned (fun j => ¬ F j) x w') h0 i a z ha hh (this.mono fun r w' hr => ?_)).mono fun r w' hr => ?_
  · obtain ⟨rfl, v', rc, hv, t⟩ := hr
    refine ⟨_, _, rfl, rfl, rfl, ?_⟩
    refine ru_cache hF k i hi (T := (S.c i).used ((S.c i).of a) j) rfl rfl rc ?_ (fun z hz => Or.inr (hv z hz)) (t.mono (fun z hz => Or.inl hz))
    rw [hus]
    exact sm.behind hA hq e h5 hem.2.2.1 hem.2.2.2
  · obtain ⟨u, v, rfl, rfl, rfl, hb⟩ := hr
    exact ⟨rfl, hb⟩
set_option maxRecDepth 100000 in
theorem ruwrite_no (h : Ru x g F S) (core : Int) (a : Nat) (z : Int) (d : Nat) (ha : a < 4294967296) (hh : S.has core a = false) : Calls Tryd.prog 14 #[.pointer (some ⟨g.p, 0, none⟩), .int .i64 core, .int .i64 a, .int .i64 z, .int .u32 d] x fun e w' => e = .returned (.bool false) ∧ w' = x := by
  have HH := Hid.in (ruhas h core a ha)
  rw [hh] at HH
  clear h ha hh
  go_enter Tryd.func14, Tryd.ntmps14
  go_wp2_with (go_at_call 26; refine HH.out.mono ?_; rintro e y ⟨rfl, hy⟩; have hy2 := hy.symm; clear hy; subst hy2)
  go_ret
  exact ⟨rfl, rfl⟩
set_option maxRecDepth 100000 in
theorem ruwrite_of {P : Value → World → Prop} (h : Ru x g F S) (i : Nat) (a : Nat) (z : Int) (d : Nat) (ha : a < 4294967296) (hh : S.has i a = true) (hr : Calls Tryd.prog 35 #[.pointer (some ⟨g.q i, 0, none⟩), .int .i64 a, .int .i64 z, .int .u32 d] x fun e w' => ∃ u, e = .returned u ∧ P u w') : Calls Tryd.prog 14 #[.pointer (some ⟨g.p, 0, none⟩), .int .i64 i, .int .i64 a, .int .i64 z, .int .u32 d] x fun e w' => ∃ u, e = .returned u ∧ P u w' := by
  have HH := Hid.in (ruhas h i a ha)
  rw [hh] at HH
  obtain ⟨i', hii, hi, -, -⟩ := has_core hh
  obtain rfl : i = i' := by omega
  have HR := Hid.in hr
  obtain ⟨last, left, o1, o2, -⟩ := h.own
  have c0 : x.cell? ⟨g.p, 0, none⟩ = some (.slice (some ⟨g.cb, 0, none⟩) S.nc g.cc) := o1.cell 0 (by decide)
  have r0 : x.cell? ⟨g.cb, i, none⟩ = some (.pointer (some ⟨g.q i, 0, none⟩)) := o2.cell i hi
  have hp := o1.here
  have hrr := o2.here
  have hi' : (i : Int) < (S.nc : Int) := by omega
  clear h ha hh hr hii hi o1 o2
  go_enter Tryd.func14, Tryd.ntmps14
  go_wp2_with (first
    | (go_at_call 26; refine HH.out.mono ?_; rintro e y ⟨rfl, hy⟩; have hy2 := hy.symm; clear hy; subst hy2)
    | (go_at_call 35; refine HR.out.mono ?_; rintro e y ⟨u, rfl, hq⟩; have HQ := Hid.in hq; clear hq))
  go_ret
  exact ⟨u, rfl, HQ.out⟩
theorem ruwrite_bad (h : Ru x g F S) (i a : Nat) (z : Int) (d : Nat) (ha : a < 4294967296) (hh : S.has i a = true) (hno : No ((S.c i).set ((S.c i).of a)) a ∨ fits a z = false ∨ (S.c i).st a < 2) : Calls Tryd.prog 14 #[.pointer (some ⟨g.p, 0, none⟩), .int .i64 i, .int .i64 a, .int .i64 z, .int .u32 d] x fun e w' => e = .returned (.bool false) ∧ w' = x := by
  obtain ⟨i', hii, hi, -, -⟩ := has_core hh
  obtain rfl : i = i' := by omega
  have h0 := h
  obtain ⟨rv, R, last, left, k, hF⟩ := h
  have sm := k.sm i hi
  have hno2 : No (R i) a ∨ fits a z = false ∨ ∃ j, At (R i) a j ∧ ((R i).getD j l0).s < 2 := by
    rcases hno with q | q | q
    · exact Or.inl ((sm.no a).1 q)
    · exact Or.inr (Or.inl q)
    · rcases at_or_no (R i) a with ⟨j, hj⟩ | hj
      · exact Or.inr (Or.inr ⟨j, hj, by rw [← sm.st_at hj]; exact q⟩)
      · exact Or.inl hj
  refine (ruwrite_of (P := fun u w' => u = .bool false ∧ w' = x) h0 i a z d ha hh ((rwrite_no g.B (g.q i) (rv i) (S.c i).n (S.c i).ways (R i) a z d x (k.rc i hi) ha hno2).mono fun e w' h => ⟨_, h.1, rfl, h.2⟩)).mono fun e w' h => ?_
  obtain ⟨u, rfl, rfl, hb⟩ := h
  exact ⟨rfl, hb⟩
theorem ruwrite_good (h : Ru x g F S) (i a z d j : Nat) (ha : a < 4294967296) (hh : S.has i a = true) (hA : At ((S.c i).set ((S.c i).of a)) a j) (hz : fits a z = true) (hs : 2 ≤ (((S.c i).set ((S.c i).of a)).getD j l0).s) : Calls Tryd.prog 14 #[.pointer (some ⟨g.p, 0, none⟩), .int .i64 i, .int .i64 a, .int .i64 z, .int .u32 d] x fun e w' => e = .returned (.bool true) ∧ Ru w' g F (S.wrt i a j d z) ∧ Turned (fun j => ¬ F j) x w' := by
  obtain ⟨i', hii, hi, -, -⟩ := has_core hh
  obtain rfl : i = i' := by omega
  have h0 := h
  obtain ⟨rv, R, last, left, k, hF⟩ := h
  have sm := k.sm i hi
  obtain ⟨q, hq⟩ := sm.both hA
  obtain ⟨X, e, Y, h1, h2', h3, h4, h5, h6, h7, h8⟩ := sm.at hA hq
  have hem := sm.line e (by rw [h1]; simp)
  rw [h4] at hs
  obtain ⟨w1, w2, w3⟩ := wr_is e (a % 16) d z
  have hus : (S.c i).wrote ((S.c i).of a) j (a % 16) d z = (S.c i).put ((S.c i).of a) (rest ((S.c i).set ((S.c i).of a)) j ++ [e.wr (a % 16) d z]) := by unfold CS.wrote; rw [h4]
  have := rwrite_at g.B (g.q i) (rv i) (S.c i).n (S.c i).ways (R i) a z d q x (k.rc i hi) ha hq hz (by rw [h3]; exact hs)
  rw [h3] at this
  refine (ruwrite_of (P := fun u w' => u = .bool true ∧ Ru w' g F (S.cput i ((S.c i).wrote ((S.c i).of a) j (a % 16) d z)) ∧ Turned (fun j => ¬ F j) x w') h0 i a z d ha hh (this.mono fun r w' hr => ?_)).mono fun r w' hr => ?_
  · obtain ⟨rfl, v', rc, hv, t⟩ := hr
    refine ⟨_, rfl, rfl, ?_⟩
    refine ru_cache hF k i hi (T := (S.c i).wrote ((S.c i).of a) j (a % 16) d z) rfl rfl rc ?_ (fun z hz => Or.inr (hv z hz)) (t.mono (fun z hz => Or.inl hz))
    rw [hus]
    refine sm.behind hA hq (e.wr (a % 16) d z) (w1.trans h5) (Or.inr (Or.inr w2)) (fun t ht => ?_)
    rw [w3 t]
    split
    · exact Nat.mod_lt _ (by decide)
    · exact hem.2.2.2 t ht
  · obtain ⟨u, rfl, rfl, hb, hc⟩ := hr
    exact ⟨rfl, hb.nw _, hc⟩
end
section
variable {x : World} {g : Bn} {F : Nat → Prop} {N : Nat} {S : BS}

set_option maxRecDepth 100000 in
theorem uwrite_no (h : Bu x g F N S) (core : Int) (a : Nat) (z : Int) (d : Nat) (ha : a < 4294967296) (hh : S.has core a = false) : Calls Tryd.prog 13 #[.pointer (some ⟨g.p, 0, none⟩), .int .i64 core, .int .u32 a, .int .i64 z, .int .u32 d] x fun e w' => e = .returned (.bool false) ∧ w' = x := by
  obtain ⟨V, kn, ka, k, -⟩ := h
  have HH := Hid.in (bhas_any k core a ha)
  rw [hh] at HH
  have hu : undef = Value.tuple #[] := rfl
  clear k ha hh
  go_enter Tryd.func13, Tryd.ntmps13
  go_wp2_with (go_at_call 24; refine HH.out.mono ?_; rintro e y ⟨rfl, hy⟩; have hy2 := hy.symm; clear hy; subst hy2)
  go_ret
  exact ⟨rfl, rfl⟩
set_option maxRecDepth 100000 in
theorem uwrite_bad (h : Bu x g F N S) (i a : Nat) (z : Int) (d : Nat) (ha : a < 4294967296) (hh : S.has i a = true) (hno : No ((S.c i).set ((S.c i).of a)) a ∨ fits a z = false ∨ ∃ j, At ((S.c i).set ((S.c i).of a)) a j ∧ (((S.c i).set ((S.c i).of a)).getD j l0).s = 1) : Calls Tryd.prog 13 #[.pointer (some ⟨g.p, 0, none⟩), .int .i64 i, .int .u32 a, .int .i64 z, .int .u32 d] x fun e w' => e = .returned (.bool false) ∧ Below x.heap.size x w' := by
  obtain ⟨V, kn, ka, k, -⟩ := h
  obtain ⟨i', hii, hi, -, -⟩ := has_core hh
  obtain rfl : i = i' := by omega
  have HH := Hid.in (bhas_any k i a ha)
  rw [hh] at HH
  have HW := Hid.in (write_no g.B (g.P i) (g.H i) (g.C i) (V i) (S.c i) a z d x (k.ch i hi) ha hno)
  have c0 : x.cell? ⟨g.p, 0, none⟩ = some (.slice (some ⟨g.rb, 0, none⟩) S.nc g.rc) := k.c.cell 0 (by decide)
  have r0 : x.cell? ⟨g.rb, i, none⟩ = some (.pointer (some ⟨g.P i, 0, none⟩)) := k.row.cell i hi
  have hp := k.c.here
  have hrr := k.row.here
  have hi' : (i : Int) < (S.nc : Int) := by omega
  clear k ha hh hii hi hno
  go_enter Tryd.func13, Tryd.ntmps13
  go_wp2_with (first
    | (go_at_call 24; refine HH.out.mono ?_; rintro e y ⟨rfl, hy⟩; have hy2 := hy.symm; clear hy; subst hy2)
    | (go_at_call 33; refine HW.out.mono ?_; rintro e y ⟨rfl, hb⟩; have HB := Hid.in hb; clear hb))
  go_ret
  exact ⟨rfl, HB.out⟩
end
end Go.Proofs.YtlogdmnhngbkaaaDoor
/-
  BUS' LAW BusCoheres: what lasts of the bus; a transaction keeps it.
-/
namespace Go.Proofs.YtlogdmnhngbkaaaDoor
open Go Go.RowKit
/-- two caches, 256 bytes; f: what was written last -/
structure Co (S : BS) (f : Nat → Nat) : Prop where
  nc : S.nc = 2
  len : S.len = 256
  s0 : Stc (S.c 0)
  s1 : Stc (S.c 1)
  se : Se (fun i e => i < 2 ∧ (S.c i).L e) S.mem S.nw f
  m8 : ∀ o, S.mem o < 256
theorem Co.st {S : BS} {f : Nat → Nat} (h : Co S f) {i : Nat} (hi : i < 2) : Stc (S.c i) := by
  match i, hi with
  | 0, _ => exact h.s0
  | 1, _ => exact h.s1
theorem cput_c (S : BS) (i j : Nat) (T : CS) : (S.cput i T).c j = if j = i then T else S.c j := rfl
/-- a cache of it has changed -/
theorem Co.put {S : BS} {f f' : Nat → Nat} (h : Co S f) (i : Nat) (T : CS) (m : Nat → Nat) (nw : Int → Option (Nat → Nat)) (hT : Stc T) (hm : ∀ o, m o < 256) (hs : Se (fun j e => j < 2 ∧ (if j = i then T else S.c j).L e) m nw f') : Co { S.cput i T with mem := m, nw := nw } f' := by
  refine ⟨h.nc, h.len, ?_, ?_, hs, hm⟩
  · show Stc (if 0 = i then T else S.c 0)
    split
    · exact hT
    · exact h.s0
  · show Stc (if 1 = i then T else S.c 1)
    split
    · exact hT
    · exact h.s1
theorem wb8 {m : Nat → Nat} (h : ∀ o, m o < 256) (e : Ln) (he : ∀ t, e.b t < 256) : ∀ o, wbm' m e o < 256 := fun o => by
  unfold wbm'
  split
  · unfold wbm
    split
    · exact he _
    · exact h o
  · exact h o
theorem lineOf_range {a : Nat} (h : 65536 ≤ a ∧ a < 65792) : lineOf a % 16 = 0 ∧ 65536 ≤ lineOf a ∧ lineOf a < 65792 := by
  unfold lineOf
  omega
/-- a line of a cache, too be let go of: too 0 or 1 -/
theorem Co.low {S : BS} {f : Nat → Nat} (h : Co S f) (i : Nat) (hi : i < 2) (l too : Nat) (hl : l % 16 = 0) (hto : too ≤ 1) (hst : too < (S.c i).st l) : Co ((S.cput i ((S.c i).lowTo l too)).wb ((S.c i).ln l)) f ∧ (∀ e, ((S.c i).lowTo l too).L e ↔ (((S.c i).L e ∧ e.a ≠ l) ∨ (too = 1 ∧ e = ((S.c i).ln l).setS 1))) ∧ (S.c i).L ((S.c i).ln l) ∧ ((S.c i).ln l).a = l ∧ ((S.c i).ln l).s = (S.c i).st l := by
  have st := h.st hi
  obtain ⟨hA, hs⟩ := CS.st_ix (T := S.c i) (a := l) (by omega)
  have hq : (S.c i).of l < (S.c i).n := (S.c i).of_lt l st.n
  obtain ⟨hL, hla⟩ := st.has l hA
  rw [lineOf_self hl] at hla
  have key : Stc ((S.c i).lowTo l too) ∧ ∀ e, ((S.c i).lowTo l too).L e ↔ (((S.c i).L e ∧ e.a ≠ l) ∨ (too = 1 ∧ e = ((S.c i).ln l).setS 1)) := by
    unfold CS.lowTo
    by_cases c : too = 0
    · rw [if_pos c]
      obtain ⟨u, v⟩ := st.rem ((S.c i).of l) ((S.c i).ix l) hq hA.1
      refine ⟨u, fun e => (v e).trans ?_⟩
      rw [hla]
      constructor
      · intro q; exact Or.inl q
      · rintro (q | q)
        · exact q
        · omega
    · rw [if_neg c]
      obtain rfl : too = 1 := by omega
      obtain ⟨u, v⟩ := st.low ((S.c i).of l) ((S.c i).ix l) hq hA.1 (((S.c i).ln l).setS 1) rfl
      refine ⟨u, fun e => (v e).trans ?_⟩
      have e2 : (((S.c i).ln l).setS 1).a = l := hla
      rw [e2]
      constructor
      · rintro (q | q)
        · exact Or.inl q
        · exact Or.inr ⟨rfl, q⟩
      · rintro (q | q)
        · exact Or.inl q
        · exact Or.inr q.2
  refine ⟨?_, key.2, hL, hla, hs.symm⟩
  have hse := h.se.low i ((S.c i).ln l) ⟨hi, hL⟩ too (by rw [← hs]; exact hst) (L' := fun j e => j < 2 ∧ (if j = i then (S.c i).lowTo l too else S.c j).L e) (fun j e => by
    have hla' : ((S.c i).ln l).a = l := hla
    by_cases c : j = i
    · subst c
      rw [if_pos rfl, key.2 e, hla']
      constructor
      · rintro ⟨q0, q | q⟩
        · exact Or.inl ⟨⟨q0, q.1⟩, fun z => q.2 z.2⟩
        · exact Or.inr ⟨q.1, rfl, q.2⟩
      · rintro (⟨⟨q0, q1⟩, q2⟩ | ⟨q1, -, q2⟩)
        · exact ⟨q0, Or.inl ⟨q1, fun z => q2 ⟨rfl, z⟩⟩⟩
        · exact ⟨hi, Or.inr ⟨q1, q2⟩⟩
    · rw [if_neg c]
      constructor
      · intro q
        exact Or.inl ⟨q, fun z => c z.1⟩
      · rintro (q | q)
        · exact q.1
        · exact absurd q.2.1 c)
  exact h.put i _ _ _ key.1 (wb8 h.m8 _ (h.se.line i _ ⟨hi, hL⟩).2.2.2.2.2.2.2) hse
/-- a line's state, in terms of lines -/
theorem Co.alone {S : BS} {f : Nat → Nat} (h : Co S f) (l : Nat) {i j : Nat} (hi : i < 2) (hj : j < 2) (hij : i ≠ j) (h2 : 2 ≤ (S.c i).st l) : (S.c j).st l = 0 := by
  by_cases c : (S.c j).st l = 0
  · exact c
  · obtain ⟨p, -, q1, q2, q3⟩ := (h.st hi).st_some l (by omega)
    obtain ⟨p', -, q1', q2', q3'⟩ := (h.st hj).st_some l c
    have := h.se.ex i j _ _ hij ⟨hi, q1⟩ ⟨hj, q1'⟩ (by rw [q2, q2'])
    omega
theorem Co.fill {S : BS} {f : Nat → Nat} (h : Co S f) (i : Nat) (hi : i < 2) (l s : Nat) (hl : l % 16 = 0) (hlo : 65536 ≤ l) (hhi : l < 65792) (hs : s = 1 ∨ s = 2) (hn : (S.c i).st l = 0) (hot : ∀ j, j < 2 → j ≠ i → (S.c j).st l ≤ 1 ∧ ((S.c j).st l ≠ 0 → s = 1)) : Co ((S.cput i ((S.c i).fill l s (fun t => S.mem (l - 65536 + t)))).wb (if (S.c i).full l then (S.c i).left l else l0)) f ∧ No ((S.c i).set ((S.c i).of l)) l ∧ ((S.c i).full l = true → (S.c i).L ((S.c i).left l)) ∧ ((S.c i).fill l s (fun t => S.mem (l - 65536 + t))).st l = s := by
  have st := h.st hi
  have hN : No ((S.c i).set ((S.c i).of l)) l := by
    rcases at_or_no ((S.c i).set ((S.c i).of l)) l with ⟨p, hA⟩ | hN
    · have := CS.st_at hA
      have := (h.se.line i _ ⟨hi, (st.has l hA).1⟩).2.2.2.2.1
      omega
    · exact hN
  obtain ⟨⟨f1, f2⟩, f3⟩ := st.fill l s (fun t => S.mem (l - 65536 + t)) hl hN
  have hno : ∀ e, (S.c i).L e → e.a ≠ l := fun e he => by
    have := (st.no l).1 hN e he
    rwa [lineOf_self hl] at this
  have hoth : ∀ j e, j < 2 → (S.c j).L e → e.a = l → e.s = 1 ∧ s = 1 := fun j e hj he hea => by
    by_cases c : j = i
    · subst c
      exact absurd hea (hno e he)
    · have e1 := (h.st hj).st_is l he (by rw [lineOf_self hl]; exact hea)
      have e2 := hot j hj c
      have e3 := (h.se.line j e ⟨hj, he⟩).2.2.2.2.1
      rw [e1] at e2
      exact ⟨by omega, e2.2 (by omega)⟩
  refine ⟨?_, hN, f3, ?_⟩
  · have hl0 : (l0 : Ln).s ≠ 3 := by decide
    cases hf : (S.c i).full l
    · have hse := h.se.new i l s (fun t => S.mem (l - 65536 + t)) hi hl hlo hhi hs (fun e he => hno e he.2) (fun j e he hea => hoth j e he.1 he.2 hea) (fun t _ => rfl) (fun t => h.m8 _) (L' := fun j e => j < 2 ∧ (if j = i then (S.c i).fill l s (fun t => S.mem (l - 65536 + t)) else S.c j).L e) (fun j e => by
        by_cases c : j = i
        · subst c
          rw [if_pos rfl, f2 e]
          constructor
          · rintro ⟨q0, q | q⟩
            · exact Or.inl ⟨q0, q.1⟩
            · exact Or.inr ⟨rfl, q⟩
          · rintro (q | q)
            · exact ⟨q.1, Or.inl ⟨q.2, fun z => by rw [hf] at z; cases z⟩⟩
            · exact ⟨hi, Or.inr q.2⟩
        · rw [if_neg c]
          constructor
          · intro q; exact Or.inl q
          · rintro (q | q)
            · exact q
            · exact absurd q.1 c)
      have e0 : (S.cput i ((S.c i).fill l s (fun t => S.mem (l - 65536 + t)))).wb (if false = true then (S.c i).left l else l0) = { S.cput i ((S.c i).fill l s (fun t => S.mem (l - 65536 + t))) with mem := S.mem, nw := S.nw } := by
        unfold BS.wb wbm' wbn
        rfl
      rw [e0]
      exact h.put i _ _ _ f1 h.m8 hse
    · have hL := f3 hf
      obtain ⟨lf, hlf⟩ : ∃ lf, (S.c i).left l = lf := ⟨_, rfl⟩
      rw [hlf] at hL f2
      have ll := h.se.line i lf ⟨hi, hL⟩
      have hne : lf.a ≠ l := hno lf hL
      have s1 := h.se.low i lf ⟨hi, hL⟩ 0 (by have := ll.2.2.2.2.1; omega) (L' := fun j e => (j < 2 ∧ (S.c j).L e) ∧ ¬ (j = i ∧ e.a = lf.a)) (fun j e => by
        constructor
        · intro q; exact Or.inl q
        · rintro (q | q)
          · exact q
          · exact absurd q.1 (by omega))
      have hw : ∀ t, t < 16 → (fun t => S.mem (l - 65536 + t)) t = wbm' S.mem lf (l - 65536 + t) := fun t ht => by
        unfold wbm'
        split
        · unfold wbm
          rw [if_neg]
          have := ll.2.1
          have := ll.2.2.1
          omega
        · rfl
      have hse := s1.new i l s (fun t => S.mem (l - 65536 + t)) hi hl hlo hhi hs (fun e he => hno e he.1.2) (fun j e he hea => hoth j e he.1.1 he.1.2 hea) hw (fun t => h.m8 _) (L' := fun j e => j < 2 ∧ (if j = i then (S.c i).fill l s (fun t => S.mem (l - 65536 + t)) else S.c j).L e) (fun j e => by
        by_cases c : j = i
        · subst c
          rw [if_pos rfl, f2 e]
          constructor
          · rintro ⟨q0, q | q⟩
            · exact Or.inl ⟨⟨q0, q.1⟩, fun z => q.2 hf z.2⟩
            · exact Or.inr ⟨rfl, q⟩
          · rintro (q | q)
            · exact ⟨q.1.1, Or.inl ⟨q.1.2, fun _ z => q.2 ⟨rfl, z⟩⟩⟩
            · exact ⟨hi, Or.inr q.2⟩
        · rw [if_neg c]
          constructor
          · intro q; exact Or.inl ⟨q, fun z => c z.1⟩
          · rintro (q | q)
            · exact q.1
            · exact absurd q.1 c)
      have e0 : (S.cput i ((S.c i).fill l s (fun t => S.mem (l - 65536 + t)))).wb (if true = true then (S.c i).left l else l0) = { S.cput i ((S.c i).fill l s (fun t => S.mem (l - 65536 + t))) with mem := wbm' S.mem lf, nw := wbn S.nw lf } := by
        rw [if_pos rfl, hlf]
        rfl
      rw [e0]
      exact h.put i _ _ _ f1 (wb8 h.m8 _ ll.2.2.2.2.2.2.2) hse
  · exact f1.st_is l ((f2 _).2 (Or.inr rfl)) (by rw [lineOf_self hl])
end Go.Proofs.YtlogdmnhngbkaaaDoor
