import Derived.Test.YtemamhkhjijdlaaGreatDoorY22
import Derived.Test.YtemamhkhjijdlaaGreatDoorY10
import Derived.Maps.RangeWalk
/-
  BUS: Tick.
-/
namespace Go.Proofs.YtemamhkhjijdlaaGreatDoor
open Go Go.RowKit
section
variable {x : World} {g : Bn} {F : Nat → Prop} {N : Nat} {S : BS}
theorem Bu.tick (h : Bu x g F N S) (ht : S.tk + 1 ≤ 10) : Bu (x.setCell ⟨g.p, 7, none⟩ (.int .i64 ((S.tk : Int) + 1))) g F N { S with tk := S.tk + 1 } ∧ Turned (fun j => ¬ F j) x (x.setCell ⟨g.p, 7, none⟩ (.int .i64 ((S.tk : Int) + 1))) := by
  obtain ⟨V, kn, ka, k, h1, h2, h3⟩ := h
  have t : Turned (fun j => j = g.p) x (x.setCell ⟨g.p, 7, none⟩ (.int .i64 ((S.tk : Int) + 1))) := (Turned.refl (fun j => j = g.p) x).set rfl _ _
  have c := k.c.set 7 (by decide) (.int .i64 ((S.tk : Int) + 1))
  refine Bu.step h3 (Bm.own (tu := S.turn) (tk := S.tk + 1) (on := S.on) k t ⟨c.here, fun o ho => ?_, c.free⟩ k.sz.2.2.2.2.2.1 ht) h1 h2 rfl (fun _ => rfl) (fun _ _ _ _ _ q => Or.inl q) t (fun z hz => Or.inl (Or.inl hz))
  rw [c.cell o ho]
  match o, ho with
  | 0, _ => rfl
  | 1, _ => rfl
  | 2, _ => rfl
  | 3, _ => rfl
  | 4, _ => rfl
  | 5, _ => rfl
  | 6, _ => rfl
  | 7, _ => simp [upd, bv]
  | q + 8, h => exact absurd h (by omega)
theorem Bu.off (h : Bu x g F N S) : Bu (x.setCell ⟨g.p, 6, none⟩ (.bool false)) g F N { S with on := false } ∧ Turned (fun j => ¬ F j) x (x.setCell ⟨g.p, 6, none⟩ (.bool false)) := by
  obtain ⟨V, kn, ka, k, h1, h2, h3⟩ := h
  have t : Turned (fun j => j = g.p) x (x.setCell ⟨g.p, 6, none⟩ (.bool false)) := (Turned.refl (fun j => j = g.p) x).set rfl _ _
  have c := k.c.set 6 (by decide) (.bool false)
  refine Bu.step h3 (Bm.own (tu := S.turn) (tk := S.tk) (on := false) k t ⟨c.here, fun o ho => ?_, c.free⟩ k.sz.2.2.2.2.2.1 k.sz.2.2.2.2.2.2) h1 h2 rfl (fun _ => rfl) (fun _ _ _ _ _ q => Or.inl q) t (fun z hz => Or.inl (Or.inl hz))
  rw [c.cell o ho]
  match o, ho with
  | 0, _ => rfl
  | 1, _ => rfl
  | 2, _ => rfl
  | 3, _ => rfl
  | 4, _ => rfl
  | 5, _ => rfl
  | 6, _ => rfl
  | 7, _ => rfl
  | q + 8, h => exact absurd h (by omega)
/-- does a transaction go on in this tick, and whose? -/
def BS.goes (S S' : BS) : Prop := (S.on = true ∧ S' = S) ∨ (S.on = false ∧ ∃ i, i < S.nc ∧ (S.ak (S.nxt i : Nat)).isSome = true ∧ (∀ j, j < i → (S.ak (S.nxt j : Nat)).isSome = false) ∧ S' = { S with turn := S.nxt i, on := true, tk := 0 })
end
end Go.Proofs.YtemamhkhjijdlaaGreatDoor
/-
  BUS: Tick, where the transaction is done.
-/
namespace Go.Proofs.YtemamhkhjijdlaaGreatDoor
open Go Go.RowKit
section
variable {x : World} {g : Bn} {F : Nat → Prop} {N : Nat} {S : BS}
end
end Go.Proofs.YtemamhkhjijdlaaGreatDoor
/-
  BUS: Tick, with what it tells; with nothing to do.
-/
namespace Go.Proofs.YtemamhkhjijdlaaGreatDoor
open Go Go.RowKit
section
variable {x : World} {g : Bn} {F : Nat → Prop} {N : Nat} {S : BS}
set_option maxRecDepth 100000 in
set_option maxHeartbeats 2000000 in
theorem utick_idle (h : Bu x g F N S) (hon : S.on = false) (hno : ∀ j, j < S.nc → (S.ak (S.nxt j : Nat)).isSome = false) : Calls Tryz.prog 24 #[.pointer (some ⟨g.p, 0, none⟩)] x fun e w' => e = .returned (.slice none 0 0) ∧ Bu w' g F N S ∧ Turned (fun j => ¬ F j) x w' := by
  obtain ⟨o1, -, -, o4, -⟩ := h.own
  have p6 : x.cell? ⟨g.p, 6, none⟩ = some (.bool S.on) := o1.cell 6 (by decide)
  have hp := o1.here
  rw [hon] at p6
  have HBE : Hid (Calls Tryz.prog 43 #[.pointer (some ⟨g.p, 0, none⟩)] x fun e w' => e = .returned (.bool false) ∧ Bu w' g F N S ∧ Turned (fun j => ¬ F j) x w') := by
    refine (ubegin h).mono ?_
    rintro e w' ⟨⟨j, hj, b1, b2, rfl, k⟩ | ⟨b1, rfl, k⟩, t⟩
    · rw [hno j hj] at b1
      cases b1
    · exact ⟨rfl, k, t⟩
  clear h o1 o4 hon hno
  go_enter Tryz.func24, Tryz.ntmps24
  go_wp2_with (go_at_call 43; refine HBE.out.mono ?_; rintro e y ⟨rfl, hu, ht⟩; have HU := Hid.in hu; have HT := Hid.in ht; clear hu ht)
  go_ret
  exact ⟨rfl, HU.out, HT.out⟩
end
end Go.Proofs.YtemamhkhjijdlaaGreatDoor
/-
  BUS' LAW BusCoheres: what lasts of the bus; a transaction keeps it.
-/
namespace Go.Proofs.YtemamhkhjijdlaaGreatDoor
open Go Go.RowKit
/-- two caches, 256 bytes; f: what was written last -/
structure Co (S : BS) (f : Nat → Nat) : Prop where
  nc : S.nc = 2
  len : S.len = 256
  s0 : Stc (S.c 0)
  s1 : Stc (S.c 1)
  se : Se (fun i e => i < 2 ∧ (S.c i).L e) S.mem S.nw f
  m8 : ∀ o, S.mem o < 256
theorem Co.st {S : BS} {f : Nat → Nat} (h : Co S f) {i : Nat} (hi : i < 2) : Stc (S.c i) := by
  match i, hi with
  | 0, _ => exact h.s0
  | 1, _ => exact h.s1
/-- a cache of it has changed -/
theorem Co.put {S : BS} {f f' : Nat → Nat} (h : Co S f) (i : Nat) (T : CS) (m : Nat → Nat) (nw : Int → Option (Nat → Nat)) (hT : Stc T) (hm : ∀ o, m o < 256) (hs : Se (fun j e => j < 2 ∧ (if j = i then T else S.c j).L e) m nw f') : Co { S.cput i T with mem := m, nw := nw } f' := by
  refine ⟨h.nc, h.len, ?_, ?_, hs, hm⟩
  · show Stc (if 0 = i then T else S.c 0)
    split
    · exact hT
    · exact h.s0
  · show Stc (if 1 = i then T else S.c 1)
    split
    · exact hT
    · exact h.s1
theorem wb8 {m : Nat → Nat} (h : ∀ o, m o < 256) (e : Ln) (he : ∀ t, e.b t < 256) : ∀ o, wbm' m e o < 256 := fun o => by
  unfold wbm'
  split
  · unfold wbm
    split
    · exact he _
    · exact h o
  · exact h o
/-- a line of a cache, too be let go of: too 0 or 1 -/
theorem Co.low {S : BS} {f : Nat → Nat} (h : Co S f) (i : Nat) (hi : i < 2) (l too : Nat) (hl : l % 16 = 0) (hto : too ≤ 1) (hst : too < (S.c i).st l) : Co ((S.cput i ((S.c i).lowTo l too)).wb ((S.c i).ln l)) f ∧ (∀ e, ((S.c i).lowTo l too).L e ↔ (((S.c i).L e ∧ e.a ≠ l) ∨ (too = 1 ∧ e = ((S.c i).ln l).setS 1))) ∧ (S.c i).L ((S.c i).ln l) ∧ ((S.c i).ln l).a = l ∧ ((S.c i).ln l).s = (S.c i).st l := by
  have st := h.st hi
  obtain ⟨hA, hs⟩ := CS.st_ix (T := S.c i) (a := l) (by omega)
  have hq : (S.c i).of l < (S.c i).n := (S.c i).of_lt l st.n
  obtain ⟨hL, hla⟩ := st.has l hA
  rw [lineOf_self hl] at hla
  have key : Stc ((S.c i).lowTo l too) ∧ ∀ e, ((S.c i).lowTo l too).L e ↔ (((S.c i).L e ∧ e.a ≠ l) ∨ (too = 1 ∧ e = ((S.c i).ln l).setS 1)) := by
    unfold CS.lowTo
    by_cases c : too = 0
    · rw [if_pos c]
      obtain ⟨u, v⟩ := st.rem ((S.c i).of l) ((S.c i).ix l) hq hA.1
      refine ⟨u, fun e => (v e).trans ?_⟩
      rw [hla]
      constructor
      · intro q; exact Or.inl q
      · rintro (q | q)
        · exact q
        · omega
    · rw [if_neg c]
      obtain rfl : too = 1 := by omega
      obtain ⟨u, v⟩ := st.low ((S.c i).of l) ((S.c i).ix l) hq hA.1 (((S.c i).ln l).setS 1) rfl
      refine ⟨u, fun e => (v e).trans ?_⟩
      have e2 : (((S.c i).ln l).setS 1).a = l := hla
      rw [e2]
      constructor
      · rintro (q | q)
        · exact Or.inl q
        · exact Or.inr ⟨rfl, q⟩
      · rintro (q | q)
        · exact Or.inl q
        · exact Or.inr q.2
  refine ⟨?_, key.2, hL, hla, hs.symm⟩
  have hse := h.se.low i ((S.c i).ln l) ⟨hi, hL⟩ too (by rw [← hs]; exact hst) (L' := fun j e => j < 2 ∧ (if j = i then (S.c i).lowTo l too else S.c j).L e) (fun j e => by
    have hla' : ((S.c i).ln l).a = l := hla
    by_cases c : j = i
    · subst c
      rw [if_pos rfl, key.2 e, hla']
      constructor
      · rintro ⟨q0, q | q⟩
        · exact Or.inl ⟨⟨q0, q.1⟩, fun z => q.2 z.2⟩
        · exact Or.inr ⟨q.1, rfl, q.2⟩
      · rintro (⟨⟨q0, q1⟩, q2⟩ | ⟨q1, -, q2⟩)
        · exact ⟨q0, Or.inl ⟨q1, fun z => q2 ⟨rfl, z⟩⟩⟩
        · exact ⟨hi, Or.inr ⟨q1, q2⟩⟩
    · rw [if_neg c]
      constructor
      · intro q
        exact Or.inl ⟨q, fun z => c z.1⟩
      · rintro (q | q)
        · exact q.1
        · exact absurd q.2.1 c)
  exact h.put i _ _ _ key.1 (wb8 h.m8 _ (h.se.line i _ ⟨hi, hL⟩).2.2.2.2.2.2.2) hse
/-- a line's state, in terms of lines -/
theorem Co.alone {S : BS} {f : Nat → Nat} (h : Co S f) (l : Nat) {i j : Nat} (hi : i < 2) (hj : j < 2) (hij : i ≠ j) (h2 : 2 ≤ (S.c i).st l) : (S.c j).st l = 0 := by
  by_cases c : (S.c j).st l = 0
  · exact c
  · obtain ⟨p, -, q1, q2, q3⟩ := (h.st hi).st_some l (by omega)
    obtain ⟨p', -, q1', q2', q3'⟩ := (h.st hj).st_some l c
    have := h.se.ex i j _ _ hij ⟨hi, q1⟩ ⟨hj, q1'⟩ (by rw [q2, q2'])
    omega
theorem Co.fill {S : BS} {f : Nat → Nat} (h : Co S f) (i : Nat) (hi : i < 2) (l s : Nat) (hl : l % 16 = 0) (hlo : 65536 ≤ l) (hhi : l < 65792) (hs : s = 1 ∨ s = 2) (hn : (S.c i).st l = 0) (hot : ∀ j, j < 2 → j ≠ i → (S.c j).st l ≤ 1 ∧ ((S.c j).st l ≠ 0 → s = 1)) : Co ((S.cput i ((S.c i).fill l s (fun t => S.mem (l - 65536 + t)))).wb (if (S.c i).full l then (S.c i).left l else l0)) f ∧ No ((S.c i).set ((S.c i).of l)) l ∧ ((S.c i).full l = true → (S.c i).L ((S.c i).left l)) ∧ ((S.c i).fill l s (fun t => S.mem (l - 65536 + t))).st l = s := by
  have st := h.st hi
  have hN : No ((S.c i).set ((S.c i).of l)) l := by
    rcases at_or_no ((S.c i).set ((S.c i).of l)) l with ⟨p, hA⟩ | hN
    · have := CS.st_at hA
      have := (h.se.line i _ ⟨hi, (st.has l hA).1⟩).2.2.2.2.1
      omega
    · exact hN
  obtain ⟨⟨f1, f2⟩, f3⟩ := st.fill l s (fun t => S.mem (l - 65536 + t)) hl hN
  have hno : ∀ e, (S.c i).L e → e.a ≠ l := fun e he => by
    have := (st.no l).1 hN e he
    rwa [lineOf_self hl] at this
  have hoth : ∀ j e, j < 2 → (S.c j).L e → e.a = l → e.s = 1 ∧ s = 1 := fun j e hj he hea => by
    by_cases c : j = i
    · subst c
      exact absurd hea (hno e he)
    · have e1 := (h.st hj).st_is l he (by rw [lineOf_self hl]; exact hea)
      have e2 := hot j hj c
      have e3 := (h.se.line j e ⟨hj, he⟩).2.2.2.2.1
      rw [e1] at e2
      exact ⟨by omega, e2.2 (by omega)⟩
  refine ⟨?_, hN, f3, ?_⟩
  · have hl0 : (l0 : Ln).s ≠ 3 := by decide
    cases hf : (S.c i).full l
    · have hse := h.se.new i l s (fun t => S.mem (l - 65536 + t)) hi hl hlo hhi hs (fun e he => hno e he.2) (fun j e he hea => hoth j e he.1 he.2 hea) (fun t _ => rfl) (fun t => h.m8 _) (L' := fun j e => j < 2 ∧ (if j = i then (S.c i).fill l s (fun t => S.mem (l - 65536 + t)) else S.c j).L e) (fun j e => by
        by_cases c : j = i
        · subst c
          rw [if_pos rfl, f2 e]
          constructor
          · rintro ⟨q0, q | q⟩
            · exact Or.inl ⟨q0, q.1⟩
            · exact Or.inr ⟨rfl, q⟩
          · rintro (q | q)
            · exact ⟨q.1, Or.inl ⟨q.2, fun z => by rw [hf] at z; cases z⟩⟩
            · exact ⟨hi, Or.inr q.2⟩
        · rw [if_neg c]
          constructor
          · intro q; exact Or.inl q
          · rintro (q | q)
            · exact q
            · exact absurd q.1 c)
      have e0 : (S.cput i ((S.c i).fill l s (fun t => S.mem (l - 65536 + t)))).wb (if false = true then (S.c i).left l else l0) = { S.cput i ((S.c i).fill l s (fun t => S.mem (l - 65536 + t))) with mem := S.mem, nw := S.nw } := by
        unfold BS.wb wbm' wbn
        rfl
      rw [e0]
      exact h.put i _ _ _ f1 h.m8 hse
    · have hL := f3 hf
      obtain ⟨lf, hlf⟩ : ∃ lf, (S.c i).left l = lf := ⟨_, rfl⟩
      rw [hlf] at hL f2
      have ll := h.se.line i lf ⟨hi, hL⟩
      have hne : lf.a ≠ l := hno lf hL
      have s1 := h.se.low i lf ⟨hi, hL⟩ 0 (by have := ll.2.2.2.2.1; omega) (L' := fun j e => (j < 2 ∧ (S.c j).L e) ∧ ¬ (j = i ∧ e.a = lf.a)) (fun j e => by
        constructor
        · intro q; exact Or.inl q
        · rintro (q | q)
          · exact q
          · exact absurd q.1 (by omega))
      have hw : ∀ t, t < 16 → (fun t => S.mem (l - 65536 + t)) t = wbm' S.mem lf (l - 65536 + t) := fun t ht => by
        unfold wbm'
        split
        · unfold wbm
          rw [if_neg]
          have := ll.2.1
          have := ll.2.2.1
          omega
        · rfl
      have hse := s1.new i l s (fun t => S.mem (l - 65536 + t)) hi hl hlo hhi hs (fun e he => hno e he.1.2) (fun j e he hea => hoth j e he.1.1 he.1.2 hea) hw (fun t => h.m8 _) (L' := fun j e => j < 2 ∧ (if j = i then (S.c i).fill l s (fun t => S.mem (l - 65536 + t)) else S.c j).L e) (fun j e => by
        by_cases c : j = i
        · subst c
          rw [if_pos rfl, f2 e]
          constructor
          · rintro ⟨q0, q | q⟩
            · exact Or.inl ⟨⟨q0, q.1⟩, fun z => q.2 hf z.2⟩
            · exact Or.inr ⟨rfl, q⟩
          · rintro (q | q)
            · exact ⟨q.1.1, Or.inl ⟨q.1.2, fun _ z => q.2 ⟨rfl, z⟩⟩⟩
            · exact ⟨hi, Or.inr q.2⟩
        · rw [if_neg c]
          constructor
          · intro q; exact Or.inl ⟨q, fun z => c z.1⟩
          · rintro (q | q)
            · exact q.1
            · exact absurd q.1 c)
      have e0 : (S.cput i ((S.c i).fill l s (fun t => S.mem (l - 65536 + t)))).wb (if true = true then (S.c i).left l else l0) = { S.cput i ((S.c i).fill l s (fun t => S.mem (l - 65536 + t))) with mem := wbm' S.mem lf, nw := wbn S.nw lf } := by
        rw [if_pos rfl, hlf]
        rfl
      rw [e0]
      exact h.put i _ _ _ f1 (wb8 h.m8 _ ll.2.2.2.2.2.2.2) hse
  · exact f1.st_is l ((f2 _).2 (Or.inr rfl)) (by rw [lineOf_self hl])
end Go.Proofs.YtemamhkhjijdlaaGreatDoor
/-
  BUS: Data.
-/
namespace Go.Proofs.YtemamhkhjijdlaaGreatDoor
open Go Go.RowKit
/-- a row of 256 bytes in a block of its own -/
def Own (w : World) (B b : Nat) : Prop := ∃ xs, w.ownsRow B 5 1 (.slice (some ⟨b, 0, none⟩) 256 256) 256 xs
theorem Own.turned {Q : Nat → Prop} {w y : World} {B b : Nat} (h : Own w B b) (t : Turned Q w y) (hb : ¬ Q b) : Own y B b := by
  obtain ⟨xs, h⟩ := h
  exact ⟨xs, own_turned_bus h t (fun j hj => by
    have hj : b = j := by simpa [Value.ownBlock] using hj
    rw [← hj]
    exact hb)⟩
theorem Own.set {B b : Nat} : ∀ (vs : List Value) (o : Nat) (w : World), Own w B b → Own (w.setCells b o vs) B b
  | [], _, _, h => h
  | v :: vs, o, w, h => by
    obtain ⟨xs, h⟩ := h
    exact Own.set vs (o + 1) _ ⟨_, own_set_bus h o v⟩
section
variable {x : World} {g : Bn} {F : Nat → Prop} {N : Nat} {S : BS} {f : Nat → Nat}
theorem grown_below {w w' : World} (h : w.grownBy w' none) : Below w.heap.size w w' := ⟨h.os, h.tape, h.output, h.size, fun i hi => h.block i hi (by simp)⟩
theorem turned_grows {w w' : World} {b : Nat} (h : Turned (fun j => j = b) w w') : w.grownBy w' (some b) := ⟨h.os, h.tape, h.output, h.size, fun i hi hne => h.block i hi (fun e => hne (by rw [e]))⟩
end
end Go.Proofs.YtemamhkhjijdlaaGreatDoor
/-
  BUS' LAW BusCoheres: a transaction, a tick, a read, a write keep what lasts.
-/
namespace Go.Proofs.YtemamhkhjijdlaaGreatDoor
open Go Go.RowKit
theorem wb_id (S : BS) (e : Ln) (h : e.s ≠ 3) : S.wb e = S := by
  unfold BS.wb wbm' wbn
  rw [if_neg h, if_neg h]
theorem Co.same {S S' : BS} {f : Nat → Nat} (h : Co S f) (h1 : S'.nc = S.nc) (h2 : S'.len = S.len) (h3 : S'.c = S.c) (h4 : S'.mem = S.mem) (h5 : S'.nw = S.nw) : Co S' f :=
  ⟨h1.trans h.nc, h2.trans h.len, by rw [h3]; exact h.s0, by rw [h3]; exact h.s1, by rw [h3, h4, h5]; exact h.se, by rw [h4]; exact h.m8⟩
theorem Co.wrt {S : BS} {f : Nat → Nat} (h : Co S f) (i : Nat) (hi : i < 2) (a j d z : Nat) (hA : At ((S.c i).set ((S.c i).of a)) a j) (h2 : 2 ≤ (((S.c i).set ((S.c i).of a)).getD j l0).s) (hz : a % 16 + z ≤ 16) : Co (S.wrt i a j d z) (written f (a - 65536) z d) := by
  have st := h.st hi
  obtain ⟨hL, hla⟩ := st.has a hA
  obtain ⟨e0, he0⟩ : ∃ e0, ((S.c i).set ((S.c i).of a)).getD j l0 = e0 := ⟨_, rfl⟩
  rw [he0] at hL hla h2
  have w := wr_is e0 (a % 16) d z
  obtain ⟨u, v⟩ := st.wrote ((S.c i).of a) j ((S.c i).of_lt a st.n) hA.1 (e0.wr (a % 16) d z) (by rw [w.1, he0])
  have ew : (S.c i).wrote ((S.c i).of a) j (a % 16) d z = (S.c i).put ((S.c i).of a) (rest ((S.c i).set ((S.c i).of a)) j ++ [e0.wr (a % 16) d z]) := by
    unfold CS.wrote
    rw [he0]
  have hse := h.se.write i e0 ⟨hi, hL⟩ h2 a z d hla hz (L' := fun k e => k < 2 ∧ (if k = i then (S.c i).wrote ((S.c i).of a) j (a % 16) d z else S.c k).L e) (fun k e => by
    by_cases c : k = i
    · subst c
      rw [if_pos rfl, ew, v e, w.1]
      constructor
      · rintro ⟨q0, q | q⟩
        · exact Or.inl ⟨⟨q0, q.1⟩, fun z => q.2 z.2⟩
        · exact Or.inr ⟨rfl, q⟩
      · rintro (⟨⟨q0, q1⟩, q2⟩ | ⟨-, q2⟩)
        · exact ⟨q0, Or.inl ⟨q1, fun z => q2 ⟨rfl, z⟩⟩⟩
        · exact ⟨hi, Or.inr q2⟩
    · rw [if_neg c]
      constructor
      · intro q
        exact Or.inl ⟨q, fun z => c z.1⟩
      · rintro (q | q)
        · exact q.1
        · exact absurd q.1 c)
  have := h.put i ((S.c i).wrote ((S.c i).of a) j (a % 16) d z) S.mem _ (by rw [ew]; exact u) h.m8 hse
  unfold BS.wrt
  rw [he0, ← hla]
  exact this
/-- lowerOthers, of two -/
theorem Co.lowN {S : BS} {f : Nat → Nat} (h : Co S f) (l tw : Nat) (hl : l % 16 = 0) (hto : tw ≤ 1) : Co (S.lowN l tw 2) f ∧ (S.lowN l tw 2).c S.turn = S.c S.turn ∧ (∀ j, j < 2 → j ≠ S.turn → ((S.lowN l tw 2).c j).st l ≤ tw) ∧ (S.lowN l tw 2).ak = S.ak ∧ (S.lowN l tw 2).on = S.on ∧ (S.lowN l tw 2).tk = S.tk ∧ (S.lowN l tw 2).cyc = S.cyc := by
  have one : ∀ (U : BS), Co U f → U.turn = S.turn → ∀ i, i < 2 → Co (U.lowAt l tw i) f ∧ (U.lowAt l tw i).turn = S.turn ∧ (U.lowAt l tw i).c S.turn = U.c S.turn ∧ (i ≠ S.turn → ((U.lowAt l tw i).c i).st l ≤ tw) ∧ (∀ j, j ≠ i → (U.lowAt l tw i).c j = U.c j) ∧ (U.lowAt l tw i).ak = U.ak ∧ (U.lowAt l tw i).on = U.on ∧ (U.lowAt l tw i).tk = U.tk ∧ (U.lowAt l tw i).cyc = U.cyc := by
    intro U hU hUt i hi
    unfold BS.lowAt
    split
    · rename_i c
      obtain ⟨c1, c2⟩ := c
      obtain ⟨q1, q2, q3, q4, q5⟩ := hU.low i hi l tw hl hto c2
      have ec : ((U.cput i ((U.c i).lowTo l tw)).wb ((U.c i).ln l)).c i = (U.c i).lowTo l tw := if_pos rfl
      refine ⟨q1, hUt, ?_, fun _ => ?_, fun j hj => if_neg hj, rfl, rfl, rfl, rfl⟩
      · show (if S.turn = i then _ else U.c S.turn) = _
        rw [if_neg]
        rw [← hUt]
        exact fun e => c1 e.symm
      · have st' : Stc ((U.c i).lowTo l tw) := by
          have := q1.st hi
          rw [ec] at this
          exact this
        rw [ec]
        by_cases z : ((U.c i).lowTo l tw).st l = 0
        · omega
        · obtain ⟨k, -, r1, r2, r3⟩ := st'.st_some l z
          rw [lineOf_self hl] at r2
          rcases (q2 _).1 r1 with r | r
          · exact absurd r2 r.2
          · rw [r3, r.2, r.1]
            exact Nat.le_refl _
    · rename_i c
      refine ⟨hU, hUt, rfl, fun hi' => ?_, fun _ _ => rfl, rfl, rfl, rfl, rfl⟩
      by_cases z : tw < (U.c i).st l
      · exact absurd ⟨by rw [hUt]; exact hi', z⟩ c
      · omega
  obtain ⟨a1, a2, a3, a4, a5, a6, a7, a8, a9⟩ := one S h rfl 0 (by omega)
  obtain ⟨b1, b2, b3, b4, b5, b6, b7, b8, b9⟩ := one (S.lowAt l tw 0) a1 a2 1 (by omega)
  have e2 : S.lowN l tw 2 = (S.lowAt l tw 0).lowAt l tw 1 := rfl
  rw [e2]
  refine ⟨b1, b3.trans a3, fun j hj hjt => ?_, b6.trans a6, b7.trans a7, b8.trans a8, b9.trans a9⟩
  match j, hj with
  | 0, _ => rw [b5 0 (by omega)]; exact a4 hjt
  | 1, _ => exact b4 hjt
/-- a whole transaction -/
theorem Co.does {S : BS} {f : Nat → Nat} (h : Co S f) (ht : S.turn < 2) (l tw : Nat) (hl : l % 16 = 0) (hlo : 65536 ≤ l) (hhi : l < 65792) (hto : tw ≤ 1) (hown : (S.c S.turn).st l ≤ 1) : Co (((S.lowN l tw 2).do2 l).do4 l) f ∧ No ((((S.lowN l tw 2).do2 l).c S.turn).set ((((S.lowN l tw 2).do2 l).c S.turn).of l)) l ∧ ((((S.lowN l tw 2).do2 l).c S.turn).full l = true → (((S.lowN l tw 2).do2 l).c S.turn).L ((((S.lowN l tw 2).do2 l).c S.turn).left l)) ∧ Co ((S.lowN l tw 2).do2 l) f ∧ (if tw = 0 then 2 else 1) ≤ ((((S.lowN l tw 2).do2 l).do4 l).c S.turn).st l ∧ (((S.lowN l tw 2).do2 l).do4 l).ak = S.ak ∧ (((S.lowN l tw 2).do2 l).do4 l).on = S.on ∧ (((S.lowN l tw 2).do2 l).do4 l).cyc = S.cyc := by
  obtain ⟨r1, r2, r3, r4, r5, r6, r7⟩ := h.lowN l tw hl hto
  obtain ⟨t1, t2, t3, -⟩ := lowN_same S l tw 2
  obtain ⟨R, hR⟩ : ∃ R, S.lowN l tw 2 = R := ⟨_, rfl⟩
  rw [hR] at r1 r2 r3 r4 r5 r6 r7 t1 t2 t3 ⊢
  have hq : Co (R.do2 l) f ∧ ((R.do2 l).c S.turn).st l = 0 ∧ (∀ j, j < 2 → j ≠ S.turn → ((R.do2 l).c j).st l ≤ tw) ∧ (R.do2 l).ak = S.ak ∧ (R.do2 l).on = S.on ∧ (R.do2 l).cyc = S.cyc := by
    unfold BS.do2
    rw [t1]
    split
    · rename_i c
      exact ⟨r1, c, r3, r4, r5, r7⟩
    · rename_i c
      have c1 : (R.c S.turn).st l ≤ 1 := by rw [r2]; exact hown
      obtain ⟨q1, q2, q3, q4, q5⟩ := r1.low S.turn ht l 0 hl (by omega) (by omega)
      rw [wb_id _ _ (by omega)] at q1
      have ec : (R.cput S.turn ((R.c S.turn).lowTo l 0)).c S.turn = (R.c S.turn).lowTo l 0 := if_pos rfl
      refine ⟨q1, ?_, fun j hj hjt => ?_, r4, r5, r7⟩
      · have st' := q1.st ht
        rw [ec] at st' ⊢
        refine st'.st_zero l (fun e he q => ?_)
        rw [lineOf_self hl] at q
        rcases (q2 e).1 he with z | z
        · exact z.2 q
        · omega
      · have ej : (R.cput S.turn ((R.c S.turn).lowTo l 0)).c j = R.c j := if_neg hjt
        rw [ej]
        exact r3 j hj hjt
  obtain ⟨n1, n2, n3⟩ := do2_same R l
  obtain ⟨Q, hQ⟩ : ∃ Q, R.do2 l = Q := ⟨_, rfl⟩
  rw [hQ] at hq n1 n2 n3 ⊢
  obtain ⟨q1, q2, q3, q4, q5, q6⟩ := hq
  rw [t1] at n1
  rw [t2, h.nc] at n2
  have hth : (Q.then' l = 1 ∨ Q.then' l = 2) ∧ (∀ j, j < 2 → j ≠ S.turn → (Q.c j).st l ≠ 0 → Q.then' l = 1) ∧ (tw = 0 → Q.then' l = 2) := by
    unfold BS.then'
    refine ⟨by split <;> omega, fun j hj hjt hs => if_pos ⟨j, by rw [n2]; exact hj, by rw [n1]; exact hjt, hs⟩, fun h0 => if_neg ?_⟩
    rintro ⟨j, hj, hjt, hs⟩
    rw [n2] at hj
    rw [n1] at hjt
    have := q3 j hj hjt
    omega
  obtain ⟨f1, f2, f3, f4⟩ := q1.fill S.turn ht l (Q.then' l) hl hlo hhi hth.1 q2 (fun j hj hjt => ⟨Nat.le_trans (q3 j hj hjt) hto, hth.2.1 j hj hjt⟩)
  have e4 : Q.do4 l = (Q.cput S.turn ((Q.c S.turn).fill l (Q.then' l) (fun t => Q.mem (l - 65536 + t)))).wb (if (Q.c S.turn).full l then (Q.c S.turn).left l else l0) := by
    unfold BS.do4 BS.do3
    rw [n1]
    split
    · rfl
    · exact (wb_id _ _ (by decide)).symm
  have ec : (Q.do4 l).c S.turn = (Q.c S.turn).fill l (Q.then' l) (fun t => Q.mem (l - 65536 + t)) := by
    rw [e4]
    exact if_pos rfl
  refine ⟨by rw [e4]; exact f1, f2, f3, q1, ?_, by rw [e4]; exact q4, by rw [e4]; exact q5, by rw [e4]; exact q6⟩
  rw [ec, f4]
  split
  · rename_i c
    rw [hth.2.2 c]
    exact Nat.le_refl _
  · have := hth.1
    omega
end Go.Proofs.YtemamhkhjijdlaaGreatDoor
