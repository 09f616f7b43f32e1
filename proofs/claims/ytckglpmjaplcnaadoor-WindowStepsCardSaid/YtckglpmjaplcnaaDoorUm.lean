/-
  WINDOW's LAW WindowSteps: each step, of the program and of the answer.
-/
import Derived.Test.YtckglpmjaplcnaaDoorUl
namespace Go.Proofs.YtckglpmjaplcnaaDoor
open Go Go.RowKit
theorem own_lower {x : World} {b b' : Nat} {e : TypeId} {size : Nat} {v : Value} {n : Nat} {xs : List Value} (h : x.ownsRow b e size v n xs) (hb : b' ≤ b) : x.ownsRow b' e size v n xs :=
  ⟨h.1, h.2.imp id fun ⟨g, cap, cur, h1, h2, h3⟩ => ⟨g, cap, cur, h1, Nat.le_trans hb h2, h3⟩⟩
def errOf (er : Int) : Value := if er = 0 then .nilIface else errV er
theorem errOf_ne {er : Int} (h : er ≠ 0) : errOf er = errV er := by simp [errOf, h]
theorem ltold_of (er : Int) (w : World) (hg : w.cell? ⟨0, 0, none⟩ = some (.iface 100 (.agg #[.pointer (some ⟨1, 25, none⟩)]))) : Calls Tryd.prog 7 #[errOf er, .int .i64 er] w fun e w' => e = .returned (.bool true) ∧ Below w.heap.size w w' := by
  unfold errOf
  split
  · rename_i e
    subst e
    exact ltold_nil w
  · exact ltold_err er w hg
/-- what a window keeps -/
structure WS.Inv (S : WS) (k : Nat) : Prop where
  asc : S.Asc
  lt : ∀ i, i < S.on.length → S.num i < S.next
  nx : S.next ≤ k
  len : S.on.length ≤ S.size
theorem WS.Inv.mono {S : WS} {k j : Nat} (h : S.Inv k) (hj : k ≤ j) : S.Inv j := ⟨h.asc, h.lt, Nat.le_trans h.nx hj, h.len⟩
theorem num_setSt (S : WS) (i : Nat) (hi : i < S.on.length) (s : Int) (j : Nat) : (S.setSt i s).num j = S.num j := by
  show ((S.on.set i { S.on.getD i e0 with st := s }).getD j e0).num = (S.on.getD j e0).num
  rw [getD_set _ _ _ _ hi]
  split
  · rename_i e
    subst e
    rfl
  · rfl
theorem WS.Inv.setSt {S : WS} {k : Nat} (h : S.Inv k) (i : Nat) (hi : i < S.on.length) (s : Int) : (S.setSt i s).Inv k := by
  have hl : (S.setSt i s).on.length = S.on.length := by simp [WS.setSt]
  refine ⟨fun a b hab hb => ?_, fun a ha => ?_, h.nx, by rw [hl]; exact h.len⟩
  · rw [num_setSt S i hi, num_setSt S i hi]
    exact h.asc a b hab (by rw [← hl]; exact hb)
  · rw [num_setSt S i hi]
    exact h.lt a (by rw [← hl]; exact ha)
theorem WS.Inv.wake {S : WS} {k : Nat} (h : S.Inv k) (f : Nat → Bool) : ({ S with ab := f } : WS).Inv k := ⟨h.asc, h.lt, h.nx, h.len⟩
theorem WS.Inv.take {S : WS} {k : Nat} (h : S.Inv k) (m : Nat) : ({ S with on := S.on.take m } : WS).Inv k := by
  have hl : (S.on.take m).length ≤ S.on.length := by rw [List.length_take]; omega
  have hn : ∀ j, j < (S.on.take m).length → ({ S with on := S.on.take m } : WS).num j = S.num j := by
    intro j hj
    show ((S.on.take m).getD j e0).num = (S.on.getD j e0).num
    simp only [List.getD_eq_getElem?_getD]
    rw [List.length_take] at hj
    rw [List.getElem?_take, if_pos (by omega)]
  refine ⟨fun a b hab hb => ?_, fun a ha => ?_, h.nx, Nat.le_trans hl h.len⟩
  · rw [hn a (Nat.lt_trans hab hb), hn b hb]
    exact h.asc a b hab (Nat.lt_of_lt_of_le hb hl)
  · rw [hn a ha]
    exact h.lt a (Nat.lt_of_lt_of_le ha hl)
theorem WS.Inv.pop {S : WS} {k : Nat} (h : S.Inv k) : S.pop.Inv k := by
  have hl : S.pop.on.length = S.on.length - 1 := by simp [WS.pop]
  have hn : ∀ j, S.pop.num j = S.num (j + 1) := by
    intro j
    show (S.on.tail.getD j e0).num = (S.on.getD (j + 1) e0).num
    simp only [List.getD_eq_getElem?_getD, List.getElem?_tail]
  refine ⟨fun a b hab hb => ?_, fun a ha => ?_, h.nx, ?_⟩
  · rw [hn, hn]
    exact h.asc _ _ (by omega) (by omega)
  · rw [hn]
    exact h.lt _ (by omega)
  · have := h.len
    show S.pop.on.length ≤ S.size
    omega
theorem WS.Inv.enter {S : WS} {k : Nat} (h : S.Inv k) (cl s1 s2 d : Int) (hr : S.on.length < S.size) : (S.enter cl s1 s2 d).Inv (k + 1) := by
  have hl : (S.enter cl s1 s2 d).on.length = S.on.length + 1 := by simp [WS.enter]
  have hn : ∀ j, j < S.on.length → (S.enter cl s1 s2 d).num j = S.num j := by
    intro j hj
    show ((S.on ++ [(⟨S.next, cl, s1, s2, 0⟩ : Ent)]).getD j e0).num = (S.on.getD j e0).num
    simp only [List.getD_eq_getElem?_getD]
    rw [List.getElem?_append_left hj]
  have hx : (S.enter cl s1 s2 d).num S.on.length = S.next := by
    show ((S.on ++ [(⟨S.next, cl, s1, s2, 0⟩ : Ent)]).getD S.on.length e0).num = (S.next : Int)
    simp [List.getD_eq_getElem?_getD]
  have e3 : (S.enter cl s1 s2 d).next = S.next + 1 := rfl
  have hlt := h.lt
  refine ⟨fun a b hab hb => ?_, fun a ha => ?_, by rw [e3]; have := h.nx; omega, by rw [hl]; exact hr⟩
  · rw [hl] at hb
    rw [hn a (by omega)]
    by_cases e : b = S.on.length
    · subst e
      rw [hx]
      exact hlt a (by omega)
    · rw [hn b (by omega)]
      exact h.asc a b hab (by omega)
  · rw [hl] at ha
    rw [e3]
    by_cases e : a = S.on.length
    · subst e
      rw [hx]
      omega
    · rw [hn a (by omega)]
      have := hlt a (by omega)
      omega
def Both (w : World) (cc p h q r : Nat) (hv : Value) (E : List (Value × Value)) (S S' : WS) (x : World) (v rv : Value) (fp : FuncId) (ap : Array Value) (ep : Ending) (fr : FuncId) (ar : Array Value) (er : Ending) : Prop :=
  Calls Tryd.prog fp ap x (fun e y => e = ep ∧ Turned (Tri p h v) x y ∧ ∃ v', Wl w y cc p h q r v' rv hv S' S E) ∧ ∀ y v', Wl w y cc p h q r v' rv hv S' S E → Calls Tryd.prog fr ar y (fun e z => e = er ∧ ∃ rv', Wl w z cc p h q r v' rv' hv S' S' E)
section
variable {w x : World} {cc p h q r : Nat} {v rv hv : Value} {S S' : WS} {E : List (Value × Value)} {fp fr : FuncId} {ap ar : Array Value} {ep er : Ending}
theorem Both.bad (k : Wl w x cc p h q r v rv hv S S E) (hp : Calls Tryd.prog fp ap x fun e y => e = ep ∧ Below x.heap.size x y) (hr : ∀ y, RWin y w.heap.size q r cc rv S → Calls Tryd.prog fr ar y fun e z => e = er ∧ Below y.heap.size y z) : Both w cc p h q r hv E S S x v rv fp ap ep fr ar er :=
  ⟨hp.mono fun _ _ a => ⟨a.1, Turned.of_below a.2, v, k.below a.2⟩, fun y _ k' => (hr y k'.ans).mono fun _ _ a => ⟨a.1, rv, k'.below a.2⟩⟩
theorem Both.good (k : Wl w x cc p h q r v rv hv S S E) (hp : Calls Tryd.prog fp ap x fun e y => e = ep ∧ ∃ v', (v'.ownBlock = v.ownBlock ∨ ∀ j, v'.ownBlock = some j → x.heap.size ≤ j) ∧ Win y w.heap.size p h cc v' S' ∧ Turned (Tri p h v) x y) (hr : ∀ y, RWin y w.heap.size q r cc rv S → Calls Tryd.prog fr ar y fun e z => e = er ∧ ∃ rv', (rv'.ownBlock = rv.ownBlock ∨ ∀ j, rv'.ownBlock = some j → y.heap.size ≤ j) ∧ RWin z w.heap.size q r cc rv' S' ∧ Turned (Tri q r rv) y z) : Both w cc p h q r hv E S S' x v rv fp ap ep fr ar er := by
  refine ⟨hp.mono fun _ _ a => ?_, fun y v' k' => (hr y k'.ans).mono fun _ _ a => ?_⟩
  · obtain ⟨a1, v', a2, a3, a4⟩ := a
    exact ⟨a1, a4, v', k.onP a4 a3 a2⟩
  · obtain ⟨a1, v', a2, a3, a4⟩ := a
    exact ⟨a1, v', k'.onR a4 a3 a2⟩
end
section
variable {w x : World} {cc p h q r n : Nat} {v rv hv : Value} {S : WS} {E : List (Value × Value)}
theorem both_enter (k : Wl w x cc p h q r v rv hv S S E) (hi : S.Inv n) (hn : n ≤ 5000) (cl s1 s2 d : Int) : ∃ S' m er, S'.Inv (n + 1) ∧ Both w cc p h q r hv E S S' x v rv 8 #[.pointer (some ⟨p, 0, none⟩), .agg #[.int .i64 cl, .int .i64 s1, .int .i64 s2, .int .i64 d]] (.returned (.tuple #[.int .i64 m, errOf er])) 9 #[.pointer (some ⟨q, 0, none⟩), .int .i64 cl, .int .i64 s1, .int .i64 s2, .int .i64 d] (.returned (.tuple #[.int .i64 m, .int .i64 er])) := by
  have hnx := hi.nx
  by_cases hok : S.okE cl s1 s2 d
  · by_cases hro : S.on.length < S.size
    · refine ⟨S.enter cl s1 s2 d, S.next, 0, hi.enter _ _ _ _ hro, Both.good k ?_ fun y hy => ?_⟩
      · refine (enter_good _ p h cc v S cl s1 s2 d x k.win hok.1 hok.2.1 hok.2.2.1 hok.2.2.2 hro (by omega)).mono fun _ _ a => ?_
        obtain ⟨a1, v', a2, a3, a4⟩ := a
        refine ⟨a1, v', ?_, a3, a4⟩
        rcases a2 with b | ⟨j, b1, b2⟩
        · exact Or.inl b
        · exact Or.inr fun i hi => by rw [b1] at hi; cases hi; exact b2
      · refine (renter_good _ q r cc rv S cl s1 s2 d y hy hok hro (by omega)).mono fun _ _ a => ?_
        obtain ⟨a1, v', a2, a3, a4⟩ := a
        refine ⟨a1, v', ?_, a3, a4⟩
        rcases a2 with b | ⟨j, b1, b2⟩
        · exact Or.inl b
        · exact Or.inr fun i hi => by rw [b1] at hi; cases hi; exact b2
    · have := hi.len
      exact ⟨S, 0, 4, hi.mono (by omega), Both.bad k (enter_full _ p h cc v S cl s1 s2 d x k.win hok.1 hok.2.1 hok.2.2.1 hok.2.2.2 (by omega)) fun y hy => renter_bad _ q r cc rv S cl s1 s2 d y hy (Or.inr (by omega)) 4 (fun _ => rfl) (fun q => absurd hok q)⟩
  · exact ⟨S, 0, 3, hi.mono (by omega), Both.bad k (enter_range _ p h cc v S cl s1 s2 d x k.win hok) fun y hy => renter_bad _ q r cc rv S cl s1 s2 d y hy (Or.inl hok) 3 (fun q => absurd q hok) (fun _ => rfl)⟩
theorem both_wake (k : Wl w x cc p h q r v rv hv S S E) (hi : S.Inv n) (a : Int) : ∃ S' er, S'.Inv (n + 1) ∧ Both w cc p h q r hv E S S' x v rv 10 #[.pointer (some ⟨p, 0, none⟩), .int .i64 a] (.returned (errOf er)) 11 #[.pointer (some ⟨q, 0, none⟩), .int .i64 a] (.returned (.int .i64 er)) := by
  by_cases ha : 0 ≤ a ∧ a < S.nr
  · obtain ⟨j, rfl⟩ : ∃ j : Nat, a = j := ⟨a.toNat, by omega⟩
    refine ⟨{ S with ab := upd S.ab j false }, 0, (hi.wake _).mono (by omega), Both.good k ?_ fun y hy => ?_⟩
    · exact (wake_good _ p h cc v S j x k.win (by omega)).mono fun _ _ a => ⟨a.1, v, Or.inl rfl, a.2.1, a.2.2.mono fun _ q => Or.inr (Or.inl q)⟩
    · exact (rwake_good _ q r cc rv S j y hy (by omega)).mono fun _ _ a => ⟨a.1, rv, Or.inl rfl, a.2.1, a.2.2.mono fun _ q => Or.inr (Or.inl q)⟩
  · exact ⟨S, 3, hi.mono (by omega), Both.bad k ((wake_bad _ p h cc v S a x k.win ha).mono fun _ _ b => ⟨b.1, by rw [b.2]; exact Below.refl _ _⟩) fun y hy => (rwake_bad _ q r cc rv S a y hy ha).mono fun _ _ b => ⟨b.1, by rw [b.2]; exact Below.refl _ _⟩⟩
theorem both_issue (k : Wl w x cc p h q r v rv hv S S E) (hi : S.Inv n) (a : Int) : ∃ S' er, S'.Inv (n + 1) ∧ Both w cc p h q r hv E S S' x v rv 16 #[.pointer (some ⟨p, 0, none⟩), .int .i64 a] (.returned (errOf er)) 17 #[.pointer (some ⟨q, 0, none⟩), .int .i64 a, .int .i64 0, .int .i64 1] (.returned (.int .i64 er)) := by
  by_cases ha : ∃ i, S.At a i ∧ S.may i = true
  · obtain ⟨i, hA, hm⟩ := ha
    have hst : S.st i = 0 := by
      simp only [WS.may, Bool.and_eq_true, decide_eq_true_eq] at hm
      exact hm.1.1
    refine ⟨S.setSt i 1, 0, (hi.setSt i hA.1 1).mono (by omega), Both.good k ?_ fun y hy => ?_⟩
    · exact (issue_good _ p h cc v S a i x k.win hA hm).mono fun _ _ a => ⟨a.1, v, Or.inl rfl, a.2.1, a.2.2.mono fun _ q => Or.inr (Or.inr q)⟩
    · exact (rturn_good _ q r cc rv S a 0 1 i y hy hA hst (fun _ => hm)).mono fun _ _ a => ⟨a.1, rv, Or.inl rfl, a.2.1, a.2.2.mono fun _ q => Or.inr (Or.inr q)⟩
  · have hno : ∀ i, S.At a i → S.may i = false := fun i hA => by
      cases hm : S.may i with
      | false => rfl
      | true => exact absurd ⟨i, hA, hm⟩ ha
    exact ⟨S, 7, hi.mono (by omega), Both.bad k (issue_bad _ p h cc v S a x k.win hno) fun y hy => rturn_bad _ q r cc rv S a 0 1 y hy fun i hA => Or.inr ⟨rfl, hno i hA⟩⟩
theorem both_again (k : Wl w x cc p h q r v rv hv S S E) (hi : S.Inv n) (a : Int) : ∃ S' er, S'.Inv (n + 1) ∧ Both w cc p h q r hv E S S' x v rv 18 #[.pointer (some ⟨p, 0, none⟩), .int .i64 a] (.returned (errOf er)) 17 #[.pointer (some ⟨q, 0, none⟩), .int .i64 a, .int .i64 1, .int .i64 0] (.returned (.int .i64 er)) := by
  by_cases ha : ∃ i, S.At a i ∧ S.st i = 1
  · obtain ⟨i, hA, hm⟩ := ha
    refine ⟨S.setSt i 0, 0, (hi.setSt i hA.1 0).mono (by omega), Both.good k ?_ fun y hy => ?_⟩
    · exact (again_good _ p h cc v S a i x k.win hA hm).mono fun _ _ a => ⟨a.1, v, Or.inl rfl, a.2.1, a.2.2.mono fun _ q => Or.inr (Or.inr q)⟩
    · exact (rturn_good _ q r cc rv S a 1 0 i y hy hA hm (fun q => by simp at q)).mono fun _ _ a => ⟨a.1, rv, Or.inl rfl, a.2.1, a.2.2.mono fun _ q => Or.inr (Or.inr q)⟩
  · have hno : ∀ i, S.At a i → S.st i ≠ 1 := fun i hA hm => ha ⟨i, hA, hm⟩
    exact ⟨S, 7, hi.mono (by omega), Both.bad k (again_bad _ p h cc v S a x k.win hno) fun y hy => rturn_bad _ q r cc rv S a 1 0 y hy fun i hA => Or.inl (hno i hA)⟩
theorem both_done (k : Wl w x cc p h q r v rv hv S S E) (hi : S.Inv n) (a : Int) : ∃ S' er, S'.Inv (n + 1) ∧ Both w cc p h q r hv E S S' x v rv 19 #[.pointer (some ⟨p, 0, none⟩), .int .i64 a] (.returned (errOf er)) 17 #[.pointer (some ⟨q, 0, none⟩), .int .i64 a, .int .i64 1, .int .i64 2] (.returned (.int .i64 er)) := by
  by_cases ha : ∃ i, S.At a i ∧ S.st i = 1
  · obtain ⟨i, hA, hm⟩ := ha
    refine ⟨S.setSt i 2, 0, (hi.setSt i hA.1 2).mono (by omega), Both.good k ?_ fun y hy => ?_⟩
    · exact (done_good _ p h cc v S a i x k.win hA hm).mono fun _ _ a => ⟨a.1, v, Or.inl rfl, a.2.1, a.2.2.mono fun _ q => Or.inr (Or.inr q)⟩
    · exact (rturn_good _ q r cc rv S a 1 2 i y hy hA hm (fun q => by simp at q)).mono fun _ _ a => ⟨a.1, rv, Or.inl rfl, a.2.1, a.2.2.mono fun _ q => Or.inr (Or.inr q)⟩
  · have hno : ∀ i, S.At a i → S.st i ≠ 1 := fun i hA hm => ha ⟨i, hA, hm⟩
    exact ⟨S, 7, hi.mono (by omega), Both.bad k (done_bad _ p h cc v S a x k.win hno) fun y hy => rturn_bad _ q r cc rv S a 1 2 y hy fun i hA => Or.inl (hno i hA)⟩
theorem both_retire (k : Wl w x cc p h q r v rv hv S S E) (hi : S.Inv n) : ∃ S' m er, S'.Inv (n + 1) ∧ Both w cc p h q r hv E S S' x v rv 20 #[.pointer (some ⟨p, 0, none⟩)] (.returned (.tuple #[.int .i64 m, errOf er])) 21 #[.pointer (some ⟨q, 0, none⟩)] (.returned (.tuple #[.int .i64 m, .int .i64 er])) := by
  by_cases ha : 0 < S.on.length ∧ S.st 0 = 2
  · refine ⟨S.pop, S.num 0, 0, hi.pop.mono (by omega), Both.good k ?_ fun y hy => ?_⟩
    · refine (retire_good _ p h cc v S x k.win ha.1 ha.2).mono fun _ _ a => ?_
      obtain ⟨a1, v', a2, a3, a4⟩ := a
      exact ⟨a1, v', Or.inl a2, a3, a4.mono fun _ q => q.elim Or.inl (fun q => Or.inr (Or.inr q))⟩
    · refine (rretire_good _ q r cc rv S y hy ha.1 ha.2).mono fun _ _ a => ?_
      obtain ⟨a1, v', a2, a3, a4⟩ := a
      exact ⟨a1, v', a2, a3, a4.mono fun _ q => Or.inl q⟩
  · exact ⟨S, 0, 7, hi.mono (by omega), Both.bad k (retire_bad _ p h cc v S x k.win ha) fun y hy => (rretire_bad _ q r cc rv S y hy ha).mono fun _ _ b => ⟨b.1, by rw [b.2]; exact Below.refl _ _⟩⟩
/-- two lists that came out -/
structure Two (w x : World) (cc p h q r : Nat) (v rv hv : Value) (S : WS) (E : List (Value × Value)) (u u2 : Value) (L : List Int) : Prop where
  wl : Wl w x cc p h q r v rv hv S S E
  a : x.ownsRow w.heap.size 3 1 u L.length (ints L)
  b : Row x u2 L.length (fun i => L.getD i 0)
  fr : Free w.heap.size x p h q r v rv hv E u
theorem Two.below {u u2 : Value} {L : List Int} {y : World} (k : Two w x cc p h q r v rv hv S E u u2 L) (t : Below x.heap.size x y) : Two w y cc p h q r v rv hv S E u u2 L :=
  ⟨k.wl.below t, own_turned (Q := fun _ => False) k.a (Turned.of_below t) (fun _ _ q => q), k.b.below t, fun j hj => by
    obtain ⟨⟨a1, a2⟩, a3⟩ := k.fr j hj
    exact ⟨⟨a1, Nat.lt_of_lt_of_le a2 t.size⟩, a3⟩⟩
theorem two_same {u u2 : Value} {L : List Int} (k : Two w x cc p h q r v rv hv S E u u2 L) : Calls Tryd.prog 14 #[.agg #[u, u2]] x fun e y => e = .returned (.bool true) ∧ Two w y cc p h q r v rv hv S E u u2 L :=
  (same_any u u2 L.length (fun i => L.getD i 0) x (row_of k.a) k.b).mono fun _ _ a => ⟨a.1, k.below a.2⟩
theorem two_own {u u2 : Value} {L : List Int} (k : Two w x cc p h q r v rv hv S E u u2 L) (hL : L.length ≤ 64) (hE : E.length ≤ 9000) : Calls Tryd.prog 15 #[hv, u] x fun e y => ∃ hv' E', e = .returned hv' ∧ E'.length = E.length + 2 ∧ Wl w y cc p h q r v rv hv' S S E' := by
  refine (own_any w.heap.size hv u E L x k.wl.hs k.a hE hL k.wl.gr.size (fun j hj q => (k.fr j q).2.2.2.1 hj)).mono fun _ _ a => ?_
  obtain ⟨g, cap, av, gv, bv, n', m, F, G, a1, a2, a3, a4, a5, a6, a7, a8, a9, a10⟩ := a
  exact ⟨_, _, a1, by simp, k.wl.onH k.fr a2 a3 a4 a5 a6 a7 a8 a9 a10⟩
theorem Wl.lists (k : Wl w x cc p h q r v rv hv S S E) {S' : WS} {z : World} {v' rv' u u2 : Value} {L : List Int} {B2 : Nat} (e1 : v'.ownBlock = v.ownBlock) (e2 : rv'.ownBlock = rv.ownBlock) (h1 : z.ownsRow x.heap.size 3 1 u L.length (ints L)) (h2 : z.ownsRow B2 3 1 u2 L.length (ints L)) (hw : Wl w z cc p h q r v' rv' hv S' S' E) : Two w z cc p h q r v' rv' hv S' E u u2 L := by
  refine ⟨hw, own_lower h1 k.gr.size, row_of h2, fun j hj => ?_⟩
  obtain ⟨b1, b2⟩ := own_base h1 j hj
  have hs := k.gr.size
  refine ⟨⟨by omega, b2⟩, fun t => ?_, fun t => ?_, fun t => ?_, fun e he => ⟨fun t => ?_, fun t => ?_⟩⟩
  · have := (k.triP j (by rcases t with t | t | t; exact Or.inl t; exact Or.inr (Or.inl t); exact Or.inr (Or.inr (by rw [← e1]; exact t)))).2
    omega
  · have := (k.triR j (by rcases t with t | t | t; exact Or.inl t; exact Or.inr (Or.inl t); exact Or.inr (Or.inr (by rw [← e2]; exact t)))).2
    omega
  · have := (own_base k.hs j t).2
    omega
  · have := ((k.el e he).2 e.1 (Or.inl rfl) j t).1
    omega
  · have := ((k.el e he).2 e.2 (Or.inr rfl) j t).1
    omega
theorem both_ready (k : Wl w x cc p h q r v rv hv S S E) (cl most : Int) : ∃ L : List Int, L.length ≤ 64 ∧ Calls Tryd.prog 12 #[.pointer (some ⟨p, 0, none⟩), .int .i64 cl, .int .i64 most] x (fun e y => ∃ u, e = .returned u ∧ Turned (Tri p h v) x y ∧ Wl w y cc p h q r v rv hv S S E ∧ Calls Tryd.prog 13 #[.pointer (some ⟨q, 0, none⟩), .int .i64 cl, .int .i64 most] y (fun e z => ∃ u2, e = .returned u2 ∧ Two w z cc p h q r v rv hv S E u u2 L)) := by
  refine ⟨S.ready cl most, Nat.le_trans (tl_le _ _ _ _) k.win.small.1, (ready_any _ p h cc v S cl most x k.win).mono fun _ y a => ?_⟩
  obtain ⟨u, a1, a2, a3⟩ := a
  have ky := k.below a3
  refine ⟨u, a1, Turned.of_below a3, ky, (rable_list _ q r cc rv S cl most y ky.ans).mono fun _ z b => ?_⟩
  obtain ⟨u2, b1, b2, b3⟩ := b
  exact ⟨u2, b1, k.lists rfl rfl (own_turned (Q := fun _ => False) a2 (Turned.of_below b3) (fun _ _ q => q)) b2 (ky.below b3)⟩
theorem both_squash (k : Wl w x cc p h q r v rv hv S S E) (hi : S.Inv n) (af : Int) : ∃ (S' : WS) (L : List Int), S'.Inv n ∧ L.length ≤ 64 ∧ Calls Tryd.prog 22 #[.pointer (some ⟨p, 0, none⟩), .int .i64 af] x (fun e y => ∃ u v', e = .returned u ∧ Wl w y cc p h q r v' rv hv S' S E ∧ Calls Tryd.prog 23 #[.pointer (some ⟨q, 0, none⟩), .int .i64 af] y (fun e z => ∃ u2 rv', e = .returned u2 ∧ Two w z cc p h q r v' rv' hv S' E u u2 L)) := by
  refine ⟨S.squash af, S.gone af, hi.take _, Nat.le_trans (gone_le S af) k.win.small.1, (squash_any _ p h cc v S af x k.win).mono fun _ y a => ?_⟩
  obtain ⟨u, v', a1, a2, a3, a4, a5⟩ := a
  have ky := k.onP (a5.mono fun _ q => Or.inl q) a4 (Or.inl a3)
  refine ⟨u, v', a1, ky, (rsquash_any _ q r cc rv S af y ky.ans hi.asc).mono fun _ z b => ?_⟩
  obtain ⟨u2, rv', b1, b2, b3, b4, b5⟩ := b
  refine ⟨u2, rv', b1, k.lists a3 b3 (own_turned a2 b5 (fun j hj e => ?_)) b2 (ky.onR (b5.mono fun _ q => Or.inl q) b4 (Or.inl b3))⟩
  have := (own_base a2 j hj).1
  have := (k.triR q (Or.inl rfl)).2
  omega
end
end Go.Proofs.YtckglpmjaplcnaaDoor
