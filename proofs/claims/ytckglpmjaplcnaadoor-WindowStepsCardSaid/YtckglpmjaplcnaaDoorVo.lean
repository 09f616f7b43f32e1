/-
  WINDOW's LAW WindowFlows: all of its memory, and each call.
-/
import Derived.Test.YtckglpmjaplcnaaDoorVn
namespace Go.Proofs.YtckglpmjaplcnaaDoor
open Go Go.RowKit
def nums (l : List Nat) : List Value := l.map fun k : Nat => Value.int .i64 (k : Int)
structure Fl (w x : World) (p h : Nat) (v : Value) (S : WS) (cv fv : Value) (cl fl : List Nat) : Prop where
  win : Win x w.heap.size p h 128 v S
  ch : x.ownsRow w.heap.size 3 1 cv cl.length (nums cl)
  fr : x.ownsRow w.heap.size 3 1 fv fl.length (nums fl)
  gr : Below w.heap.size w x
  c1 : ∀ k, cv.ownBlock = some k → k ≠ p ∧ k ≠ h ∧ v.ownBlock ≠ some k ∧ fv.ownBlock ≠ some k
  f1 : ∀ k, fv.ownBlock = some k → k ≠ p ∧ k ≠ h ∧ v.ownBlock ≠ some k
theorem Fl.turned {Q : Nat → Prop} {w x y : World} {p h : Nat} {v : Value} {S : WS} {cv fv : Value} {cl fl : List Nat} (k : Fl w x p h v S cv fv cl fl) (t : Turned Q x y) (hq : ∀ i, Q i → w.heap.size ≤ i) (hp : ¬ Q p) (hh : ¬ Q h) (hv : ∀ j, v.ownBlock = some j → ¬ Q j) (hc : ∀ j, cv.ownBlock = some j → ¬ Q j) (hf : ∀ j, fv.ownBlock = some j → ¬ Q j) : Fl w y p h v S cv fv cl fl :=
  ⟨k.win.turned t hp hh hv, own_turned k.ch t hc, own_turned k.fr t hf, k.gr.trans (t.below k.gr.size hq), k.c1, k.f1⟩
theorem Fl.below {w x y : World} {p h : Nat} {v : Value} {S : WS} {cv fv : Value} {cl fl : List Nat} (k : Fl w x p h v S cv fv cl fl) (t : Below x.heap.size x y) : Fl w y p h v S cv fv cl fl :=
  k.turned (Q := fun _ => False) ⟨t.os, t.tape, t.output, t.size, fun i hi _ => t.block i hi⟩ (fun _ q => q.elim) (fun q => q) (fun q => q) (fun _ _ q => q) (fun _ _ q => q) (fun _ _ q => q)
theorem Fl.fresh {w x y : World} {p h : Nat} {v : Value} {S : WS} {cv fv : Value} {cl fl : List Nat} (k : Fl w x p h v S cv fv cl fl) (t : Turned (fun j => j = x.heap.size) x y) : Fl w y p h v S cv fv cl fl := by
  refine k.turned t (fun i hi => by rw [hi]; exact k.gr.size) (fun e => ?_) (fun e => ?_) (fun j hj e => ?_) (fun j hj e => ?_) (fun j hj e => ?_)
  · have := k.win.c.here; omega
  · have := k.win.a.here; omega
  · have := (own_base k.win.l j hj).2; omega
  · have := (own_base k.ch j hj).2; omega
  · have := (own_base k.fr j hj).2; omega
theorem Fl.step {w x y : World} {p h : Nat} {v v' : Value} {S S' : WS} {cv fv : Value} {cl fl : List Nat} (k : Fl w x p h v S cv fv cl fl) (t : Turned (fun j => j = p ∨ j = h ∨ v.ownBlock = some j) x y) (kw : Win y w.heap.size p h 128 v' S') (hb : v'.ownBlock = v.ownBlock ∨ ∃ j, v'.ownBlock = some j ∧ x.heap.size ≤ j) : Fl w y p h v' S' cv fv cl fl := by
  have nc : ∀ j, cv.ownBlock = some j → ¬ (j = p ∨ j = h ∨ v.ownBlock = some j) := fun j hj q => by
    obtain ⟨a1, a2, a3, -⟩ := k.c1 j hj
    rcases q with q | q | q
    · exact a1 q
    · exact a2 q
    · exact a3 q
  have nf : ∀ j, fv.ownBlock = some j → ¬ (j = p ∨ j = h ∨ v.ownBlock = some j) := fun j hj q => by
    obtain ⟨a1, a2, a3⟩ := k.f1 j hj
    rcases q with q | q | q
    · exact a1 q
    · exact a2 q
    · exact a3 q
  have nv : ∀ (u : Value) (e : TypeId) (size n : Nat) (xs : List Value), x.ownsRow w.heap.size e size u n xs → (∀ j, u.ownBlock = some j → v.ownBlock ≠ some j) → ∀ j, u.ownBlock = some j → v'.ownBlock ≠ some j := by
    intro u e size n xs hr hu j hj q
    rcases hb with e1 | ⟨i, e1, e2⟩
    · exact hu j hj (by rw [← e1, q])
    · rw [e1] at q
      have := (own_base hr j hj).2
      simp at q
      omega
  refine ⟨kw, own_turned k.ch t nc, own_turned k.fr t nf, k.gr.trans (t.below k.gr.size (fun j q => ?_)), fun j hj => ?_, fun j hj => ?_⟩
  · rcases q with q | q | q
    · have := k.win.lo; omega
    · have := k.win.lo; omega
    · exact (own_base k.win.l j q).1
  · obtain ⟨a1, a2, a3, a4⟩ := k.c1 j hj
    exact ⟨a1, a2, nv cv _ _ _ _ k.ch (fun i hi => (k.c1 i hi).2.2.1) j hj, a4⟩
  · obtain ⟨a1, a2, a3⟩ := k.f1 j hj
    exact ⟨a1, a2, nv fv _ _ _ _ k.fr (fun i hi => (k.f1 i hi).2.2) j hj⟩
theorem Fl.onC {w x y : World} {p h : Nat} {v : Value} {S : WS} {cv cv' fv : Value} {cl fl : List Nat} (k : Fl w x p h v S cv fv cl fl) (c : Nat) (t : Turned (fun j => cv.ownBlock = some j) x y) (hr : y.ownsRow w.heap.size 3 1 cv' (cl.length + 1) (nums cl ++ [.int .i64 c])) (hb : cv'.ownBlock = cv.ownBlock ∨ ∃ j, cv'.ownBlock = some j ∧ x.heap.size ≤ j) : Fl w y p h v S cv' fv (cl ++ [c]) fl := by
  have e1 : (cl ++ [c]).length = cl.length + 1 := by simp
  have e2 : nums (cl ++ [c]) = nums cl ++ [.int .i64 c] := by simp [nums]
  refine ⟨k.win.turned t (fun q => (k.c1 _ q).1 rfl) (fun q => (k.c1 _ q).2.1 rfl) (fun j hj q => (k.c1 _ q).2.2.1 hj), by rw [e1, e2]; exact hr, own_turned k.fr t (fun j hj q => (k.c1 _ q).2.2.2 hj), k.gr.trans (t.below k.gr.size (fun j q => (own_base k.ch j q).1)), fun j hj => ?_, k.f1⟩
  rcases hb with e | ⟨i, e3, e4⟩
  · exact k.c1 j (by rw [← e]; exact hj)
  · rw [e3] at hj
    simp at hj
    subst hj
    refine ⟨fun q => ?_, fun q => ?_, fun q => ?_, fun q => ?_⟩
    · have := k.win.c.here; omega
    · have := k.win.a.here; omega
    · have := (own_base k.win.l _ q).2; omega
    · have := (own_base k.fr _ q).2; omega
theorem Fl.onF {w x y : World} {p h : Nat} {v : Value} {S : WS} {cv fv fv' : Value} {cl fl : List Nat} (k : Fl w x p h v S cv fv cl fl) (c : Nat) (t : Turned (fun j => fv.ownBlock = some j) x y) (hr : y.ownsRow w.heap.size 3 1 fv' (fl.length + 1) (nums fl ++ [.int .i64 c])) (hb : fv'.ownBlock = fv.ownBlock ∨ ∃ j, fv'.ownBlock = some j ∧ x.heap.size ≤ j) : Fl w y p h v S cv fv' cl (fl ++ [c]) := by
  have e1 : (fl ++ [c]).length = fl.length + 1 := by simp
  have e2 : nums (fl ++ [c]) = nums fl ++ [.int .i64 c] := by simp [nums]
  refine ⟨k.win.turned t (fun q => (k.f1 _ q).1 rfl) (fun q => (k.f1 _ q).2.1 rfl) (fun j hj q => (k.f1 _ q).2.2 hj), own_turned k.ch t (fun j hj q => (k.c1 _ hj).2.2.2 q), by rw [e1, e2]; exact hr, k.gr.trans (t.below k.gr.size (fun j q => (own_base k.fr j q).1)), fun j hj => ?_, fun j hj => ?_⟩
  · obtain ⟨a1, a2, a3, a4⟩ := k.c1 j hj
    refine ⟨a1, a2, a3, fun q => ?_⟩
    rcases hb with e | ⟨i, e3, e4⟩
    · exact a4 (by rw [← e]; exact q)
    · rw [e3] at q
      simp at q
      have := (own_base k.ch j hj).2
      omega
  · rcases hb with e | ⟨i, e3, e4⟩
    · exact k.f1 j (by rw [← e]; exact hj)
    · rw [e3] at hj
      simp at hj
      subst hj
      refine ⟨fun q => ?_, fun q => ?_, fun q => ?_⟩
      · have := k.win.c.here; omega
      · have := k.win.a.here; omega
      · have := (own_base k.win.l _ q).2; omega
theorem own_nums {x : World} {B : Nat} {e : TypeId} {v : Value} {l : List Nat} (h : x.ownsRow B e 1 v l.length (nums l)) : ∃ q cap, v = .slice q l.length cap ∧ (l.length ≤ cap ∧ cap ≤ 9223372036854775807) ∧ ∀ i, i < l.length → ∃ g, q = some ⟨g, 0, none⟩ ∧ g < x.heap.size ∧ x.cell? ⟨g, i, none⟩ = some (.int .i64 ((l.getD i 0 : Nat) : Int)) := by
  have h0 := h
  obtain ⟨h1, h2⟩ := h
  rcases h2 with ⟨hv, hn⟩ | ⟨g, cap, cur, rfl, b2, b3, b4, b5, b6, b7⟩
  · exact ⟨none, 0, by rw [hv, hn], ⟨by omega, by omega⟩, fun i hi => by omega⟩
  · unfold maxLen at b5
    refine ⟨_, cap, rfl, ⟨b4, by omega⟩, fun i hi => ⟨g, rfl, (own_base h0 g rfl).2, ?_⟩⟩
    have q := World.ownsRow.cells h0 rfl i (.int .i64 ((l.getD i 0 : Nat) : Int)) (by
      unfold nums
      rw [List.getElem?_map, List.getElem?_eq_getElem hi, List.getD_eq_getElem?_getD, List.getElem?_eq_getElem hi]
      rfl)
    rwa [Addr.add_lit, Nat.zero_add] at q
theorem own_ints {x : World} {B : Nat} {e : TypeId} {v : Value} {l : List Int} (h : x.ownsRow B e 1 v l.length (ints l)) : ∃ q cap, v = .slice q l.length cap ∧ (l.length ≤ cap ∧ cap ≤ 9223372036854775807) ∧ ∀ i, i < l.length → ∃ g, q = some ⟨g, 0, none⟩ ∧ g < x.heap.size ∧ x.cell? ⟨g, i, none⟩ = some (.int .i64 (l.getD i 0)) := by
  have h0 := h
  obtain ⟨h1, h2⟩ := h
  rcases h2 with ⟨hv, hn⟩ | ⟨g, cap, cur, rfl, b2, b3, b4, b5, b6, b7⟩
  · exact ⟨none, 0, by rw [hv, hn], ⟨by omega, by omega⟩, fun i hi => by omega⟩
  · unfold maxLen at b5
    refine ⟨_, cap, rfl, ⟨b4, by omega⟩, fun i hi => ⟨g, rfl, (own_base h0 g rfl).2, ?_⟩⟩
    have q := World.ownsRow.cells h0 rfl i (.int .i64 (l.getD i 0)) (by
      unfold ints
      rw [List.getElem?_map, List.getElem?_eq_getElem hi, List.getD_eq_getElem?_getD, List.getElem?_eq_getElem hi]
      rfl)
    rwa [Addr.add_lit, Nat.zero_add] at q
variable {f : Nat → Bool} {n k : Nat} {st : Nat → Int} {wk : Nat → Bool} {w x : World} {p h : Nat} {v cv fv : Value} {cl fl : List Nat} {S : WS}
theorem fl_enter_t (K : Fl w x p h v (stW f n k (fun _ => 0) (fun _ => false)) cv fv cl fl) (hf : f k = true) (hk : k < n) (hn : n ≤ 64) : Calls Tryd.prog 8 #[.pointer (some ⟨p, 0, none⟩), .agg #[.int .i64 0, .int .i64 (la f k), .int .i64 (-1), .int .i64 (40 + k)]] x fun e y => e = .returned (.tuple #[.int .i64 k, .nilIface]) ∧ ∃ v', Fl w y p h v' (stW f n (k + 1) (fun _ => 0) (fun _ => false)) cv fv cl fl := by
  have hl : la f k < 128 := by
    rcases la_cases (f := f) k with e | ⟨c, h1, h2, h3⟩ <;> omega
  refine (enter_good w.heap.size p h 128 v _ 0 (la f k) (-1) (40 + k) x K.win (by omega) ⟨by omega, show (la f k : Int) < (128 : Nat) by omega⟩ ⟨by omega, show (-1 : Int) < (128 : Nat) by omega⟩ ⟨by omega, show (40 + k : Int) < (128 : Nat) by omega⟩ (by rw [stW_len]; exact hk) (show k < 1000000 by omega)).mono ?_
  rintro e y ⟨rfl, v', hb, hw, ht⟩
  refine ⟨rfl, v', K.step ht ?_ hb⟩
  rw [stW_enter_t hf] at hw
  have e1 : stW f n (k + 1) (fun j => if j = k then (0 : Int) else 0) (fun _ => false) = stW f n (k + 1) (fun _ => 0) (fun _ => false) := stW_congr fun j _ => by simp
  rw [e1] at hw
  exact hw
theorem fl_enter_f (K : Fl w x p h v (stW f n k (fun _ => 0) (fun _ => false)) cv fv cl fl) (hf : f k = false) (hk : k < n) (hn : n ≤ 64) : Calls Tryd.prog 8 #[.pointer (some ⟨p, 0, none⟩), .agg #[.int .i64 0, .int .i64 (-1), .int .i64 (-1), .int .i64 (-1)]] x fun e y => e = .returned (.tuple #[.int .i64 k, .nilIface]) ∧ ∃ v', Fl w y p h v' (stW f n (k + 1) (fun _ => 0) (fun _ => false)) cv fv cl fl := by
  refine (enter_good w.heap.size p h 128 v _ 0 (-1) (-1) (-1) x K.win (by omega) ⟨by omega, show (-1 : Int) < (128 : Nat) by omega⟩ ⟨by omega, show (-1 : Int) < (128 : Nat) by omega⟩ ⟨by omega, show (-1 : Int) < (128 : Nat) by omega⟩ (by rw [stW_len]; exact hk) (show k < 1000000 by omega)).mono ?_
  rintro e y ⟨rfl, v', hb, hw, ht⟩
  refine ⟨rfl, v', K.step ht ?_ hb⟩
  rw [stW_enter_f hf] at hw
  have e1 : stW f n (k + 1) (fun j => if j = k then (0 : Int) else 0) (fun _ => false) = stW f n (k + 1) (fun _ => 0) (fun _ => false) := stW_congr fun j _ => by simp
  rw [e1] at hw
  exact hw
theorem fl_full (K : Fl w x p h v (stW f n n st wk) cv fv cl fl) : Calls Tryd.prog 8 #[.pointer (some ⟨p, 0, none⟩), .agg #[.int .i64 0, .int .i64 (-1), .int .i64 (-1), .int .i64 (-1)]] x fun e y => e = .returned (.tuple #[.int .i64 0, .iface 66 (.int .i64 4)]) ∧ Fl w y p h v (stW f n n st wk) cv fv cl fl := by
  refine (enter_full w.heap.size p h 128 v _ 0 (-1) (-1) (-1) x K.win (by omega) ⟨by omega, show (-1 : Int) < (128 : Nat) by omega⟩ ⟨by omega, show (-1 : Int) < (128 : Nat) by omega⟩ ⟨by omega, show (-1 : Int) < (128 : Nat) by omega⟩ (by rw [stW_len]; exact Nat.le_refl n)).mono ?_
  rintro e y ⟨rfl, hb⟩
  exact ⟨rfl, K.below hb⟩
theorem fl_ready (K : Fl w x p h v S cv fv cl fl) (L : List Int) (hL : S.ready 0 100 = L) : Calls Tryd.prog 12 #[.pointer (some ⟨p, 0, none⟩), .int .i64 0, .int .i64 100] x fun e y => ∃ q cap, e = .returned (.slice q L.length cap) ∧ (L.length ≤ cap ∧ cap ≤ 9223372036854775807) ∧ (∀ i, i < L.length → ∃ g, q = some ⟨g, 0, none⟩ ∧ g < y.heap.size ∧ y.cell? ⟨g, i, none⟩ = some (.int .i64 (L.getD i 0))) ∧ Fl w y p h v S cv fv cl fl := by
  refine (ready_any w.heap.size p h 128 v S 0 100 x K.win).mono ?_
  rintro e y ⟨u, rfl, hr, hb⟩
  rw [hL] at hr
  obtain ⟨q, cap, rfl, h1, h2⟩ := own_ints hr
  exact ⟨q, cap, rfl, h1, h2, K.below hb⟩
theorem fl_issue (K : Fl w x p h v (stW f n n st wk) cv fv cl fl) (j : Nat) (hj : j < n) (hm : (stW f n n st wk).may j = true) : Calls Tryd.prog 16 #[.pointer (some ⟨p, 0, none⟩), .int .i64 j] x fun e y => e = .returned .nilIface ∧ Fl w y p h v (stW f n n (upd st j 1) wk) cv fv cl fl := by
  refine (issue_good w.heap.size p h 128 v _ j j x K.win (stW_at j hj) hm).mono ?_
  rintro e y ⟨rfl, hw, ht⟩
  rw [stW_set j hj] at hw
  exact ⟨rfl, K.step (ht.mono fun i hi => Or.inr (Or.inr hi)) hw (Or.inl rfl)⟩
theorem fl_done (K : Fl w x p h v (stW f n n st wk) cv fv cl fl) (j : Nat) (hj : j < n) (hm : (stW f n n st wk).st j = 1) : Calls Tryd.prog 19 #[.pointer (some ⟨p, 0, none⟩), .int .i64 j] x fun e y => e = .returned .nilIface ∧ Fl w y p h v (stW f n n (upd st j 2) wk) cv fv cl fl := by
  refine (done_good w.heap.size p h 128 v _ j j x K.win (stW_at j hj) hm).mono ?_
  rintro e y ⟨rfl, hw, ht⟩
  rw [stW_set j hj] at hw
  exact ⟨rfl, K.step (ht.mono fun i hi => Or.inr (Or.inr hi)) hw (Or.inl rfl)⟩
theorem fl_wake (K : Fl w x p h v (stW f n n st wk) cv fv cl fl) (j : Nat) (hj : j < n) (hn : n ≤ 64) : Calls Tryd.prog 10 #[.pointer (some ⟨p, 0, none⟩), .int .i64 (40 + j)] x fun e y => e = .returned .nilIface ∧ Fl w y p h v (stW f n n st (upd wk j true)) cv fv cl fl := by
  have e0 : (40 : Int) + j = ((40 + j : Nat) : Int) := by omega
  rw [e0]
  refine (wake_good w.heap.size p h 128 v _ (40 + j) x K.win (show 40 + j < 128 by omega)).mono ?_
  rintro e y ⟨rfl, hw, ht⟩
  rw [stW_wake j] at hw
  exact ⟨rfl, K.step (ht.mono fun i hi => Or.inr (Or.inl hi)) hw (Or.inl rfl)⟩
theorem fl_retire (K : Fl w x p h v (popW (stW f n n st wk) k) cv fv cl fl) (hk : k < n) (hs : st k = 2) : Calls Tryd.prog 20 #[.pointer (some ⟨p, 0, none⟩)] x fun e y => e = .returned (.tuple #[.int .i64 k, .nilIface]) ∧ ∃ v', Fl w y p h v' (popW (stW f n n st wk) (k + 1)) cv fv cl fl := by
  have e1 : (popW (stW f n n st wk) k).num 0 = k := by
    unfold WS.num
    rw [popW_getD k hk]
    rfl
  have e2 : (popW (stW f n n st wk) k).st 0 = 2 := by
    unfold WS.st
    rw [popW_getD k hk]
    exact hs
  refine (retire_good w.heap.size p h 128 v _ x K.win (by rw [popW_len]; omega) e2).mono ?_
  rintro e y ⟨rfl, v', hb, hw, ht⟩
  rw [e1]
  rw [popW_next] at hw
  refine ⟨rfl, v', K.step (ht.mono fun i hi => ?_) hw (Or.inl hb)⟩
  rcases hi with hi | hi
  · exact Or.inl hi
  · exact Or.inr (Or.inr hi)
theorem wpList_append_run {P : Program} {w w' : World} {ops : Array Oper} {rest : List Oper} {o : Oper} {a : Act} {Q : Exit → Act → World → Prop} {s x : Operand} {t : TypeId} {v u v' : Value} (hgd : o.guard = none) (ho : o.op = Op.call { callee := Callee.builtin Builtin.append, args := #[s, x], argTypes := #[t, t] }) (hs : a.eval s = v) (hx : a.eval x = u) (hr : (Builtin.append_ #[t, t] o.type #[v, u]).run P w = .ok v' w') (hK : wpList P ops Q rest (a.put o.dst v') w') : wpList P ops Q (o :: rest) a w :=
  wpList_plain hgd fun _ hK' => append_op0 ho hs hx hr (hK' _ _ hK)
theorem app_run {B : Nat} (x : World) (cv : Value) (cl : List Nat) (c : Nat) (hr : x.ownsRow B 3 1 cv cl.length (nums cl)) (hl : cl.length ≤ 1000000) (hB : B ≤ x.heap.size) : ∃ cv' y, (Builtin.append_ #[48, 48] 48 #[cv, .slice (some ⟨x.heap.size, 0, none⟩) 1 1]).run Tryd.prog (x.alloc (.cells #[.int .i64 c] 3)) = .ok cv' y ∧ y.ownsRow B 3 1 cv' (cl.length + 1) (nums cl ++ [.int .i64 c]) ∧ Turned (fun j => cv.ownBlock = some j) x y ∧ (cv'.ownBlock = cv.ownBlock ∨ ∃ j, cv'.ownBlock = some j ∧ x.heap.size ≤ j) := by
  obtain ⟨i0, hi0, hz0, hz1, hz2⟩ := info_parts (show (Tryd.prog.info? 3).map (fun i => (i.zero, i.size, i.bytes)) = some (some (.int .i64 0), 1, 8) by kernel_rfl)
  obtain ⟨v', w1, hrun, r1, r2, r3, r4⟩ := run_append_own_at (P := Tryd.prog) (w := x.alloc (.cells #[.int .i64 c] 3)) B 48 48 3 i0 (.int .i64 0) 1 8 Tryd.underlying48 hi0 hz0 hz1 hz2 rfl (by decide) cv cl.length (nums cl) (hr.alloc _) ⟨x.heap.size, 0, none⟩ 1 1 [.int .i64 c] rfl (cell_one_new _ _ _) (by simp [Value.oneCell']) (by unfold maxLen; omega) (by omega) (by simp; omega)
  refine ⟨v', w1, hrun, r1, (((Turned.refl _ x).alloc _).trans (turned_grown r2)), ?_⟩
  rcases r4 with e | e
  · exact Or.inl e
  · exact Or.inr ⟨_, e, by rw [World.size_alloc]; exact Nat.le_succ _⟩
theorem fl_appC (K : Fl w x p h v S cv fv cl fl) (c : Nat) (hl : cl.length ≤ 1000000) : ∃ g cap y, (Builtin.append_ #[48, 48] 48 #[cv, .slice (some ⟨x.heap.size, 0, none⟩) 1 1]).run Tryd.prog (x.alloc (.cells #[.int .i64 c] 3)) = .ok (.slice (some ⟨g, 0, none⟩) (cl.length + 1) cap) y ∧ Fl w y p h v S (.slice (some ⟨g, 0, none⟩) (cl.length + 1) cap) fv (cl ++ [c]) fl := by
  obtain ⟨cv', y, h1, h2, h3, h4⟩ := app_run x cv cl c K.ch hl K.gr.size
  obtain ⟨g, cap, rfl⟩ := Go.ownsRow_succ h2
  exact ⟨g, cap, y, h1, K.onC c h3 h2 h4⟩
theorem fl_appF (K : Fl w x p h v S cv fv cl fl) (c : Nat) (hl : fl.length ≤ 1000000) : ∃ g cap y, (Builtin.append_ #[48, 48] 48 #[fv, .slice (some ⟨x.heap.size, 0, none⟩) 1 1]).run Tryd.prog (x.alloc (.cells #[.int .i64 c] 3)) = .ok (.slice (some ⟨g, 0, none⟩) (fl.length + 1) cap) y ∧ Fl w y p h v S cv (.slice (some ⟨g, 0, none⟩) (fl.length + 1) cap) cl (fl ++ [c]) := by
  obtain ⟨fv', y, h1, h2, h3, h4⟩ := app_run x fv fl c K.fr hl K.gr.size
  obtain ⟨g, cap, rfl⟩ := Go.ownsRow_succ h2
  exact ⟨g, cap, y, h1, K.onF c h3 h2 h4⟩
end Go.Proofs.YtckglpmjaplcnaaDoor
