import Derived.Test.YthbffonedpeeiaaDoorZmd
import Derived.Deep.CutBlock
import Derived.StillTailTactics
import Derived.Deep.DeepCutAuto
import Derived.BigQuiet
/-
  MAKES IN ANY ORDER: a region whose operations that are ready make a block each, each for a slot of its own.
-/
namespace Go.Proofs.YthbffonedpeeiaaDoor
open Go Go.RowKit
def Ints (w : World) (p : Option Addr) (m : Nat) (f : Nat → Int) : Prop := ∀ i, i < m → ∃ c o, p = some ⟨c, o, none⟩ ∧ c < w.heap.size ∧ w.cell? ⟨c, o + i, none⟩ = some (.int .i64 (f i)) ∧ I64 (f i)
def M0 (sz : Nat) : Ms := ⟨⟨sz, []⟩, 0, 0, fun _ => 0, fun _ => false, fun _ => false, fun _ => false, fun _ => 0⟩
theorem kept0 (g : Nat → Acc) (n sz : Nat) (h : 0 < sz) : Kept g n (M0 sz) 0 := by
  refine ⟨rfl, ⟨Nat.le_refl _, Nat.zero_le _⟩, ⟨Nat.zero_le _, h⟩, fun j hj => by omega, fun i hi => absurd hi (by simp [M0]), fun a b _ hb => absurd hb (by simp [M0]), fun i hi => absurd hi (by simp [M0]), fun i hi => absurd hi (by simp [M0]), fun i hi => absurd hi (by simp [M0]), fun i hi => absurd hi (by simp [M0]), fun k _ => ⟨rfl, rfl, rfl⟩, fun y _ _ => rfl, fun k hk => absurd hk (by simp [M0]), fun y => by simp [M0]⟩
def frame (a : Act) (vals : Nat → Option Value) : Act := { a with tmps := Array.ofFn (n := a.tmps.size) fun j => (vals j).getD a.tmps[j] }
theorem frame_none (a : Act) : frame a (fun _ => none) = a := by
  obtain ⟨t, d⟩ := a
  unfold frame
  simp
theorem frame_put (a : Act) (vals : Nat → Option Value) (s : Nat) (v : Value) : (frame a vals).put (some s) v = frame a (upd vals s (some v)) := by
  unfold frame Act.put
  simp only [Act.mk.injEq, and_true]
  apply Array.ext
  · simp
  · intro j h1 h2
    rw [Array.getElem_setIfInBounds (by simpa using h1)]
    unfold upd
    by_cases e : s = j
    · subst e
      simp
    · have e2 : ¬ j = s := fun q => e q.symm
      simp [e, e2]
/-- what has been made -/
structure MadeSt (w0 : World) (L rem : List (Nat × Nat)) (val : Nat → Nat → Value) (obj : Nat → Obj) (vals : Nat → Option Value) (w : World) (B : Nat → Nat) : Prop where
  is : ∀ x ∈ L, x ∉ rem → vals x.2 = some (val x.1 (B x.1)) ∧ w0.heap.size ≤ B x.1 ∧ w.heap[B x.1]? = some (obj x.1)
  ne : ∀ x ∈ L, ∀ y ∈ L, x ∉ rem → y ∉ rem → x.1 ≠ y.1 → B x.1 ≠ B y.1
  low : Below w0.heap.size w0 w
  no : ∀ t, (∀ x ∈ L, x ∉ rem → x.2 ≠ t) → vals t = none
theorem wpAny_makes {P : Program} {md : Region.Mode} {ops : Array Oper} {Q : Exit → Act → World → Prop} (w0 : World) (a : Act) (L : List (Nat × Nat)) (f : Nat) (val : Nat → Nat → Value) (obj : Nat → Obj) (lst : List (Nat × Nat) → Array Bool)
    (hnd : L.Nodup) (h1 : ∀ x ∈ L, ∀ y ∈ L, x.1 = y.1 → x = y) (h2 : ∀ x ∈ L, ∀ y ∈ L, x.2 = y.2 → x = y)
    (hready : ∀ rem, rem.Sublist L → rem ≠ [] → Region.ready md ops (lst rem) = rem.map (·.1))
    (hset : ∀ rem, rem.Sublist L → ∀ x ∈ rem, (lst rem).setIfInBounds x.1 true = lst (rem.erase x))
    (hop : ∀ x ∈ L, ∃ o, ops[x.1]? = some o ∧ o.guard = none ∧ o.dst = some x.2 ∧ ∀ (vals : Nat → Option Value) (w : World) (K : Act → World → Prop), (∀ t, (∀ y ∈ L, y.2 ≠ t) → vals t = none) → K ((frame a vals).put o.dst (val x.1 w.heap.size)) (w.alloc (obj x.1)) → o.wp P (frame a vals) w K Q)
    (fin : ∀ vals w B, MadeSt w0 L [] val obj vals w B → wpAny P md ops Q f (lst []) (frame a vals) w) :
    ∀ (k : Nat) (rem : List (Nat × Nat)) (vals : Nat → Option Value) (w : World) (B : Nat → Nat), rem.length = k → rem.Sublist L → MadeSt w0 L rem val obj vals w B → wpAny P md ops Q (f + k) (lst rem) (frame a vals) w := by
  intro k
  induction k with
  | zero =>
    intro rem vals w B hk _ hM
    obtain rfl : rem = [] := List.eq_nil_of_length_eq_zero hk
    exact fin vals w B hM
  | succ k ih =>
    intro rem vals w B hk hsub hM
    have hne : rem ≠ [] := fun e => by rw [e] at hk; cases hk
    have hr := hready rem hsub hne
    refine ⟨fun e => ?_, fun i hi => ?_⟩
    · rw [hr] at e
      exact absurd (List.map_eq_nil_iff.1 e) hne
    · rw [hr] at hi
      obtain ⟨x, hx, rfl⟩ := List.mem_map.1 hi
      have hxL := hsub.subset hx
      obtain ⟨o, ho, hg, hd, hw⟩ := hop x hxL
      unfold wpOp
      rw [ho]
      have hwa : Region.wanted o (yielded ops (frame a vals).tmps) = true := by
        unfold Region.wanted
        rw [hg]
      simp only [hwa, if_true]
      refine Or.inl (hw vals w _ (fun t ht => hM.no t (fun y hy _ => ht y hy)) ?_)
      rw [hset rem hsub x hx, hd, frame_put]
      have hnr : rem.Nodup := hsub.nodup hnd
      have hmem : ∀ y, y ∈ rem.erase x ↔ y ≠ x ∧ y ∈ rem := fun y => hnr.mem_erase_iff
      refine ih (rem.erase x) _ _ (upd B x.1 w.heap.size) (by rw [List.length_erase_of_mem hx]; omega) ((List.erase_sublist).trans hsub) ⟨fun y hy hyr => ?_, fun y hy z hz hyr hzr hyz => ?_, ?_, fun t ht => ?_⟩
      · by_cases e : y = x
        · subst e
          refine ⟨by rw [upd_same, upd_same], by rw [upd_same]; exact hM.low.size, ?_⟩
          rw [upd_same]
          show (w.heap.push (obj y.1))[w.heap.size]? = _
          simp
        · have hyn : y ∉ rem := fun q => hyr ((hmem y).2 ⟨e, q⟩)
          obtain ⟨q1, q2, q3⟩ := hM.is y hy hyn
          have e1 : y.1 ≠ x.1 := fun q => e (h1 y hy x hxL q)
          have e2 : y.2 ≠ x.2 := fun q => e (h2 y hy x hxL q)
          have hlt : B y.1 < w.heap.size := by
            rcases Nat.lt_or_ge (B y.1) w.heap.size with c | c
            · exact c
            · rw [Array.getElem?_eq_none c] at q3
              cases q3
          refine ⟨by rw [upd_other _ _ _ _ e2, upd_other _ _ _ _ e1]; exact q1, by rw [upd_other _ _ _ _ e1]; exact q2, ?_⟩
          rw [upd_other _ _ _ _ e1]
          show (w.heap.push (obj x.1))[B y.1]? = _
          rw [Array.getElem?_push_lt hlt]
          rw [Array.getElem?_eq_getElem hlt] at q3
          exact q3
      · have lt : ∀ u ∈ L, u ∉ rem → B u.1 < w.heap.size := fun u hu hur => by
          obtain ⟨-, -, q3⟩ := hM.is u hu hur
          rcases Nat.lt_or_ge (B u.1) w.heap.size with c | c
          · exact c
          · rw [Array.getElem?_eq_none c] at q3
            cases q3
        by_cases e : y = x
        · subst e
          have ez : z ≠ y := fun q => hyz (by rw [q])
          have hzn : z ∉ rem := fun q => hzr ((hmem z).2 ⟨ez, q⟩)
          rw [upd_same, upd_other _ _ _ _ (fun q => hyz q.symm)]
          have := lt z hz hzn
          omega
        · have hyn : y ∉ rem := fun q => hyr ((hmem y).2 ⟨e, q⟩)
          have e1 : y.1 ≠ x.1 := fun q => e (h1 y hy x hxL q)
          rw [upd_other _ _ _ _ e1]
          by_cases e3 : z = x
          · subst e3
            rw [upd_same]
            have := lt y hy hyn
            omega
          · have hzn : z ∉ rem := fun q => hzr ((hmem z).2 ⟨e3, q⟩)
            have e4 : z.1 ≠ x.1 := fun q => e3 (h1 z hz x hxL q)
            rw [upd_other _ _ _ _ e4]
            exact hM.ne y hy z hz hyn hzn hyz
      · exact hM.low.trans (((Below.refl _ _).alloc (Nat.le_refl _) _).mono hM.low.size)
      · have hxt : x.2 ≠ t := ht x hxL (fun q => ((hmem x).1 q).1 rfl)
        rw [upd_other _ _ _ _ (fun q => hxt q.symm)]
        exact hM.no t (fun y hy hyr => ht y hy (fun q => hyr ((hmem y).1 q).2))
def subs {α : Type} : List α → List (List α)
  | [] => [[]]
  | x :: l => subs l ++ (subs l).map (x :: ·)
theorem mem_subs {α : Type} {s l : List α} (h : s.Sublist l) : s ∈ subs l := by
  induction h with
  | slnil => simp [subs]
  | cons a _ ih =>
    unfold subs
    exact List.mem_append.2 (Or.inl ih)
  | cons_cons a _ ih =>
    unfold subs
    exact List.mem_append.2 (Or.inr (List.mem_map.2 ⟨_, ih, rfl⟩))
theorem frame_eval (a : Act) (vals : Nat → Option Value) (t : Nat) (h : vals t = none) : (frame a vals).eval (.tmp t) = a.eval (.tmp t) := by
  unfold frame Act.eval
  simp only [Array.getD_eq_getD_getElem?]
  by_cases c : t < a.tmps.size
  · rw [Array.getElem?_eq_getElem (by simpa using c), Array.getElem?_eq_getElem c]
    simp [h]
  · rw [Array.getElem?_eq_none (by simpa using c), Array.getElem?_eq_none (by omega)]
theorem make_wp {P : Program} {o : Oper} {a : Act} {w w' : World} {K : Act → World → Prop} {Q : Exit → Act → World → Prop} {t : TypeId} {x y : Operand} {u v r : Value} (ho : o.op = .makeSlice t x y) (hx : a.eval x = u) (hy : a.eval y = v) (hr : (Instr.makeSlice t u v).run P w = .ok r w') (h : K (a.put o.dst r) w') : o.wp P a w K Q := by
  unfold Oper.wp execOp
  simp only [ho, hx, hy, Sem.run_bind, hr, Result.andThen_ok, Sem.run_pure]
  exact h
abbrev L7 : List (Nat × Nat) := [(5, 47), (7, 49), (9, 51), (11, 53), (12, 54)]
def lst7 (rem : List (Nat × Nat)) : Array Bool := #[true, true, true, true, true, !(rem.contains (5, 47)), true, !(rem.contains (7, 49)), true, !(rem.contains (9, 51)), true, !(rem.contains (11, 53)), !(rem.contains (12, 54)), false, false, false]
theorem set7 : ∀ rem ∈ subs L7, ∀ x ∈ rem, (lst7 rem).setIfInBounds x.1 true = lst7 (rem.erase x) := by decide +kernel
def val7 (n i g : Nat) : Value := if i = 12 then .slice (some ⟨g, 0, none⟩) 16 16 else .slice (some ⟨g, 0, none⟩) n n
def obj7 (n : Nat) (t1 t2 t5 : TypeId) (i : Nat) : Obj := if i = 5 then .cells (madeCells #[.int .u32 0] n) t1 else if i = 12 then .cells (madeCells #[.int .u8 0] 16) t5 else .cells (madeCells #[.bool false] n) t2
theorem vals7 {w0 W : World} {val : Nat → Nat → Value} {obj : Nat → Obj} {vals : Nat → Option Value} {B : Nat → Nat} (hM : MadeSt w0 L7 [] val obj vals W B) : vals = upd (upd (upd (upd (upd (fun _ => none) 47 (some (val 5 (B 5)))) 49 (some (val 7 (B 7)))) 51 (some (val 9 (B 9)))) 53 (some (val 11 (B 11)))) 54 (some (val 12 (B 12))) := by
  funext t
  unfold upd
  by_cases e1 : t = 54
  · rw [if_pos e1, e1]
    exact (hM.is (12, 54) (by simp) (by simp)).1
  · rw [if_neg e1]
    by_cases e2 : t = 53
    · rw [if_pos e2, e2]
      exact (hM.is (11, 53) (by simp) (by simp)).1
    · rw [if_neg e2]
      by_cases e3 : t = 51
      · rw [if_pos e3, e3]
        exact (hM.is (9, 51) (by simp) (by simp)).1
      · rw [if_neg e3]
        by_cases e4 : t = 49
        · rw [if_pos e4, e4]
          exact (hM.is (7, 49) (by simp) (by simp)).1
        · rw [if_neg e4]
          by_cases e5 : t = 47
          · rw [if_pos e5, e5]
            exact (hM.is (5, 47) (by simp) (by simp)).1
          · rw [if_neg e5]
            refine hM.no t (fun x hx _ => ?_)
            simp only [List.mem_cons, List.not_mem_nil, or_false] at hx
            rcases hx with rfl | rfl | rfl | rfl | rfl
            · exact fun q => e5 q.symm
            · exact fun q => e4 q.symm
            · exact fun q => e3 q.symm
            · exact fun q => e2 q.symm
            · exact fun q => e1 q.symm
/-- the start of the law's memory, out of what has been made -/
theorem xm_start {w w1 W : World} {q n sz : Nat} {lv : Value} {B : Nat → Nat} {val : Nat → Nat → Value} {obj : Nat → Obj} {vals : Nat → Option Value} {t : TypeId} {t1 t2 t5 : TypeId} (kq : Qm w1 w.heap.size q (.slice none 0 0) ⟨sz, []⟩) (b1 : Below w.heap.size w w1) (hM : MadeSt w1 [(5, 47), (7, 49), (9, 51), (11, 53), (12, 54)] [] val obj vals W B)
    (o5 : obj 5 = .cells (madeCells #[.int .u32 0] n) t1) (o7 : obj 7 = .cells (madeCells #[.bool false] n) t2) (o9 : obj 9 = .cells (madeCells #[.bool false] n) t2) (o11 : obj 11 = .cells (madeCells #[.bool false] n) t2) (o12 : obj 12 = .cells (madeCells #[.int .u8 0] 16) t5) :
    Xm w (W.alloc (.cells #[.pointer (some ⟨q, 0, none⟩), lv, .int .i64 0, .int .i64 0, .slice (some ⟨B 5, 0, none⟩) n n, .slice (some ⟨B 7, 0, none⟩) n n, .slice (some ⟨B 9, 0, none⟩) n n, .slice (some ⟨B 11, 0, none⟩) n n, .slice (some ⟨B 12, 0, none⟩) 16 16] t)) q (.slice none 0 0) lv (fun i => match i with | 0 => W.heap.size | 1 => B 5 | 2 => B 7 | 3 => B 9 | 4 => B 11 | _ => B 12) n (M0 sz) := by
  have hx : ∀ x ∈ [((5 : Nat), (47 : Nat)), (7, 49), (9, 51), (11, 53), (12, 54)], w1.heap.size ≤ B x.1 ∧ W.heap[B x.1]? = some (obj x.1) ∧ B x.1 < W.heap.size := fun x h => by
    obtain ⟨-, q2, q3⟩ := hM.is x h (by simp)
    refine ⟨q2, q3, ?_⟩
    rcases Nat.lt_or_ge (B x.1) W.heap.size with c | c
    · exact c
    · rw [Array.getElem?_eq_none c] at q3
      cases q3
  have h5 := hx (5, 47) (by simp)
  have h7 := hx (7, 49) (by simp)
  have h9 := hx (9, 51) (by simp)
  have h11 := hx (11, 53) (by simp)
  have h12 := hx (12, 54) (by simp)
  have hne := fun x hx y hy => hM.ne x hx y hy (by simp) (by simp)
  have bA : Below W.heap.size W (W.alloc (.cells #[.pointer (some ⟨q, 0, none⟩), lv, .int .i64 0, .int .i64 0, .slice (some ⟨B 5, 0, none⟩) n n, .slice (some ⟨B 7, 0, none⟩) n n, .slice (some ⟨B 9, 0, none⟩) n n, .slice (some ⟨B 11, 0, none⟩) n n, .slice (some ⟨B 12, 0, none⟩) 16 16] t)) := (Below.refl _ _).alloc (Nat.le_refl _) _
  have mk : ∀ (g m : Nat) (z : Value) (t : TypeId) (c : Nat → Value), W.heap[g]? = some (.cells (madeCells #[z] m) t) → (∀ o, o < m → c o = z) → CellsAt m W g c := fun g m z t c h hc => by
    have hg : g < W.heap.size := by
      rcases Nat.lt_or_ge g W.heap.size with c | c
      · exact c
      · rw [Array.getElem?_eq_none c] at h
        cases h
    refine ⟨hg, fun o ho => ?_, fun o => by simp [World.frozen?, h]⟩
    rw [hc o ho]
    simp [World.cell?, h, made_cell z m o ho]
  have kW := (kq.below hM.low).below bA
  refine ⟨fun i hi => ?_, kW, fun i j hi hj e => ?_, fun i hi e => ?_, fun i hi => ?_, (b1.trans (hM.low.mono b1.size)).trans (bA.mono (Nat.le_trans b1.size hM.low.size))⟩
  · match i, hi with
    | 0, _ =>
      refine cells_new W fun o ho => ?_
      have ho : o < 9 := ho
      match o, ho with
      | 0, _ => rfl
      | 1, _ => rfl
      | 2, _ => rfl
      | 3, _ => rfl
      | 4, _ => rfl
      | 5, _ => rfl
      | 6, _ => rfl
      | 7, _ => rfl
      | 8, _ => rfl
    | 1, _ => exact (mk _ n _ t1 _ (by rw [h5.2.1, o5]) (fun _ _ => rfl)).below bA
    | 2, _ => exact (mk _ n _ t2 _ (by rw [h7.2.1, o7]) (fun _ _ => rfl)).below bA
    | 3, _ => exact (mk _ n _ t2 _ (by rw [h9.2.1, o9]) (fun _ _ => rfl)).below bA
    | 4, _ => exact (mk _ n _ t2 _ (by rw [h11.2.1, o11]) (fun _ _ => rfl)).below bA
    | 5, _ => exact (mk _ 16 _ t5 _ (by rw [h12.2.1, o12]) (fun _ _ => rfl)).below bA
  · have n1 := hne (5, 47) (by simp) (7, 49) (by simp) (by decide)
    have n2 := hne (5, 47) (by simp) (9, 51) (by simp) (by decide)
    have n3 := hne (5, 47) (by simp) (11, 53) (by simp) (by decide)
    have n4 := hne (5, 47) (by simp) (12, 54) (by simp) (by decide)
    have n5 := hne (7, 49) (by simp) (9, 51) (by simp) (by decide)
    have n6 := hne (7, 49) (by simp) (11, 53) (by simp) (by decide)
    have n7 := hne (7, 49) (by simp) (12, 54) (by simp) (by decide)
    have n8 := hne (9, 51) (by simp) (11, 53) (by simp) (by decide)
    have n9 := hne (9, 51) (by simp) (12, 54) (by simp) (by decide)
    have n10 := hne (11, 53) (by simp) (12, 54) (by simp) (by decide)
    have l5 := h5.2.2
    have l7 := h7.2.2
    have l9 := h9.2.2
    have l11 := h11.2.2
    have l12 := h12.2.2
    simp only at n1 n2 n3 n4 n5 n6 n7 n8 n9 n10 l5 l7 l9 l11 l12
    match i, hi, j, hj with
    | 0, _, 0, _ => rfl
    | 1, _, 1, _ => rfl
    | 2, _, 2, _ => rfl
    | 3, _, 3, _ => rfl
    | 4, _, 4, _ => rfl
    | 5, _, 5, _ => rfl
    | 0, _, 1, _ => simp only at e; omega
    | 0, _, 2, _ => simp only at e; omega
    | 0, _, 3, _ => simp only at e; omega
    | 0, _, 4, _ => simp only at e; omega
    | 0, _, 5, _ => simp only at e; omega
    | 1, _, 0, _ => simp only at e; omega
    | 1, _, 2, _ => simp only at e; omega
    | 1, _, 3, _ => simp only at e; omega
    | 1, _, 4, _ => simp only at e; omega
    | 1, _, 5, _ => simp only at e; omega
    | 2, _, 0, _ => simp only at e; omega
    | 2, _, 1, _ => simp only at e; omega
    | 2, _, 3, _ => simp only at e; omega
    | 2, _, 4, _ => simp only at e; omega
    | 2, _, 5, _ => simp only at e; omega
    | 3, _, 0, _ => simp only at e; omega
    | 3, _, 1, _ => simp only at e; omega
    | 3, _, 2, _ => simp only at e; omega
    | 3, _, 4, _ => simp only at e; omega
    | 3, _, 5, _ => simp only at e; omega
    | 4, _, 0, _ => simp only at e; omega
    | 4, _, 1, _ => simp only at e; omega
    | 4, _, 2, _ => simp only at e; omega
    | 4, _, 3, _ => simp only at e; omega
    | 4, _, 5, _ => simp only at e; omega
    | 5, _, 0, _ => simp only at e; omega
    | 5, _, 1, _ => simp only at e; omega
    | 5, _, 2, _ => simp only at e; omega
    | 5, _, 3, _ => simp only at e; omega
    | 5, _, 4, _ => simp only at e; omega
  · have hw : ∀ g, w1.heap.size ≤ g → ¬ qmine q (.slice none 0 0) ⟨sz, []⟩ g := fun g hg h => by
      have := (kq.low g h).2
      omega
    have hWs := hM.low.size
    match i, hi with
    | 0, _ => exact hw _ hWs e
    | 1, _ => exact hw _ h5.1 e
    | 2, _ => exact hw _ h7.1 e
    | 3, _ => exact hw _ h9.1 e
    | 4, _ => exact hw _ h11.1 e
    | 5, _ => exact hw _ h12.1 e
  · have hs := b1.size
    have hWs := hM.low.size
    match i, hi with
    | 0, _ => exact Nat.le_trans hs hWs
    | 1, _ => exact Nat.le_trans hs h5.1
    | 2, _ => exact Nat.le_trans hs h7.1
    | 3, _ => exact Nat.le_trans hs h9.1
    | 4, _ => exact Nat.le_trans hs h11.1
    | 5, _ => exact Nat.le_trans hs h12.1
end Go.Proofs.YthbffonedpeeiaaDoor
/-
  LSQ's LAW LsqMemory: how long it goes on.
-/
namespace Go.Proofs.YthbffonedpeeiaaDoor
open Go Go.RowKit
theorem psi_step {g : Nat → Acc} {n r r3 r4 : Nat} {M M1 M2 M3 M4 : Ms} (K : Kept g n M r) (K1 : Kept g n M1 r) (A : M.Alike M1) (hle : M.inn ≤ M1.inn) (fu : M1.inn = n ∨ M1.S.on.length = M1.S.size)
    (h2 : (M1.inn = M1.out ∧ M2 = M1) ∨ (M1.out < M2.inn ∧ Went g M1 M2 0)) (hr3 : r3 = r - 1) (e1 : M3.out = M2.out) (e2 : M3.inn = M2.inn) (e3 : M3.given = M2.given) (e4 : M3.known = M2.known) (e5 : M3.done = M2.done) (K4 : Kept g n M4 r4)
    (h4 : (M3.may g = false ∧ M4 = M3 ∧ r4 = r3) ∨ (M3.may g = true ∧ M4.out = M3.out + 1 ∧ r4 ≤ r3 + 1)) (go : M.out < n ∨ 0 < M.S.on.length) (K2 : Kept g n M2 r) : M4.psi n r4 < M.psi n r := by
  have hout := A.out
  have hgiv := A.given
  have l0 := K.len
  have l1 := K1.len
  have io0 := K.io
  have io1 := K1.io
  have io2 := K2.io
  have io4 := K4.io
  have sz1 := K1.size
  rcases h2 with ⟨h2, rfl⟩ | ⟨h2, W⟩
  · have hm : M3.may g = false := by
      unfold Ms.may
      rw [e1, e2, decide_eq_false (by omega)]
      rfl
    rcases h4 with ⟨-, rfl, rfl⟩ | ⟨q, -⟩
    · have hr : 0 < r := by
        rcases fu with f | f
        · rcases go with c | c <;> omega
        · omega
      unfold Ms.psi
      rw [if_neg (fun q => by have := q.1; omega), if_neg (fun q => by have := q.1; omega)]
      omega
    · rw [hm] at q
      cases q
  · have wo := W.out
    have wg := W.giv
    rw [Nat.add_zero] at wg
    have g3 : M3.given M3.out = true := by rw [e1, e3, wo]; exact wg
    have hmt : M3.may g = true → M4.psi n r4 < 4 * (n - M.out) + r := by
      intro hm
      rcases h4 with ⟨q, -⟩ | ⟨-, q1, q2⟩
      · rw [hm] at q
        cases q
      · unfold Ms.psi
        split <;> omega
    by_cases c : M.out < M.inn ∧ M.given M.out = true
    · have gM1 : M1.given M1.out = true := by rw [hgiv, hout]; exact c.2
      have hm : M3.may g = true := by
        unfold Ms.may
        rw [g3, decide_eq_true (show M3.out < M3.inn by omega), e1, wo]
        simp only [Bool.true_and, Bool.or_eq_true, Bool.and_eq_true]
        cases hst : (g M1.out).st
        · right
          rw [e5]
          have := W.don (by rw [Nat.add_zero]; exact gM1) (by rw [Nat.add_zero]; exact hst) rfl
          rw [Nat.add_zero] at this
          exact this
        · left
          refine ⟨rfl, ?_⟩
          rw [e4]
          have := W.kno (by rw [Nat.add_zero]; exact gM1) (by rw [Nat.add_zero]; exact hst)
          rw [Nat.add_zero] at this
          exact this
      have := hmt hm
      unfold Ms.psi at this ⊢
      rw [if_pos c]
      omega
    · have e : M.psi n r = 4 * (n - M.out) + r + 2 := by
        unfold Ms.psi
        rw [if_neg c]
      rw [e]
      cases hm : M3.may g
      · rcases h4 with ⟨-, rfl, rfl⟩ | ⟨q, -⟩
        · unfold Ms.psi
          rw [if_pos ⟨by omega, g3⟩]
          omega
        · rw [hm] at q
          cases q
      · have := hmt hm
        omega
theorem psi_next {g : Nat → Acc} {n r r4 t : Nat} {M M4 : Ms} (hn : n ≤ 60) (hs : M.S.size ≤ 32) (K : Kept g n M r) (ht : t ≤ 4000 ∨ t + M.psi n r ≤ 4274) (h : 4000 ≤ t → M4.psi n r4 < M.psi n r) : t + 1 ≤ 4000 ∨ t + 1 + M4.psi n r4 ≤ 4274 := by
  rcases Nat.lt_or_ge t 4000 with c | c
  · exact Or.inl (by omega)
  · have h1 := h c
    have h2 := K.psi_le hn hs
    right
    rcases ht with q | q <;> omega
end Go.Proofs.YthbffonedpeeiaaDoor
/-
  LSQ's LAW LsqMemory: its statements, one by one.
-/
namespace Go.Proofs.YthbffonedpeeiaaDoor
open Go Go.RowKit
def condOf (t : Nat) : Code → Option Code
  | .cond (.tmp s) x y => bif s == t then some (.cond (.tmp s) x y) else (condOf t x).or (condOf t y)
  | .cond _ x y => (condOf t x).or (condOf t y)
  | .seq x y => (condOf t x).or (condOf t y)
  | .block _ x => condOf t x
  | .loop x => condOf t x
  | .scope x => condOf t x
  | _ => none
def regOf (t : Nat) : Code → Option Code
  | .region i o d => bif i == t then some (.region i o d) else none
  | .cond _ x y => (regOf t x).or (regOf t y)
  | .seq x y => (regOf t x).or (regOf t y)
  | .block _ x => regOf t x
  | .loop x => regOf t x
  | .scope x => regOf t x
  | _ => none
def blkOf (t : Nat) : Code → Option Code
  | .block i x => bif i == t then some (.block i x) else blkOf t x
  | .cond _ x y => (blkOf t x).or (blkOf t y)
  | .seq x y => (blkOf t x).or (blkOf t y)
  | .loop x => blkOf t x
  | .scope x => blkOf t x
  | _ => none
def cndIn (c : Option Code) (t : Nat) : Code := (c.bind (condOf t)).getD .skip
def regIn (c : Option Code) (t : Nat) : Code := (c.bind (regOf t)).getD .skip
def blkIn (c : Option Code) (t : Nat) : Code := (c.bind (blkOf t)).getD .skip
def opsIn : Code → Array Oper
  | .region _ o _ => o
  | _ => #[]
abbrev NoX : Exit → Act → World → Prop := fun _ _ _ => False
theorem wp_any {P : Program} {s : Code} {K : Act → World → Prop} {Q' : Exit → Act → World → Prop} {a : Act} {w : World} (h : s.wp P (Exit.then K NoX) a w) : s.wp P (Exit.then K Q') a w := by
  refine wp_mono h ?_
  intro e a' w' hq
  cases e with
  | normal => exact hq
  | exit id => exact hq.elim
  | goto l => exact hq.elim
  | ret => exact hq.elim
  | panic ch => exact hq.elim
  | outgrown => exact hq.elim
theorem wp_then {P : Program} {s : Code} {Q : Exit → Act → World → Prop} {a : Act} {w : World} (h : s.wp P (Exit.then (Q .normal) Q) a w) : s.wp P Q a w := by
  refine wp_mono h ?_
  intro e a' w' hq
  cases e with
  | normal => exact hq
  | exit id => exact hq
  | goto l => exact hq
  | ret => exact hq
  | panic ch => exact hq
  | outgrown => exact hq
end Go.Proofs.YthbffonedpeeiaaDoor
/-
  STEP BY STEP OVER A FRAME THAT IS A LETTER: regions in frames of many slots.
-/
namespace Go.Proofs.YthbffonedpeeiaaDoor
open Go Go.RowKit
theorem ev_put {a : Act} {t s : Nat} {u v : Value} (h : a.eval (.tmp t) = v) (hne : t ≠ s) : (a.put (some s) u).eval (.tmp t) = v := by
  rw [Act.eval_put (fun d hd e => by cases hd; cases e; exact hne rfl)]
  exact h
theorem ev_same {a : Act} {s : Nat} {u : Value} (h : s < a.tmps.size) : (a.put (some s) u).eval (.tmp s) = u := by
  show (a.tmps.setIfInBounds s u).getD s undef = u
  simp [Array.getD_eq_getD_getElem?, h]
theorem size_put {a : Act} {s k : Nat} {u : Value} (h : a.tmps.size = k) : (a.put (some s) u).tmps.size = k := by
  show (a.tmps.setIfInBounds s u).size = k
  simpa using h
theorem drop_at {ops : Array Oper} {k : Nat} {o : Oper} (hk : ops[k]? = some o) : ops.toList.drop k = o :: ops.toList.drop (k + 1) := by
  obtain ⟨h, e⟩ := Array.getElem?_eq_some_iff.1 hk
  rw [List.drop_eq_getElem_cons (by simpa using h)]
  rw [Array.getElem_toList, e]
section
variable {P : Program} {ops : Array Oper} {C : World → Prop} {Q : Act → Prop} {a : Act} {k s : Nat} {o : Oper} {v : Value}
theorem w_none (hg : o.guard = none) : Region.wanted o (yielded ops a.tmps) = true := by
  unfold Region.wanted
  rw [hg]
theorem w_some {j t : Nat} {b want r : Bool} (hg : o.guard = some (j, want)) (hj : (ops[j]?).bind (·.dst) = some t) (he : a.eval (.tmp t) = .bool b) (hr : (b == want) = r) : Region.wanted o (yielded ops a.tmps) = r := by
  have h : a.tmps[t]? = some (.bool b) := by
    have he : a.tmps.getD t undef = .bool b := he
    rw [Array.getD_eq_getD_getElem?] at he
    cases hh : a.tmps[t]? with
    | none => rw [hh] at he; cases he
    | some u => rw [hh] at he; exact congrArg some he
  unfold Region.wanted yielded
  rw [hg]
  simp only [hj, Option.bind_some, h]
  rw [← hr]
  cases b <;> cases want <;> rfl
theorem w_undef {j t : Nat} {want : Bool} (hg : o.guard = some (j, want)) (hj : (ops[j]?).bind (·.dst) = some t) (he : a.eval (.tmp t) = undef) : Region.wanted o (yielded ops a.tmps) = false := by
  have he : a.tmps.getD t undef = undef := he
  rw [Array.getD_eq_getD_getElem?] at he
  unfold Region.wanted yielded
  rw [hg]
  simp only [hj, Option.bind_some]
  cases hh : a.tmps[t]? with
  | none => cases want <;> rfl
  | some u =>
    rw [hh] at he
    have he : u = undef := he
    subst he
    cases want <;> rfl
theorem qd_want (hk : ops[k]? = some o) (hd : o.dst = some s) (hw : Region.wanted o (yielded ops a.tmps) = true) (hq : ∀ w, C w → (execOp a.eval o).run P w = .ok (.value v) w) (h : wpQuiet P ops C Q (ops.toList.drop (k + 1)) (a.put (some s) v)) : wpQuiet P ops C Q (ops.toList.drop k) a := by
  rw [drop_at hk]
  refine wpQuiet_step (fun K hK => ?_)
  rw [if_pos hw]
  refine ⟨v, fun w hw' => ?_, ?_⟩
  · unfold Oper.quietAt
    rw [hq w hw']
    exact ⟨rfl, rfl⟩
  · rw [hd]
    exact hK _ h
theorem qd_skip (hk : ops[k]? = some o) (hd : o.dst = some s) (hw : Region.wanted o (yielded ops a.tmps) = false) (h : wpQuiet P ops C Q (ops.toList.drop (k + 1)) (a.put (some s) undef)) : wpQuiet P ops C Q (ops.toList.drop k) a := by
  rw [drop_at hk]
  refine wpQuiet_step (fun K hK => ?_)
  rw [if_neg (by rw [hw]; exact Bool.false_ne_true), hd]
  exact hK _ h
theorem qd_end (hk : ops.size = k) (h : Q a) : wpQuiet P ops C Q (ops.toList.drop k) a := by
  rw [List.drop_eq_nil_of_le (by simp [hk])]
  exact wpQuiet_nil h
variable {R : Exit → Act → World → Prop} {w w' : World}
theorem pd_want (hk : ops[k]? = some o) (hd : o.dst = some s) (hw : Region.wanted o (yielded ops a.tmps) = true) (hq : (execOp a.eval o).run P w = .ok (.value v) w') (h : wpList P ops R (ops.toList.drop (k + 1)) (a.put (some s) v) w') : wpList P ops R (ops.toList.drop k) a w := by
  rw [drop_at hk]
  unfold wpList
  rw [if_pos hw]
  refine Or.inl ?_
  unfold Oper.wp
  rw [hq]
  simp only [Oper.upon]
  rw [hd]
  exact h
theorem pd_store (hk : ops[k]? = some o) (hd : o.dst = none) (hw : Region.wanted o (yielded ops a.tmps) = true) (hq : (execOp a.eval o).run P w = .ok .skip w') (h : wpList P ops R (ops.toList.drop (k + 1)) a w') : wpList P ops R (ops.toList.drop k) a w := by
  rw [drop_at hk]
  unfold wpList
  rw [if_pos hw]
  refine Or.inl ?_
  unfold Oper.wp
  rw [hq]
  simp only [Oper.upon]
  rw [hd]
  exact h
theorem pd_end (hk : ops.size = k) (h : R .normal a w) : wpList P ops R (ops.toList.drop k) a w := by
  rw [List.drop_eq_nil_of_le (by simp [hk])]
  exact h
theorem run_move {x : Operand} (ho : o.op = .move x) (hx : a.eval x = v) (w : World) : (execOp a.eval o).run P w = .ok (.value v) w := by
  unfold execOp
  simp only [ho, hx, Sem.run_pure]
theorem run_assign {x : Operand} (ho : o.op = .assign x) (hx : a.eval x = v) (w : World) : (execOp a.eval o).run P w = .ok (.value v) w := by
  unfold execOp
  simp only [ho, hx, Sem.run_pure]
theorem run_pick {x y z : Operand} {b : Bool} (ho : o.op = .pick x y z) (hx : a.eval x = .bool b) (hy : b = true → a.eval y = v) (hz : b = false → a.eval z = v) (w : World) : (execOp a.eval o).run P w = .ok (.value v) w := by
  unfold execOp
  simp only [ho, hx]
  cases b
  · obtain rfl := hz rfl
    go_simp
  · obtain rfl := hy rfl
    go_simp
theorem run_nil {x : Operand} {p : Addr} (ho : o.op = .nilCheck x) (hx : a.eval x = .pointer (some p)) (w : World) : (execOp a.eval o).run P w = .ok (.value (.pointer (some p))) w := by
  unfold execOp
  simp only [ho, hx]
  go_simp
end
section
variable {a : Act} {o : Oper} {x y : Operand}
theorem run_f70_3 {b : Nat} (ho : o.op = .fieldAddr 70 x 3) (hx : a.eval x = .pointer (some ⟨b, 0, none⟩)) (w : World) : (execOp a.eval o).run Tryd.prog w = .ok (.value (.pointer (some ⟨b, 3, none⟩))) w := by
  unfold execOp
  simp only [ho, hx]
  go_simp
theorem run_f74_0 {b k : Nat} (ho : o.op = .fieldAddr 74 x 0) (hx : a.eval x = .pointer (some ⟨b, k, none⟩)) (w : World) : (execOp a.eval o).run Tryd.prog w = .ok (.value (.pointer (some ⟨b, k, none⟩))) w := by
  unfold execOp
  simp only [ho, hx]
  go_simp
theorem run_f74_3 {b k : Nat} (ho : o.op = .fieldAddr 74 x 3) (hx : a.eval x = .pointer (some ⟨b, k, none⟩)) (w : World) : (execOp a.eval o).run Tryd.prog w = .ok (.value (.pointer (some ⟨b, k + 3, none⟩))) w := by
  unfold execOp
  simp only [ho, hx]
  go_simp
theorem run_l3 {p : Addr} {i : Int} {w : World} (ho : o.op = .load 3 x) (hx : a.eval x = .pointer (some p)) (hc : w.cell? p = some (.int .i64 i)) : (execOp a.eval o).run Tryd.prog w = .ok (.value (.int .i64 i)) w := by
  unfold execOp
  simp only [ho, hx]
  go_simp
theorem run_i67 {b n c i : Nat} (ho : o.op = .indexAddr 67 x y) (hx : a.eval x = .slice (some ⟨b, 0, none⟩) n c) (hy : a.eval y = .int .i64 i) (hi : i < n) (w : World) : (execOp a.eval o).run Tryd.prog w = .ok (.value (.pointer (some ⟨b, i, none⟩))) w := by
  have hi' : (i : Int) < (n : Int) := by omega
  unfold execOp
  simp only [ho, hx, hy]
  go_simp
theorem run_i62 {b k n c i : Nat} (ho : o.op = .indexAddr 62 x y) (hx : a.eval x = .slice (some ⟨b, k, none⟩) n c) (hy : a.eval y = .int .i64 i) (hi : i < n) (w : World) : (execOp a.eval o).run Tryd.prog w = .ok (.value (.pointer (some ⟨b, k + i * 4, none⟩))) w := by
  have hi' : (i : Int) < (n : Int) := by omega
  have hmul : (i : Int) * 4 = ((i * 4 : Nat) : Int) := by omega
  unfold execOp
  simp only [ho, hx, hy]
  go_simp
theorem run_lss {p q : Int} {r : Bool} {t2 : TypeId} (ho : o.op = .binOp .lss 3 x y t2) (hx : a.eval x = .int .i64 p) (hy : a.eval y = .int .i64 q) (hr : decide (p < q) = r) (w : World) : (execOp a.eval o).run Tryd.prog w = .ok (.value (.bool r)) w := by
  subst hr
  unfold execOp
  simp only [ho, hx, hy]
  go_simp
end
end Go.Proofs.YthbffonedpeeiaaDoor
