/-
  A RANGE OVER A METHOD VALUE, WHOSE METHOD HANDS OUT THE FIRST N PLACES AND TURNS NOTHING BY ITSELF.
-/
import Derived.Test.YtckglpmjaplcnaaDoorNa
import Derived.RangeFuncNested
import Derived.RangeFuncBound
import Derived.RangeFuncCalls
import Derived.RangeFuncLeaves
import Derived.Shelf.Abstract
import Derived.Shelf.RegionOpen
import Derived.OwnWalkIn
import Derived.TacticsInMore
import Derived.LoopNIn
import Derived.LoopIn
import Derived.Sort.QuietThIn
import Derived.Sort.QuietIn
namespace Go.Proofs.YtckglpmjaplcnaaDoor
open Go Go.RowKit
theorem Turned.drewN {Q : Nat → Prop} {x y : World} (h : Turned Q x y) (n : Nat) : Turned Q x (y.drewN n) := h.trans ⟨rfl, rfl, rfl, Nat.le_refl _, fun _ _ _ => rfl⟩
theorem Turned.trans2 {Q R : Nat → Prop} {x y z : World} (h : Turned Q x y) (k : Turned R y z) (hr : ∀ i, R i → x.heap.size ≤ i) : Turned Q x z :=
  ⟨k.os.trans h.os, k.tape.trans h.tape, k.output.trans h.output, Nat.le_trans h.size k.size, fun i hi hb => (k.block i (Nat.lt_of_lt_of_le hi h.size) (fun q => by have := hr i q; omega)).trans (h.block i hi hb)⟩
/-- the loop's two blocks lie as they lay -/
def kept (D : Nat) (W W' : World) : Prop := W'.heap[D]? = W.heap[D]? ∧ W'.heap[D + 1]? = W.heap[D + 1]?
theorem kept_refl (D : Nat) (W : World) : kept D W W := ⟨rfl, rfl⟩
theorem kept_turned {Q : Nat → Prop} {D : Nat} {W W' : World} (h : Turned Q W W') (hs : D + 1 < W.heap.size) (h1 : ¬ Q D) (h2 : ¬ Q (D + 1)) : kept D W W' := ⟨h.block D (by omega) h1, h.block (D + 1) hs h2⟩
/-- how a round's body may be left -/
def roundEnd (D : Nat) (I : Nat → World → Prop) (Ix : Code → Nat → World → Prop) (i : Nat) (W : World) : Exit → Act → World → Prop
  | .normal, _, W' => kept D W W' ∧ I (i + 1) W'
  | .ret, _, W' => kept D W W' ∧ Ix .ret i W'
  | .exit id, _, W' => kept D W W' ∧ Ix (.exit id) i W'
  | _, _, _ => False
/-- what a method that hands out places promises -/
def Hands (n : Nat) (P : Program) (gf : Nat) (r : Value) (N : Nat) (enc : Nat → Value) (w : World) : Prop :=
  ∀ (l : Nat) (J Jx : Nat → World → Prop) (W : World), Below w.heap.size w W →
    (∀ i W1, J i W1 → i < N → YieldAt Fence.wide (n - 1) P l #[enc i] W1 fun e W' => (e = .returned (.bool true) ∧ J (i + 1) W') ∨ (e = .returned (.bool false) ∧ Jx i W')) →
    J 0 W → CallsIn Fence.wide n P gf #[r, .func (.yield l) #[] #[]] W fun e W' => (∃ v, e = .returned v) ∧ (J N W' ∨ ∃ i, i < N ∧ Jx i W')
theorem put_turned {D : Nat} {W : World} (l : Nat) (o : Obj) (h : l = D ∨ l = D + 1) : Turned (fun k => k = D ∨ k = D + 1) W (W.putObj l o) :=
  ⟨rfl, rfl, rfl, by simp, fun k _ hk => World.putObj_heap_other (by intro e; subst e; exact hk h)⟩
theorem range_bound {P : Program} {n : Nat} {g : Operand} {ps : Array Tmp} {assign body : Code} {Q : Exit → Act → World → Prop} {a : Act} {w : World} {gf : Nat} {r : Value}
    (hg : a.eval g = .func (.func gf) #[r] #[]) (eg : ∀ args w, (callFunc gf args).run P w = .ok (.enter gf args) w) {N : Nat} {enc : Nat → Value} (hit : Hands (n - 1) P gf r N enc w) (hps : ps.size = 1)
    (I : Nat → World → Prop) (Ix : Code → Nat → World → Prop)
    (hI : ∀ i W W', I i W → Turned (fun k => k = w.heap.size ∨ k = w.heap.size + 1) W W' → I i W')
    (hIx : ∀ c i W W', Ix c i W → Turned (fun k => k = w.heap.size ∨ k = w.heap.size + 1) W W' → Ix c i W') (h0 : I 0 w) (a₁ : Nat → Act)
    (hassign : ∀ (l i : Nat) (W : World) (K : Act → World → Prop), K (a₁ i) W → assign.wpIn (Fence.wide.inRound l) (n - 1 - 1) P (Exit.then K (fun _ _ _ => False)) { tmps := (ps.zip #[enc i]).foldl (fun t (p, v) => t.setIfInBounds p v) a.tmps, defers := [] } W)
    (hbody : ∀ (l i : Nat) (W : World), I i W → i < N → w.heap.size + 1 < W.heap.size → body.wpIn (Fence.wide.inRound l) (n - 1 - 1) P (roundEnd w.heap.size I Ix i W) (a₁ i) W)
    (hdone : ∀ (W : World), I N W → W.heap[w.heap.size]? = some (.deferred (some [])) → Q .normal { a with defers := { target := .collected w.heap.size, args := #[] } :: a.defers } W)
    (hstop : ∀ (c : Code) (i : Nat) (W : World), i < N → Ix c i W → W.heap[w.heap.size]? = some (.deferred (some [])) → c.wpIn Fence.wide n P Q { a with defers := { target := .collected w.heap.size, args := #[] } :: a.defers } W) :
    (Code.rangeFunc g ps assign body).wpIn Fence.wide n P Q a w := by
  refine wpIn_rangeFunc ?_
  intro fn hfn
  obtain ⟨R, hR⟩ : ∃ R : LoopState → Option Code → Loop, R = fun st pe => { state := st, pending := pe, fn, tmps := a.tmps, params := ps, assign, body, defers := w.heap.size } := ⟨_, rfl⟩
  obtain ⟨V, hV⟩ : ∃ V, (w.alloc (.deferred (some []))).alloc (.loop (R .ready none)) = V := ⟨_, rfl⟩
  have hl : V.heap[w.heap.size + 1]? = some (.loop (R .ready none)) := by
    have := World.alloc_heap_new (w.alloc (.deferred (some []))) (.loop (R .ready none))
    rw [World.size_alloc] at this
    rw [← hV]
    exact this
  have hd : V.heap[w.heap.size]? = some (.deferred (some [])) := by
    rw [← hV]
    exact (Below.heap_alloc _ _ _ (by simp)).trans (World.alloc_heap_new w _)
  have hb : Below w.heap.size w V := by
    rw [← hV]
    exact ((Below.refl _ w).alloc (Nat.le_refl _) _).alloc (by simp) _
  have hi0 : I 0 V := hI 0 w V h0 (Turned.of_below hb)
  refine ⟨w.heap.size + 1, [{ target := .collected w.heap.size, args := #[] }], V, { target := .fn (.func gf) #[], args := #[r, .func (.yield (w.heap.size + 1)) #[] #[]] }, V, gf, #[r, .func (.yield (w.heap.size + 1)) #[] #[]], V, ?_, ?_, ?_, ?_, ?_, ?_⟩
  · rw [← hV, hR]
    exact run_enterLoop_outer _ _ _ _ _
  · simp only [resolve, hg]
    simp [go_sem]
  · intro f' _
    trivial
  · simp [invoke, go_sem, eg]
  · intro q
    cases q
  · refine (hit (w.heap.size + 1)
      (fun i W => I i W ∧ W.heap[w.heap.size + 1]? = some (.loop (R .ready none)) ∧ W.heap[w.heap.size]? = some (.deferred (some [])))
      (fun i W => ∃ c, Ix c i W ∧ W.heap[w.heap.size + 1]? = some (.loop (R .done (some c))) ∧ W.heap[w.heap.size]? = some (.deferred (some [])))
      V hb ?_ ⟨hi0, hl, hd⟩).mono ?_
    · rintro i W ⟨ki, kl, kd⟩ hi
      have hs : w.heap.size + 1 < W.heap.size := (Array.getElem?_eq_some_iff.1 kl).1
      have hy := run_yield (P := P) (args := #[enc i]) kl (by rw [hR]; simp [hps])
      rw [hR] at hy
      refine ⟨fn, _, assign, body, hy, roundIn_of_wpIn hfn (hassign _ i W _ ⟨_, run_beginRound kl (by rw [hR]), ?_⟩)⟩
      obtain ⟨U, hU⟩ : ∃ U, W.putObj (w.heap.size + 1) (.loop { R .ready none with state := .busy }) = U := ⟨_, rfl⟩
      rw [hU]
      have ul : U.heap[w.heap.size + 1]? = some (.loop { R .ready none with state := .busy }) := by rw [← hU]; exact World.putObj_heap_same hs
      have ud : U.heap[w.heap.size]? = some (.deferred (some [])) := by rw [← hU]; exact (World.putObj_heap_other (by omega)).trans kd
      have ui : I i U := by rw [← hU]; exact hI i W _ ki (put_turned _ _ (Or.inr rfl))
      have us : w.heap.size + 1 < U.heap.size := (Array.getElem?_eq_some_iff.1 ul).1
      refine wpIn_mono (hbody _ i U ui hi us) ?_
      have fin : ∀ (j : Option Code) (Z : World), kept w.heap.size U Z → (Instr.endRound (w.heap.size + 1) j).run P Z = .ok (.bool j.isNone) (Z.putObj (w.heap.size + 1) (.loop (R (if j.isNone then .ready else .done) j))) ∧
          (Z.putObj (w.heap.size + 1) (.loop (R (if j.isNone then .ready else .done) j))).heap[w.heap.size + 1]? = some (.loop (R (if j.isNone then .ready else .done) j)) ∧
          (Z.putObj (w.heap.size + 1) (.loop (R (if j.isNone then .ready else .done) j))).heap[w.heap.size]? = some (.deferred (some [])) := by
        intro j Z hz
        have zl := hz.2.trans ul
        have e := run_endRound (P := P) j zl
        rw [hR] at e ⊢
        exact ⟨e, World.putObj_heap_same (Array.getElem?_eq_some_iff.1 zl).1, (World.putObj_heap_other (by omega)).trans (hz.1.trans ud)⟩
      intro x b Z hx
      cases x with
      | normal =>
        obtain ⟨f1, f2, f3⟩ := fin none Z hx.1
        exact ⟨_, _, f1, Or.inl ⟨rfl, hI _ _ _ hx.2 (put_turned _ _ (Or.inr rfl)), f2, f3⟩⟩
      | ret =>
        obtain ⟨f1, f2, f3⟩ := fin (some .ret) Z hx.1
        exact ⟨_, _, f1, Or.inr ⟨rfl, .ret, hIx _ _ _ _ hx.2 (put_turned _ _ (Or.inr rfl)), f2, f3⟩⟩
      | exit id =>
        obtain ⟨f1, f2, f3⟩ := fin (some (.exit id)) Z hx.1
        exact ⟨_, _, f1, Or.inr ⟨rfl, .exit id, hIx _ _ _ _ hx.2 (put_turned _ _ (Or.inr rfl)), f2, f3⟩⟩
      | goto t => exact hx.elim
      | panic c => exact hx.elim
      | outgrown => exact hx.elim
    · rintro e W ⟨⟨v, rfl⟩, ⟨ki, kl, kd⟩ | ⟨i, hi, c, ki, kl, kd⟩⟩
      · have e := run_endLoop (P := P) kl (by rw [hR]; simp)
        rw [hR] at e
        exact ⟨none, _, e, hdone _ (hI _ _ _ ki (put_turned _ _ (Or.inr rfl))) ((World.putObj_heap_other (by omega)).trans kd)⟩
      · have e := run_endLoop (P := P) kl (by rw [hR]; simp)
        rw [hR] at e
        exact ⟨some c, _, e, hstop c i _ hi (hIx _ _ _ _ ki (put_turned _ _ (Or.inr rfl))) ((World.putObj_heap_other (by omega)).trans kd)⟩
/-- what an operation does in a round is what it does outside, if it defers nothing -/
theorem op_round {F : Fence} {n : Nat} {P : Program} {o : Oper} {a : Act} {w : World} {K : Act → World → Prop} {Q : Exit → Act → World → Prop} (l : Nat) (h : ∀ c, o.op ≠ .defer c) (k : o.wpIn F n P a w K Q) : o.wpIn (F.inRound l) n P a w K Q := by
  obtain ⟨k1, k2⟩ := k
  refine ⟨k1, ?_⟩
  rw [Oper.semAt_eq _ _ _ h] at k2 ⊢
  exact k2
theorem wpOp_round {F : Fence} {n : Nat} {P : Program} {ops : Array Oper} {i : Nat} {a : Act} {w : World} {K : Act → World → Prop} {Q : Exit → Act → World → Prop} (l : Nat) (h : ∀ (i : Nat) (o : Oper), ops[i]? = some o → ∀ c, o.op ≠ .defer c) (k : wpOpIn F n P ops Q i K a w) : wpOpIn (F.inRound l) n P ops Q i K a w := by
  unfold wpOpIn at *
  cases ho : ops[i]? with
  | none => rw [ho] at k; exact k
  | some o =>
    rw [ho] at k
    simp only at k ⊢
    by_cases q : Region.wanted o (yielded ops a.tmps) = true
    · rw [if_pos q] at k ⊢
      exact op_round l (h i o ho) k
    · rw [if_neg q] at k ⊢
      exact k
theorem any_round {F : Fence} {n : Nat} {P : Program} {md : Region.Mode} {ops : Array Oper} {Q : Exit → Act → World → Prop} (l : Nat) (h : ∀ (i : Nat) (o : Oper), ops[i]? = some o → ∀ c, o.op ≠ .defer c) : ∀ (fuel : Nat) (listed : Array Bool) (a : Act) (w : World), wpAnyIn F n P md ops Q fuel listed a w → wpAnyIn (F.inRound l) n P md ops Q fuel listed a w
  | 0, _, _, _, k => k
  | fuel + 1, _, _, _, k => ⟨k.1, fun i hi => wpOp_round l h (wpOpIn_mono (fun a w => any_round l h fuel _ a w) (k.2 i hi))⟩
def isDefer : Op → Bool
  | .defer _ => true
  | _ => false
theorem noDefer {ops : Array Oper} (h : ops.toList.all (fun o => !isDefer o.op) = true) : ∀ (i : Nat) (o : Oper), ops[i]? = some o → ∀ c, o.op ≠ .defer c := by
  intro i o ho c e
  have hm : o ∈ ops.toList := by
    rw [← Array.getElem?_toList] at ho
    exact List.mem_of_getElem? ho
  have := List.all_eq_true.1 h o hm
  rw [e] at this
  simp [isDefer] at this
theorem region_round {n : Nat} {P : Program} {ops : Array Oper} {Q : Exit → Act → World → Prop} {id : Nat} {a : Act} {w : World} {l : Nat} (hm : P.follows .mixedOrders = true) (hd : ops.toList.all (fun o => !isDefer o.op) = true) (h : wpAnyIn Fence.wide n P .any ops Q ops.size (Array.replicate ops.size false) a w.drew) : (Code.region id ops true).wpIn (Fence.wide.inRound l) n P Q a w :=
  wpIn_region_any hm (any_round l (noDefer hd) _ _ _ _ h)
theorem quiet_round {n : Nat} {P : Program} {id : Nat} {Q : Exit → Act → World → Prop} {a : Act} {w : World} {k : List Oper} {l : Nat} (hm : P.follows .mixedOrders = true) (hB : Region.lexB .any k.toArray = true) (hd : k.toArray.toList.all (fun o => !isDefer o.op) = true)
    (h : wpQuietIn Fence.wide n P k.toArray (fun w' => ∃ n, w' = w.drewN n) (fun a' => ∀ w', (∃ n, w' = w.drewN n) → Q .normal a' w') k a) : (Code.region id k.toArray true).wpIn (Fence.wide.inRound l) n P Q a w := by
  simp only [Region.lexB, Bool.and_eq_true] at hB
  refine region_round hm hd (wpAnyIn_of_quiet (C := fun w' => ∃ n, w' = w.drewN n) (Q := fun a' => ∀ w', (∃ n, w' = w.drewN n) → Q .normal a' w') rfl (fun _ w' hw' h => h w' hw') _ _ _ _ ⟨1, rfl⟩ ?_)
  have := wpAnyQIn_lex (F := Fence.wide) (n := n) (C := fun w' => ∃ n, w' = w.drewN n) (md := .any) hB.1 k 0 (Array.replicate k.toArray.size false) a (by simp) (by simpa using hB.2) h
  simpa using this
/-- an append whose run is known -/
theorem append_op {F : Fence} {n : Nat} {P : Program} {o : Oper} {a : Act} {w w' : World} {K : Act → World → Prop} {Q : Exit → Act → World → Prop} {s x : Operand} {t : TypeId} {v u v' : Value} (ho : o.op = Op.call { callee := Callee.builtin Builtin.append, args := #[s, x], argTypes := #[t, t] }) (hs : a.eval s = v) (hx : a.eval x = u) (hr : (Builtin.append_ #[t, t] o.type #[v, u]).run P w = .ok v' w') (hK : K (a.put o.dst v') w') : o.wpIn F n P a w K Q := by
  have hd : ∀ c, o.op ≠ .defer c := by intro c e; rw [ho] at e; cases e
  refine ⟨?_, ?_⟩
  · simp [Oper.about, ho, resolve, Target.leads, Sem.run_pure]
  · rw [Oper.semAt_eq _ _ _ hd]
    simp [execOp, ho, resolve, invoke, builtin, hs, hx, hr, Result.andThen]
    exact hK
end Go.Proofs.YtckglpmjaplcnaaDoor
