import Derived.Test.YtemamhkhjijdlaaGreatDoorY00
import Derived.RangeFuncNested
import Derived.RangeFuncBound
import Derived.RangeFuncCalls
import Derived.RangeFuncLeaves
import Derived.Shelf.Abstract
import Derived.Shelf.RegionOpen
import Derived.OwnWalkIn
import Derived.TacticsInMore
import Derived.LoopNIn
import Derived.LoopIn
import Derived.Sort.QuietThIn
import Derived.Sort.QuietIn
import Derived.ArgAppend
import Derived.OwnWalk
import Derived.Laws.AppendOwn
import Derived.Laws.AppendOwnNone
import Derived.BigQuiet
import Derived.Deep.RegionHeld3
/-
  A RANGE OVER A METHOD VALUE, WHOSE METHOD HANDS OUT THE FIRST N PLACES AND TURNS NOTHING BY ITSELF.
-/
namespace Go.Proofs.YtemamhkhjijdlaaGreatDoor
open Go Go.RowKit
theorem Turned.drewN {Q : Nat → Prop} {x y : World} (h : Turned Q x y) (n : Nat) : Turned Q x (y.drewN n) := h.trans ⟨rfl, rfl, rfl, Nat.le_refl _, fun _ _ _ => rfl⟩
theorem Turned.trans2 {Q R : Nat → Prop} {x y z : World} (h : Turned Q x y) (k : Turned R y z) (hr : ∀ i, R i → x.heap.size ≤ i) : Turned Q x z :=
  ⟨k.os.trans h.os, k.tape.trans h.tape, k.output.trans h.output, Nat.le_trans h.size k.size, fun i hi hb => (k.block i (Nat.lt_of_lt_of_le hi h.size) (fun q => by have := hr i q; omega)).trans (h.block i hi hb)⟩
/-- the loop's two blocks lie as they lay -/
def kept (D : Nat) (W W' : World) : Prop := W'.heap[D]? = W.heap[D]? ∧ W'.heap[D + 1]? = W.heap[D + 1]?
theorem kept_refl (D : Nat) (W : World) : kept D W W := ⟨rfl, rfl⟩
theorem kept_turned {Q : Nat → Prop} {D : Nat} {W W' : World} (h : Turned Q W W') (hs : D + 1 < W.heap.size) (h1 : ¬ Q D) (h2 : ¬ Q (D + 1)) : kept D W W' := ⟨h.block D (by omega) h1, h.block (D + 1) hs h2⟩
/-- how a round's body may be left -/
def roundEnd (D : Nat) (I : Nat → World → Prop) (Ix : Code → Nat → World → Prop) (i : Nat) (W : World) : Exit → Act → World → Prop
  | .normal, _, W' => kept D W W' ∧ I (i + 1) W'
  | .ret, _, W' => kept D W W' ∧ Ix .ret i W'
  | .exit id, _, W' => kept D W W' ∧ Ix (.exit id) i W'
  | _, _, _ => False
/-- what a method that hands out places promises -/
def Hands (n : Nat) (P : Program) (gf : Nat) (r : Value) (N : Nat) (enc : Nat → Value) (w : World) : Prop :=
  ∀ (l : Nat) (J Jx : Nat → World → Prop) (W : World), Below w.heap.size w W →
    (∀ i W1, J i W1 → i < N → YieldAt Fence.wide (n - 1) P l #[enc i] W1 fun e W' => (e = .returned (.bool true) ∧ J (i + 1) W') ∨ (e = .returned (.bool false) ∧ Jx i W')) →
    J 0 W → CallsIn Fence.wide n P gf #[r, .func (.yield l) #[] #[]] W fun e W' => (∃ v, e = .returned v) ∧ (J N W' ∨ ∃ i, i < N ∧ Jx i W')
theorem put_turned {D : Nat} {W : World} (l : Nat) (o : Obj) (h : l = D ∨ l = D + 1) : Turned (fun k => k = D ∨ k = D + 1) W (W.putObj l o) :=
  ⟨rfl, rfl, rfl, by simp, fun k _ hk => World.putObj_heap_other (by intro e; subst e; exact hk h)⟩
theorem range_bound {P : Program} {n : Nat} {g : Operand} {ps : Array Tmp} {assign body : Code} {Q : Exit → Act → World → Prop} {a : Act} {w : World} {gf : Nat} {r : Value}
    (hg : a.eval g = .func (.func gf) #[r] #[]) (eg : ∀ args w, (callFunc gf args).run P w = .ok (.enter gf args) w) {N : Nat} {enc : Nat → Value} (hit : Hands (n - 1) P gf r N enc w) (hps : ps.size = 1)
    (I : Nat → World → Prop) (Ix : Code → Nat → World → Prop)
    (hI : ∀ i W W', I i W → Turned (fun k => k = w.heap.size ∨ k = w.heap.size + 1) W W' → I i W')
    (hIx : ∀ c i W W', Ix c i W → Turned (fun k => k = w.heap.size ∨ k = w.heap.size + 1) W W' → Ix c i W') (h0 : I 0 w) (a₁ : Nat → Act)
    (hassign : ∀ (l i : Nat) (W : World) (K : Act → World → Prop), K (a₁ i) W → assign.wpIn (Fence.wide.inRound l) (n - 1 - 1) P (Exit.then K (fun _ _ _ => False)) { tmps := (ps.zip #[enc i]).foldl (fun t (p, v) => t.setIfInBounds p v) a.tmps, defers := [] } W)
    (hbody : ∀ (l i : Nat) (W : World), I i W → i < N → w.heap.size + 1 < W.heap.size → body.wpIn (Fence.wide.inRound l) (n - 1 - 1) P (roundEnd w.heap.size I Ix i W) (a₁ i) W)
    (hdone : ∀ (W : World), I N W → W.heap[w.heap.size]? = some (.deferred (some [])) → Q .normal { a with defers := { target := .collected w.heap.size, args := #[] } :: a.defers } W)
    (hstop : ∀ (c : Code) (i : Nat) (W : World), i < N → Ix c i W → W.heap[w.heap.size]? = some (.deferred (some [])) → c.wpIn Fence.wide n P Q { a with defers := { target := .collected w.heap.size, args := #[] } :: a.defers } W) :
    (Code.rangeFunc g ps assign body).wpIn Fence.wide n P Q a w := by
  refine wpIn_rangeFunc ?_
  intro fn hfn
  obtain ⟨R, hR⟩ : ∃ R : LoopState → Option Code → Loop, R = fun st pe => { state := st, pending := pe, fn, tmps := a.tmps, params := ps, assign, body, defers := w.heap.size } := ⟨_, rfl⟩
  obtain ⟨V, hV⟩ : ∃ V, (w.alloc (.deferred (some []))).alloc (.loop (R .ready none)) = V := ⟨_, rfl⟩
  have hl : V.heap[w.heap.size + 1]? = some (.loop (R .ready none)) := by
    have := World.alloc_heap_new (w.alloc (.deferred (some []))) (.loop (R .ready none))
    rw [World.size_alloc] at this
    rw [← hV]
    exact this
  have hd : V.heap[w.heap.size]? = some (.deferred (some [])) := by
    rw [← hV]
    exact (Below.heap_alloc _ _ _ (by simp)).trans (World.alloc_heap_new w _)
  have hb : Below w.heap.size w V := by
    rw [← hV]
    exact ((Below.refl _ w).alloc (Nat.le_refl _) _).alloc (by simp) _
  have hi0 : I 0 V := hI 0 w V h0 (Turned.of_below hb)
  refine ⟨w.heap.size + 1, [{ target := .collected w.heap.size, args := #[] }], V, { target := .fn (.func gf) #[], args := #[r, .func (.yield (w.heap.size + 1)) #[] #[]] }, V, gf, #[r, .func (.yield (w.heap.size + 1)) #[] #[]], V, ?_, ?_, ?_, ?_, ?_, ?_⟩
  · rw [← hV, hR]
    exact run_enterLoop_outer _ _ _ _ _
  · simp only [resolve, hg]
    simp [go_sem]
  · intro f' _
    trivial
  · simp [invoke, go_sem, eg]
  · intro q
    cases q
  · refine (hit (w.heap.size + 1)
      (fun i W => I i W ∧ W.heap[w.heap.size + 1]? = some (.loop (R .ready none)) ∧ W.heap[w.heap.size]? = some (.deferred (some [])))
      (fun i W => ∃ c, Ix c i W ∧ W.heap[w.heap.size + 1]? = some (.loop (R .done (some c))) ∧ W.heap[w.heap.size]? = some (.deferred (some [])))
      V hb ?_ ⟨hi0, hl, hd⟩).mono ?_
    · rintro i W ⟨ki, kl, kd⟩ hi
      have hs : w.heap.size + 1 < W.heap.size := (Array.getElem?_eq_some_iff.1 kl).1
      have hy := run_yield (P := P) (args := #[enc i]) kl (by rw [hR]; simp [hps])
      rw [hR] at hy
      refine ⟨fn, _, assign, body, hy, roundIn_of_wpIn hfn (hassign _ i W _ ⟨_, run_beginRound kl (by rw [hR]), ?_⟩)⟩
      obtain ⟨U, hU⟩ : ∃ U, W.putObj (w.heap.size + 1) (.loop { R .ready none with state := .busy }) = U := ⟨_, rfl⟩
      rw [hU]
      have ul : U.heap[w.heap.size + 1]? = some (.loop { R .ready none with state := .busy }) := by rw [← hU]; exact World.putObj_heap_same hs
      have ud : U.heap[w.heap.size]? = some (.deferred (some [])) := by rw [← hU]; exact (World.putObj_heap_other (by omega)).trans kd
      have ui : I i U := by rw [← hU]; exact hI i W _ ki (put_turned _ _ (Or.inr rfl))
      have us : w.heap.size + 1 < U.heap.size := (Array.getElem?_eq_some_iff.1 ul).1
      refine wpIn_mono (hbody _ i U ui hi us) ?_
      have fin : ∀ (j : Option Code) (Z : World), kept w.heap.size U Z → (Instr.endRound (w.heap.size + 1) j).run P Z = .ok (.bool j.isNone) (Z.putObj (w.heap.size + 1) (.loop (R (if j.isNone then .ready else .done) j))) ∧
          (Z.putObj (w.heap.size + 1) (.loop (R (if j.isNone then .ready else .done) j))).heap[w.heap.size + 1]? = some (.loop (R (if j.isNone then .ready else .done) j)) ∧
          (Z.putObj (w.heap.size + 1) (.loop (R (if j.isNone then .ready else .done) j))).heap[w.heap.size]? = some (.deferred (some [])) := by
        intro j Z hz
        have zl := hz.2.trans ul
        have e := run_endRound (P := P) j zl
        rw [hR] at e ⊢
        exact ⟨e, World.putObj_heap_same (Array.getElem?_eq_some_iff.1 zl).1, (World.putObj_heap_other (by omega)).trans (hz.1.trans ud)⟩
      intro x b Z hx
      cases x with
      | normal =>
        obtain ⟨f1, f2, f3⟩ := fin none Z hx.1
        exact ⟨_, _, f1, Or.inl ⟨rfl, hI _ _ _ hx.2 (put_turned _ _ (Or.inr rfl)), f2, f3⟩⟩
      | ret =>
        obtain ⟨f1, f2, f3⟩ := fin (some .ret) Z hx.1
        exact ⟨_, _, f1, Or.inr ⟨rfl, .ret, hIx _ _ _ _ hx.2 (put_turned _ _ (Or.inr rfl)), f2, f3⟩⟩
      | exit id =>
        obtain ⟨f1, f2, f3⟩ := fin (some (.exit id)) Z hx.1
        exact ⟨_, _, f1, Or.inr ⟨rfl, .exit id, hIx _ _ _ _ hx.2 (put_turned _ _ (Or.inr rfl)), f2, f3⟩⟩
      | goto t => exact hx.elim
      | panic c => exact hx.elim
      | outgrown => exact hx.elim
    · rintro e W ⟨⟨v, rfl⟩, ⟨ki, kl, kd⟩ | ⟨i, hi, c, ki, kl, kd⟩⟩
      · have e := run_endLoop (P := P) kl (by rw [hR]; simp)
        rw [hR] at e
        exact ⟨none, _, e, hdone _ (hI _ _ _ ki (put_turned _ _ (Or.inr rfl))) ((World.putObj_heap_other (by omega)).trans kd)⟩
      · have e := run_endLoop (P := P) kl (by rw [hR]; simp)
        rw [hR] at e
        exact ⟨some c, _, e, hstop c i _ hi (hIx _ _ _ _ ki (put_turned _ _ (Or.inr rfl))) ((World.putObj_heap_other (by omega)).trans kd)⟩
/-- what an operation does in a round is what it does outside, if it defers nothing -/
theorem op_round {F : Fence} {n : Nat} {P : Program} {o : Oper} {a : Act} {w : World} {K : Act → World → Prop} {Q : Exit → Act → World → Prop} (l : Nat) (h : ∀ c, o.op ≠ .defer c) (k : o.wpIn F n P a w K Q) : o.wpIn (F.inRound l) n P a w K Q := by
  obtain ⟨k1, k2⟩ := k
  refine ⟨k1, ?_⟩
  rw [Oper.semAt_eq _ _ _ h] at k2 ⊢
  exact k2
theorem wpOp_round {F : Fence} {n : Nat} {P : Program} {ops : Array Oper} {i : Nat} {a : Act} {w : World} {K : Act → World → Prop} {Q : Exit → Act → World → Prop} (l : Nat) (h : ∀ (i : Nat) (o : Oper), ops[i]? = some o → ∀ c, o.op ≠ .defer c) (k : wpOpIn F n P ops Q i K a w) : wpOpIn (F.inRound l) n P ops Q i K a w := by
  unfold wpOpIn at *
  cases ho : ops[i]? with
  | none => rw [ho] at k; exact k
  | some o =>
    rw [ho] at k
    simp only at k ⊢
    by_cases q : Region.wanted o (yielded ops a.tmps) = true
    · rw [if_pos q] at k ⊢
      exact op_round l (h i o ho) k
    · rw [if_neg q] at k ⊢
      exact k
theorem any_round {F : Fence} {n : Nat} {P : Program} {md : Region.Mode} {ops : Array Oper} {Q : Exit → Act → World → Prop} (l : Nat) (h : ∀ (i : Nat) (o : Oper), ops[i]? = some o → ∀ c, o.op ≠ .defer c) : ∀ (fuel : Nat) (listed : Array Bool) (a : Act) (w : World), wpAnyIn F n P md ops Q fuel listed a w → wpAnyIn (F.inRound l) n P md ops Q fuel listed a w
  | 0, _, _, _, k => k
  | fuel + 1, _, _, _, k => ⟨k.1, fun i hi => wpOp_round l h (wpOpIn_mono (fun a w => any_round l h fuel _ a w) (k.2 i hi))⟩
def isDefer : Op → Bool
  | .defer _ => true
  | _ => false
theorem noDefer {ops : Array Oper} (h : ops.toList.all (fun o => !isDefer o.op) = true) : ∀ (i : Nat) (o : Oper), ops[i]? = some o → ∀ c, o.op ≠ .defer c := by
  intro i o ho c e
  have hm : o ∈ ops.toList := by
    rw [← Array.getElem?_toList] at ho
    exact List.mem_of_getElem? ho
  have := List.all_eq_true.1 h o hm
  rw [e] at this
  simp [isDefer] at this
theorem region_round {n : Nat} {P : Program} {ops : Array Oper} {Q : Exit → Act → World → Prop} {id : Nat} {a : Act} {w : World} {l : Nat} (hm : P.follows .mixedOrders = true) (hd : ops.toList.all (fun o => !isDefer o.op) = true) (h : wpAnyIn Fence.wide n P .any ops Q ops.size (Array.replicate ops.size false) a w.drew) : (Code.region id ops true).wpIn (Fence.wide.inRound l) n P Q a w :=
  wpIn_region_any hm (any_round l (noDefer hd) _ _ _ _ h)
theorem quiet_round {n : Nat} {P : Program} {id : Nat} {Q : Exit → Act → World → Prop} {a : Act} {w : World} {k : List Oper} {l : Nat} (hm : P.follows .mixedOrders = true) (hB : Region.lexB .any k.toArray = true) (hd : k.toArray.toList.all (fun o => !isDefer o.op) = true)
    (h : wpQuietIn Fence.wide n P k.toArray (fun w' => ∃ n, w' = w.drewN n) (fun a' => ∀ w', (∃ n, w' = w.drewN n) → Q .normal a' w') k a) : (Code.region id k.toArray true).wpIn (Fence.wide.inRound l) n P Q a w := by
  simp only [Region.lexB, Bool.and_eq_true] at hB
  refine region_round hm hd (wpAnyIn_of_quiet (C := fun w' => ∃ n, w' = w.drewN n) (Q := fun a' => ∀ w', (∃ n, w' = w.drewN n) → Q .normal a' w') rfl (fun _ w' hw' h => h w' hw') _ _ _ _ ⟨1, rfl⟩ ?_)
  have := wpAnyQIn_lex (F := Fence.wide) (n := n) (C := fun w' => ∃ n, w' = w.drewN n) (md := .any) hB.1 k 0 (Array.replicate k.toArray.size false) a (by simp) (by simpa using hB.2) h
  simpa using this
/-- an append whose run is known -/
theorem append_op {F : Fence} {n : Nat} {P : Program} {o : Oper} {a : Act} {w w' : World} {K : Act → World → Prop} {Q : Exit → Act → World → Prop} {s x : Operand} {t : TypeId} {v u v' : Value} (ho : o.op = Op.call { callee := Callee.builtin Builtin.append, args := #[s, x], argTypes := #[t, t] }) (hs : a.eval s = v) (hx : a.eval x = u) (hr : (Builtin.append_ #[t, t] o.type #[v, u]).run P w = .ok v' w') (hK : K (a.put o.dst v') w') : o.wpIn F n P a w K Q := by
  have hd : ∀ c, o.op ≠ .defer c := by intro c e; rw [ho] at e; cases e
  refine ⟨?_, ?_⟩
  · simp [Oper.about, ho, resolve, Target.leads, Sem.run_pure]
  · rw [Oper.semAt_eq _ _ _ hd]
    simp [execOp, ho, resolve, invoke, builtin, hs, hx, hr, Result.andThen]
    exact hK
end Go.Proofs.YtemamhkhjijdlaaGreatDoor
/-
  THE WINDOW IN MEMORY: a row of instructions, five numbers each; by register whether its value is still to come.
-/
namespace Go.Proofs.YtemamhkhjijdlaaGreatDoor
open Go Go.RowKit
structure Ent where
  num : Int
  cls : Int
  s1 : Int
  s2 : Int
  st : Int
def e0 : Ent := ⟨0, 0, 0, 0, 0⟩
def Ent.vs (e : Ent) : List Value := [.int .i64 e.num, .int .i64 e.cls, .int .i64 e.s1, .int .i64 e.s2, .int .i64 e.st]
def flatE : List Ent → List Value
  | [] => []
  | e :: l => e.vs ++ flatE l
theorem flatE_len : ∀ l : List Ent, (flatE l).length = l.length * 5
  | [] => rfl
  | e :: l => by simp only [flatE, List.length_append, flatE_len l, List.length_cons, Ent.vs, List.length_nil]; omega
theorem flatE_app : ∀ l k : List Ent, flatE (l ++ k) = flatE l ++ flatE k
  | [], k => rfl
  | e :: l, k => by simp only [flatE, List.cons_append, flatE_app l k, List.append_assoc]
theorem flatE_one (e : Ent) : flatE [e] = e.vs := by simp [flatE]
theorem flatE_at : ∀ (l : List Ent) (i j : Nat), i < l.length → j < 5 → (flatE l)[i * 5 + j]? = (l.getD i e0).vs[j]?
  | [], i, j, h, _ => by simp at h
  | e :: l, 0, j, _, hj => by
    simp only [flatE, Nat.zero_mul, Nat.zero_add, List.getD_cons_zero]
    exact List.getElem?_append_left (by simp [Ent.vs]; omega)
  | e :: l, i + 1, j, h, hj => by
    simp only [flatE, List.getD_cons_succ]
    rw [List.getElem?_append_right (by simp [Ent.vs]; omega)]
    have e1 : (i + 1) * 5 + j - e.vs.length = i * 5 + j := by simp [Ent.vs]; omega
    rw [e1]
    exact flatE_at l i j (by simp at h; omega) hj
theorem flatE_take : ∀ (l : List Ent) (k : Nat), (flatE l).take (k * 5) = flatE (l.take k)
  | [], k => by simp [flatE]
  | e :: l, 0 => by simp [flatE]
  | e :: l, k + 1 => by
    simp only [flatE, List.take_succ_cons]
    have e1 : (k + 1) * 5 = e.vs.length + k * 5 := by simp [Ent.vs]; omega
    rw [e1, List.take_length_add_append, flatE_take l k]
theorem own_turned_win {Q : Nat → Prop} {x y : World} {base : Nat} {e : TypeId} {size : Nat} {v : Value} {n : Nat} {xs : List Value} (h : x.ownsRow base e size v n xs) (c : Turned Q x y) (hq : ∀ k, v.ownBlock = some k → ¬ Q k) : y.ownsRow base e size v n xs := by
  obtain ⟨h1, h2⟩ := h
  refine ⟨h1, ?_⟩
  rcases h2 with h2 | ⟨g, cap, cur, a1, a2, a3, a4⟩
  · exact Or.inl h2
  · refine Or.inr ⟨g, cap, cur, a1, a2, ?_, a4⟩
    have hg : g < x.heap.size := by
      rcases Nat.lt_or_ge g x.heap.size with q | q
      · exact q
      · rw [Array.getElem?_eq_none q] at a3
        exact absurd a3 (by simp)
    rw [c.block g hg (hq g (by rw [a1]; rfl))]
    exact a3
theorem own_base_win {x : World} {base : Nat} {e : TypeId} {size : Nat} {v : Value} {n : Nat} {xs : List Value} (h : x.ownsRow base e size v n xs) : ∀ k, v.ownBlock = some k → base ≤ k ∧ k < x.heap.size := by
  obtain ⟨h1, h2⟩ := h
  intro k hk
  rcases h2 with ⟨rfl, _⟩ | ⟨g, cap, cur, rfl, a2, a3, a4⟩
  · exact absurd hk (by simp [Value.ownBlock])
  · simp [Value.ownBlock] at hk
    subst hk
    refine ⟨a2, ?_⟩
    rcases Nat.lt_or_ge g x.heap.size with q | q
    · exact q
    · rw [Array.getElem?_eq_none q] at a3
      exact absurd a3 (by simp)
theorem turned_grown_win {x y : World} {row : Option Nat} (h : x.grownBy y row) : Turned (fun k => row = some k) x y := ⟨h.os, h.tape, h.output, h.size, fun k hk hq => h.block k hk (fun e => hq e.symm)⟩
/-- a row of instructions, seen by its places -/
theorem own_ents {x : World} {B : Nat} {e : TypeId} {v : Value} {l : List Ent} (h : x.ownsRow B e 5 v l.length (flatE l)) : ∃ q cap, v = .slice q l.length cap ∧ (l.length ≤ cap ∧ cap ≤ maxLen) ∧ (∀ i, i < l.length → ∃ g, q = some ⟨g, 0, none⟩ ∧ B ≤ g ∧ g < x.heap.size ∧ x.cell? ⟨g, i * 5, none⟩ = some (.int .i64 (l.getD i e0).num) ∧ x.cell? ⟨g, i * 5 + 1, none⟩ = some (.int .i64 (l.getD i e0).cls) ∧ x.cell? ⟨g, i * 5 + 2, none⟩ = some (.int .i64 (l.getD i e0).s1) ∧ x.cell? ⟨g, i * 5 + 3, none⟩ = some (.int .i64 (l.getD i e0).s2) ∧ x.cell? ⟨g, i * 5 + 4, none⟩ = some (.int .i64 (l.getD i e0).st) ∧ x.frozen? ⟨g, i * 5 + 4, none⟩ = false) := by
  have h0 := h
  obtain ⟨h1, h2⟩ := h
  rcases h2 with ⟨hv, hn⟩ | ⟨g, cap, cur, rfl, b2, b3, b4, b5, b6, b7⟩
  · refine ⟨none, 0, by rw [hv, hn], ⟨by omega, by unfold maxLen; omega⟩, fun i hi => by omega⟩
  · refine ⟨_, cap, rfl, ⟨b4, b5⟩, fun i hi => ⟨g, rfl, b2, (own_base_win h0 g rfl).2, ?_⟩⟩
    have c : ∀ j, j < 5 → ∀ u, (l.getD i e0).vs[j]? = some u → x.cell? ⟨g, i * 5 + j, none⟩ = some u := by
      intro j hj u hu
      have q := World.ownsRow.cells h0 rfl (i * 5 + j) u ((flatE_at l i j hi hj).trans hu)
      rwa [Addr.add_lit, Nat.zero_add] at q
    exact ⟨c 0 (by omega) _ rfl, c 1 (by omega) _ rfl, c 2 (by omega) _ rfl, c 3 (by omega) _ rfl, c 4 (by omega) _ rfl, by simp [World.frozen?, b3]⟩
theorem own_cut_win {x : World} {B : Nat} {e : TypeId} {q : Option Addr} {m cap : Nat} {l : List Ent} (h : x.ownsRow B e 5 (.slice q l.length cap) l.length (flatE l)) (hm : m ≤ l.length) : x.ownsRow B e 5 (.slice q m cap) m (flatE (l.take m)) := by
  obtain ⟨h1, h2⟩ := h
  have hl : (l.take m).length = m := by rw [List.length_take]; omega
  refine ⟨by rw [flatE_len, hl], ?_⟩
  rcases h2 with ⟨h3, h4⟩ | ⟨g, cap', cur, hv, a2, a3, a4, a5, a6, a7⟩
  · simp only [Value.slice.injEq] at h3
    obtain ⟨rfl, h5, rfl⟩ := h3
    exact Or.inl ⟨by rw [show m = 0 by omega], by omega⟩
  · cases hv
    refine Or.inr ⟨g, _, cur, rfl, a2, a3, by omega, a5, a6, ?_⟩
    have e1 : cur.toList.take (m * 5) = (cur.toList.take (l.length * 5)).take (m * 5) := by
      rw [List.take_take, Nat.min_eq_left (by omega)]
    rw [e1, a7, flatE_take]
/-- one cell of a row is written -/
theorem own_set_win {x : World} {B : Nat} {e : TypeId} {g n cap : Nat} {xs : List Value} {size : Nat} (h : x.ownsRow B e size (.slice (some ⟨g, 0, none⟩) n cap) n xs) (i : Nat) (u : Value) : (x.setCell ⟨g, i, none⟩ u).ownsRow B e size (.slice (some ⟨g, 0, none⟩) n cap) n (xs.set i u) := by
  obtain ⟨h1, h2⟩ := h
  refine ⟨by simp [h1], ?_⟩
  rcases h2 with ⟨h3, _⟩ | ⟨g', cap', cur, hv, a2, a3, a4, a5, a6, a7⟩
  · cases h3
  · cases hv
    obtain ⟨hlt, hk⟩ := Array.getElem?_eq_some_iff.1 a3
    refine Or.inr ⟨g, cap, cur.setIfInBounds i u, rfl, a2, ?_, a4, a5, by simpa using a6, ?_⟩
    · show (x.heap.modify g _)[g]? = _
      rw [Array.getElem?_eq_getElem (by rw [Array.size_modify]; exact hlt), Array.getElem_modify_self, hk]
      rfl
    · rw [Array.toList_setIfInBounds, ← a7, List.take_set]
theorem flatE_set : ∀ (l : List Ent) (i : Nat) (s : Int), i < l.length → (flatE l).set (i * 5 + 4) (.int .i64 s) = flatE (l.set i { l.getD i e0 with st := s })
  | [], i, s, h => by simp at h
  | e :: l, 0, s, _ => by
    simp only [flatE, List.set_cons_zero, List.getD_cons_zero]
    rfl
  | e :: l, i + 1, s, h => by
    simp only [flatE, List.set_cons_succ, List.getD_cons_succ]
    rw [← flatE_set l i s (by simp at h; omega)]
    rw [List.set_append]
    have e1 : ¬ (i + 1) * 5 + 4 < e.vs.length := by simp [Ent.vs]; omega
    rw [if_neg e1]
    have e2 : (i + 1) * 5 + 4 - e.vs.length = i * 5 + 4 := by simp [Ent.vs]; omega
    rw [e2]
structure WS where
  size : Nat
  next : Nat
  on : List Ent
  nr : Nat
  ab : Nat → Bool
def wv (s n : Nat) (v : Value) (h c nr : Nat) : Nat → Value
  | 0 => .int .i64 s
  | 1 => .int .i64 n
  | 2 => v
  | _ => .slice (some ⟨h, 0, none⟩) nr c
/-- the window at p: its row is v, its registers' row is in h -/
structure Win (x : World) (B p h c : Nat) (v : Value) (S : WS) : Prop where
  c : CellsAt 4 x p (wv S.size S.next v h c S.nr)
  l : x.ownsRow B 298 5 v S.on.length (flatE S.on)
  a : CellsAt S.nr x h (fun o => .bool (S.ab o))
  ne : p ≠ h
  vp : v.ownBlock ≠ some p
  vh : v.ownBlock ≠ some h
  small : S.on.length ≤ 64 ∧ S.nr ≤ 128 ∧ S.next ≤ 1000000 ∧ S.size ≤ 64
  lo : B ≤ p ∧ B ≤ h
  fit : ∀ i, i < S.on.length → (S.on.getD i e0).s1 < S.nr ∧ (S.on.getD i e0).s2 < S.nr
theorem Win.turned {Q : Nat → Prop} {x y : World} {B p h c : Nat} {v : Value} {S : WS} (k : Win x B p h c v S) (t : Turned Q x y) (hp : ¬ Q p) (hh : ¬ Q h) (hv : ∀ j, v.ownBlock = some j → ¬ Q j) : Win y B p h c v S :=
  ⟨t.cells k.c hp, own_turned_win k.l t hv, t.cells k.a hh, k.ne, k.vp, k.vh, k.small, k.lo, k.fit⟩
theorem Win.below {x y : World} {B p h c : Nat} {v : Value} {S : WS} (k : Win x B p h c v S) (t : Below x.heap.size x y) : Win y B p h c v S :=
  k.turned (Q := fun _ => False) ⟨t.os, t.tape, t.output, t.size, fun i hi _ => t.block i hi⟩ (fun q => q) (fun q => q) (fun _ _ q => q)
theorem Win.row {x : World} {B p h c : Nat} {v : Value} {S : WS} (k : Win x B p h c v S) : ∃ q cap, v = .slice q S.on.length cap := by
  obtain ⟨q, cap, h1, _⟩ := own_ents k.l
  exact ⟨q, cap, h1⟩
end Go.Proofs.YtemamhkhjijdlaaGreatDoor
/-
  WINDOW: what may begin; Wake, Len, Head.
-/
namespace Go.Proofs.YtemamhkhjijdlaaGreatDoor
open Go Go.RowKit
def WS.there (S : WS) (p : Int) : Bool := decide (p < 0) || !S.ab p.toNat
def WS.may (S : WS) (i : Nat) : Bool := decide ((S.on.getD i e0).st = 0) && S.there (S.on.getD i e0).s1 && S.there (S.on.getD i e0).s2
theorem Win.cells {x : World} {B p h c : Nat} {v : Value} {S : WS} (k : Win x B p h c v S) : p < x.heap.size ∧ x.cell? ⟨p, 0, none⟩ = some (.int .i64 S.size) ∧ x.cell? ⟨p, 1, none⟩ = some (.int .i64 S.next) ∧ x.cell? ⟨p, 2, none⟩ = some v ∧ x.cell? ⟨p, 3, none⟩ = some (.slice (some ⟨h, 0, none⟩) S.nr c) ∧ (∀ o, x.frozen? ⟨p, o, none⟩ = false) :=
  ⟨k.c.here, k.c.cell 0 (by omega), k.c.cell 1 (by omega), k.c.cell 2 (by omega), k.c.cell 3 (by omega), k.c.free⟩
theorem Win.flag {x : World} {B p h c : Nat} {v : Value} {S : WS} (k : Win x B p h c v S) (q : Nat) (hq : q < S.nr) : x.cell? ⟨h, q, none⟩ = some (.bool (S.ab q)) := k.a.cell q hq
set_option maxHeartbeats 400000 in
theorem isThere_any (B p h c : Nat) (v : Value) (S : WS) (q : Int) (w : World) (k : Win w B p h c v S) (hq : q < S.nr) : Calls Tryz.prog 205 #[.pointer (some ⟨p, 0, none⟩), .int .i64 q] w fun e w' => e = .returned (.bool (S.there q)) ∧ w' = w := by
  obtain ⟨hp, -, -, -, c3, -⟩ := k.cells
  by_cases hn : q < 0
  · have hu : undef = Value.tuple #[] := rfl
    have ht : S.there q = true := by simp [WS.there, hn]
    rw [ht]
    clear k
    go_enter Tryz.func205, Tryz.ntmps205
    go_wp2
    go_ret
    exact ⟨rfl, rfl⟩
  · obtain ⟨j, rfl⟩ : ∃ j : Nat, q = j := ⟨q.toNat, by omega⟩
    have hj : j < S.nr := by omega
    have c4 := k.flag j hj
    have ht : S.there (j : Int) = !S.ab j := by simp [WS.there, hn]
    rw [ht]
    have hd : decide ((j : Int) < 0) = false := by simp
    clear k
    go_enter Tryz.func205, Tryz.ntmps205
    go_wp2
    go_ret
    exact ⟨rfl, rfl⟩
set_option maxHeartbeats 400000 in
theorem mayBegin_any (B p h c : Nat) (v : Value) (S : WS) (i : Nat) (w : World) (k : Win w B p h c v S) (hi : i < S.on.length) : Calls Tryz.prog 141 #[.pointer (some ⟨p, 0, none⟩), .int .i64 i] w fun e w' => e = .returned (.bool (S.may i)) ∧ Below w.heap.size w w' := by
  obtain ⟨hp, -, -, c2, -, -⟩ := k.cells
  obtain ⟨q, cap, rfl, hcap, hel⟩ := own_ents k.l
  obtain ⟨g, rfl, hB, hg, d0, d1, d2, d3, d4, -⟩ := hel i hi
  have hs := k.small
  have HW := Hid.in k
  obtain ⟨f1, f2⟩ := k.fit i hi
  have hF1 := Hid.in f1
  have hF2 := Hid.in f2
  unfold WS.may
  obtain ⟨n0, a0⟩ : ∃ y, (S.on.getD i e0).num = y := ⟨_, rfl⟩
  obtain ⟨n1, a1⟩ : ∃ y, (S.on.getD i e0).cls = y := ⟨_, rfl⟩
  obtain ⟨n2, a2⟩ : ∃ y, (S.on.getD i e0).s1 = y := ⟨_, rfl⟩
  obtain ⟨n3, a3⟩ : ∃ y, (S.on.getD i e0).s2 = y := ⟨_, rfl⟩
  obtain ⟨n4, a4⟩ : ∃ y, (S.on.getD i e0).st = y := ⟨_, rfl⟩
  rw [a0] at d0
  rw [a1] at d1
  rw [a2] at d2 hF1
  rw [a3] at d3 hF2
  rw [a4] at d4
  rw [a2, a3, a4]
  have hb : Below w.heap.size w (w.alloc (.cells #[.int .i64 n0, .int .i64 n1, .int .i64 n2, .int .i64 n3, .int .i64 n4] 298)) := (Below.refl _ _).alloc (Nat.le_refl _) _
  have HK := Hid.in (HW.out.below hb)
  have HB := Hid.in hb
  clear k f1 f2 a0 a1 a2 a3 a4 hel hb
  by_cases h4 : n4 = 0
  · obtain ⟨b1, hb1⟩ : ∃ b, S.there n2 = b := ⟨_, rfl⟩
    obtain ⟨b2, hb2⟩ : ∃ b, S.there n3 = b := ⟨_, rfl⟩
    have HS1 := Hid.in hb1
    have HS2 := Hid.in hb2
    rw [hb1, hb2]
    subst h4
    clear hb1 hb2
    cases b1
    · have hu : undef = Value.tuple #[] := rfl
      go_enter Tryz.func141, Tryz.ntmps141
      go_wp2_with (go_at_call 205; refine (isThere_any B p h c _ S n2 _ HK.out hF1.out).mono ?_; rintro e w1 ⟨rfl, rfl⟩; rw [HS1.out])
      go_ret
      exact ⟨rfl, HB.out⟩
    · go_enter Tryz.func141, Tryz.ntmps141
      go_wp2_with (first
        | (go_at_call 205; have hx := HX1.out; refine (isThere_any B p h c _ S n3 _ HK.out hF2.out).mono ?_; rintro e w1 ⟨rfl, rfl⟩; rw [HS2.out])
        | (go_at_call 205; refine (isThere_any B p h c _ S n2 _ HK.out hF1.out).mono ?_; rintro e w1 ⟨rfl, rfl⟩; rw [HS1.out]; have HX1 := Hid.in hp))
      go_ret
      exact ⟨rfl, HB.out⟩
  · have hd : decide (n4 = 0) = false := by simp [h4]
    have hu : undef = Value.tuple #[] := rfl
    rw [hd]
    simp only [Bool.false_and]
    go_enter Tryz.func141, Tryz.ntmps141
    go_wp2
    go_ret
    exact ⟨rfl, HB.out⟩
end Go.Proofs.YtemamhkhjijdlaaGreatDoor
/-
  WINDOW: the ways through the places; where an instruction stands.
-/
namespace Go.Proofs.YtemamhkhjijdlaaGreatDoor
open Go Go.RowKit Go.Shelf
attribute [local go_sem] Oper.semAt_some
set_option maxRecDepth 100000 in
set_option maxHeartbeats 1000000 in
theorem oldest_hands (n p N cap : Nat) (q : Option Addr) (w : World) (hn : 1 ≤ n) (hN : N ≤ 64) (hp : p < w.heap.size) (c2 : w.cell? ⟨p, 2, none⟩ = some (.slice q N cap)) : Hands n Tryz.prog 139 (.pointer (some ⟨p, 0, none⟩)) N (fun i => .int .i64 i) w := by
  intro l J Jx W hW hY h0
  have c2' : W.cell? ⟨p, 2, none⟩ = some (.slice q N cap) := (hW.cell (p := ⟨p, 2, none⟩) hp).trans c2
  clear c2 hW hp
  refine callsIn_of_wp Tryz.func139 rfl trivial ?_ rfl
  simp only [Tryz.ntmps139, List.size_toArray, List.length_cons, List.length_nil, Nat.reduceAdd, Nat.reduceSub, Array.replicate_succ, Array.replicate_zero, List.push_toArray, List.append_toArray, List.nil_append, List.cons_append]
  gi_wp2
  gi_loopw [10] (fun i wr => ∃ k : Nat, k ≤ N ∧ i = .int .i64 k ∧ J k wr) (fun i _ => N - (intOf i).toNat)
  case atStart => exact ⟨0, Nat.zero_le _, rfl, h0⟩
  case round =>
    obtain ⟨k, hk, rfl, hJs⟩ := hrel
    by_cases hlt : k < N
    · obtain ⟨fn, tmps, assign, body, hy, hR⟩ := hY k wr hJs hlt
      gi_wp2
      refine hR.mono ?_
      rintro e W3 (⟨rfl, hJ3⟩ | ⟨rfl, hJx3⟩)
      · gi_wp2
        go_roundw
        case rel => exact ⟨k + 1, by omega, by simp, hJ3⟩
        case measure => simp [intOf]; omega
      · gi_wp2
        refine bodyPost_ret (results_none rfl _ _ _) rfl ?_
        exact ⟨⟨_, rfl⟩, Or.inr ⟨k, hlt, hJx3⟩⟩
    · obtain rfl : k = N := by omega
      gi_wp2
      go_end0
      exact ⟨⟨_, rfl⟩, Or.inl hJs⟩
set_option maxRecDepth 100000 in
set_option maxHeartbeats 1000000 in
theorem youngest_hands (n p N cap : Nat) (q : Option Addr) (w : World) (hn : 1 ≤ n) (hN : N ≤ 64) (hp : p < w.heap.size) (c2 : w.cell? ⟨p, 2, none⟩ = some (.slice q N cap)) : Hands n Tryz.prog 239 (.pointer (some ⟨p, 0, none⟩)) N (fun i => .int .i64 ((N : Int) - 1 - i)) w := by
  intro l J Jx W hW hY h0
  have c2' : W.cell? ⟨p, 2, none⟩ = some (.slice q N cap) := (hW.cell (p := ⟨p, 2, none⟩) hp).trans c2
  clear c2 hW hp
  refine callsIn_of_wp Tryz.func239 rfl trivial ?_ rfl
  simp only [Tryz.ntmps239, List.size_toArray, List.length_cons, List.length_nil, Nat.reduceAdd, Nat.reduceSub, Array.replicate_succ, Array.replicate_zero, List.push_toArray, List.append_toArray, List.nil_append, List.cons_append]
  gi_wp2
  gi_loopw [4] (fun i wr => ∃ k : Nat, k ≤ N ∧ i = .int .i64 ((N : Int) - 1 - k) ∧ J k wr) (fun i _ => (intOf i + 1).toNat)
  case atStart => exact ⟨0, Nat.zero_le _, by simp, h0⟩
  case round =>
    obtain ⟨k, hk, rfl, hJs⟩ := hrel
    by_cases hlt : k < N
    · obtain ⟨fn, tmps, assign, body, hy, hR⟩ := hY k wr hJs hlt
      obtain ⟨z, hz⟩ : ∃ z : Int, (N : Int) - 1 - k = z := ⟨_, rfl⟩
      have hz0 : 0 ≤ z := by omega
      have hz1 : z ≤ 64 := by omega
      rw [hz] at hy ⊢
      gi_wp2
      refine hR.mono ?_
      rintro e W3 (⟨rfl, hJ3⟩ | ⟨rfl, hJx3⟩)
      · gi_wp2
        go_roundw
        case rel => exact ⟨k + 1, by omega, by simp; omega, hJ3⟩
        case measure => simp [intOf]; omega
      · gi_wp2
        refine bodyPost_ret (results_none rfl _ _ _) rfl ?_
        exact ⟨⟨_, rfl⟩, Or.inr ⟨k, hlt, hJx3⟩⟩
    · obtain rfl : k = N := by omega
      have hz : (k : Int) - 1 - k = -1 := by omega
      rw [hz]
      gi_wp2
      go_end0
      exact ⟨⟨_, rfl⟩, Or.inl hJs⟩
end Go.Proofs.YtemamhkhjijdlaaGreatDoor
/-
  WINDOW: where an instruction stands.
-/
namespace Go.Proofs.YtemamhkhjijdlaaGreatDoor
open Go Go.RowKit Go.Shelf
attribute [local go_sem] Oper.semAt_some
def WS.num (S : WS) (j : Nat) : Int := (S.on.getD j e0).num
set_option maxRecDepth 100000 in
set_option maxHeartbeats 1000000 in
theorem place_in (B p h c : Nat) (v : Value) (S : WS) (num : Int) (w : World) (k : Win w B p h c v S) : CallsIn Fence.wide 9 Tryz.prog 220 #[.pointer (some ⟨p, 0, none⟩), .int .i64 num] w fun e w' => ((∃ i, i < S.on.length ∧ S.num i = num ∧ (∀ j, j < i → S.num j ≠ num) ∧ e = .returned (.tuple #[.int .i64 i, .bool true])) ∨ ((∀ j, j < S.on.length → S.num j ≠ num) ∧ e = .returned (.tuple #[.int .i64 0, .bool false]))) ∧ Below w.heap.size w w' := by
  obtain ⟨hp, -, -, c2, -, -⟩ := k.cells
  obtain ⟨q, cap, rfl, hcap, hel⟩ := own_ents k.l
  obtain ⟨hs, -, -, -⟩ := k.small
  obtain ⟨N, hN⟩ : ∃ N, S.on.length = N := ⟨_, rfl⟩
  rw [hN] at c2 hs hcap hel ⊢
  have hel2 : ∀ i, i < N → ∃ g, q = some ⟨g, 0, none⟩ ∧ g < w.heap.size ∧ w.cell? ⟨g, i * 5, none⟩ = some (.int .i64 (S.num i)) := by
    intro i hi
    obtain ⟨g, h1, -, h2, h3, -⟩ := hel i hi
    exact ⟨g, h1, h2, h3⟩
  have HE := Hid.in hel2
  clear k hel hel2 hN
  refine callsIn_of_wp_marks Tryz.func220 rfl trivial ?_ rfl
  simp only [Tryz.ntmps220, List.size_toArray, List.length_cons, List.length_nil, Nat.reduceAdd, Nat.reduceSub, Array.replicate_succ, Array.replicate_zero, List.push_toArray, List.append_toArray, List.nil_append, List.cons_append]
  gi_wp2
  obtain ⟨V, hV⟩ : ∃ V, (((w.alloc (Obj.cells #[Value.pointer (some ⟨p, 0, none⟩)] 133)).alloc (Obj.cells #[Value.int .i64 num] 3)).alloc (Obj.cells #[Value.int .i64 0] 3)).alloc (Obj.cells #[Value.bool false] 4) = V := ⟨_, rfl⟩
  have hVs : V.heap.size = w.heap.size + 4 := by rw [← hV]; simp
  have hVb : Below w.heap.size w V := by
    rw [← hV]
    exact ((((Below.refl _ w).alloc (Nat.le_refl _) _).alloc (by simp) _).alloc (by simp; omega) _).alloc (by simp; omega) _
  have B0 : Boxed V w.heap.size 133 (.pointer (some ⟨p, 0, none⟩)) := by
    rw [← hV]
    exact (((Boxed.new w _ _).alloc _).alloc _).alloc _
  have B1 : Boxed V (w.heap.size + 1) 3 (.int .i64 num) := by
    have := (((Boxed.new (w.alloc (Obj.cells #[Value.pointer (some ⟨p, 0, none⟩)] 133)) 3 (.int .i64 num)).alloc (Obj.cells #[Value.int .i64 0] 3)).alloc (Obj.cells #[Value.bool false] 4))
    rw [World.size_alloc, hV] at this
    exact this
  have B2 : Boxed V (w.heap.size + 1 + 1) 3 (.int .i64 0) := by
    have := ((Boxed.new ((w.alloc (Obj.cells #[Value.pointer (some ⟨p, 0, none⟩)] 133)).alloc (Obj.cells #[Value.int .i64 num] 3)) 3 (.int .i64 0)).alloc (Obj.cells #[Value.bool false] 4))
    rw [World.size_alloc, World.size_alloc, hV] at this
    exact this
  have B3 : Boxed V (w.heap.size + 1 + 1 + 1) 4 (.bool false) := by
    have := Boxed.new (((w.alloc (Obj.cells #[Value.pointer (some ⟨p, 0, none⟩)] 133)).alloc (Obj.cells #[Value.int .i64 num] 3)).alloc (Obj.cells #[Value.int .i64 0] 3)) 4 (.bool false)
    rw [World.size_alloc, World.size_alloc, World.size_alloc, hV] at this
    exact this
  have b0 := B0.cell
  have b1 := B1.cell
  have b2 := B2.cell
  have b3 := B3.cell
  have f2 := B2.frozen
  have f3 := B3.frozen
  clear B0 B1 B2 B3
  have c2' : V.cell? ⟨p, 2, none⟩ = some (.slice q N cap) := (hVb.cell (p := ⟨p, 2, none⟩) hp).trans c2
  rw [hV]
  clear hV
  refine range_bound rfl (enters_of Tryz.func139 (by kernel_rfl) rfl) (oldest_hands (9 - 1) p N cap q V (by omega) hs (by omega) c2') rfl
    (fun i W => Below V.heap.size V W ∧ ∀ j, j < i → S.num j ≠ num)
    (fun c i W => c = .ret ∧ Below w.heap.size w W ∧ S.num i = num ∧ (∀ j, j < i → S.num j ≠ num) ∧ w.heap.size + 1 + 1 + 1 < W.heap.size ∧ W.cell? ⟨w.heap.size + 1 + 1, 0, none⟩ = some (.int .i64 i) ∧ W.cell? ⟨w.heap.size + 1 + 1 + 1, 0, none⟩ = some (.bool true))
    (fun i W W' h t => ⟨h.1.trans (t.below h.1.size (fun k hk => by omega)), h.2⟩)
    (fun c i W W' h t => ⟨h.1, h.2.1.trans (t.below h.2.1.size (fun k hk => by omega)), h.2.2.1, h.2.2.2.1, Nat.lt_of_lt_of_le h.2.2.2.2.1 t.size, t.to_cell (by have := h.2.2.2.2.1; omega) (by omega) h.2.2.2.2.2.1, t.to_cell (by have := h.2.2.2.2.1; omega) (by omega) h.2.2.2.2.2.2⟩)
    ⟨Below.refl _ _, fun j hj => by omega⟩
    (fun i => { tmps := #[.pointer (some ⟨p, 0, none⟩), .int .i64 num, .pointer (some ⟨w.heap.size, 0, none⟩), .pointer (some ⟨w.heap.size + 1, 0, none⟩), .pointer (some ⟨w.heap.size + 1 + 1, 0, none⟩), .pointer (some ⟨w.heap.size + 1 + 1 + 1, 0, none⟩), .int .i64 i, .pointer (some ⟨p, 0, none⟩), .func (.func 139) #[.pointer (some ⟨p, 0, none⟩)] #[], .int .i64 i, undef, undef, undef, undef, undef, undef, undef, undef, undef, undef, undef], defers := [] })
    ?assign ?body ?done ?stop
  case assign =>
    intro l i W K hK
    gi_wp2
    exact hK
  case body =>
    rintro l i W ⟨hB, hno⟩ hi hsz
    obtain ⟨g, rfl, hg, d0⟩ := HE.out i hi
    have d0' : W.cell? ⟨g, i * 5, none⟩ = some (.int .i64 (S.num i)) := (hB.cell (p := ⟨g, i * 5, none⟩) (by simp; omega)).trans ((hVb.cell (p := ⟨g, i * 5, none⟩) hg).trans d0)
    have x0 : W.cell? ⟨w.heap.size, 0, none⟩ = some (.pointer (some ⟨p, 0, none⟩)) := (hB.cell (p := ⟨w.heap.size, 0, none⟩) (by simp; omega)).trans b0
    have x1 : W.cell? ⟨w.heap.size + 1, 0, none⟩ = some (.int .i64 num) := (hB.cell (p := ⟨w.heap.size + 1, 0, none⟩) (by simp; omega)).trans b1
    have x2 : W.cell? ⟨w.heap.size + 1 + 1, 0, none⟩ = some (.int .i64 0) := (hB.cell (p := ⟨w.heap.size + 1 + 1, 0, none⟩) (by simp; omega)).trans b2
    have x3 : W.cell? ⟨w.heap.size + 1 + 1 + 1, 0, none⟩ = some (.bool false) := (hB.cell (p := ⟨w.heap.size + 1 + 1 + 1, 0, none⟩) (by simp; omega)).trans b3
    have y2 : W.frozen? ⟨w.heap.size + 1 + 1, 0, none⟩ = false := (hB.frozen (p := ⟨w.heap.size + 1 + 1, 0, none⟩) (by simp; omega)).trans f2
    have y3 : W.frozen? ⟨w.heap.size + 1 + 1 + 1, 0, none⟩ = false := (hB.frozen (p := ⟨w.heap.size + 1 + 1 + 1, 0, none⟩) (by simp; omega)).trans f3
    have xp : W.cell? ⟨p, 2, none⟩ = some (.slice (some ⟨g, 0, none⟩) N cap) := (hB.cell (p := ⟨p, 2, none⟩) (by simp; omega)).trans c2'
    have hsV := hB.size
    have HB := Hid.in hB
    have HNO := Hid.in hno
    clear hB hno d0 b0 b1 b2 b3 f2 f3 c2' c2 HE
    gi_wp2
    refine quiet_round (by kernel_rfl) (by kernel_rfl) (by kernel_rfl) ?_
    repeat (gi_big_quiet_step (fail))
    refine wpQuietIn_nil ?_
    rintro _ ⟨nq, rfl⟩
    gi_wp2
    · rename_i hq
      have T : Turned (fun k => k = w.heap.size + 1 + 1 ∨ k = w.heap.size + 1 + 1 + 1) W (((W.drewN nq).setCell ⟨w.heap.size + 1 + 1, 0, none⟩ (.int .i64 i)).setCell ⟨w.heap.size + 1 + 1 + 1, 0, none⟩ (.bool true)) := (((Turned.refl _ W).drewN nq).set (b := w.heap.size + 1 + 1) (Or.inl rfl) _ _).set (b := w.heap.size + 1 + 1 + 1) (Or.inr rfl) _ _
      refine ⟨kept_turned T hsz (by omega) (by omega), rfl, (hVb.trans (HB.out.mono hVb.size)).trans (T.below (by omega) (fun k hk => by omega)), eq_of_beq hq, HNO.out, by have := T.size; omega, ?_, ?_⟩
      · rw [World.cell?_setCell_other _ _ _ _ (by intro q; have := congrArg Addr.block q; simp at this)]
        exact World.cell?_setCell_same _ _ _ (by rw [World.cell?_drewN]; exact x2)
      · exact World.cell?_setCell_same _ _ _ (by rw [World.cell?_setCell_other _ _ _ _ (by intro q; have := congrArg Addr.block q; simp at this), World.cell?_drewN]; exact x3)
    · rename_i hq
      have T : Turned (fun _ => False) W (W.drewN nq) := (Turned.refl _ W).drewN nq
      refine ⟨kept_turned T hsz (fun q => q) (fun q => q), HB.out.trans (T.below hsV (fun k hk => hk.elim)), fun j hj => ?_⟩
      by_cases e : j = i
      · subst e
        intro e2
        simp [e2] at hq
      · exact HNO.out j (by omega)
  case done =>
    rintro W ⟨hB, hno⟩ hK
    have x2 : W.cell? ⟨w.heap.size + 1 + 1, 0, none⟩ = some (.int .i64 0) := (hB.cell (p := ⟨w.heap.size + 1 + 1, 0, none⟩) (by simp; omega)).trans b2
    have x3 : W.cell? ⟨w.heap.size + 1 + 1 + 1, 0, none⟩ = some (.bool false) := (hB.cell (p := ⟨w.heap.size + 1 + 1 + 1, 0, none⟩) (by simp; omega)).trans b3
    have y2 : W.frozen? ⟨w.heap.size + 1 + 1, 0, none⟩ = false := (hB.frozen (p := ⟨w.heap.size + 1 + 1, 0, none⟩) (by simp; omega)).trans f2
    have y3 : W.frozen? ⟨w.heap.size + 1 + 1 + 1, 0, none⟩ = false := (hB.frozen (p := ⟨w.heap.size + 1 + 1 + 1, 0, none⟩) (by simp; omega)).trans f3
    have hsz : V.heap.size < W.heap.size := (Array.getElem?_eq_some_iff.1 hK).1
    have HB := Hid.in hB
    have HNO := Hid.in hno
    clear hB hno HE b0 b1 b2 b3 f2 f3 c2' c2
    gi_wp2
    obtain ⟨U, hU⟩ : ∃ U, ((W.setCell ⟨w.heap.size + 1 + 1, 0, none⟩ (.int .i64 0)).setCell ⟨w.heap.size + 1 + 1 + 1, 0, none⟩ (.bool false)) = U := ⟨_, rfl⟩
    have T : Turned (fun k => k = w.heap.size + 1 + 1 ∨ k = w.heap.size + 1 + 1 + 1) W U := by
      rw [← hU]
      exact ((Turned.refl _ W).set (b := w.heap.size + 1 + 1) (Or.inl rfl) _ _).set (b := w.heap.size + 1 + 1 + 1) (Or.inr rfl) _ _
    have hK' : U.heap[V.heap.size]? = some (.deferred (some [])) := (T.block _ hsz (by omega)).trans hK
    have r2 : U.cell? ⟨w.heap.size + 1 + 1, 0, none⟩ = some (.int .i64 0) := by
      rw [← hU, World.cell?_setCell_other _ _ _ _ (by intro q; have := congrArg Addr.block q; simp at this)]
      exact World.cell?_setCell_same _ _ _ x2
    have r3 : U.cell? ⟨w.heap.size + 1 + 1 + 1, 0, none⟩ = some (.bool false) := by
      rw [← hU]
      exact World.cell?_setCell_same _ _ _ (by rw [World.cell?_setCell_other _ _ _ _ (by intro q; have := congrArg Addr.block q; simp at this)]; exact x3)
    rw [hU]
    have hUs := T.size
    have T2 : Turned (fun k => k = V.heap.size ∨ k = V.heap.size + 1) U (U.putObj V.heap.size (.deferred none)) := put_turned _ _ (Or.inl rfl)
    refine ⟨by simp, .inl ⟨_, _, rfl, run_takeDeferred hK', ?_⟩⟩
    have q2 := T2.to_cell (c := w.heap.size + 1 + 1) (by omega) (by omega) r2
    have q3 := T2.to_cell (c := w.heap.size + 1 + 1 + 1) (by omega) (by omega) r3
    refine ⟨.tuple #[.int .i64 0, .bool false], ?_, Or.inr ⟨HNO.out, rfl⟩, ((hVb.trans (HB.out.mono hVb.size)).trans (T.below (by omega) (fun k hk => by omega))).trans (T2.below (by omega) (fun k hk => by omega))⟩
    simp [results, Tryz.f220, go_sem, q2, q3]
  case stop =>
    rintro c i W hi ⟨rfl, hB, hn, hno, hsz, r2, r3⟩ hK
    have hsz2 : V.heap.size < W.heap.size := (Array.getElem?_eq_some_iff.1 hK).1
    have HB := Hid.in hB
    have HNO := Hid.in hno
    clear hB hno HE b0 b1 b2 b3 f2 f3 c2' c2
    gi_wp2
    have T2 : Turned (fun k => k = V.heap.size ∨ k = V.heap.size + 1) W (W.putObj V.heap.size (.deferred none)) := put_turned _ _ (Or.inl rfl)
    refine ⟨by simp, .inl ⟨_, _, rfl, run_takeDeferred hK, ?_⟩⟩
    have q2 := T2.to_cell (c := w.heap.size + 1 + 1) (by omega) (by omega) r2
    have q3 := T2.to_cell (c := w.heap.size + 1 + 1 + 1) (by omega) (by omega) r3
    refine ⟨.tuple #[.int .i64 i, .bool true], ?_, Or.inl ⟨i, hi, hn, HNO.out, rfl⟩, HB.out.trans (T2.below (by omega) (fun k hk => by omega))⟩
    simp [results, Tryz.f220, go_sem, q2, q3]
theorem place_any (B p h c : Nat) (v : Value) (S : WS) (num : Int) (w : World) (k : Win w B p h c v S) : Calls Tryz.prog 220 #[.pointer (some ⟨p, 0, none⟩), .int .i64 num] w fun e w' => ((∃ i, i < S.on.length ∧ S.num i = num ∧ (∀ j, j < i → S.num j ≠ num) ∧ e = .returned (.tuple #[.int .i64 i, .bool true])) ∨ ((∀ j, j < S.on.length → S.num j ≠ num) ∧ e = .returned (.tuple #[.int .i64 0, .bool false]))) ∧ Below w.heap.size w w' :=
  callsIn_wide.1 (place_in B p h c v S num w k)
end Go.Proofs.YtemamhkhjijdlaaGreatDoor
