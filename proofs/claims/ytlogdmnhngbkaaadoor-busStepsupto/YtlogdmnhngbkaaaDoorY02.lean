import Derived.Test.YtlogdmnhngbkaaaDoorY01
import Derived.Deep.WholeRow
/-
  CACHE: use, takeOut.
-/
namespace Go.Proofs.YtlogdmnhngbkaaaDoor
open Go Go.RowKit
theorem setCells_hs (b : Nat) : ∀ (vs : List Value) (o : Nat) (w : World), (w.setCells b o vs).heap.size = w.heap.size
  | [], _, _ => rfl
  | v :: r, o, w => by rw [World.setCells, setCells_hs b r]; simp [World.setCell]
/-- the row without one -/
def rest (l : List Ln) (k : Nat) : List Ln := l.take k ++ l.drop (k + 1)
theorem rest_len (l : List Ln) (k : Nat) (h : k < l.length) : (rest l k).length = l.length - 1 := by
  simp [rest]
  omega
theorem spl_use (l : List Ln) (k : Nat) (e : Ln) (h : k < l.length) : spl (spl (flatL l) (k * 18) (flatL (l.drop (k + 1)))) ((l.length - 1) * 18) e.vs = flatL (rest l k ++ [e]) := by
  have h1 : (l.drop (k + 1)).length = l.length - (k + 1) := by simp
  rw [spl_flat l _ k (by omega), ← flatL_one e]
  have h2 : (l.take k ++ l.drop (k + 1) ++ l.drop (k + (l.drop (k + 1)).length)).length = l.length := by simp; omega
  rw [spl_flat _ [e] (l.length - 1) (by rw [h2]; simp; omega)]
  have h3 : (rest l k).length = l.length - 1 := rest_len l k h
  have e1 : (l.take k ++ l.drop (k + 1) ++ l.drop (k + (l.drop (k + 1)).length)).take (l.length - 1) = rest l k := by
    rw [List.take_append_of_le_length (by show l.length - 1 ≤ (rest l k).length; omega), List.take_of_length_le (by show (rest l k).length ≤ l.length - 1; omega)]
    rfl
  have e2 : (l.take k ++ l.drop (k + 1) ++ l.drop (k + (l.drop (k + 1)).length)).drop (l.length - 1 + [e].length) = [] := by
    apply List.drop_eq_nil_of_le
    rw [h2]
    simp
    omega
  rw [e1, e2, List.append_nil]
theorem spl_out (l : List Ln) (k : Nat) (h : k < l.length) : ((spl (flatL l) (k * 18) (flatL (l.drop (k + 1)))).take ((l.length - 1) * 18)) = flatL (rest l k) := by
  have h1 : (l.drop (k + 1)).length = l.length - (k + 1) := by simp
  have h3 : (rest l k).length = l.length - 1 := rest_len l k h
  rw [spl_flat l _ k (by omega), flatL_take]
  congr 1
  rw [List.take_append_of_le_length (by show l.length - 1 ≤ (rest l k).length; omega), List.take_of_length_le (by show (rest l k).length ≤ l.length - 1; omega)]
  rfl
def zl : Array Value := #[.int .u32 0, .int .i64 0, .int .u8 0, .int .u8 0, .int .u8 0, .int .u8 0, .int .u8 0, .int .u8 0, .int .u8 0, .int .u8 0, .int .u8 0, .int .u8 0, .int .u8 0, .int .u8 0, .int .u8 0, .int .u8 0, .int .u8 0, .int .u8 0]
theorem Ln.sizeA (e : Ln) : e.vs.toArray.size = 18 := by simp [Ln.len]
theorem Ln.oneA (e : Ln) : e.vs.toArray.all (·.oneCell') = true := all_oneCell_toArray e.one
theorem line_desc : ∃ d, Tryd.prog.underlying 114 = some d ∧ d.isRow = true := ⟨_, Tryd.underlying114, rfl⟩
theorem load_line (w : World) (g o : Nat) (e : Ln) (h : w.rangeAt g o e.vs) : (Instr.loadAt 114 (.pointer (some ⟨g, o, none⟩))).run Tryd.prog w = .ok (.agg e.vs.toArray) w := by
  obtain ⟨d, h1, h2⟩ := line_desc
  exact run_loadAt_mid w g o _ e.vs d h h1 h2 (by rw [line_info, Ln.len])
theorem store_line (w : World) (g o : Nat) (e : Ln) (h : w.there g o 18) : (Instr.storeAt 114 (.pointer (some ⟨g, o, none⟩)) (.agg e.vs.toArray)).run Tryd.prog w = .ok () (w.setCells g o e.vs) := by
  have := run_storeAt_mid (P := Tryd.prog) w g o 114 e.vs.toArray (by rw [Ln.sizeA]; exact h) (by rw [line_info, Ln.sizeA]) e.oneA
  simpa using this
theorem store_new (w : World) (e : Ln) (c : Array Value) (hc : c.size = 18) : (Instr.storeAt 114 (.pointer (some ⟨w.heap.size, 0, none⟩)) (.agg e.vs.toArray)).run Tryd.prog (w.alloc (.cells c 114)) = .ok () (w.alloc (.cells e.vs.toArray 114)) := by
  have := run_storeVar_new (P := Tryd.prog) w 114 c e.vs.toArray (by rw [line_info, Ln.sizeA]) (by rw [hc, Ln.sizeA]) e.oneA
  simp only [Instr.storeAt, Instr.sureAddr, Sem.run_bind, Sem.run_pure, Result.andThen_ok, this]
theorem range_new (w : World) (e : Ln) (t : TypeId) : (w.alloc (.cells e.vs.toArray t)).rangeAt w.heap.size 0 e.vs := by
  intro j v h
  rw [World.cell?_alloc_new, Nat.zero_add]
  simpa using h
theorem ld_line {ops : Array Oper} {rest : List Oper} {op : Oper} {a : Act} {w : World} {Q : Exit → Act → World → Prop} (g o : Nat) (e : Ln) (hc : w.rangeAt g o e.vs) (hgd : op.guard = none) (x : Operand) (ho : op.op = .load 114 x) (hx : a.eval x = .pointer (some ⟨g, o, none⟩)) (h : wpList Tryd.prog ops Q rest (a.put op.dst (.agg e.vs.toArray)) w) : wpList Tryd.prog ops Q (op :: rest) a w := by
  obtain ⟨d, h1, h2⟩ := line_desc
  exact wpList_load_mid hgd _ x ho g o hx e.vs d hc h1 h2 (by rw [line_info, Ln.len]) h
theorem st_line {ops : Array Oper} {rest : List Oper} {op : Oper} {a : Act} {w : World} {Q : Exit → Act → World → Prop} (g o : Nat) (e : Ln) (hc : w.there g o 18) (hgd : op.guard = none) (hds : op.dst = none) (x y : Operand) (ho : op.op = .store 114 x y) (hx : a.eval x = .pointer (some ⟨g, o, none⟩)) (hy : a.eval y = .agg e.vs.toArray) (h : wpList Tryd.prog ops Q rest a (w.setCells g o e.vs)) : wpList Tryd.prog ops Q (op :: rest) a w := by
  refine wpList_store_mid hgd _ x y ho g o e.vs.toArray hx hy (by rw [Ln.sizeA]; exact hc) (by rw [line_info, Ln.sizeA]) e.oneA ?_
  rw [hds]
  exact (by simpa using h : wpList Tryd.prog ops Q rest a (w.setCells g o e.vs.toArray.toList))
theorem st_new {ops : Array Oper} {rest : List Oper} {op : Oper} {a : Act} {Q : Exit → Act → World → Prop} (w : World) (e : Ln) (c : Array Value) (hcs : c.size = 18) (b : Nat) (hb : b = w.heap.size) (hgd : op.guard = none) (hds : op.dst = none) (x y : Operand) (ho : op.op = .store 114 x y) (hx : a.eval x = .pointer (some ⟨b, 0, none⟩)) (hy : a.eval y = .agg e.vs.toArray) (h : wpList Tryd.prog ops Q rest a (w.alloc (.cells e.vs.toArray 114))) : wpList Tryd.prog ops Q (op :: rest) a (w.alloc (.cells c 114)) := by
  subst hb
  refine wpList_plain hgd fun K hK => ?_
  unfold Oper.wp execOp
  simp only [ho, hx, hy, Sem.run_bind, Sem.run_pure, store_new w e c hcs, Result.andThen_ok]
  exact hK _ _ (by rw [hds]; exact h)
set_option maxRecDepth 100000 in
set_option maxHeartbeats 2000000 in
theorem use_any (B g k cap : Nat) (l : List Ln) (w : World) (h : w.ownsRow B 114 18 (.slice (some ⟨g, 0, none⟩) l.length cap) l.length (flatL l)) (hk : k < l.length) (h4 : l.length ≤ 4) : Calls Tryd.prog 59 #[.slice (some ⟨g, 0, none⟩) l.length cap, .int .i64 k] w fun e w' => e = .returned (.pointer (some ⟨g, (l.length - 1) * 18, none⟩)) ∧ w'.ownsRow B 114 18 (.slice (some ⟨g, 0, none⟩) l.length cap) l.length (flatL (rest l k ++ [l.getD k l0])) ∧ Turned (fun k => k = g) w w' := by
  obtain ⟨q, cap', hv, hcap, hel⟩ := own_lines h
  obtain ⟨g', hg1, -, hg2, hrg, hth, -, -, hfr⟩ := hel k hk
  rw [hg1] at hv
  simp only [Value.slice.injEq, Option.some.injEq, Addr.mk.injEq, and_true, true_and] at hv
  obtain ⟨rfl, rfl⟩ := hv
  obtain ⟨e, he⟩ : ∃ e, l.getD k l0 = e := ⟨_, rfl⟩
  rw [he] at hrg ⊢
  obtain ⟨m, hm⟩ : ∃ m, l.length = m := ⟨_, rfl⟩
  obtain ⟨w1, hw1⟩ : ∃ w1, w.alloc (.cells e.vs.toArray 114) = w1 := ⟨_, rfl⟩
  have hsz : w1.heap.size = w.heap.size + 1 := by rw [← hw1]; simp
  have t1 : Turned (fun k => k = g) w w1 := by rw [← hw1]; exact (Turned.refl _ _).alloc _
  have o1 : w1.ownsRow B 114 18 (.slice (some ⟨g, 0, none⟩) l.length cap) l.length (flatL l) := by
    rw [← hw1]
    exact own_turned h ((Turned.refl (fun _ => False) w).alloc _) (fun _ _ q => q)
  obtain ⟨w2, hw2⟩ : ∃ w2, w1.drew.setCells g (k * 18) (flatL (l.drop (k + 1))) = w2 := ⟨_, rfl⟩
  have hthere : ∀ o n, o + n ≤ l.length * 18 → w1.drew.there g o n := by
    intro o n hon j hj
    have c := World.ownsRow.cellAt o1 (o + j) (by omega)
    refine ⟨?_, World.ownsRow.frozenAt o1 _⟩
    show (w1.cell? ⟨g, o + j, none⟩).isSome = true
    rw [c, List.getElem?_eq_getElem (by rw [flatL_len]; omega)]
    rfl
  have HR1 := Hid.in hrg
  have hdl : (l.drop (k + 1)).length = l.length - (k + 1) := by simp
  have C1 : ∀ ad c, (k + 1 < m → ad = ⟨g, (k + 1) * 18, none⟩) → (Builtin.copy_ #[126, 126] 3 #[.slice (some ⟨g, k * 18, none⟩) (m - k) (cap - k), .slice (some ad) (m - (k + 1)) c]).run Tryd.prog w1.drew = .ok (goInt (m - (k + 1) : Nat)) w2 := by
    intro ad c had
    have := run_copyL w1.drew 3 g (k * 18) (m - k) (cap - k) ad (m - (k + 1)) c (l.drop (k + 1)) (by rw [hdl, hm]; exact (Nat.min_eq_left (by omega)).symm) (fun hne j v hj => by
      have hlt : k + 1 < m := by
        rcases Nat.lt_or_ge (k + 1) m with q | q
        · exact q
        · exact absurd (List.drop_eq_nil_of_le (by omega)) hne
      rw [had hlt, Addr.add_mid]
      have q := World.ownsRow.cells o1 rfl ((k + 1) * 18 + j) v (by rw [← List.getElem?_drop, flatL_drop]; exact hj)
      rw [Addr.add_mid, Nat.zero_add] at q
      exact q) (hthere _ _ (by rw [hdl]; omega))
    rw [hw2, hdl, hm] at this
    exact this
  have HR2 : Hid (w2.rangeAt w.heap.size 0 e.vs) := by
    show w2.rangeAt w.heap.size 0 e.vs
    rw [← hw2]
    refine World.rangeAt_setCells_apart (by rw [← hw1]; exact (World.rangeAt_drew _ _ _ _).2 (range_new w e _)) _ _ _ (Or.inl ?_)
    omega
  have HT2 : Hid (w2.there g ((m - 1) * 18) 18) := by
    show w2.there g ((m - 1) * 18) 18
    rw [← hw2]
    exact World.there_setCells (hthere _ _ (by omega)) _ _ _
  have HF : Hid ((w2.setCells g ((m - 1) * 18) e.vs).ownsRow B 114 18 (.slice (some ⟨g, 0, none⟩) m cap) m (flatL (rest l k ++ [e])) ∧ Turned (fun k => k = g) w (w2.setCells g ((m - 1) * 18) e.vs)) := by
    refine ⟨?_, ?_⟩
    · rw [← hm, ← spl_use l k e hk, ← hw2, hm]
      refine own_spl _ _ _ _ (own_spl _ _ _ _ ?_)
      rw [← hm]
      exact own_turned o1 ((Turned.refl (fun _ => False) w1).drew) (fun _ _ q => q)
    · rw [← hw2]
      exact ((t1.drew).trans (turned_setCells _ _ _)).trans (turned_setCells _ _ _)
  have HC1 := Hid.in C1
  have HW1 := Hid.in hw1
  obtain ⟨hc1, hc2⟩ := hcap
  unfold maxLen at hc2
  rw [hm] at hk h4 hc1 ⊢
  have hw2s : w2.heap.size = w.heap.size + 1 := by rw [← hw2, setCells_hs]; exact hsz
  have hmg : g < w2.heap.size := by omega
  clear h hel hg1 hrg hth hfr he hm hw1 hw2 t1 o1 hthere hdl C1
  go_enter Tryd.func59, Tryd.ntmps59
  have R1 := HR1.out
  go_wp2_with (first
    | (refine ld_line g (k * 18) e R1 rfl _ rfl rfl ?_)
    | (refine st_new w e zl rfl w.heap.size rfl rfl rfl _ _ rfl rfl rfl ?_))
  rw [HW1.out]
  clear R1
  have hkm : k ≤ m := by omega
  have hkm1 : k + 1 ≤ m := by omega
  have nck : ¬ cap = k := by omega
  by_cases hck : cap = k + 1
  · obtain rfl : m = k + 1 := by omega
    subst hck
    have hcc : (Builtin.copy_ #[126, 126] 3 #[.slice (some ⟨g, k * 18, none⟩) 1 1, .slice (some ⟨g, 0, none⟩) 0 0]).run Tryd.prog w1.drew = .ok (goInt 0) w2 := by
      have := HC1.out ⟨g, 0, none⟩ 0 (fun q => by omega)
      simpa using this
    go_region
    have R2 := HR2.out
    have T2 := HT2.out
    simp only [Nat.add_sub_cancel] at T2 ⊢
    go_wp2_with (first
      | (refine ld_line w.heap.size 0 e R2 rfl _ rfl rfl ?_)
      | (refine st_line g (k * 18) e T2 rfl rfl _ _ rfl rfl rfl ?_))
    go_ret
    exact ⟨rfl, HF.out⟩
  · have hcc := HC1.out ⟨g, (k + 1) * 18, none⟩ (cap - (k + 1)) (fun _ => rfl)
    go_region
    have R2 := HR2.out
    have T2 := HT2.out
    have hm1 : ((m : Int) - 1) = ((m - 1 : Nat) : Int) := by omega
    have hm2 : m - 1 < m := by omega
    go_wp2_with (first
      | (refine ld_line w.heap.size 0 e R2 rfl _ rfl rfl ?_)
      | (refine st_line g ((m - 1) * 18) e T2 rfl rfl _ _ rfl rfl rfl ?_))
    go_ret
    exact ⟨rfl, HF.out⟩
end Go.Proofs.YtlogdmnhngbkaaaDoor
/-
  CACHE: takeOut.
-/
namespace Go.Proofs.YtlogdmnhngbkaaaDoor
open Go Go.RowKit
theorem load_var (w : World) (g o : Nat) (e : Ln) (h : w.rangeAt g o e.vs) : (loadVar 114 ⟨g, o, none⟩).run Tryd.prog w = .ok (.agg e.vs.toArray) w := by
  obtain ⟨d, h1, h2⟩ := line_desc
  exact run_loadVar_mid w g o _ e.vs d h h1 h2 (by rw [line_info, Ln.len])
theorem results_line {fn : Func} {p : Tmp} (h : fn.results = #[.cell p 114]) (tmps : Array Value) (w : World) (g : Nat) (e : Ln) (hp : tmps.getD p undef = .pointer (some ⟨g, 0, none⟩)) (hg : w.rangeAt g 0 e.vs) : (results fn tmps).run Tryd.prog w = .ok (.agg e.vs.toArray) w := by
  have hp' : tmps[p]?.getD undef = .pointer (some ⟨g, 0, none⟩) := by simpa using hp
  simp [results, h, hp', asAddr, load_var w g 0 e hg]
theorem results_line3 {fn : Func} {p u v : Tmp} (h : fn.results = #[.cell p 114, .tmp u, .tmp v]) (tmps : Array Value) (w : World) (g : Nat) (e : Ln) (x y : Value) (hp : tmps.getD p undef = .pointer (some ⟨g, 0, none⟩)) (hx : tmps.getD u undef = x) (hy : tmps.getD v undef = y) (hg : w.rangeAt g 0 e.vs) : (results fn tmps).run Tryd.prog w = .ok (.tuple #[.agg e.vs.toArray, x, y]) w := by
  have hp' : tmps[p]?.getD undef = .pointer (some ⟨g, 0, none⟩) := by simpa using hp
  have hx' : tmps[u]?.getD undef = x := by simpa using hx
  have hy' : tmps[v]?.getD undef = y := by simpa using hy
  simp [results, h, hp', hx', hy', asAddr, load_var w g 0 e hg]
theorem drew_set (w : World) (a : Addr) (v : Value) : (w.setCell a v).drew = w.drew.setCell a v := rfl
/-- the blocks that are a cache's -/
def mine (p h n : Nat) (V : Nat → Value) (q : Nat) : Prop := q = p ∨ q = h ∨ ∃ i, i < n ∧ (V i).ownBlock = some q
/-- a set's row is another one now -/
theorem Ch.rowTo2 {x z : World} {B p h c : Nat} {V : Nat → Value} {S : CS} (k : Ch x B p h c V S) (i : Nat) (hi : i < S.n) (m : List Ln) (v : Value) (t : Turned (fun k => (V i).ownBlock = some k ∨ k = h) x z) (cz : CellsAt S.n z h (upd V i v)) (r : z.ownsRow B 114 18 v m.length (flatL m)) (hm : m.length ≤ S.ways) (hv : ∀ k, v.ownBlock = some k → (V i).ownBlock = some k ∨ x.heap.size ≤ k) : Ch z B p h c (upd V i v) (S.put i m) := by
  have hp := k.c.here
  have hh := k.v.here
  have np : v.ownBlock ≠ some p := fun q => by
    rcases hv p q with q | q
    · exact k.vp i hi q
    · omega
  have nh : v.ownBlock ≠ some h := fun q => by
    rcases hv h q with q | q
    · exact k.vh i hi q
    · omega
  have nv : ∀ j, j < S.n → j ≠ i → ∀ q, v.ownBlock = some q → (V j).ownBlock ≠ some q := fun j hj e q hq hq' => by
    rcases hv q hq with h1 | h1
    · exact k.vv j i q hj hi e hq' h1
    · have := (own_base (k.l j hj) q hq').2
      omega
  refine ⟨t.cells k.c (fun q => q.elim (k.vp i hi) k.ne), cz, fun j hj => ?_, k.ne, fun j hj => ?_, fun j hj => ?_, fun a b q ha hb hab hq => ?_, fun j hj => ?_, k.small, k.lo⟩
  · show World.ownsRow _ B _ 18 (upd V i v j) (upd S.set i m j).length (flatL (upd S.set i m j))
    by_cases e : j = i
    · subst e
      rw [upd_same, upd_same]
      exact r
    · rw [upd_other _ _ _ _ e, upd_other _ _ _ _ e]
      exact own_turned (k.l j hj) t (fun q hq hq' => hq'.elim (k.vv j i q hj hi e hq) (fun e => k.vh j hj (by rw [hq, e])))
  · by_cases e : j = i
    · subst e
      rw [upd_same]
      exact np
    · rw [upd_other _ _ _ _ e]
      exact k.vp j hj
  · by_cases e : j = i
    · subst e
      rw [upd_same]
      exact nh
    · rw [upd_other _ _ _ _ e]
      exact k.vh j hj
  · by_cases ea : a = i
    · subst ea
      rw [upd_same] at hq
      rw [upd_other _ _ _ _ (Ne.symm hab)]
      exact nv b hb (Ne.symm hab) q hq
    · rw [upd_other _ _ _ _ ea] at hq
      by_cases eb : b = i
      · subst eb
        rw [upd_same]
        exact fun q' => nv a ha ea q q' hq
      · rw [upd_other _ _ _ _ eb]
        exact k.vv a b q ha hb hab hq
  · show (upd S.set i m j).length ≤ S.ways
    by_cases e : j = i
    · subst e
      rw [upd_same]
      exact hm
    · rw [upd_other _ _ _ _ e]
      exact k.few j hj
set_option maxRecDepth 100000 in
set_option maxHeartbeats 2000000 in
theorem takeOut_mem (B g h i k cap : Nat) (l : List Ln) (w : World) (hl : w.ownsRow B 114 18 (.slice (some ⟨g, 0, none⟩) l.length cap) l.length (flatL l)) (hs : w.cell? ⟨h, i, none⟩ = some (.slice (some ⟨g, 0, none⟩) l.length cap)) (hf : w.frozen? ⟨h, i, none⟩ = false) (hne : h ≠ g) (hk : k < l.length) (h4 : l.length ≤ 4) : Calls Tryd.prog 70 #[.pointer (some ⟨h, i, none⟩), .int .i64 k] w fun e w' => e = .returned (.agg (l.getD k l0).vs.toArray) ∧ w'.ownsRow B 114 18 (.slice (some ⟨g, 0, none⟩) (l.length - 1) cap) (l.length - 1) (flatL (rest l k)) ∧ (∃ y, w' = y ∧ Turned (fun q => q = g ∨ q = h) w w') ∧ ∀ n V, CellsAt n w h V → i < n → CellsAt n w' h (upd V i (.slice (some ⟨g, 0, none⟩) (l.length - 1) cap)) := by
  have hh := cell_here hs
  obtain ⟨q, cap', hv, hcap, hel⟩ := own_lines hl
  obtain ⟨g', hg1, -, hg2, hrg, hth, -, -, hfr⟩ := hel k hk
  rw [hg1] at hv
  simp only [Value.slice.injEq, Option.some.injEq, Addr.mk.injEq, and_true, true_and] at hv
  obtain ⟨rfl, rfl⟩ := hv
  obtain ⟨e, he⟩ : ∃ e, l.getD k l0 = e := ⟨_, rfl⟩
  rw [he] at hrg ⊢
  obtain ⟨m, hm⟩ : ∃ m, l.length = m := ⟨_, rfl⟩
  obtain ⟨w0, hw0⟩ : ∃ w0, w.alloc (.cells #[.int .u32 0, .int .i64 0, .int .u8 0, .int .u8 0, .int .u8 0, .int .u8 0, .int .u8 0, .int .u8 0, .int .u8 0, .int .u8 0, .int .u8 0, .int .u8 0, .int .u8 0, .int .u8 0, .int .u8 0, .int .u8 0, .int .u8 0, .int .u8 0] 114) = w0 := ⟨_, rfl⟩
  obtain ⟨w1, hw1⟩ : ∃ w1, w0.alloc (.cells e.vs.toArray 114) = w1 := ⟨_, rfl⟩
  have hs0 : w0.heap.size = w.heap.size + 1 := by rw [← hw0]; simp
  have hsz : w1.heap.size = w.heap.size + 2 := by rw [← hw1]; simp [hs0]
  have t1 : Turned (fun _ => False) w w1 := by rw [← hw1, ← hw0]; exact ((Turned.refl _ _).alloc _).alloc _
  have o1 := own_turned hl t1 (fun _ _ q => q)
  have hthere : ∀ o n, o + n ≤ l.length * 18 → w1.drew.there g o n := by
    intro o n hon j hj
    have c := World.ownsRow.cellAt o1 (o + j) (by omega)
    refine ⟨?_, World.ownsRow.frozenAt o1 _⟩
    show (w1.cell? ⟨g, o + j, none⟩).isSome = true
    rw [c, List.getElem?_eq_getElem (by rw [flatL_len]; omega)]
    rfl
  obtain ⟨w2, hw2⟩ : ∃ w2, w1.drew.setCells g (k * 18) (flatL (l.drop (k + 1))) = w2 := ⟨_, rfl⟩
  have hdl : (l.drop (k + 1)).length = l.length - (k + 1) := by simp
  have C1 : ∀ ad c, (k + 1 < m → ad = ⟨g, (k + 1) * 18, none⟩) → (Builtin.copy_ #[126, 126] 3 #[.slice (some ⟨g, k * 18, none⟩) (m - k) (cap - k), .slice (some ad) (m - (k + 1)) c]).run Tryd.prog w1.drew = .ok (goInt (m - (k + 1) : Nat)) w2 := by
    intro ad c had
    have := run_copyL w1.drew 3 g (k * 18) (m - k) (cap - k) ad (m - (k + 1)) c (l.drop (k + 1)) (by rw [hdl, hm]; exact (Nat.min_eq_left (by omega)).symm) (fun hne j v hj => by
      have hlt : k + 1 < m := by
        rcases Nat.lt_or_ge (k + 1) m with q | q
        · exact q
        · exact absurd (List.drop_eq_nil_of_le (by omega)) hne
      rw [had hlt, Addr.add_mid]
      have q := World.ownsRow.cells o1 rfl ((k + 1) * 18 + j) v (by rw [← List.getElem?_drop, flatL_drop]; exact hj)
      rw [Addr.add_mid, Nat.zero_add] at q
      exact q) (hthere _ _ (by rw [hdl]; omega))
    rw [hw2, hdl, hm] at this
    exact this
  have t2 : Turned (fun q => q = g) w w2 := by
    rw [← hw2]
    exact ((t1.mono (fun _ q => q.elim)).drew).trans (turned_setCells _ _ _)
  have hs2 : w2.heap.size = w.heap.size + 2 := by rw [← hw2, setCells_hs]; exact hsz
  have n1 : ∀ t : TypeId, w1.heap[w.heap.size]? = some (.cells zl 114) := fun _ => by
    rw [← hw1, ← hw0]
    exact (Below.heap_alloc _ _ _ (by simp)).trans (heap_alloc_last w _)
  obtain ⟨w3, hw3⟩ : ∃ w3, w2.drew.setCell ⟨h, i, none⟩ (.slice (some ⟨g, 0, none⟩) (m - 1) cap) = w3 := ⟨_, rfl⟩
  have c1 : w1.cell? ⟨h, i, none⟩ = some (.slice (some ⟨g, 0, none⟩) m cap) := by rw [← hm]; exact t1.to_cell hh (fun q => q) hs
  have c2 : w2.cell? ⟨h, i, none⟩ = some (.slice (some ⟨g, 0, none⟩) m cap) := by rw [← hm]; exact t2.to_cell hh hne hs
  have f2 : w2.frozen? ⟨h, i, none⟩ = false := (World.frozen?_of_block (t2.block h hh hne)).trans hf
  have HR3 : Hid (w3.rangeAt (w.heap.size + 1) 0 e.vs) := by
    show w3.rangeAt (w.heap.size + 1) 0 e.vs
    have r0 : w2.rangeAt (w.heap.size + 1) 0 e.vs := by
      rw [← hw2]
      refine World.rangeAt_setCells_apart ?_ _ _ _ (Or.inl (by omega))
      refine (World.rangeAt_drew _ _ _ _).2 ?_
      rw [← hw1, ← hs0]
      exact range_new w0 e _
    intro j v hv
    rw [← hw3, World.cell?_setCell_other _ _ _ _ (by intro q; have := congrArg Addr.block q; simp at this; omega)]
    exact r0 j v hv
  have HT3 : Hid (w3.there w.heap.size 0 18) := by
    intro j hj
    have hb : w3.heap[w.heap.size]? = w1.heap[w.heap.size]? := by
      rw [← hw3, ← hw2]
      have a1 := (turned_setCells (g := g) (flatL (l.drop (k + 1))) (k * 18) w1.drew).block w.heap.size (by show _ < w1.heap.size; omega) (by omega)
      exact (Below.heap_setCell _ _ _ _ (by show ¬ w.heap.size = h; omega)).trans a1
    have hb2 := hb.trans (n1 0)
    refine ⟨?_, by simp [World.frozen?, hb2]⟩
    have : w3.cell? ⟨w.heap.size, 0 + j, none⟩ = zl[0 + j]? := by simp [World.cell?, hb2]
    rw [this, Array.getElem?_eq_getElem (by show 0 + j < 18; omega)]
    rfl
  have HF : Hid ((w3.setCells w.heap.size 0 e.vs).ownsRow B 114 18 (.slice (some ⟨g, 0, none⟩) (m - 1) cap) (m - 1) (flatL (rest l k)) ∧ Turned (fun q => q = g ∨ q = h) w (w3.setCells w.heap.size 0 e.vs) ∧ (∀ n V, CellsAt n w h V → i < n → CellsAt n (w3.setCells w.heap.size 0 e.vs) h (upd V i (.slice (some ⟨g, 0, none⟩) (m - 1) cap))) ∧ (w3.setCells w.heap.size 0 e.vs).rangeAt w.heap.size 0 e.vs) := by
    have tz := turned_setCells (g := w.heap.size) e.vs 0 w3
    have t3 : Turned (fun q => q = g ∨ q = h) w w3 := by
      rw [← hw3]
      exact ((t2.mono (R := fun q => q = g ∨ q = h) (fun _ q => Or.inl q)).drew).set (b := h) (Or.inr rfl) _ _
    refine ⟨?_, ?_, fun n V hc hin => ?_, World.rangeAt_setCells_same _ _ _ _ (by rw [Ln.len]; exact HT3.out)⟩
    · refine own_turned ?_ tz (fun q hq e => by simp [Value.ownBlock] at hq; omega)
      rw [← hw3]
      refine own_turned ?_ ((Turned.refl (fun q => q = h) w2.drew).set (b := h) rfl _ _) (fun q hq e => by simp [Value.ownBlock] at hq; omega)
      refine own_turned (x := w2) ?_ ((Turned.refl (fun _ => False) w2).drew) (fun _ _ q => q)
      have oo : w2.ownsRow B 114 18 (.slice (some ⟨g, 0, none⟩) l.length cap) l.length (spl (flatL l) (k * 18) (flatL (l.drop (k + 1)))) := by
        rw [← hw2]
        exact own_spl _ _ _ _ (own_turned o1 ((Turned.refl (fun _ => False) w1).drew) (fun _ _ q => q))
      have h1 : (l.drop (k + 1)).length = l.length - (k + 1) := by simp
      have ee : spl (flatL l) (k * 18) (flatL (l.drop (k + 1))) = flatL (l.take k ++ l.drop (k + 1) ++ l.drop (k + (l.drop (k + 1)).length)) := spl_flat l _ k (by omega)
      have ll : (l.take k ++ l.drop (k + 1) ++ l.drop (k + (l.drop (k + 1)).length)).length = l.length := by simp; omega
      rw [ee] at oo
      have oc := own_cut (l := l.take k ++ l.drop (k + 1) ++ l.drop (k + (l.drop (k + 1)).length)) (m := l.length - 1) (by rw [ll]; exact oo) (by rw [ll]; omega)
      rw [← flatL_take, ← ee, spl_out l k hk, hm] at oc
      exact oc
    · exact t3.trans2' tz (by intro q e; omega)
    · refine tz.cells ?_ (by omega)
      rw [← hw3]
      exact ((t2.cells hc hne).drew).set i hin _
  have HC1 := Hid.in C1
  have HW0 := Hid.in hw0
  have HW1 := Hid.in hw1
  have HW3 := Hid.in hw3
  obtain ⟨hc1, hc2⟩ := hcap
  unfold maxLen at hc2
  have HRG := Hid.in ((hrg : w.rangeAt g (k * 18) e.vs))
  have hR0 : w0.rangeAt g (k * 18) e.vs := by rw [← hw0]; exact World.rangeAt_alloc hrg _
  have hc0 : w0.cell? ⟨h, i, none⟩ = some (.slice (some ⟨g, 0, none⟩) m cap) := by
    rw [← hw0, World.cell?_alloc_lt _ _ _ hh, ← hm]
    exact hs
  have hg0 : g < w0.heap.size := by omega
  have hg3 : g < w2.heap.size := by omega
  have hh1 : h < w1.heap.size := by omega
  have hh2 : h < w2.heap.size := by omega
  have HZ : Hid (w1.heap.size = w.heap.size + 2 ∧ w0.heap.size = w.heap.size + 1) := ⟨hsz, hs0⟩
  rw [hm] at hk h4 hc1 ⊢
  have hkm : k ≤ m := by omega
  have hkm1 : k + 1 ≤ m := by omega
  have nck : ¬ cap = k := by omega
  have hhne := hne
  rw [hm] at hs
  clear hl hel hg1 hrg hth hfr he hm hw1 hw2 t1 o1 hthere hdl C1 hw0 hw3 t2 hs2 n1 hf
  have HCW := Hid.in hs
  have R0 := HRG.out
  go_enter Tryd.func70, Tryd.ntmps70
  go_wp2_with (first
    | (refine ld_line g (k * 18) e (World.rangeAt_alloc R0 _) rfl _ rfl rfl ?_)
    | (refine st_new (w.alloc _) e zl rfl (w.heap.size + 1) (by simp) rfl rfl _ _ rfl rfl rfl ?_))
  rw [HW0.out, HW1.out]
  clear R0
  by_cases hck : cap = k + 1
  · obtain rfl : m = k + 1 := by omega
    subst hck
    have hcc : (Builtin.copy_ #[126, 126] 3 #[.slice (some ⟨g, k * 18, none⟩) 1 1, .slice (some ⟨g, 0, none⟩) 0 0]).run Tryd.prog w1.drew = .ok (goInt 0) w2 := by
      have := HC1.out ⟨g, 0, none⟩ 0 (fun q => by omega)
      simpa using this
    go_region
    go_wp2_with fail
    simp only [Nat.add_sub_cancel] at HW3 HF ⊢
    have hm2 : k ≤ k + 1 := by omega
    go_region
    have R3 := HR3.out
    have T3 := HT3.out
    rw [drew_set, HW3.out]
    go_wp2_with (first
      | (refine ld_line (w.heap.size + 1) 0 e R3 rfl _ rfl rfl ?_)
      | (refine st_line w.heap.size 0 e T3 rfl rfl _ _ rfl rfl rfl ?_))
    refine bodyPost_ret (results_line Tryd.results70 _ _ w.heap.size e rfl HF.out.2.2.2) rfl ?_
    exact ⟨rfl, HF.out.1, ⟨_, rfl, HF.out.2.1⟩, HF.out.2.2.1⟩
  · have hcc := HC1.out ⟨g, (k + 1) * 18, none⟩ (cap - (k + 1)) (fun _ => rfl)
    go_region
    go_wp2_with fail
    have hm1 : ((m : Int) - 1) = ((m - 1 : Nat) : Int) := by omega
    have hm2 : m - 1 ≤ cap := by omega
    go_region
    have R3 := HR3.out
    have T3 := HT3.out
    rw [drew_set, HW3.out]
    go_wp2_with (first
      | (refine ld_line (w.heap.size + 1) 0 e R3 rfl _ rfl rfl ?_)
      | (refine st_line w.heap.size 0 e T3 rfl rfl _ _ rfl rfl rfl ?_))
    refine bodyPost_ret (results_line Tryd.results70 _ _ w.heap.size e rfl HF.out.2.2.2) rfl ?_
    exact ⟨rfl, HF.out.1, ⟨_, rfl, HF.out.2.1⟩, HF.out.2.2.1⟩
end Go.Proofs.YtlogdmnhngbkaaaDoor
