/-
  CACHE: use, takeOut.
-/
import Derived.Test.YtbbaopldebdoiaaCd
import Derived.Deep.WholeRow
namespace Go.Proofs.Ytbbaopldebdoiaa
open Go Go.RowKit
theorem setCells_hs (b : Nat) : ∀ (vs : List Value) (o : Nat) (w : World), (w.setCells b o vs).heap.size = w.heap.size
  | [], _, _ => rfl
  | v :: r, o, w => by rw [World.setCells, setCells_hs b r]; simp [World.setCell]
/-- the row without one -/
def rest (l : List Ln) (k : Nat) : List Ln := l.take k ++ l.drop (k + 1)
theorem rest_len (l : List Ln) (k : Nat) (h : k < l.length) : (rest l k).length = l.length - 1 := by
  simp [rest]
  omega
theorem spl_use (l : List Ln) (k : Nat) (e : Ln) (h : k < l.length) : spl (spl (flatL l) (k * 18) (flatL (l.drop (k + 1)))) ((l.length - 1) * 18) e.vs = flatL (rest l k ++ [e]) := by
  have h1 : (l.drop (k + 1)).length = l.length - (k + 1) := by simp
  rw [spl_flat l _ k (by omega), ← flatL_one e]
  have h2 : (l.take k ++ l.drop (k + 1) ++ l.drop (k + (l.drop (k + 1)).length)).length = l.length := by simp; omega
  rw [spl_flat _ [e] (l.length - 1) (by rw [h2]; simp; omega)]
  have h3 : (rest l k).length = l.length - 1 := rest_len l k h
  have e1 : (l.take k ++ l.drop (k + 1) ++ l.drop (k + (l.drop (k + 1)).length)).take (l.length - 1) = rest l k := by
    rw [List.take_append_of_le_length (by show l.length - 1 ≤ (rest l k).length; omega), List.take_of_length_le (by show (rest l k).length ≤ l.length - 1; omega)]
    rfl
  have e2 : (l.take k ++ l.drop (k + 1) ++ l.drop (k + (l.drop (k + 1)).length)).drop (l.length - 1 + [e].length) = [] := by
    apply List.drop_eq_nil_of_le
    rw [h2]
    simp
    omega
  rw [e1, e2, List.append_nil]
theorem spl_out (l : List Ln) (k : Nat) (h : k < l.length) : ((spl (flatL l) (k * 18) (flatL (l.drop (k + 1)))).take ((l.length - 1) * 18)) = flatL (rest l k) := by
  have h1 : (l.drop (k + 1)).length = l.length - (k + 1) := by simp
  have h3 : (rest l k).length = l.length - 1 := rest_len l k h
  rw [spl_flat l _ k (by omega), flatL_take]
  congr 1
  rw [List.take_append_of_le_length (by show l.length - 1 ≤ (rest l k).length; omega), List.take_of_length_le (by show (rest l k).length ≤ l.length - 1; omega)]
  rfl
def zl : Array Value := #[.int .u32 0, .int .i64 0, .int .u8 0, .int .u8 0, .int .u8 0, .int .u8 0, .int .u8 0, .int .u8 0, .int .u8 0, .int .u8 0, .int .u8 0, .int .u8 0, .int .u8 0, .int .u8 0, .int .u8 0, .int .u8 0, .int .u8 0, .int .u8 0]
theorem Ln.sizeA (e : Ln) : e.vs.toArray.size = 18 := by simp [Ln.len]
theorem Ln.oneA (e : Ln) : e.vs.toArray.all (·.oneCell') = true := all_oneCell_toArray e.one
theorem line_desc : ∃ d, Try.prog.underlying 86 = some d ∧ d.isRow = true := ⟨_, Try.underlying86, rfl⟩
theorem load_line (w : World) (g o : Nat) (e : Ln) (h : w.rangeAt g o e.vs) : (Instr.loadAt 86 (.pointer (some ⟨g, o, none⟩))).run Try.prog w = .ok (.agg e.vs.toArray) w := by
  obtain ⟨d, h1, h2⟩ := line_desc
  exact run_loadAt_mid w g o _ e.vs d h h1 h2 (by rw [line_info, Ln.len])
theorem store_line (w : World) (g o : Nat) (e : Ln) (h : w.there g o 18) : (Instr.storeAt 86 (.pointer (some ⟨g, o, none⟩)) (.agg e.vs.toArray)).run Try.prog w = .ok () (w.setCells g o e.vs) := by
  have := run_storeAt_mid (P := Try.prog) w g o 86 e.vs.toArray (by rw [Ln.sizeA]; exact h) (by rw [line_info, Ln.sizeA]) e.oneA
  simpa using this
theorem store_new (w : World) (e : Ln) (c : Array Value) (hc : c.size = 18) : (Instr.storeAt 86 (.pointer (some ⟨w.heap.size, 0, none⟩)) (.agg e.vs.toArray)).run Try.prog (w.alloc (.cells c 86)) = .ok () (w.alloc (.cells e.vs.toArray 86)) := by
  have := run_storeVar_new (P := Try.prog) w 86 c e.vs.toArray (by rw [line_info, Ln.sizeA]) (by rw [hc, Ln.sizeA]) e.oneA
  simp only [Instr.storeAt, Instr.sureAddr, Sem.run_bind, Sem.run_pure, Result.andThen_ok, this]
theorem range_new (w : World) (e : Ln) (t : TypeId) : (w.alloc (.cells e.vs.toArray t)).rangeAt w.heap.size 0 e.vs := by
  intro j v h
  rw [World.cell?_alloc_new, Nat.zero_add]
  simpa using h
theorem ld_line {ops : Array Oper} {rest : List Oper} {op : Oper} {a : Act} {w : World} {Q : Exit → Act → World → Prop} (g o : Nat) (e : Ln) (hc : w.rangeAt g o e.vs) (hgd : op.guard = none) (x : Operand) (ho : op.op = .load 86 x) (hx : a.eval x = .pointer (some ⟨g, o, none⟩)) (h : wpList Try.prog ops Q rest (a.put op.dst (.agg e.vs.toArray)) w) : wpList Try.prog ops Q (op :: rest) a w := by
  obtain ⟨d, h1, h2⟩ := line_desc
  exact wpList_load_mid hgd _ x ho g o hx e.vs d hc h1 h2 (by rw [line_info, Ln.len]) h
theorem st_line {ops : Array Oper} {rest : List Oper} {op : Oper} {a : Act} {w : World} {Q : Exit → Act → World → Prop} (g o : Nat) (e : Ln) (hc : w.there g o 18) (hgd : op.guard = none) (hds : op.dst = none) (x y : Operand) (ho : op.op = .store 86 x y) (hx : a.eval x = .pointer (some ⟨g, o, none⟩)) (hy : a.eval y = .agg e.vs.toArray) (h : wpList Try.prog ops Q rest a (w.setCells g o e.vs)) : wpList Try.prog ops Q (op :: rest) a w := by
  refine wpList_store_mid hgd _ x y ho g o e.vs.toArray hx hy (by rw [Ln.sizeA]; exact hc) (by rw [line_info, Ln.sizeA]) e.oneA ?_
  rw [hds]
  exact (by simpa using h : wpList Try.prog ops Q rest a (w.setCells g o e.vs.toArray.toList))
theorem st_new {ops : Array Oper} {rest : List Oper} {op : Oper} {a : Act} {Q : Exit → Act → World → Prop} (w : World) (e : Ln) (c : Array Value) (hcs : c.size = 18) (b : Nat) (hb : b = w.heap.size) (hgd : op.guard = none) (hds : op.dst = none) (x y : Operand) (ho : op.op = .store 86 x y) (hx : a.eval x = .pointer (some ⟨b, 0, none⟩)) (hy : a.eval y = .agg e.vs.toArray) (h : wpList Try.prog ops Q rest a (w.alloc (.cells e.vs.toArray 86))) : wpList Try.prog ops Q (op :: rest) a (w.alloc (.cells c 86)) := by
  subst hb
  refine wpList_plain hgd fun K hK => ?_
  unfold Oper.wp execOp
  simp only [ho, hx, hy, Sem.run_bind, Sem.run_pure, store_new w e c hcs, Result.andThen_ok]
  exact hK _ _ (by rw [hds]; exact h)
set_option maxRecDepth 100000 in
set_option maxHeartbeats 2000000 in
theorem use_any (B g k cap : Nat) (l : List Ln) (w : World) (h : w.ownsRow B 86 18 (.slice (some ⟨g, 0, none⟩) l.length cap) l.length (flatL l)) (hk : k < l.length) (h4 : l.length ≤ 4) : Calls Try.prog 37 #[.slice (some ⟨g, 0, none⟩) l.length cap, .int .i64 k] w fun e w' => e = .returned (.pointer (some ⟨g, (l.length - 1) * 18, none⟩)) ∧ w'.ownsRow B 86 18 (.slice (some ⟨g, 0, none⟩) l.length cap) l.length (flatL (rest l k ++ [l.getD k l0])) ∧ Turned (fun k => k = g) w w' := by
  obtain ⟨q, cap', hv, hcap, hel⟩ := own_lines h
  obtain ⟨g', hg1, -, hg2, hrg, hth, -, -, hfr⟩ := hel k hk
  rw [hg1] at hv
  simp only [Value.slice.injEq, Option.some.injEq, Addr.mk.injEq, and_true, true_and] at hv
  obtain ⟨rfl, rfl⟩ := hv
  obtain ⟨e, he⟩ : ∃ e, l.getD k l0 = e := ⟨_, rfl⟩
  rw [he] at hrg ⊢
  obtain ⟨m, hm⟩ : ∃ m, l.length = m := ⟨_, rfl⟩
  obtain ⟨w1, hw1⟩ : ∃ w1, w.alloc (.cells e.vs.toArray 86) = w1 := ⟨_, rfl⟩
  have hsz : w1.heap.size = w.heap.size + 1 := by rw [← hw1]; simp
  have t1 : Turned (fun k => k = g) w w1 := by rw [← hw1]; exact (Turned.refl _ _).alloc _
  have o1 : w1.ownsRow B 86 18 (.slice (some ⟨g, 0, none⟩) l.length cap) l.length (flatL l) := by
    rw [← hw1]
    exact own_turned h ((Turned.refl (fun _ => False) w).alloc _) (fun _ _ q => q)
  obtain ⟨w2, hw2⟩ : ∃ w2, w1.drew.setCells g (k * 18) (flatL (l.drop (k + 1))) = w2 := ⟨_, rfl⟩
  have hthere : ∀ o n, o + n ≤ l.length * 18 → w1.drew.there g o n := by
    intro o n hon j hj
    have c := World.ownsRow.cellAt o1 (o + j) (by omega)
    refine ⟨?_, World.ownsRow.frozenAt o1 _⟩
    show (w1.cell? ⟨g, o + j, none⟩).isSome = true
    rw [c, List.getElem?_eq_getElem (by rw [flatL_len]; omega)]
    rfl
  have HR1 := Hid.in hrg
  have hdl : (l.drop (k + 1)).length = l.length - (k + 1) := by simp
  have C1 : ∀ ad c, (k + 1 < m → ad = ⟨g, (k + 1) * 18, none⟩) → (Builtin.copy_ #[81, 81] 3 #[.slice (some ⟨g, k * 18, none⟩) (m - k) (cap - k), .slice (some ad) (m - (k + 1)) c]).run Try.prog w1.drew = .ok (goInt (m - (k + 1) : Nat)) w2 := by
    intro ad c had
    have := run_copyL w1.drew 3 g (k * 18) (m - k) (cap - k) ad (m - (k + 1)) c (l.drop (k + 1)) (by rw [hdl, hm]; exact (Nat.min_eq_left (by omega)).symm) (fun hne j v hj => by
      have hlt : k + 1 < m := by
        rcases Nat.lt_or_ge (k + 1) m with q | q
        · exact q
        · exact absurd (List.drop_eq_nil_of_le (by omega)) hne
      rw [had hlt, Addr.add_mid]
      have q := World.ownsRow.cells o1 rfl ((k + 1) * 18 + j) v (by rw [← List.getElem?_drop, flatL_drop]; exact hj)
      rw [Addr.add_mid, Nat.zero_add] at q
      exact q) (hthere _ _ (by rw [hdl]; omega))
    rw [hw2, hdl, hm] at this
    exact this
  have HR2 : Hid (w2.rangeAt w.heap.size 0 e.vs) := by
    show w2.rangeAt w.heap.size 0 e.vs
    rw [← hw2]
    refine World.rangeAt_setCells_apart (by rw [← hw1]; exact (World.rangeAt_drew _ _ _ _).2 (range_new w e _)) _ _ _ (Or.inl ?_)
    omega
  have HT2 : Hid (w2.there g ((m - 1) * 18) 18) := by
    show w2.there g ((m - 1) * 18) 18
    rw [← hw2]
    exact World.there_setCells (hthere _ _ (by omega)) _ _ _
  have HF : Hid ((w2.setCells g ((m - 1) * 18) e.vs).ownsRow B 86 18 (.slice (some ⟨g, 0, none⟩) m cap) m (flatL (rest l k ++ [e])) ∧ Turned (fun k => k = g) w (w2.setCells g ((m - 1) * 18) e.vs)) := by
    refine ⟨?_, ?_⟩
    · rw [← hm, ← spl_use l k e hk, ← hw2, hm]
      refine own_spl _ _ _ _ (own_spl _ _ _ _ ?_)
      rw [← hm]
      exact own_turned o1 ((Turned.refl (fun _ => False) w1).drew) (fun _ _ q => q)
    · rw [← hw2]
      exact ((t1.drew).trans (turned_setCells _ _ _)).trans (turned_setCells _ _ _)
  have HC1 := Hid.in C1
  have HW1 := Hid.in hw1
  obtain ⟨hc1, hc2⟩ := hcap
  unfold maxLen at hc2
  rw [hm] at hk h4 hc1 ⊢
  have hw2s : w2.heap.size = w.heap.size + 1 := by rw [← hw2, setCells_hs]; exact hsz
  have hmg : g < w2.heap.size := by omega
  clear h hel hg1 hrg hth hfr he hm hw1 hw2 t1 o1 hthere hdl C1
  go_enter Try.func37, Try.ntmps37
  have R1 := HR1.out
  go_wp2_with (first
    | (refine ld_line g (k * 18) e R1 rfl _ rfl rfl ?_)
    | (refine st_new w e zl rfl w.heap.size rfl rfl rfl _ _ rfl rfl rfl ?_))
  rw [HW1.out]
  clear R1
  have hkm : k ≤ m := by omega
  have hkm1 : k + 1 ≤ m := by omega
  have nck : ¬ cap = k := by omega
  by_cases hck : cap = k + 1
  · obtain rfl : m = k + 1 := by omega
    subst hck
    have hcc : (Builtin.copy_ #[81, 81] 3 #[.slice (some ⟨g, k * 18, none⟩) 1 1, .slice (some ⟨g, 0, none⟩) 0 0]).run Try.prog w1.drew = .ok (goInt 0) w2 := by
      have := HC1.out ⟨g, 0, none⟩ 0 (fun q => by omega)
      simpa using this
    go_region
    have R2 := HR2.out
    have T2 := HT2.out
    simp only [Nat.add_sub_cancel] at T2 ⊢
    go_wp2_with (first
      | (refine ld_line w.heap.size 0 e R2 rfl _ rfl rfl ?_)
      | (refine st_line g (k * 18) e T2 rfl rfl _ _ rfl rfl rfl ?_))
    go_ret
    exact ⟨rfl, HF.out⟩
  · have hcc := HC1.out ⟨g, (k + 1) * 18, none⟩ (cap - (k + 1)) (fun _ => rfl)
    go_region
    have R2 := HR2.out
    have T2 := HT2.out
    have hm1 : ((m : Int) - 1) = ((m - 1 : Nat) : Int) := by omega
    have hm2 : m - 1 < m := by omega
    go_wp2_with (first
      | (refine ld_line w.heap.size 0 e R2 rfl _ rfl rfl ?_)
      | (refine st_line g ((m - 1) * 18) e T2 rfl rfl _ _ rfl rfl rfl ?_))
    go_ret
    exact ⟨rfl, HF.out⟩
end Go.Proofs.Ytbbaopldebdoiaa
