import Derived.Test.YtlogdmnhngbkaaaDoorY04
import Derived.Laws.MakeOwn
/-
  CACHE: New.
-/
namespace Go.Proofs.YtlogdmnhngbkaaaDoor
open Go Go.RowKit
theorem make_run {P : Program} (t e : TypeId) (z : Value) (bytes : Nat) (ht : P.underlying t = some (.slice e)) (hi : (P.info? e).map (fun i => (i.zero, i.size, i.bytes)) = some (some z, 1, bytes)) (hz : z.cells = #[z]) (n : Nat) (hb : (bytes : Int) * n ≤ 281474976710656) (hn : n ≤ 9223372036854775807) : ∀ u : World, (Instr.makeSlice t (.int .i64 n) (.int .i64 n)).run P u = .ok (.slice (some ⟨u.heap.size, 0, none⟩) n n) (u.alloc (.cells (madeCells #[z] n) e)) := fun u => by
  obtain ⟨i, h1, h2, h3, h4⟩ := info_parts hi
  have q := run_make (P := P) u t e i z ht h1 h2 .i64 .i64 n n (by omega) (Int.le_refl _) (by rw [h4]; exact hb) (by omega)
  simpa [h3, hz] using q
theorem made_cell (z : Value) (n i : Nat) (h : i < n) : (madeCells #[z] n)[i]? = some z := by
  simp [madeCells, h, Nat.mod_one]
def isPow (n : Int) : Bool := n == 1 || n == 2 || n == 4 || n == 8 || n == 16
set_option maxRecDepth 100000 in
set_option maxHeartbeats 1000000 in
theorem isShape_good (n : Nat) (k : Int) (w : World) (hn : n = 1 ∨ n = 2 ∨ n = 4 ∨ n = 8 ∨ n = 16) (hk : 1 ≤ k ∧ k ≤ 4) : Calls Tryd.prog 64 #[.agg #[.int .i64 n, .int .i64 k]] w fun e w' => e = .returned (.bool true) ∧ Below w.heap.size w w' := by
  obtain ⟨k1, k4⟩ := hk
  have e1 : bits .and .i64 1 0 = 0 := by decide +kernel
  have e2 : bits .and .i64 2 1 = 0 := by decide +kernel
  have e4 : bits .and .i64 4 3 = 0 := by decide +kernel
  have e8 : bits .and .i64 8 7 = 0 := by decide +kernel
  have e16 : bits .and .i64 16 15 = 0 := by decide +kernel
  rcases hn with rfl | rfl | rfl | rfl | rfl
  all_goals
    go_enter Tryd.func64, Tryd.ntmps64
    go_wp2
    go_ret
    exact ⟨by simp, (Below.refl _ _).alloc (Nat.le_refl _) _⟩
set_option maxRecDepth 100000 in
set_option maxHeartbeats 1000000 in
theorem new_good (B n k : Nat) (w : World) (hB : B ≤ w.heap.size) (hn : n = 1 ∨ n = 2 ∨ n = 4 ∨ n = 8 ∨ n = 16) (hk : 1 ≤ k ∧ k ≤ 4) : Calls Tryd.prog 40 #[.agg #[.int .i64 n, .int .i64 k]] w fun e w' => ∃ p h, e = .returned (.tuple #[.pointer (some ⟨p, 0, none⟩), .nilIface]) ∧ Ch w' B p h n (fun _ => .slice none 0 0) ⟨k, n, fun _ => []⟩ ∧ Below w.heap.size w w' ∧ w.heap.size ≤ p ∧ w.heap.size ≤ h := by
  have HN := Hid.in hn
  have HKK := Hid.in hk
  have hn16 : n ≤ 16 := by omega
  have hmk := make_run (P := Tryd.prog) 139 126 (.slice none 0 0) 24 Tryd.underlying139 (by kernel_rfl) rfl n (by omega) (by omega)
  have hb0 : Below w.heap.size w (w.alloc (.cells #[.int .i64 n, .int .i64 k] 56)) := (Below.refl _ _).alloc (Nat.le_refl _) _
  obtain ⟨X, hX⟩ : ∃ X, w.alloc (.cells #[.int .i64 n, .int .i64 k] 56) = X := ⟨_, rfl⟩
  have HX := Hid.in hX
  have cX : X.cell? ⟨w.heap.size, 0, none⟩ = some (.int .i64 n) ∧ X.cell? ⟨w.heap.size, 1, none⟩ = some (.int .i64 k) ∧ w.heap.size < X.heap.size := by
    rw [← hX]
    exact ⟨World.cell?_alloc_new w _ _ 0, World.cell?_alloc_new w _ _ 1, by simp⟩
  have HCX := Hid.in cX
  rw [hX] at hb0
  have HB0 := Hid.in hb0
  clear hn hk hX cX hb0
  go_enter Tryd.func40, Tryd.ntmps40
  go_wp2_with (go_at_call 64; rw [HX.out]; refine (isShape_good n k _ HN.out (by have := HKK.out; omega)).mono ?_; rintro e w1 ⟨rfl, hb⟩; have HB := Hid.in hb; have c0 := (hb.cell (p := ⟨w.heap.size, 0, none⟩) HCX.out.2.2).trans HCX.out.1; have c1 := (hb.cell (p := ⟨w.heap.size, 1, none⟩) HCX.out.2.2).trans HCX.out.2.1; have hw1 := Nat.lt_of_lt_of_le HCX.out.2.2 hb.size; clear hb)
  go_region
  go_wp2
  refine bodyPost_ret (results_tmp2 Tryd.results40 _ _ _) rfl ?_
  have hs1 : w.heap.size ≤ w1.heap.size := by omega
  refine ⟨w1.heap.size + 1, w1.heap.size, rfl, ?_, ?_, by omega, hs1⟩
  · refine Ch.drew ⟨?_, ?_, fun i hi => ⟨rfl, Or.inl ⟨rfl, rfl⟩⟩, by omega, fun i hi => by simp [Value.ownBlock], fun i hi => by simp [Value.ownBlock], fun a b q ha hb hab hq => by simp [Value.ownBlock], fun i hi => by show 0 ≤ k; omega, ?_, by omega⟩
    · have q := cells_new (n := 2) (g := cv k w1.heap.size n n) (t := 141) (c := #[.int .i64 k, .slice (some ⟨w1.heap.size, 0, none⟩) n n]) (w1.alloc (.cells (madeCells #[.slice none 0 0] n) 126)) (fun i hi => by
        match i, hi with
        | 0, _ => rfl
        | 1, _ => rfl)
      rw [World.size_alloc] at q
      exact q
    · exact (cells_new (t := 126) w1 (made_cell (.slice none 0 0) n)).alloc _
    · have h1 := HKK.out
      have h2 := HN.out
      show k ≤ 4 ∧ 1 ≤ k ∧ 1 ≤ n ∧ n ≤ 16 ∧ n ≤ n ∧ n ≤ 16
      omega
  · exact ((((HB0.out.trans (HB.out.mono HB0.out.size)).alloc (by omega) _).alloc (by simp; omega) _)).drew
end Go.Proofs.YtlogdmnhngbkaaaDoor
/-
  THE ANSWER's LINES IN MEMORY.
-/
namespace Go.Proofs.YtlogdmnhngbkaaaDoor
open Go Go.RowKit
def Ln.rv (e : Ln) : List Value := .int .i64 e.a :: .int .i64 e.s :: bvs e.b
theorem Ln.rlen (e : Ln) : e.rv.length = 18 := by simp [Ln.rv, bvs_len]
theorem Ln.rat2 (e : Ln) (j : Nat) (h : j < 16) : e.rv[2 + j]? = some (.int .u8 (e.b j)) := by
  rw [Nat.add_comm]
  exact bvs_at e.b j h
theorem Ln.rone (e : Ln) : ∀ u ∈ e.rv, u.oneCell' = true := by
  intro u hu
  simp only [Ln.rv, List.mem_cons] at hu
  rcases hu with rfl | rfl | hu
  · rfl
  · rfl
  · exact bvs_one _ u hu
def flatR : List Ln → List Value
  | [] => []
  | e :: l => e.rv ++ flatR l
theorem flatR_len : ∀ l : List Ln, (flatR l).length = l.length * 18
  | [] => rfl
  | e :: l => by simp only [flatR, List.length_append, flatR_len l, List.length_cons, Ln.rlen]; omega
theorem flatR_app : ∀ l k : List Ln, flatR (l ++ k) = flatR l ++ flatR k
  | [], k => rfl
  | e :: l, k => by simp only [flatR, List.cons_append, flatR_app l k, List.append_assoc]
theorem flatR_one (e : Ln) : flatR [e] = e.rv := by simp [flatR]
theorem flatR_ones : ∀ (l : List Ln), ∀ u ∈ flatR l, u.oneCell' = true
  | [], u, h => by simp [flatR] at h
  | e :: l, u, h => by
    simp only [flatR, List.mem_append] at h
    rcases h with h | h
    · exact e.rone u h
    · exact flatR_ones l u h
theorem flatR_at : ∀ (l : List Ln) (i j : Nat), i < l.length → j < 18 → (flatR l)[i * 18 + j]? = (l.getD i l0).rv[j]?
  | [], i, j, h, _ => by simp at h
  | e :: l, 0, j, _, hj => by
    simp only [flatR, Nat.zero_mul, Nat.zero_add, List.getD_cons_zero]
    exact List.getElem?_append_left (by rw [Ln.rlen]; omega)
  | e :: l, i + 1, j, h, hj => by
    simp only [flatR, List.getD_cons_succ]
    rw [List.getElem?_append_right (by rw [Ln.rlen]; omega)]
    have e1 : (i + 1) * 18 + j - e.rv.length = i * 18 + j := by rw [Ln.rlen]; omega
    rw [e1]
    exact flatR_at l i j (by simp at h; omega) hj
theorem flatR_take : ∀ (l : List Ln) (k : Nat), (flatR l).take (k * 18) = flatR (l.take k)
  | [], k => by simp [flatR]
  | e :: l, 0 => by simp [flatR]
  | e :: l, k + 1 => by
    simp only [flatR, List.take_succ_cons]
    have e1 : (k + 1) * 18 = e.rv.length + k * 18 := by rw [Ln.rlen]; omega
    rw [e1, List.take_length_add_append, flatR_take l k]
theorem flatR_drop : ∀ (l : List Ln) (k : Nat), (flatR l).drop (k * 18) = flatR (l.drop k)
  | [], k => by simp [flatR]
  | e :: l, 0 => by simp [flatR]
  | e :: l, k + 1 => by
    simp only [flatR, List.drop_succ_cons]
    have e1 : (k + 1) * 18 = e.rv.length + k * 18 := by rw [Ln.rlen]; omega
    rw [e1, List.drop_length_add_append, flatR_drop l k]
/-- a row of lines, seen by its places -/
theorem own_rlines {x : World} {B : Nat} {e : TypeId} {v : Value} {l : List Ln} (h : x.ownsRow B e 18 v l.length (flatR l)) : ∃ q cap, v = .slice q l.length cap ∧ (l.length ≤ cap ∧ cap ≤ maxLen) ∧ (∀ i, i < l.length → ∃ g, q = some ⟨g, 0, none⟩ ∧ B ≤ g ∧ g < x.heap.size ∧ x.rangeAt g (i * 18) (l.getD i l0).rv ∧ x.there g (i * 18) 18 ∧ x.cell? ⟨g, i * 18, none⟩ = some (.int .i64 (l.getD i l0).a) ∧ x.cell? ⟨g, i * 18 + 1, none⟩ = some (.int .i64 (l.getD i l0).s) ∧ ∀ o, x.frozen? ⟨g, o, none⟩ = false) := by
  have h0 := h
  obtain ⟨h1, h2⟩ := h
  rcases h2 with ⟨hv, hn⟩ | ⟨g, cap, cur, rfl, b2, b3, b4, b5, b6, b7⟩
  · refine ⟨none, 0, by rw [hv, hn], ⟨by omega, by unfold maxLen; omega⟩, fun i hi => by omega⟩
  · refine ⟨_, cap, rfl, ⟨b4, b5⟩, fun i hi => ⟨g, rfl, b2, (own_base h0 g rfl).2, ?_⟩⟩
    have c : ∀ j, j < 18 → ∀ u, (l.getD i l0).rv[j]? = some u → x.cell? ⟨g, i * 18 + j, none⟩ = some u := by
      intro j hj u hu
      have q := World.ownsRow.cells h0 rfl (i * 18 + j) u ((flatR_at l i j hi hj).trans hu)
      rwa [Addr.add_lit, Nat.zero_add] at q
    have hf : ∀ o, x.frozen? ⟨g, o, none⟩ = false := fun o => by simp [World.frozen?, b3]
    refine ⟨fun j v hv => ?_, fun j hj => ⟨?_, hf _⟩, c 0 (by omega) _ rfl, c 1 (by omega) _ rfl, hf⟩
    · have hj : j < (l.getD i l0).rv.length := (List.getElem?_eq_some_iff.1 hv).1
      rw [Ln.rlen] at hj
      exact c j hj v hv
    · rw [c j hj _ (List.getElem?_eq_getElem (by rw [Ln.rlen]; exact hj))]
      rfl
theorem own_rcut {x : World} {B : Nat} {e : TypeId} {q : Option Addr} {m cap : Nat} {l : List Ln} (h : x.ownsRow B e 18 (.slice q l.length cap) l.length (flatR l)) (hm : m ≤ l.length) : x.ownsRow B e 18 (.slice q m cap) m (flatR (l.take m)) := by
  obtain ⟨h1, h2⟩ := h
  have hl : (l.take m).length = m := by rw [List.length_take]; omega
  refine ⟨by rw [flatR_len, hl], ?_⟩
  rcases h2 with ⟨h3, h4⟩ | ⟨g, cap', cur, hv, a2, a3, a4, a5, a6, a7⟩
  · simp only [Value.slice.injEq] at h3
    obtain ⟨rfl, h5, rfl⟩ := h3
    exact Or.inl ⟨by rw [show m = 0 by omega], by omega⟩
  · cases hv
    refine Or.inr ⟨g, _, cur, rfl, a2, a3, by omega, a5, a6, ?_⟩
    have e1 : cur.toList.take (m * 18) = (cur.toList.take (l.length * 18)).take (m * 18) := by
      rw [List.take_take, Nat.min_eq_left (by omega)]
    rw [e1, a7, flatR_take]
theorem flatR_setc : ∀ (l : List Ln) (i o : Nat) (u : Value) (y : Ln), i < l.length → o < 18 → (l.getD i l0).rv.set o u = y.rv → (flatR l).set (i * 18 + o) u = flatR (l.set i y)
  | [], i, o, u, y, h, _, _ => by simp at h
  | e :: l, 0, o, u, y, _, ho, hy => by
    simp only [flatR, List.set_cons_zero, List.getD_cons_zero, Nat.zero_mul, Nat.zero_add] at hy ⊢
    rw [List.set_append, if_pos (by rw [Ln.rlen]; omega), hy]
  | e :: l, i + 1, o, u, y, h, ho, hy => by
    simp only [flatR, List.set_cons_succ, List.getD_cons_succ] at hy ⊢
    rw [← flatR_setc l i o u y (by simp at h; omega) ho hy]
    rw [List.set_append, if_neg (by rw [Ln.rlen]; omega)]
    have e2 : (i + 1) * 18 + o - e.rv.length = i * 18 + o := by rw [Ln.rlen]; omega
    rw [e2]
theorem flatR_setS (l : List Ln) (i s : Nat) (hi : i < l.length) : (flatR l).set (i * 18 + 1) (.int .i64 s) = flatR (l.set i ((l.getD i l0).setS s)) :=
  flatR_setc l i 1 _ _ hi (by omega) rfl
theorem rline_info : (Tryd.prog.info? 104).map (·.size) = some 18 := by kernel_rfl
theorem Ln.rsizeA (e : Ln) : e.rv.toArray.size = 18 := by simp [Ln.rlen]
theorem Ln.roneA (e : Ln) : e.rv.toArray.all (·.oneCell') = true := all_oneCell_toArray e.rone
theorem rline_desc : ∃ d, Tryd.prog.underlying 104 = some d ∧ d.isRow = true := ⟨_, Tryd.underlying104, rfl⟩
def zr : Array Value := #[.int .i64 0, .int .i64 0, .int .u8 0, .int .u8 0, .int .u8 0, .int .u8 0, .int .u8 0, .int .u8 0, .int .u8 0, .int .u8 0, .int .u8 0, .int .u8 0, .int .u8 0, .int .u8 0, .int .u8 0, .int .u8 0, .int .u8 0, .int .u8 0]
theorem rstore_new (w : World) (e : Ln) (c : Array Value) (hc : c.size = 18) : (Instr.storeAt 104 (.pointer (some ⟨w.heap.size, 0, none⟩)) (.agg e.rv.toArray)).run Tryd.prog (w.alloc (.cells c 104)) = .ok () (w.alloc (.cells e.rv.toArray 104)) := by
  have := run_storeVar_new (P := Tryd.prog) w 104 c e.rv.toArray (by rw [rline_info, Ln.rsizeA]) (by rw [hc, Ln.rsizeA]) e.roneA
  simp only [Instr.storeAt, Instr.sureAddr, Sem.run_bind, Sem.run_pure, Result.andThen_ok, this]
theorem rrange_new (w : World) (e : Ln) (t : TypeId) : (w.alloc (.cells e.rv.toArray t)).rangeAt w.heap.size 0 e.rv := by
  intro j v h
  rw [World.cell?_alloc_new, Nat.zero_add]
  simpa using h
theorem rld {ops : Array Oper} {rest : List Oper} {op : Oper} {a : Act} {w : World} {Q : Exit → Act → World → Prop} (g o : Nat) (e : Ln) (hc : w.rangeAt g o e.rv) (hgd : op.guard = none) (x : Operand) (ho : op.op = .load 104 x) (hx : a.eval x = .pointer (some ⟨g, o, none⟩)) (h : wpList Tryd.prog ops Q rest (a.put op.dst (.agg e.rv.toArray)) w) : wpList Tryd.prog ops Q (op :: rest) a w := by
  obtain ⟨d, h1, h2⟩ := rline_desc
  exact wpList_load_mid hgd _ x ho g o hx e.rv d hc h1 h2 (by rw [rline_info, Ln.rlen]) h
theorem rst {ops : Array Oper} {rest : List Oper} {op : Oper} {a : Act} {w : World} {Q : Exit → Act → World → Prop} (g o : Nat) (e : Ln) (hc : w.there g o 18) (hgd : op.guard = none) (hds : op.dst = none) (x y : Operand) (ho : op.op = .store 104 x y) (hx : a.eval x = .pointer (some ⟨g, o, none⟩)) (hy : a.eval y = .agg e.rv.toArray) (h : wpList Tryd.prog ops Q rest a (w.setCells g o e.rv)) : wpList Tryd.prog ops Q (op :: rest) a w := by
  refine wpList_store_mid hgd _ x y ho g o e.rv.toArray hx hy (by rw [Ln.rsizeA]; exact hc) (by rw [rline_info, Ln.rsizeA]) e.roneA ?_
  rw [hds]
  exact (by simpa using h : wpList Tryd.prog ops Q rest a (w.setCells g o e.rv.toArray.toList))
theorem rstn {ops : Array Oper} {rest : List Oper} {op : Oper} {a : Act} {Q : Exit → Act → World → Prop} (w : World) (e : Ln) (c : Array Value) (hcs : c.size = 18) (b : Nat) (hb : b = w.heap.size) (hgd : op.guard = none) (hds : op.dst = none) (x y : Operand) (ho : op.op = .store 104 x y) (hx : a.eval x = .pointer (some ⟨b, 0, none⟩)) (hy : a.eval y = .agg e.rv.toArray) (h : wpList Tryd.prog ops Q rest a (w.alloc (.cells e.rv.toArray 104))) : wpList Tryd.prog ops Q (op :: rest) a (w.alloc (.cells c 104)) := by
  subst hb
  refine wpList_plain hgd fun K hK => ?_
  unfold Oper.wp execOp
  simp only [ho, hx, hy, Sem.run_bind, Sem.run_pure, rstore_new w e c hcs, Result.andThen_ok]
  exact hK _ _ (by rw [hds]; exact h)
theorem rload_var (w : World) (g o : Nat) (e : Ln) (h : w.rangeAt g o e.rv) : (loadVar 104 ⟨g, o, none⟩).run Tryd.prog w = .ok (.agg e.rv.toArray) w := by
  obtain ⟨d, h1, h2⟩ := rline_desc
  exact run_loadVar_mid w g o _ e.rv d h h1 h2 (by rw [rline_info, Ln.rlen])
theorem results_rline {fn : Func} {p : Tmp} (h : fn.results = #[.cell p 104]) (tmps : Array Value) (w : World) (g : Nat) (e : Ln) (hp : tmps.getD p undef = .pointer (some ⟨g, 0, none⟩)) (hg : w.rangeAt g 0 e.rv) : (results fn tmps).run Tryd.prog w = .ok (.agg e.rv.toArray) w := by
  have hp' : tmps[p]?.getD undef = .pointer (some ⟨g, 0, none⟩) := by simpa using hp
  simp [results, h, hp', asAddr, rload_var w g 0 e hg]
theorem results_rline3 {fn : Func} {p u v : Tmp} (h : fn.results = #[.cell p 104, .tmp u, .tmp v]) (tmps : Array Value) (w : World) (g : Nat) (e : Ln) (x y : Value) (hp : tmps.getD p undef = .pointer (some ⟨g, 0, none⟩)) (hx : tmps.getD u undef = x) (hy : tmps.getD v undef = y) (hg : w.rangeAt g 0 e.rv) : (results fn tmps).run Tryd.prog w = .ok (.tuple #[.agg e.rv.toArray, x, y]) w := by
  have hp' : tmps[p]?.getD undef = .pointer (some ⟨g, 0, none⟩) := by simpa using hp
  have hx' : tmps[u]?.getD undef = x := by simpa using hx
  have hy' : tmps[v]?.getD undef = y := by simpa using hy
  simp [results, h, hp', hx', hy', asAddr, rload_var w g 0 e hg]
theorem results_rline2 {fn : Func} {p u : Tmp} (h : fn.results = #[.cell p 104, .tmp u]) (tmps : Array Value) (w : World) (g : Nat) (e : Ln) (x : Value) (hp : tmps.getD p undef = .pointer (some ⟨g, 0, none⟩)) (hx : tmps.getD u undef = x) (hg : w.rangeAt g 0 e.rv) : (results fn tmps).run Tryd.prog w = .ok (.tuple #[.agg e.rv.toArray, x]) w := by
  have hp' : tmps[p]?.getD undef = .pointer (some ⟨g, 0, none⟩) := by simpa using hp
  have hx' : tmps[u]?.getD undef = x := by simpa using hx
  simp [results, h, hp', hx', asAddr, rload_var w g 0 e hg]
def rcv (n ways : Nat) (v : Value) : Nat → Value
  | 0 => .int .i64 n
  | 1 => .int .i64 ways
  | _ => v
/-- the answer's cache at p: its row is v -/
structure RC (x : World) (B p : Nat) (v : Value) (n ways : Nat) (R : List Ln) : Prop where
  c : CellsAt 3 x p (rcv n ways v)
  l : x.ownsRow B 104 18 v R.length (flatR R)
  vp : v.ownBlock ≠ some p
  small : R.length ≤ 64 ∧ 1 ≤ n ∧ n ≤ 16 ∧ 1 ≤ ways ∧ ways ≤ 4
  lo : B ≤ p
theorem RC.turned {Q : Nat → Prop} {x y : World} {B p : Nat} {v : Value} {n ways : Nat} {R : List Ln} (k : RC x B p v n ways R) (t : Turned Q x y) (hp : ¬ Q p) (hv : ∀ j, v.ownBlock = some j → ¬ Q j) : RC y B p v n ways R :=
  ⟨t.cells k.c hp, own_turned k.l t hv, k.vp, k.small, k.lo⟩
theorem RC.below {x y : World} {B p : Nat} {v : Value} {n ways : Nat} {R : List Ln} (k : RC x B p v n ways R) (t : Below x.heap.size x y) : RC y B p v n ways R :=
  k.turned (Q := fun _ => False) ⟨t.os, t.tape, t.output, t.size, fun i hi _ => t.block i hi⟩ (fun q => q) (fun _ _ q => q)
theorem RC.cells {x : World} {B p : Nat} {v : Value} {n ways : Nat} {R : List Ln} (k : RC x B p v n ways R) : p < x.heap.size ∧ x.cell? ⟨p, 0, none⟩ = some (.int .i64 n) ∧ x.cell? ⟨p, 1, none⟩ = some (.int .i64 ways) ∧ x.cell? ⟨p, 2, none⟩ = some v ∧ (∀ o, x.frozen? ⟨p, o, none⟩ = false) :=
  ⟨k.c.here, k.c.cell 0 (by omega), k.c.cell 1 (by omega), k.c.cell 2 (by omega), k.c.free⟩
theorem wpList_append_run {P : Program} {ops : Array Oper} {rest : List Oper} {o : Oper} {a : Act} {w w' : World} {Q : Exit → Act → World → Prop} {s x : Operand} {t : TypeId} {v u v' : Value} (hgd : o.guard = none) (ho : o.op = Op.call { callee := Callee.builtin Builtin.append, args := #[s, x], argTypes := #[t, t] }) (hs : a.eval s = v) (hx : a.eval x = u) (hr : (Builtin.append_ #[t, t] o.type #[v, u]).run P w = .ok v' w') (h : wpList P ops Q rest (a.put o.dst v') w') : wpList P ops Q (o :: rest) a w :=
  wpList_plain hgd fun _ hK => append_op0 ho hs hx hr (hK _ _ h)
end Go.Proofs.YtlogdmnhngbkaaaDoor
/-
  THE ANSWER's CACHE: find, State, aligned, out.
-/
namespace Go.Proofs.YtlogdmnhngbkaaaDoor
open Go Go.RowKit
set_option maxRecDepth 100000 in
set_option maxHeartbeats 1000000 in
theorem rfind_any (B p : Nat) (v : Value) (n ways : Nat) (R : List Ln) (a : Nat) (w : World) (k : RC w B p v n ways R) (ha : a < 4294967296) : Calls Tryd.prog 60 #[.pointer (some ⟨p, 0, none⟩), .int .i64 a] w fun e w' => ((∃ i, At R a i ∧ e = .returned (.int .i64 i)) ∨ No R a ∧ e = .returned (.int .i64 (-1))) ∧ w' = w := by
  obtain ⟨hp, -, -, c2, -⟩ := k.cells
  obtain ⟨q, cap, hv, hcap, hel⟩ := own_rlines k.l
  have h64 := k.small.1
  obtain ⟨m, hm⟩ : ∃ m, R.length = m := ⟨_, rfl⟩
  rw [hm] at hv h64
  rw [hv] at c2
  have HE := Hid.in hel
  have HM := Hid.in hm
  clear hel k hcap hm hv
  go_enter Tryd.func60, Tryd.ntmps60
  go_wp2
  go_loopw [5] (fun u wr => ∃ i : Nat, u = .int .i64 i ∧ i ≤ m ∧ (∀ j, j < i → (R.getD j l0).a ≠ lineOf a) ∧ w = wr) (fun v _ => 65 - (intOf v).toNat)
  case atStart => exact ⟨0, rfl, by omega, fun j hj => by omega, rfl⟩
  case round =>
    obtain ⟨i, rfl, hi, hno, rfl⟩ := hrel
    have HN := Hid.in hno
    clear hno
    by_cases him : i < m
    · obtain ⟨g, rfl, -, hg, -, -, d0, -, -⟩ := HE.out i (by rw [HM.out]; exact him)
      obtain ⟨x, hx⟩ : ∃ x, (R.getD i l0).a = x := ⟨_, rfl⟩
      have HX := Hid.in hx
      rw [hx] at d0
      have hmod : (a : Int).tmod 16 = ((a % 16 : Nat) : Int) := by rw [Int.tmod_eq_emod_of_nonneg (by omega)]; omega
      have hmod2 : (a : Int) % 16 = ((a % 16 : Nat) : Int) := by omega
      obtain ⟨y, hy⟩ : ∃ y, lineOf a = y := ⟨_, rfl⟩
      have hsub : (a : Int) - ((a % 16 : Nat) : Int) = (y : Nat) := by rw [← hy]; unfold lineOf; omega
      obtain ⟨a16, ha16⟩ : ∃ a16, a % 16 = a16 := ⟨_, rfl⟩
      rw [ha16] at hsub hmod hmod2
      have HY := Hid.in hy
      have hle : y ≤ a := by rw [← hy]; unfold lineOf; omega
      clear hx hy ha16
      by_cases he : x = y
      · subst he
        go_wp2
        go_ret
        exact ⟨Or.inl ⟨i, ⟨by rw [HM.out]; exact him, by rw [HX.out, HY.out], HN.out⟩, rfl⟩, rfl⟩
      · have he2 : ¬ (x : Int) = y := by omega
        go_wp2
        go_roundw
        case rel =>
          refine ⟨i + 1, by simp, by omega, fun j hj => ?_, trivial⟩
          rcases Nat.lt_or_ge j i with q | q
          · exact HN.out j q
          · obtain rfl : j = i := by omega
            rw [HX.out, HY.out]
            exact he
        case measure => simp [intOf]; omega
    · have hme : i = m := by omega
      have HMI := Hid.in hme
      clear hme
      go_wp2
      go_ret
      refine ⟨Or.inr ⟨fun j hj => HN.out j (by rw [HMI.out, ← HM.out]; exact hj), rfl⟩, rfl⟩
theorem rfind_at (B p : Nat) (v : Value) (n ways : Nat) (R : List Ln) (a i : Nat) (w : World) (k : RC w B p v n ways R) (ha : a < 4294967296) (hA : At R a i) : Calls Tryd.prog 60 #[.pointer (some ⟨p, 0, none⟩), .int .i64 a] w fun e w' => e = .returned (.int .i64 i) ∧ w' = w := by
  refine (rfind_any B p v n ways R a w k ha).mono ?_
  rintro e w2 ⟨⟨j, hj, rfl⟩ | ⟨hj, rfl⟩, rfl⟩
  · rw [at_inj hA hj]
    exact ⟨rfl, rfl⟩
  · exact absurd hA.2.1 (hj i hA.1)
theorem rfind_no (B p : Nat) (v : Value) (n ways : Nat) (R : List Ln) (a : Nat) (w : World) (k : RC w B p v n ways R) (ha : a < 4294967296) (hA : No R a) : Calls Tryd.prog 60 #[.pointer (some ⟨p, 0, none⟩), .int .i64 a] w fun e w' => e = .returned (.int .i64 (-1)) ∧ w' = w := by
  refine (rfind_any B p v n ways R a w k ha).mono ?_
  rintro e w2 ⟨⟨j, hj, rfl⟩ | ⟨hj, rfl⟩, rfl⟩
  · exact absurd hj.2.1 (hA j hj.1)
  · exact ⟨rfl, rfl⟩
set_option maxRecDepth 100000 in
set_option maxHeartbeats 1000000 in
theorem raligned_any (a : Nat) (z : Int) (w : World) (ha : a < 4294967296) : Calls Tryd.prog 61 #[.int .i64 a, .int .i64 z] w fun e w' => e = .returned (.bool (fits a z)) ∧ w' = w := by
  have hu : undef = Value.tuple #[] := rfl
  have m1 : (a : Int).tmod 1 = 0 := by rw [Int.tmod_eq_emod_of_nonneg (by omega)]; omega
  have m2 : (a : Int).tmod 2 = ((a % 2 : Nat) : Int) := by rw [Int.tmod_eq_emod_of_nonneg (by omega)]; omega
  have m4 : (a : Int).tmod 4 = ((a % 4 : Nat) : Int) := by rw [Int.tmod_eq_emod_of_nonneg (by omega)]; omega
  by_cases h1 : z = 1
  · subst h1
    have e1 : fits a 1 = true := rfl
    rw [e1]
    go_enter Tryd.func61, Tryd.ntmps61
    go_wp2
    go_ret
    exact ⟨by simp, rfl⟩
  · by_cases h2 : z = 2
    · subst h2
      have e1 : fits a 2 = decide (a % 2 = 0) := by simp [fits]
      rw [e1]
      go_enter Tryd.func61, Tryd.ntmps61
      go_wp2
      go_ret
      refine ⟨?_, rfl⟩
      by_cases q : a % 2 = 0
      · have : (a : Int) % 2 = 0 := by omega
        simp [q, this]
      · have : ¬ (a : Int) % 2 = 0 := by omega
        simp [q, this]
    · by_cases h4 : z = 4
      · subst h4
        have e1 : fits a 4 = decide (a % 4 = 0) := by simp [fits]
        rw [e1]
        go_enter Tryd.func61, Tryd.ntmps61
        go_wp2
        go_ret
        refine ⟨?_, rfl⟩
        by_cases q : a % 4 = 0
        · have : (a : Int) % 4 = 0 := by omega
          simp [q, this]
        · have : ¬ (a : Int) % 4 = 0 := by omega
          simp [q, this]
      · have e1 : fits a z = false := by simp [fits, h1, h2, h4]
        rw [e1]
        have d1 : (z == 1) = false := by simp [h1]
        have d2 : (z == 2) = false := by simp [h2]
        have d4 : (z == 4) = false := by simp [h4]
        go_enter Tryd.func61, Tryd.ntmps61
        go_wp2
        go_ret
        exact ⟨rfl, rfl⟩
set_option maxRecDepth 100000 in
set_option maxHeartbeats 1000000 in
theorem rstate_at (B p : Nat) (v : Value) (n ways : Nat) (R : List Ln) (a i : Nat) (w : World) (k : RC w B p v n ways R) (ha : a < 4294967296) (hA : At R a i) : Calls Tryd.prog 37 #[.pointer (some ⟨p, 0, none⟩), .int .i64 a] w fun e w' => e = .returned (.int .i64 ((R.getD i l0).s : Nat)) ∧ w' = w := by
  obtain ⟨hp, -, -, c2, -⟩ := k.cells
  obtain ⟨q, cap, hv, hcap, hel⟩ := own_rlines k.l
  obtain ⟨g, rfl, -, hg, -, -, -, d1, -⟩ := hel i hA.1
  have hil := hA.1
  have h64 := k.small.1
  obtain ⟨m, hm⟩ : ∃ m, R.length = m := ⟨_, rfl⟩
  rw [hm] at hv hil h64
  rw [hv] at c2
  obtain ⟨s, hs⟩ : ∃ s, (R.getD i l0).s = s := ⟨_, rfl⟩
  rw [hs] at d1 ⊢
  have HK := Hid.in k
  have HA := Hid.in hA
  clear hel hcap hv hm hs k hA
  go_enter Tryd.func37, Tryd.ntmps37
  go_wp2_with (go_at_call 60; refine (rfind_at B p v n ways R a i _ HK.out ha HA.out).mono ?_; rintro e w1 ⟨rfl, hww⟩; rw [hww]; clear hww)
  go_ret
  exact ⟨rfl, rfl⟩
set_option maxRecDepth 100000 in
set_option maxHeartbeats 1000000 in
theorem rstate_no (B p : Nat) (v : Value) (n ways : Nat) (R : List Ln) (a : Nat) (w : World) (k : RC w B p v n ways R) (ha : a < 4294967296) (hA : No R a) : Calls Tryd.prog 37 #[.pointer (some ⟨p, 0, none⟩), .int .i64 a] w fun e w' => e = .returned (.int .i64 0) ∧ w' = w := by
  have HK := Hid.in k
  have HA := Hid.in hA
  clear k hA
  go_enter Tryd.func37, Tryd.ntmps37
  go_wp2_with (go_at_call 60; refine (rfind_no B p v n ways R a _ HK.out ha HA.out).mono ?_; rintro e w1 ⟨rfl, hww⟩; rw [hww]; clear hww)
  go_ret
  exact ⟨rfl, rfl⟩
end Go.Proofs.YtlogdmnhngbkaaaDoor
