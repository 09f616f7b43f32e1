/-
  BUS: bytes: what is copied, a line's bytes in memory.
-/
import Derived.Test.YtbbaopldebdoiaaBu7
import Derived.Laws.CopyRow
import Derived.Laws.OwnMore
namespace Go.Proofs.Ytbbaopldebdoiaa
open Go Go.RowKit
theorem arr_one (b : Nat → Nat) : (bvs b).toArray.all (·.oneCell') = true := all_oneCell_toArray (bvs_one b)
theorem st_arr {ops : Array Oper} {rest : List Oper} {op : Oper} {a : Act} {w : World} {Q : Exit → Act → World → Prop} (g o : Nat) (b : Nat → Nat) (hc : w.there g o 16) (hgd : op.guard = none) (hds : op.dst = none) (x y : Operand) (ho : op.op = .store 73 x y) (hx : a.eval x = .pointer (some ⟨g, o, none⟩)) (hy : a.eval y = .agg (bvs b).toArray) (h : wpList Try.prog ops Q rest a (w.setCells g o (bvs b))) : wpList Try.prog ops Q (op :: rest) a w := by
  refine wpList_store_mid hgd _ x y ho g o (bvs b).toArray hx hy (by simp [bvs_len]; exact hc) (by rw [arr_info]; simp [bvs_len]) (arr_one b) ?_
  rw [hds]
  exact (by simpa using h : wpList Try.prog ops Q rest a (w.setCells g o (bvs b).toArray.toList))
theorem ld_arr {ops : Array Oper} {rest : List Oper} {op : Oper} {a : Act} {w : World} {Q : Exit → Act → World → Prop} (g o : Nat) (b : Nat → Nat) (hc : w.rangeAt g o (bvs b)) (hgd : op.guard = none) (x : Operand) (ho : op.op = .load 73 x) (hx : a.eval x = .pointer (some ⟨g, o, none⟩)) (h : wpList Try.prog ops Q rest (a.put op.dst (.agg (bvs b).toArray)) w) : wpList Try.prog ops Q (op :: rest) a w :=
  wpList_load_mid hgd _ x ho g o hx (bvs b) _ hc Try.underlying73 rfl (by rw [arr_info, bvs_len]) h
theorem byte_info : (Try.prog.info? 5).map (·.size) = some 1 := by kernel_rfl
theorem copy16 (w : World) (ty : TypeId) (g o M a n n2 : Nat) (b : Nat → Nat) (k1 k2 : Nat) (hn : Nat.min n n2 = 16) (hr : w.rangeAt M a (bvs b)) (ht : w.there g o 16) : (Builtin.copy_ #[32, 32] ty #[.slice (some ⟨g, o, none⟩) n2 k1, .slice (some ⟨M, a, none⟩) n k2]).run Try.prog w = .ok (goInt 16) (w.setCells g o (bvs b)) := by
  have := run_copy_cells (P := Try.prog) w 32 32 ty 5 g o n2 k1 ⟨M, a, none⟩ n k2 (bvs b) Try.underlying32 byte_info (by rw [bvs_len]; exact hn.symm) (fun j v hj => by rw [Addr.add_mid]; exact hr j v hj) (fun j hj => (ht j (by rw [bvs_len] at hj; exact hj)).1) (fun j hj => (ht j (by rw [bvs_len] at hj; exact hj)).2) (bvs_one b)
  rw [bvs_len] at this
  exact this
theorem range_row {w : World} {M L len : Nat} {m : Nat → Nat} (k : CellsAt len w M (fun o => .int .u8 (m o))) (h : L + 16 ≤ len) : w.rangeAt M L (bvs (fun t => m (L + t))) := by
  intro j v hv
  have hj : j < 16 := by
    have := (List.getElem?_eq_some_iff.1 hv).1
    rwa [bvs_len] at this
  rw [bvs_at _ _ hj] at hv
  rw [k.cell (L + j) (by omega)]
  exact hv
theorem there_row {w : World} {M L len : Nat} {c : Nat → Value} (k : CellsAt len w M c) (h : L + 16 ≤ len) : w.there M L 16 := fun j hj => ⟨by rw [k.cell (L + j) (by omega)]; rfl, k.free _⟩
def z16 : Array Value := #[.int .u8 0, .int .u8 0, .int .u8 0, .int .u8 0, .int .u8 0, .int .u8 0, .int .u8 0, .int .u8 0, .int .u8 0, .int .u8 0, .int .u8 0, .int .u8 0, .int .u8 0, .int .u8 0, .int .u8 0, .int .u8 0]
theorem there_arr (w : World) (t : TypeId) : (w.alloc (.cells z16 t)).there w.heap.size 0 16 := by
  intro j hj
  refine ⟨?_, World.frozen?_alloc_at _ _ _ _ rfl⟩
  rw [World.cell?_alloc_new, Nat.zero_add, Array.getElem?_eq_getElem (by show j < 16; exact hj)]
  rfl
theorem results_arr {fn : Func} {p : Tmp} (h : fn.results = #[.cell p 73]) (tmps : Array Value) (w : World) (g : Nat) (b : Nat → Nat) (hp : tmps.getD p undef = .pointer (some ⟨g, 0, none⟩)) (hg : w.rangeAt g 0 (bvs b)) : (results fn tmps).run Try.prog w = .ok (.agg (bvs b).toArray) w := by
  have hp' : tmps[p]?.getD undef = .pointer (some ⟨g, 0, none⟩) := by simpa using hp
  have hl := run_loadVar_mid (P := Try.prog) w g 0 73 (bvs b) _ hg Try.underlying73 rfl (by rw [arr_info, bvs_len])
  simp [results, h, hp', asAddr, hl]
/-- bytes that stand somewhere -/
def HandB (w : World) (q : Option Addr) (n : Nat) (g : Nat → Nat) : Prop := ∀ i, i < n → ∃ c o, q = some ⟨c, o, none⟩ ∧ c < w.heap.size ∧ w.cell? ⟨c, o + i, none⟩ = some (.int .u8 (g i : Nat))
theorem HandB.below {w w' : World} {q : Option Addr} {n : Nat} {g : Nat → Nat} (h : HandB w q n g) (hb : Below w.heap.size w w') : HandB w' q n g := fun i hi => by
  obtain ⟨c, o, h1, h2, h3⟩ := h i hi
  exact ⟨c, o, h1, Nat.lt_of_lt_of_le h2 hb.size, (hb.cell (p := ⟨c, o + i, none⟩) h2).trans h3⟩
theorem hand_row {w : World} {M len : Nat} {m : Nat → Nat} (k : CellsAt len w M (fun o => .int .u8 (m o))) : HandB w (some ⟨M, 0, none⟩) len m := fun i hi => ⟨M, 0, rfl, k.here, by rw [Nat.zero_add]; exact k.cell i hi⟩
theorem frz {w : World} {b : Nat} {c : Array Value} {t : TypeId} (h : w.heap[b]? = some (.cells c t (0, 0))) (o : Nat) : w.frozen? ⟨b, o, none⟩ = false := by
  simp only [World.frozen?, h]
  simp
theorem below_setR {b : Nat} {w x : World} (h : Below b w x) {g : Nat} (hg : b ≤ g) (cs : Array Value) : Below b w (x.setRow g cs) :=
  ⟨h.os, h.tape, h.output, by simpa using h.size, fun k hk => by rw [setRow_other _ _ _ _ (by omega)]; exact h.block k hk⟩
theorem mcopy (x : World) (q : Option Addr) (n cc : Nat) (g : Nat → Nat) (hD : HandB x q n g) (hq0 : q = none → cc = 0) : ∃ y, (Builtin.copy_ #[54, 54] 3 #[.slice (some ⟨x.heap.size, 0, none⟩) n n, .slice q n cc]).run Try.prog (x.alloc (.cells (madeCells #[.int .u8 0] n) 5)) = .ok (goInt n) y ∧ Below x.heap.size x y ∧ CellsAt n y x.heap.size (fun i => .int .u8 (g i : Nat)) := by
  have bA : Below x.heap.size x (x.alloc (.cells (madeCells #[.int .u8 0] n) 5)) := (Below.refl _ _).alloc (Nat.le_refl _) _
  have hs : (Try.prog.info? 5).map (·.size) = some 1 := by kernel_rfl
  have hg : (x.alloc (.cells (madeCells #[.int .u8 0] n) 5)).heap[x.heap.size]? = some (.cells (madeCells #[.int .u8 0] n) 5 (0, 0)) := by
    show (x.heap.push _)[x.heap.size]? = _
    simp
  have hz : (madeCells #[Value.int .u8 0] n).size = n := size_madeCells _ _
  cases q with
  | none =>
    obtain rfl : n = 0 := by
      rcases Nat.eq_zero_or_pos n with h | h
      · exact h
      · obtain ⟨c, o, h1, -⟩ := hD 0 h
        cases h1
    obtain rfl := hq0 rfl
    exact ⟨_, run_copy_nil (P := Try.prog) _ 54 54 3 5 ⟨x.heap.size, 0, none⟩ 0 0 Try.underlying54 (by cases h : Try.prog.info? 5 <;> simp_all), bA, by simp, fun o ho => absurd ho (by omega), frz hg⟩
  | some a =>
    have hD' := hD.below bA
    have hr := run_copy_row (P := Try.prog) _ 54 54 3 5 x.heap.size 0 n n a n cc _ _ ((List.range n).map fun i => .int .u8 (g i : Nat)) Try.underlying54 hs hg (by rw [List.length_map, List.length_range]; exact (Nat.min_self n).symm) (fun j u hj => by
      have hjn : j < n := by
        have := (List.getElem?_eq_some_iff.1 hj).1
        simpa using this
      rw [List.getElem?_map, List.getElem?_range hjn] at hj
      obtain ⟨c, o, h1, h2, h3⟩ := hD' j hjn
      obtain rfl := Option.some.inj h1
      rw [Addr.add_lit, h3]
      exact hj) (by simp [hz]) (by
      intro u hu
      obtain ⟨i, _, rfl⟩ := List.mem_map.1 hu
      rfl)
    refine ⟨_, by simpa using hr, below_setR bA (Nat.le_refl _) _, ?_, fun o ho => ?_, fun o => ?_⟩
    · exact (Array.getElem?_eq_some_iff.1 (setRow_heap _ _ _ _ _ _ hg)).1
    · rw [cell_setRow_same _ _ o _ _ _ _ hg]
      simp [List.getElem?_append, ho]
    · exact frz (setRow_heap _ _ _ _ _ _ hg) o
theorem wpl_make {P : Program} {ops : Array Oper} {Q : Exit → Act → World → Prop} {rest : List Oper} {o : Oper} {a : Act} {w w' : World} {s x : Operand} {t : TypeId} {v u v' : Value} (hg : o.guard = none) (ho : o.op = Op.makeSlice t s x) (hs : a.eval s = v) (hx : a.eval x = u) (hr : (Instr.makeSlice t v u).run P w = .ok v' w') (h : wpList P ops Q rest (a.put o.dst v') w') : wpList P ops Q (o :: rest) a w := by
  unfold wpList
  rw [if_pos (by unfold Region.wanted; rw [hg])]
  refine Or.inl ?_
  unfold Oper.wp
  simp [execOp, ho, hs, hx, hr, Result.andThen]
  exact h
set_option maxRecDepth 100000 in
theorem copied_any (q : Option Addr) (n cc : Nat) (g : Nat → Nat) (w : World) (hD : HandB w q n g) (hq0 : q = none → cc = 0) (hn : n ≤ 4096) : Calls Try.prog 16 #[.slice q n cc] w fun e w' => e = .returned (.slice (some ⟨w.heap.size, 0, none⟩) n n) ∧ Below w.heap.size w w' ∧ CellsAt n w' w.heap.size (fun i => .int .u8 (g i : Nat)) := by
  obtain ⟨y, hc, hb, hk⟩ := mcopy w q n cc g hD hq0
  have HMK := Hid.in (make_run (P := Try.prog) 54 5 (.int .u8 0) 1 Try.underlying54 (by kernel_rfl) rfl n (by omega) (by omega) w)
  have HC := Hid.in hc
  have HB := Hid.in hb
  have HK := Hid.in hk
  clear hc hb hk hD hq0
  go_enter Try.func16, Try.ntmps16
  go_wp2_with (refine wpl_make (v := .int .i64 n) (u := .int .i64 n) rfl rfl rfl rfl HMK.out ?_)
  rw [HC.out]
  go_wp2
  go_ret
  exact ⟨rfl, HB.out, HK.out⟩
end Go.Proofs.Ytbbaopldebdoiaa
