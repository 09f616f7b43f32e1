import Derived.Test.YtlogdmnhngbkaaaDoorY15
import Derived.Laws.CopyRow
import Derived.Laws.OwnMore
import Derived.Deep.QuietTactic
/-
  BUS: bytes: what is copied, a line's bytes in memory.
-/
namespace Go.Proofs.YtlogdmnhngbkaaaDoor
open Go Go.RowKit
theorem arr_one (b : Nat → Nat) : (bvs b).toArray.all (·.oneCell') = true := all_oneCell_toArray (bvs_one b)
theorem st_arr {ops : Array Oper} {rest : List Oper} {op : Oper} {a : Act} {w : World} {Q : Exit → Act → World → Prop} (g o : Nat) (b : Nat → Nat) (hc : w.there g o 16) (hgd : op.guard = none) (hds : op.dst = none) (x y : Operand) (ho : op.op = .store 98 x y) (hx : a.eval x = .pointer (some ⟨g, o, none⟩)) (hy : a.eval y = .agg (bvs b).toArray) (h : wpList Tryd.prog ops Q rest a (w.setCells g o (bvs b))) : wpList Tryd.prog ops Q (op :: rest) a w := by
  refine wpList_store_mid hgd _ x y ho g o (bvs b).toArray hx hy (by simp [bvs_len]; exact hc) (by rw [arr_info]; simp [bvs_len]) (arr_one b) ?_
  rw [hds]
  exact (by simpa using h : wpList Tryd.prog ops Q rest a (w.setCells g o (bvs b).toArray.toList))
theorem ld_arr {ops : Array Oper} {rest : List Oper} {op : Oper} {a : Act} {w : World} {Q : Exit → Act → World → Prop} (g o : Nat) (b : Nat → Nat) (hc : w.rangeAt g o (bvs b)) (hgd : op.guard = none) (x : Operand) (ho : op.op = .load 98 x) (hx : a.eval x = .pointer (some ⟨g, o, none⟩)) (h : wpList Tryd.prog ops Q rest (a.put op.dst (.agg (bvs b).toArray)) w) : wpList Tryd.prog ops Q (op :: rest) a w :=
  wpList_load_mid hgd _ x ho g o hx (bvs b) _ hc Tryd.underlying98 rfl (by rw [arr_info, bvs_len]) h
theorem byte_info : (Tryd.prog.info? 5).map (·.size) = some 1 := by kernel_rfl
theorem copy16 (w : World) (ty : TypeId) (g o M a n n2 : Nat) (b : Nat → Nat) (k1 k2 : Nat) (hn : Nat.min n n2 = 16) (hr : w.rangeAt M a (bvs b)) (ht : w.there g o 16) : (Builtin.copy_ #[23, 23] ty #[.slice (some ⟨g, o, none⟩) n2 k1, .slice (some ⟨M, a, none⟩) n k2]).run Tryd.prog w = .ok (goInt 16) (w.setCells g o (bvs b)) := by
  have := run_copy_cells (P := Tryd.prog) w 23 23 ty 5 g o n2 k1 ⟨M, a, none⟩ n k2 (bvs b) Tryd.underlying23 byte_info (by rw [bvs_len]; exact hn.symm) (fun j v hj => by rw [Addr.add_mid]; exact hr j v hj) (fun j hj => (ht j (by rw [bvs_len] at hj; exact hj)).1) (fun j hj => (ht j (by rw [bvs_len] at hj; exact hj)).2) (bvs_one b)
  rw [bvs_len] at this
  exact this
theorem range_row {w : World} {M L len : Nat} {m : Nat → Nat} (k : CellsAt len w M (fun o => .int .u8 (m o))) (h : L + 16 ≤ len) : w.rangeAt M L (bvs (fun t => m (L + t))) := by
  intro j v hv
  have hj : j < 16 := by
    have := (List.getElem?_eq_some_iff.1 hv).1
    rwa [bvs_len] at this
  rw [bvs_at _ _ hj] at hv
  rw [k.cell (L + j) (by omega)]
  exact hv
theorem there_row {w : World} {M L len : Nat} {c : Nat → Value} (k : CellsAt len w M c) (h : L + 16 ≤ len) : w.there M L 16 := fun j hj => ⟨by rw [k.cell (L + j) (by omega)]; rfl, k.free _⟩
def z16 : Array Value := #[.int .u8 0, .int .u8 0, .int .u8 0, .int .u8 0, .int .u8 0, .int .u8 0, .int .u8 0, .int .u8 0, .int .u8 0, .int .u8 0, .int .u8 0, .int .u8 0, .int .u8 0, .int .u8 0, .int .u8 0, .int .u8 0]
theorem there_arr (w : World) (t : TypeId) : (w.alloc (.cells z16 t)).there w.heap.size 0 16 := by
  intro j hj
  refine ⟨?_, World.frozen?_alloc_at _ _ _ _ rfl⟩
  rw [World.cell?_alloc_new, Nat.zero_add, Array.getElem?_eq_getElem (by show j < 16; exact hj)]
  rfl
theorem results_arr {fn : Func} {p : Tmp} (h : fn.results = #[.cell p 98]) (tmps : Array Value) (w : World) (g : Nat) (b : Nat → Nat) (hp : tmps.getD p undef = .pointer (some ⟨g, 0, none⟩)) (hg : w.rangeAt g 0 (bvs b)) : (results fn tmps).run Tryd.prog w = .ok (.agg (bvs b).toArray) w := by
  have hp' : tmps[p]?.getD undef = .pointer (some ⟨g, 0, none⟩) := by simpa using hp
  have hl := run_loadVar_mid (P := Tryd.prog) w g 0 98 (bvs b) _ hg Tryd.underlying98 rfl (by rw [arr_info, bvs_len])
  simp [results, h, hp', asAddr, hl]
/-- bytes that stand somewhere -/
def HandB (w : World) (q : Option Addr) (n : Nat) (g : Nat → Nat) : Prop := ∀ i, i < n → ∃ c o, q = some ⟨c, o, none⟩ ∧ c < w.heap.size ∧ w.cell? ⟨c, o + i, none⟩ = some (.int .u8 (g i : Nat))
theorem HandB.below {w w' : World} {q : Option Addr} {n : Nat} {g : Nat → Nat} (h : HandB w q n g) (hb : Below w.heap.size w w') : HandB w' q n g := fun i hi => by
  obtain ⟨c, o, h1, h2, h3⟩ := h i hi
  exact ⟨c, o, h1, Nat.lt_of_lt_of_le h2 hb.size, (hb.cell (p := ⟨c, o + i, none⟩) h2).trans h3⟩
theorem hand_row {w : World} {M len : Nat} {m : Nat → Nat} (k : CellsAt len w M (fun o => .int .u8 (m o))) : HandB w (some ⟨M, 0, none⟩) len m := fun i hi => ⟨M, 0, rfl, k.here, by rw [Nat.zero_add]; exact k.cell i hi⟩
theorem frz {w : World} {b : Nat} {c : Array Value} {t : TypeId} (h : w.heap[b]? = some (.cells c t (0, 0))) (o : Nat) : w.frozen? ⟨b, o, none⟩ = false := by
  simp only [World.frozen?, h]
  simp
theorem below_setR {b : Nat} {w x : World} (h : Below b w x) {g : Nat} (hg : b ≤ g) (cs : Array Value) : Below b w (x.setRow g cs) :=
  ⟨h.os, h.tape, h.output, by simpa using h.size, fun k hk => by rw [setRow_other _ _ _ _ (by omega)]; exact h.block k hk⟩
theorem mcopy (x : World) (q : Option Addr) (n cc : Nat) (g : Nat → Nat) (hD : HandB x q n g) (hq0 : q = none → cc = 0) : ∃ y, (Builtin.copy_ #[67, 67] 3 #[.slice (some ⟨x.heap.size, 0, none⟩) n n, .slice q n cc]).run Tryd.prog (x.alloc (.cells (madeCells #[.int .u8 0] n) 5)) = .ok (goInt n) y ∧ Below x.heap.size x y ∧ CellsAt n y x.heap.size (fun i => .int .u8 (g i : Nat)) := by
  have bA : Below x.heap.size x (x.alloc (.cells (madeCells #[.int .u8 0] n) 5)) := (Below.refl _ _).alloc (Nat.le_refl _) _
  have hs : (Tryd.prog.info? 5).map (·.size) = some 1 := by kernel_rfl
  have hg : (x.alloc (.cells (madeCells #[.int .u8 0] n) 5)).heap[x.heap.size]? = some (.cells (madeCells #[.int .u8 0] n) 5 (0, 0)) := by
    show (x.heap.push _)[x.heap.size]? = _
    simp
  have hz : (madeCells #[Value.int .u8 0] n).size = n := size_madeCells _ _
  cases q with
  | none =>
    obtain rfl : n = 0 := by
      rcases Nat.eq_zero_or_pos n with h | h
      · exact h
      · obtain ⟨c, o, h1, -⟩ := hD 0 h
        cases h1
    obtain rfl := hq0 rfl
    exact ⟨_, run_copy_nil (P := Tryd.prog) _ 67 67 3 5 ⟨x.heap.size, 0, none⟩ 0 0 Tryd.underlying67 (by cases h : Tryd.prog.info? 5 <;> simp_all), bA, by simp, fun o ho => absurd ho (by omega), frz hg⟩
  | some a =>
    have hD' := hD.below bA
    have hr := run_copy_row (P := Tryd.prog) _ 67 67 3 5 x.heap.size 0 n n a n cc _ _ ((List.range n).map fun i => .int .u8 (g i : Nat)) Tryd.underlying67 hs hg (by rw [List.length_map, List.length_range]; exact (Nat.min_self n).symm) (fun j u hj => by
      have hjn : j < n := by
        have := (List.getElem?_eq_some_iff.1 hj).1
        simpa using this
      rw [List.getElem?_map, List.getElem?_range hjn] at hj
      obtain ⟨c, o, h1, h2, h3⟩ := hD' j hjn
      obtain rfl := Option.some.inj h1
      rw [Addr.add_lit, h3]
      exact hj) (by simp [hz]) (by
      intro u hu
      obtain ⟨i, _, rfl⟩ := List.mem_map.1 hu
      rfl)
    refine ⟨_, by simpa using hr, below_setR bA (Nat.le_refl _) _, ?_, fun o ho => ?_, fun o => ?_⟩
    · exact (Array.getElem?_eq_some_iff.1 (setRow_heap _ _ _ _ _ _ hg)).1
    · rw [cell_setRow_same _ _ o _ _ _ _ hg]
      simp [List.getElem?_append, ho]
    · exact frz (setRow_heap _ _ _ _ _ _ hg) o
theorem wpl_make {P : Program} {ops : Array Oper} {Q : Exit → Act → World → Prop} {rest : List Oper} {o : Oper} {a : Act} {w w' : World} {s x : Operand} {t : TypeId} {v u v' : Value} (hg : o.guard = none) (ho : o.op = Op.makeSlice t s x) (hs : a.eval s = v) (hx : a.eval x = u) (hr : (Instr.makeSlice t v u).run P w = .ok v' w') (h : wpList P ops Q rest (a.put o.dst v') w') : wpList P ops Q (o :: rest) a w := by
  unfold wpList
  rw [if_pos (by unfold Region.wanted; rw [hg])]
  refine Or.inl ?_
  unfold Oper.wp
  simp [execOp, ho, hs, hx, hr, Result.andThen]
  exact h
set_option maxRecDepth 100000 in
theorem copied_any (q : Option Addr) (n cc : Nat) (g : Nat → Nat) (w : World) (hD : HandB w q n g) (hq0 : q = none → cc = 0) (hn : n ≤ 4096) : Calls Tryd.prog 38 #[.slice q n cc] w fun e w' => e = .returned (.slice (some ⟨w.heap.size, 0, none⟩) n n) ∧ Below w.heap.size w w' ∧ CellsAt n w' w.heap.size (fun i => .int .u8 (g i : Nat)) := by
  obtain ⟨y, hc, hb, hk⟩ := mcopy w q n cc g hD hq0
  have HMK := Hid.in (make_run (P := Tryd.prog) 67 5 (.int .u8 0) 1 Tryd.underlying67 (by kernel_rfl) rfl n (by omega) (by omega) w)
  have HC := Hid.in hc
  have HB := Hid.in hb
  have HK := Hid.in hk
  clear hc hb hk hD hq0
  go_enter Tryd.func38, Tryd.ntmps38
  go_wp2_with (refine wpl_make (v := .int .i64 n) (u := .int .i64 n) rfl rfl rfl rfl HMK.out ?_)
  rw [HC.out]
  go_wp2
  go_ret
  exact ⟨rfl, HB.out, HK.out⟩
end Go.Proofs.YtlogdmnhngbkaaaDoor
/-
  BUS: a line's bytes in memory.
-/
namespace Go.Proofs.YtlogdmnhngbkaaaDoor
open Go Go.RowKit
set_option maxRecDepth 100000 in
set_option maxHeartbeats 1000000 in
theorem bytesOf_any (mb a len mc : Nat) (m : Nat → Nat) (w : World) (k : CellsAt len w mb (fun o => .int .u8 (m o))) (ha : a < 4294967296) (h16 : a % 16 = 0) (hh : hasB a len = true) (hl : len ≤ 4096) (hl16 : len % 16 = 0) (hm : len ≤ mc) : Calls Tryd.prog 49 #[.slice (some ⟨mb, 0, none⟩) len mc, .int .u32 a] w fun e w' => e = .returned (.agg (bvs (fun t => m (a - 65536 + t))).toArray) ∧ Below w.heap.size w w' := by
  have hb : 65536 ≤ a ∧ a < 65536 + len := by simpa [hasB] using hh
  obtain ⟨W1, hW1⟩ : ∃ W1, w.alloc (.cells z16 98) = W1 := ⟨_, rfl⟩
  obtain ⟨W2, hW2⟩ : ∃ W2, W1.alloc (.cells z16 98) = W2 := ⟨_, rfl⟩
  have b1 : Below w.heap.size w W1 := by rw [← hW1]; exact (Below.refl _ _).alloc (Nat.le_refl _) _
  have b2 : Below W1.heap.size W1 W2 := by rw [← hW2]; exact (Below.refl _ _).alloc (Nat.le_refl _) _
  have s1 : w.heap.size < W1.heap.size := by rw [← hW1]; simp
  have s2 : W1.heap.size < W2.heap.size := by rw [← hW2]; simp
  have t5 : W2.there W1.heap.size 0 16 := by rw [← hW2]; exact there_arr W1 _
  have t4 : W2.there w.heap.size 0 16 := by
    have h := there_arr w 98
    rw [hW1] at h
    exact there_turned h (Turned.of_below (Q := fun _ => False) b2) s1 (fun e => e)
  have k2 := (k.below b1).below b2
  have rM := range_row k2 (L := a - 65536) (by omega)
  have hcp := copy16 W2.drew 3 W1.heap.size 0 mb (a - 65536) 16 16 (fun t => m (a - 65536 + t)) 16 16 rfl ((World.rangeAt_drew _ _ _ _).2 rM) ((World.there_drew _ _ _ _).2 t5)
  obtain ⟨X, hX⟩ : ∃ X, W2.drew.setCells W1.heap.size 0 (bvs (fun t => m (a - 65536 + t))) = X := ⟨_, rfl⟩
  have rX : X.rangeAt W1.heap.size 0 (bvs (fun t => m (a - 65536 + t))) := by
    rw [← hX]
    exact World.rangeAt_setCells_same _ _ _ _ (by rw [bvs_len]; exact (World.there_drew _ _ _ _).2 t5)
  have tX : Turned (fun q => q = W1.heap.size) W2 X := by rw [← hX]; exact ((Turned.refl _ W2).drew).trans (turned_setCells _ _ _)
  have t4X : X.there w.heap.size 0 16 := there_turned t4 tX (by omega) (by omega)
  have rF : (X.setCells w.heap.size 0 (bvs (fun t => m (a - 65536 + t)))).rangeAt w.heap.size 0 (bvs (fun t => m (a - 65536 + t))) := World.rangeAt_setCells_same _ _ _ _ (by rw [bvs_len]; exact t4X)
  have bF : Below w.heap.size w (X.setCells w.heap.size 0 (bvs (fun t => m (a - 65536 + t)))) := by
    have h1 : Below w.heap.size w X := (below2 b1 b2).trans (tX.below (Nat.le_trans b1.size b2.size) (fun q e => by omega))
    exact h1.trans ((turned_setCells (bvs (fun t => m (a - 65536 + t))) 0 X).below h1.size (fun q e => by omega))
  rw [hX] at hcp
  have HLN : Hid (∀ y, Calls Tryd.prog 39 #[.slice (some ⟨mb, 0, none⟩) len mc, .int .u32 a] y fun e w' => e = .returned (.slice (some ⟨mb, a - 65536, none⟩) 16 16) ∧ w' = y) := fun y => mline_any mb a len mc y ha h16 hh hl hl16 hm
  have HRX := Hid.in rX
  have HT4 := Hid.in t4X
  have HRF := Hid.in rF
  have HBF := Hid.in bF
  have HW1 := Hid.in hW1
  have HW2 := Hid.in hW2
  generalize (fun t => m (a - 65536 + t)) = b at *
  unfold z16 at hW1 hW2
  clear k k2 rM hX rX tX t4X rF bF t5 t4 b1 b2 hb hh h16 hl16 hm hl ha
  go_enter Tryd.func49, Tryd.ntmps49
  go_upto_region 2 with fail
  try rw [hW1, hW2]
  clear hW1 hW2 HW1 HW2
  go_region_with (go_at_call 39; refine (HLN.out _).mono ?_; rintro e y ⟨rfl, hy⟩; have hy2 := hy.symm; clear hy; subst hy2)
  all_goals
    have R3 := HRX.out
    have T3 := HT4.out
    go_wp2_with (first
      | (refine ld_arr W1.heap.size 0 b R3 rfl _ rfl rfl ?_)
      | (refine st_arr w.heap.size 0 b T3 rfl rfl _ _ rfl rfl rfl ?_))
    exact bodyPost_ret (results_arr Tryd.results49 _ _ w.heap.size b rfl HRF.out) rfl ⟨rfl, HBF.out⟩
end Go.Proofs.YtlogdmnhngbkaaaDoor
/-
  BUS: do others have a line?
-/
namespace Go.Proofs.YtlogdmnhngbkaaaDoor
open Go Go.RowKit
/-- does a core ahead of n, other than the one whose turn it is, have a line? -/
def BS.oth (S : BS) (l n : Nat) : Prop := ∃ i, i < n ∧ i ≠ S.turn ∧ (S.c i).st l ≠ 0
section
variable {x : World} {B p rb rc mb mc nb ab kn ka : Nat} {P H C : Nat → Nat} {V : Nat → Nat → Value} {S : BS}
set_option maxRecDepth 100000 in
set_option maxHeartbeats 1000000 in
theorem both_any (k : Bm x B p rb rc mb mc nb ab kn ka P H C V S) (l : Nat) (hl : l < 4294967296) : Calls Tryd.prog 47 #[.pointer (some ⟨p, 0, none⟩), .int .u32 l] x fun e w' => ∃ b : Bool, e = .returned (.bool b) ∧ (b = true ↔ S.oth l S.nc) ∧ Below x.heap.size x w' := by
  have HK := Hid.in k
  have HL := Hid.in hl
  have c0 : x.cell? ⟨p, 0, none⟩ = some (.slice (some ⟨rb, 0, none⟩) S.nc rc) := k.c.cell 0 (by decide)
  have hp := k.c.here
  have hnc : S.nc ≤ 2 := k.sz.2.1
  clear k hl
  go_enter Tryd.func47, Tryd.ntmps47
  go_wp2
  go_loopw [12] (fun iv wr => ∃ i : Nat, iv = .int .i64 i ∧ i ≤ S.nc ∧ Below x.heap.size x wr ∧ ¬ S.oth l i) (fun iv _ => 3 - (intOf iv).toNat)
  case atStart => exact ⟨0, rfl, by omega, Below.refl _ _, fun ⟨i, hi, _⟩ => by omega⟩
  case round =>
    obtain ⟨i, rfl, hi, hb, hno⟩ := hrel
    have HB := Hid.in hb
    have HNO := Hid.in hno
    have kR := HK.out.below hb
    clear hb hno
    by_cases hlt : i < S.nc
    · have hlt' : (i : Int) < (S.nc : Int) := by omega
      have r0 : wr.cell? ⟨rb, i, none⟩ = some (.pointer (some ⟨P i, 0, none⟩)) := kR.row.cell i hlt
      have hr := kR.row.here
      have d5 : wr.cell? ⟨p, 5, none⟩ = some (.int .i64 S.turn) := kR.c.cell 5 (by decide)
      have dp := kR.c.here
      have HST := Hid.in (cst_any B (P i) (H i) (C i) (V i) (S.c i) l wr (kR.ch i hlt) HL.out)
      clear kR
      have hnext : ∀ z, Below wr.heap.size wr z → ¬ (i ≠ S.turn ∧ (S.c i).st l ≠ 0) → ∃ j : Nat, Value.int .i64 ((i : Int) + 1) = .int .i64 j ∧ j ≤ S.nc ∧ Below x.heap.size x z ∧ ¬ S.oth l j := fun z hz hn => ⟨i + 1, by simp, by omega, HB.out.trans (hz.mono HB.out.size), fun ⟨j, h1, h2, h3⟩ => by
        by_cases e : j = i
        · subst e
          exact hn ⟨h2, h3⟩
        · exact HNO.out ⟨j, by omega, h2, h3⟩⟩
      have HNX := Hid.in hnext
      clear hnext
      by_cases ht : (i : Int) = (S.turn : Int)
      · have hq : ((i : Int) != (S.turn : Int)) = false := by simp; omega
        have HTT := Hid.in ht
        clear ht
        go_wp2
        go_roundw
        case rel => exact HNX.out _ (Below.refl _ _) (fun h => h.1 (by have := HTT.out; omega))
        case measure =>
          simp [intOf]
          omega
      · have hq : ((i : Int) != (S.turn : Int)) = true := by simp; omega
        have HTT := Hid.in ht
        clear ht
        by_cases hs : (S.c i).st l = 0
        · rw [hs] at HST
          go_wp2_with (go_at_call 36; refine HST.out.mono ?_; rintro e z ⟨rfl, hz⟩; have HZ := Hid.in hz; clear hz)
          go_roundw
          case rel => exact HNX.out _ HZ.out (fun h => h.2 hs)
          case measure =>
            simp [intOf]
            omega
        · obtain ⟨st, hst⟩ : ∃ st, (S.c i).st l = st := ⟨_, rfl⟩
          rw [hst] at HST
          have hs' : ((st : Int) != 0) = true := by simp; omega
          have HSS := Hid.in hs
          clear hs hst
          go_wp2_with (go_at_call 36; refine HST.out.mono ?_; rintro e z ⟨rfl, hz⟩; have HZ := Hid.in hz; clear hz)
          go_ret
          exact ⟨true, rfl, ⟨fun _ => ⟨i, hlt, by have := HTT.out; omega, HSS.out⟩, fun _ => rfl⟩, HB.out.trans (HZ.out.mono HB.out.size)⟩
    · obtain rfl : i = S.nc := by omega
      go_wp2
      go_ret
      exact ⟨false, rfl, ⟨(fun h => by cases h), fun h => absurd h HNO.out⟩, HB.out⟩
end
end Go.Proofs.YtlogdmnhngbkaaaDoor
/-
  BUS: begin.
-/
namespace Go.Proofs.YtlogdmnhngbkaaaDoor
open Go Go.RowKit
def BS.nxt (S : BS) (i : Nat) : Nat := (S.turn + 1 + i) % S.nc
section
variable {x : World} {B p rb rc mb mc nb ab kn ka : Nat} {P H C : Nat → Nat} {V : Nat → Nat → Value} {S : BS}
theorem Bm.begun (k : Bm x B p rb rc mb mc nb ab kn ka P H C V S) (t : Nat) (ht : t < S.nc) : Bm (((x.setCell ⟨p, 5, none⟩ (.int .i64 t)).setCell ⟨p, 7, none⟩ (.int .i64 0)).setCell ⟨p, 6, none⟩ (.bool true)) B p rb rc mb mc nb ab kn ka P H C V { S with turn := t, on := true, tk := 0 } ∧ Turned (fun j => j = p) x (((x.setCell ⟨p, 5, none⟩ (.int .i64 t)).setCell ⟨p, 7, none⟩ (.int .i64 0)).setCell ⟨p, 6, none⟩ (.bool true)) := by
  have tt : Turned (fun j => j = p) x (((x.setCell ⟨p, 5, none⟩ (.int .i64 t)).setCell ⟨p, 7, none⟩ (.int .i64 0)).setCell ⟨p, 6, none⟩ (.bool true)) := (((Turned.refl (fun j => j = p) x).set rfl 5 _).set rfl 7 _).set rfl 6 _
  refine ⟨k.own tt ?_ ht (by omega), tt⟩
  have c := ((k.c.set 5 (by decide) (.int .i64 t)).set 7 (by decide) (.int .i64 ((0 : Nat) : Int))).set 6 (by decide) (.bool true)
  refine ⟨c.here, fun o ho => ?_, c.free⟩
  refine (c.cell o ho).trans ?_
  match o, ho with
  | 0, _ => rfl
  | 1, _ => rfl
  | 2, _ => rfl
  | 3, _ => rfl
  | 4, _ => rfl
  | 5, _ => rfl
  | 6, _ => rfl
  | 7, _ => rfl
set_option maxRecDepth 100000 in
set_option maxHeartbeats 1000000 in
theorem bbegin_any (k : Bm x B p rb rc mb mc nb ab kn ka P H C V S) : Calls Tryd.prog 28 #[.pointer (some ⟨p, 0, none⟩)] x fun e w' => ((∃ i, i < S.nc ∧ (S.ak (S.nxt i : Nat)).isSome = true ∧ (∀ j, j < i → (S.ak (S.nxt j : Nat)).isSome = false) ∧ e = .returned (.bool true) ∧ Bm w' B p rb rc mb mc nb ab kn ka P H C V { S with turn := S.nxt i, on := true, tk := 0 }) ∨ ((∀ j, j < S.nc → (S.ak (S.nxt j : Nat)).isSome = false) ∧ e = .returned (.bool false) ∧ Bm w' B p rb rc mb mc nb ab kn ka P H C V S)) ∧ Turned (fun j => j = p) x w' := by
  have HK := Hid.in k
  have c0 : x.cell? ⟨p, 0, none⟩ = some (.slice (some ⟨rb, 0, none⟩) S.nc rc) := k.c.cell 0 (by decide)
  have hp := k.c.here
  have hnc : S.nc ≤ 2 := k.sz.2.1
  have hn1 : 1 ≤ S.nc := k.sz.1
  have htu : S.turn < S.nc := k.sz.2.2.2.2.2.1
  clear k
  go_enter Tryd.func28, Tryd.ntmps28
  go_wp2
  go_loopw [10] (fun iv wr => ∃ i : Nat, iv = .int .i64 i ∧ i ≤ S.nc ∧ Below x.heap.size x wr ∧ ∀ j, j < i → (S.ak (S.nxt j : Nat)).isSome = false) (fun iv _ => 3 - (intOf iv).toNat)
  case atStart => exact ⟨0, rfl, by omega, Below.refl _ _, fun i hi => absurd hi (by omega)⟩
  case round =>
    obtain ⟨i, rfl, hi, hb, hno⟩ := hrel
    have HB := Hid.in hb
    have HNO := Hid.in hno
    have kR := HK.out.below hb
    clear hb hno
    by_cases hlt : i < S.nc
    · have hlt' : (i : Int) < (S.nc : Int) := by omega
      have d0 : wr.cell? ⟨p, 0, none⟩ = some (.slice (some ⟨rb, 0, none⟩) S.nc rc) := kR.c.cell 0 (by decide)
      have d5 : wr.cell? ⟨p, 5, none⟩ = some (.int .i64 S.turn) := kR.c.cell 5 (by decide)
      have dp := kR.c.here
      have hmod : ((S.turn : Int) + 1 + (i : Int)).tmod (S.nc : Int) = ((S.nxt i : Nat) : Int) := by
        rw [Int.tmod_eq_emod_of_nonneg (by omega)]
        unfold BS.nxt
        rw [Int.natCast_emod, Int.natCast_add, Int.natCast_add]
        rfl
      have hnz : ¬ (S.nc : Int) = 0 := by omega
      have hnx : S.nxt i < S.nc := Nat.mod_lt _ (by omega)
      have HNX := Hid.in hnx
      clear hnx
      have HKR := Hid.in kR
      clear kR
      go_upto_region 4 with fail
      go_quiet (fail)
      have bq : Below wr.heap.size wr (wr.drewN nq) := below_drewN wr nq
      have HKQ := Hid.in (HKR.out.below bq)
      have HBQ := Hid.in (HB.out.trans (bq.mono HB.out.size))
      generalize wr.drewN nq = wq at HKQ HBQ ⊢
      clear bq d0 d5 dp
      have HBU := Hid.in (bbusy_any HKQ.out (S.nxt i : Nat) ⟨by omega, by have := HNX.out; omega⟩)
      cases hs : (S.ak (S.nxt i : Nat)).isSome
      · rw [hs] at HBU
        have HSS := Hid.in hs
        clear hs
        go_wp2_with (go_at_call 17; refine HBU.out.mono ?_; rintro e z ⟨rfl, hz⟩; have HZ := Hid.in (HBQ.out.trans (hz.mono HBQ.out.size)); clear hz)
        go_roundw
        case rel =>
          refine ⟨i + 1, by simp, by omega, HZ.out, fun j hj => ?_⟩
          by_cases e : j = i
          · rw [e]; exact HSS.out
          · exact HNO.out j (by omega)
        case measure =>
          simp [intOf]
          omega
      · rw [hs] at HBU
        have HSS := Hid.in hs
        clear hs
        go_upto_region 6 with (go_at_call 17; refine HBU.out.mono ?_; rintro e z ⟨rfl, hz⟩; have HZ := Hid.in (HBQ.out.trans (hz.mono HBQ.out.size)); clear hz)
        have kZ := HK.out.below HZ.out
        have c5 : z.cell? ⟨p, 5, none⟩ = some (.int .i64 S.turn) := kZ.c.cell 5 (by decide)
        have c6 : z.cell? ⟨p, 6, none⟩ = some (.bool S.on) := kZ.c.cell 6 (by decide)
        have c7 : z.cell? ⟨p, 7, none⟩ = some (.int .i64 S.tk) := kZ.c.cell 7 (by decide)
        have f5 := kZ.c.free 5
        have f6 := kZ.c.free 6
        have f7 := kZ.c.free 7
        have zp := kZ.c.here
        obtain ⟨hq1, hq2⟩ := kZ.begun (S.nxt i) HNX.out
        have HQ1 := Hid.in hq1
        have HQ2 := Hid.in ((Turned.of_below HZ.out).trans hq2)
        clear hq1 hq2 kZ
        go_wp2
        go_ret
        exact ⟨Or.inl ⟨i, hlt, HSS.out, HNO.out, rfl, HQ1.out⟩, HQ2.out⟩
    · obtain rfl : i = S.nc := by omega
      have HKR := Hid.in kR
      clear kR
      go_wp2
      go_ret
      exact ⟨Or.inr ⟨HNO.out, rfl, HKR.out⟩, Turned.of_below HB.out⟩
end
end Go.Proofs.YtlogdmnhngbkaaaDoor
/-
  BUS: writeBack.
-/
namespace Go.Proofs.YtlogdmnhngbkaaaDoor
open Go Go.RowKit
theorem cells_setCells {n : Nat} {b : Nat} : ∀ (vs : List Value) (o : Nat) (w : World) (c : Nat → Value), CellsAt n w b c → o + vs.length ≤ n → CellsAt n (w.setCells b o vs) b (fun i => if o ≤ i ∧ i < o + vs.length then vs.getD (i - o) (c i) else c i)
  | [], o, w, c, h, _ => h.ext fun i _ => by rw [if_neg (by simp)]
  | v :: r, o, w, c, h, hl => by
    have hl' : o + (r.length + 1) ≤ n := by simpa using hl
    refine (cells_setCells r (o + 1) _ _ (h.set o (by omega) v) (by omega)).ext fun i hi => ?_
    rw [List.length_cons]
    by_cases e : i = o
    · subst e
      rw [if_neg (by omega), if_pos (by omega), upd_same, Nat.sub_self]
      rfl
    · by_cases q : o + 1 ≤ i ∧ i < o + 1 + r.length
      · rw [if_pos q, if_pos (by omega), show i - o = (i - (o + 1)) + 1 by omega, List.getD_cons_succ, upd_other _ _ _ _ e]
      · rw [if_neg q, if_neg (by omega), upd_other _ _ _ _ e]
theorem bytes_range {w : World} {g : Nat} {e : Ln} (h : w.rangeAt g 0 e.vs) : w.rangeAt g 2 (bvs e.b) := by
  intro j v hv
  have := h (2 + j) v (by rw [Nat.add_comm]; exact hv)
  rwa [Nat.zero_add] at this
/-- memory, a line's bytes laid into it -/
def wbm (m : Nat → Nat) (e : Ln) : Nat → Nat := fun o => if e.a - 65536 ≤ o ∧ o < e.a - 65536 + 16 then e.b (o - (e.a - 65536)) else m o
section
variable {x : World} {B p rb rc mb mc nb ab kn ka : Nat} {P H C : Nat → Nat} {V : Nat → Nat → Value} {S : BS}
set_option maxRecDepth 100000 in
set_option maxHeartbeats 1000000 in
theorem wback_no (e : Ln) (w : World) (p : Nat) (hs : ¬ e.s = 3) : Calls Tryd.prog 50 #[.pointer (some ⟨p, 0, none⟩), .agg e.vs.toArray] w fun r w' => r = .returned (.tuple #[]) ∧ Below w.heap.size w w' := by
  have c1 : (w.alloc (.cells e.vs.toArray 114)).cell? ⟨w.heap.size, 1, none⟩ = some (.int .i64 e.s) := by rw [World.cell?_alloc_new]; rfl
  have bA : Below w.heap.size w (w.alloc (.cells e.vs.toArray 114)) := (Below.refl _ _).alloc (Nat.le_refl _) _
  have HB := Hid.in bA
  have hs' : ((e.s : Int) == 3) = false := by simp; omega
  clear hs bA
  go_enter Tryd.func50, Tryd.ntmps50
  go_wp2
  exact bodyPost_end (results_none Tryd.results50 _ _ _) rfl ⟨rfl, HB.out⟩
set_option maxRecDepth 100000 in
set_option maxHeartbeats 1000000 in
theorem wback_yes (k : Bm x B p rb rc mb mc nb ab kn ka P H C V S) (e : Ln) (hs : e.s = 3) (he8 : ∀ t, e.b t < 256) (ha : e.a < 4294967296) (h16 : e.a % 16 = 0) (hh : hasB e.a S.len = true) : Calls Tryd.prog 50 #[.pointer (some ⟨p, 0, none⟩), .agg e.vs.toArray] x fun r w' => r = .returned (.tuple #[]) ∧ Bm w' B p rb rc mb mc nb ab kn ka P H C V { S with mem := wbm S.mem e, nw := updO S.nw (e.a : Nat) none } ∧ Turned (fun j => j = mb ∨ j = nb) x w' := by
  have hb : 65536 ≤ e.a ∧ e.a < 65536 + S.len := by simpa [hasB] using hh
  obtain ⟨W, hW⟩ : ∃ W, x.alloc (.cells e.vs.toArray 114) = W := ⟨_, rfl⟩
  have b1 : Below x.heap.size x W := by rw [← hW]; exact (Below.refl _ _).alloc (Nat.le_refl _) _
  have s1 : x.heap.size < W.heap.size := by rw [← hW]; simp
  have rW : W.rangeAt x.heap.size 0 e.vs := by rw [← hW]; exact range_new x e _
  have c0 : W.cell? ⟨x.heap.size, 0, none⟩ = some (.int .u32 e.a) := rW 0 _ rfl
  have c1 : W.cell? ⟨x.heap.size, 1, none⟩ = some (.int .i64 e.s) := rW 1 _ rfl
  have kW := k.below b1
  have hlen := kW.sz
  have m2 : W.cell? ⟨p, 2, none⟩ = some (.slice (some ⟨mb, 0, none⟩) S.len mc) := kW.c.cell 2 (by decide)
  have hp := kW.c.here
  have hcp := copy16 W.drew 3 mb (e.a - 65536) x.heap.size 2 16 16 e.b 16 16 rfl ((World.rangeAt_drew _ _ _ _).2 (bytes_range rW)) ((World.there_drew _ _ _ _).2 (there_row kW.m (by omega)))
  obtain ⟨X, hX⟩ : ∃ X, W.drew.setCells mb (e.a - 65536) (bvs e.b) = X := ⟨_, rfl⟩
  rw [hX] at hcp
  have tX : Turned (fun q => q = mb) W X := by rw [← hX]; exact ((Turned.refl _ W).drew).trans (turned_setCells _ _ _)
  have cX : CellsAt S.len X mb (fun o => .int .u8 (wbm S.mem e o)) := by
    have bD : Below W.heap.size W W.drew := ⟨rfl, rfl, rfl, Nat.le_refl _, fun _ _ => rfl⟩
    have h := cells_setCells (bvs e.b) (e.a - 65536) W.drew _ (kW.m.below bD) (by rw [bvs_len]; omega)
    rw [hX] at h
    refine ⟨h.here, fun o ho => ?_, h.free⟩
    rw [h.cell o ho, bvs_len]
    unfold wbm
    by_cases q : e.a - 65536 ≤ o ∧ o < e.a - 65536 + 16
    · rw [if_pos q, if_pos q, List.getD_eq_getElem?_getD, bvs_at _ _ (by omega)]
      rfl
    · rw [if_neg q, if_neg q]
  have kX := kW.mems tX cX (fun o => by unfold wbm; split; exact he8 _; exact k.m8 _)
  have xb : x.heap.size ≠ mb := fun q => by have := k.m.here; omega
  have d0 : X.cell? ⟨x.heap.size, 0, none⟩ = some (.int .u32 e.a) := (World.cell?_of_block (tX.block x.heap.size s1 xb)).trans c0
  have n3 : X.cell? ⟨p, 3, none⟩ = some (.map (some nb)) := kX.c.cell 3 (by decide)
  have xp := kX.c.here
  have xs : x.heap.size < X.heap.size := Nat.lt_of_lt_of_le s1 tX.size
  have bD2 : Below X.heap.size X X.drew := ⟨rfl, rfl, rfl, Nat.le_refl _, fun _ _ => rfl⟩
  have kD := kX.below bD2
  obtain ⟨Y, hrun, hmap, htu⟩ := kD.nw.del Tryd.underlying31 Tryd.underlying68 (wf_u32 ha) 0
  have HF := Hid.in (kD.newer htu (f := updO S.nw (e.a : Nat) none) (by rw [encN_upd]; exact hmap))
  have HT : Hid (Turned (fun j => j = mb ∨ j = nb) x Y) := (((Turned.of_below b1).trans (tX.mono (fun j e => Or.inl e))).trans (Turned.of_below bD2)).trans (htu.mono (fun j e => Or.inr e))
  have HLN : Hid (∀ y, Calls Tryd.prog 39 #[.slice (some ⟨mb, 0, none⟩) S.len mc, .int .u32 e.a] y fun e' w' => e' = .returned (.slice (some ⟨mb, e.a - 65536, none⟩) 16 16) ∧ w' = y) := fun y => mline_any mb e.a S.len mc y ha h16 hh hlen.2.2.2.1 hlen.2.2.2.2.1 k.rm.2.1
  have hs' : ((e.s : Int) == 3) = true := by rw [hs]; rfl
  clear hlen kW kX kD tX cX hb hh h16 ha he8 hs hmap htu bD2 hX k b1 rW
  go_enter Tryd.func50, Tryd.ntmps50
  go_upto_region 2 with fail
  try rw [hW]
  clear hW
  go_region_with (go_at_call 39; refine (HLN.out _).mono ?_; rintro e' y ⟨rfl, hy⟩; have hy2 := hy.symm; clear hy; subst hy2)
  all_goals
    go_upto_region 3 with fail
    go_region
    exact bodyPost_end (results_none Tryd.results50 _ _ _) rfl ⟨rfl, HF.out, HT.out⟩
end
end Go.Proofs.YtlogdmnhngbkaaaDoor
