import Derived.Test.YtemamhkhjijdlaaGreatDoorY00
import Derived.Test.YtemamhkhjijdlaaGreatDoorY03
import Derived.Laws.CopyRow
import Derived.Laws.OwnMore
import Derived.Deep.QuietTactic
/-
  THE BUS IN MEMORY.
-/
namespace Go.Proofs.YtemamhkhjijdlaaGreatDoor
open Go Go.RowKit
/-- a bus, plainly: cores, cycles, caches, memory, what is newer, what was asked, whose turn it is, does a transaction go on, for how long -/
structure BS where
  nc : Nat
  cyc : Nat
  c : Nat → CS
  len : Nat
  mem : Nat → Nat
  nw : Int → Option (Nat → Nat)
  ak : Int → Option (Nat × Bool)
  turn : Nat
  on : Bool
  tk : Nat
def askV (p : Nat × Bool) : Value := .agg #[.int .u32 p.1, .bool p.2]
def encN (f : Int → Option (Nat → Nat)) (a : Int) : Option Value := (f a).map fun b => .agg (bvs b).toArray
def encA (f : Int → Option (Nat × Bool)) (a : Int) : Option Value := (f a).map askV
def bv (rb rc mb mc nb ab : Nat) (S : BS) : Nat → Value
  | 0 => .slice (some ⟨rb, 0, none⟩) S.nc rc
  | 1 => .int .i64 S.cyc
  | 2 => .slice (some ⟨mb, 0, none⟩) S.len mc
  | 3 => .map (some nb)
  | 4 => .map (some ab)
  | 5 => .int .i64 S.turn
  | 6 => .bool S.on
  | _ => .int .i64 S.tk
/-- the blocks of a bus that are none of its caches' -/
def own5 (p rb mb nb ab : Nat) (j : Nat) : Prop := j = p ∨ j = rb ∨ j = mb ∨ j = nb ∨ j = ab
structure Bm (x : World) (B p rb rc mb mc nb ab kn ka : Nat) (P H C : Nat → Nat) (V : Nat → Nat → Value) (S : BS) : Prop where
  c : CellsAt 8 x p (bv rb rc mb mc nb ab S)
  row : CellsAt S.nc x rb (fun i => .pointer (some ⟨P i, 0, none⟩))
  ch : ∀ i, i < S.nc → Ch x B (P i) (H i) (C i) (V i) (S.c i)
  m : CellsAt S.len x mb (fun o => .int .u8 (S.mem o))
  nw : MapAt x 43 .u32 nb kn (encN S.nw)
  ak : MapAt x 3 .i64 ab ka (encA S.ak)
  d0 : p ≠ rb ∧ p ≠ mb ∧ p ≠ nb ∧ p ≠ ab ∧ rb ≠ mb ∧ rb ≠ nb ∧ rb ≠ ab ∧ mb ≠ nb ∧ mb ≠ ab ∧ nb ≠ ab
  d1 : ∀ i, i < S.nc → ∀ z, own5 p rb mb nb ab z → ¬ mine (P i) (H i) (S.c i).n (V i) z
  d2 : ∀ i j, i < S.nc → j < S.nc → i ≠ j → ∀ z, mine (P i) (H i) (S.c i).n (V i) z → ¬ mine (P j) (H j) (S.c j).n (V j) z
  lo : ∀ z, own5 p rb mb nb ab z → B ≤ z
  sz : 1 ≤ S.nc ∧ S.nc ≤ 2 ∧ S.cyc ≤ 10 ∧ S.len ≤ 4096 ∧ S.len % 16 = 0 ∧ S.turn < S.nc ∧ S.tk ≤ 10
  rm : S.nc ≤ rc ∧ S.len ≤ mc ∧ rc ≤ 9223372036854775807 ∧ mc ≤ 9223372036854775807
  m8 : ∀ o, S.mem o < 256
section
variable {x y : World} {B p rb rc mb mc nb ab kn ka : Nat} {P H C : Nat → Nat} {V : Nat → Nat → Value} {S : BS}
theorem mine_lt {p h c : Nat} {V : Nat → Value} {T : CS} (k : Ch x B p h c V T) : ∀ z, mine p h T.n V z → z < x.heap.size ∧ B ≤ z := by
  rintro z (rfl | rfl | ⟨i, hi, hz⟩)
  · exact ⟨k.c.here, k.lo.1⟩
  · exact ⟨k.v.here, k.lo.2⟩
  · have := own_base_bus (k.l i hi) z hz
    exact ⟨this.2, this.1⟩
theorem Ch.off {Q : Nat → Prop} {p h c : Nat} {V : Nat → Value} {T : CS} (k : Ch x B p h c V T) (t : Turned Q x y) (hq : ∀ z, mine p h T.n V z → ¬ Q z) : Ch y B p h c V T :=
  k.turned t (hq p (Or.inl rfl)) (hq h (Or.inr (Or.inl rfl))) (fun i j hi hj => hq j (Or.inr (Or.inr ⟨i, hi, hj⟩)))
theorem Bm.at (k : Bm x B p rb rc mb mc nb ab kn ka P H C V S) : ∀ z, own5 p rb mb nb ab z → z < x.heap.size := by
  rintro z (rfl | rfl | rfl | rfl | rfl)
  · exact k.c.here
  · exact k.row.here
  · exact k.m.here
  · exact k.nw.here
  · exact k.ak.here
theorem Bm.below (k : Bm x B p rb rc mb mc nb ab kn ka P H C V S) (t : Below x.heap.size x y) : Bm y B p rb rc mb mc nb ab kn ka P H C V S :=
  ⟨k.c.below t, k.row.below t, fun i hi => (k.ch i hi).below t, k.m.below t, k.nw.below t, k.ak.below t, k.d0, k.d1, k.d2, k.lo, k.sz, k.rm, k.m8⟩
/-- one of its caches has changed -/
theorem Bm.cache (k : Bm x B p rb rc mb mc nb ab kn ka P H C V S) (i : Nat) (hi : i < S.nc) {T : CS} {W : Nat → Value} (hT : T.n = (S.c i).n) (ch : Ch y B (P i) (H i) (C i) W T) (hw : ∀ j q, j < T.n → (W j).ownBlock = some q → (V i j).ownBlock = some q ∨ x.heap.size ≤ q) (t : Turned (mine (P i) (H i) (S.c i).n (V i)) x y) : Bm y B p rb rc mb mc nb ab kn ka P H C (fun j => if j = i then W else V j) { S with c := fun j => if j = i then T else S.c j } := by
  have hm : ∀ z, mine (P i) (H i) T.n W z → mine (P i) (H i) (S.c i).n (V i) z ∨ x.heap.size ≤ z := by
    rintro z (rfl | rfl | ⟨j, hj, hz⟩)
    · exact Or.inl (Or.inl rfl)
    · exact Or.inl (Or.inr (Or.inl rfl))
    · rcases hw j z hj hz with h | h
      · exact Or.inl (Or.inr (Or.inr ⟨j, by omega, h⟩))
      · exact Or.inr h
  have h5 : ∀ z, own5 p rb mb nb ab z → ¬ mine (P i) (H i) (S.c i).n (V i) z := k.d1 i hi
  refine ⟨?_, ?_, fun j hj => ?_, ?_, ?_, ?_, k.d0, fun j hj z hz => ?_, fun a b ha hb hab z hz => ?_, k.lo, k.sz, k.rm, k.m8⟩
  · exact t.cells k.c (h5 p (Or.inl rfl))
  · exact t.cells k.row (h5 rb (Or.inr (Or.inl rfl)))
  · show Ch y B (P j) (H j) (C j) (if j = i then W else V j) (if j = i then T else S.c j)
    by_cases e : j = i
    · subst e
      rw [if_pos rfl, if_pos rfl]
      exact ch
    · rw [if_neg e, if_neg e]
      exact (k.ch j hj).off t (k.d2 j i hj hi e)
  · exact t.cells k.m (h5 mb (Or.inr (Or.inr (Or.inl rfl))))
  · exact k.nw.turned t (h5 nb (Or.inr (Or.inr (Or.inr (Or.inl rfl)))))
  · exact k.ak.turned t (h5 ab (Or.inr (Or.inr (Or.inr (Or.inr rfl)))))
  · show ¬ mine (P j) (H j) (if j = i then T else S.c j).n (if j = i then W else V j) z
    by_cases e : j = i
    · subst e
      rw [if_pos rfl, if_pos rfl]
      intro q
      rcases hm z q with h | h
      · exact h5 z hz h
      · have := k.at z hz
        omega
    · rw [if_neg e, if_neg e]
      exact k.d1 j hj z hz
  · show ¬ mine (P b) (H b) (if b = i then T else S.c b).n (if b = i then W else V b) z
    have hz2 : mine (P a) (H a) (if a = i then T else S.c a).n (if a = i then W else V a) z := hz
    clear hz
    by_cases ea : a = i
    · subst ea
      rw [if_pos rfl, if_pos rfl] at hz2
      rw [if_neg (fun e => hab e.symm), if_neg (fun e => hab e.symm)]
      rcases hm z hz2 with h | h
      · exact k.d2 a b ha hb hab z h
      · intro q
        have := (mine_lt (k.ch b hb) z q).1
        omega
    · rw [if_neg ea, if_neg ea] at hz2
      by_cases eb : b = i
      · subst eb
        rw [if_pos rfl, if_pos rfl]
        intro q
        rcases hm z q with h | h
        · exact k.d2 a b ha hb hab z hz2 h
        · have := (mine_lt (k.ch a ha) z hz2).1
          omega
      · rw [if_neg eb, if_neg eb]
        exact k.d2 a b ha hb hab z hz2
end
end Go.Proofs.YtemamhkhjijdlaaGreatDoor
/-
  BUS: its small functions.
-/
namespace Go.Proofs.YtemamhkhjijdlaaGreatDoor
open Go Go.RowKit
def hasB_bus (a len : Nat) : Bool := decide (65536 ≤ a ∧ a < 65536 + len)
theorem mline_any (mb a len mc : Nat) (w : World) (ha : a < 4294967296) (h16 : a % 16 = 0) (hh : hasB_bus a len = true) (hl : len ≤ 4096) (hl16 : len % 16 = 0) (hm : len ≤ mc) : Calls Tryz.prog 55 #[.slice (some ⟨mb, 0, none⟩) len mc, .int .u32 a] w fun e w' => e = .returned (.slice (some ⟨mb, a - 65536, none⟩) 16 16) ∧ w' = w := by
  have hb : 65536 ≤ a ∧ a < 65536 + len := by simpa [hasB_bus] using hh
  have HE : Hid (a - 65536 + 16 - (a - 65536) = 16) := by show a - 65536 + 16 - (a - 65536) = 16; omega
  have h1 : a - 65536 + 16 ≤ mc := by omega
  have h2 : 65536 ≤ a := hb.1
  have h3 : a < 69632 := by omega
  clear hb hh h16 hl16
  go_enter Tryz.func55, Tryz.ntmps55
  go_wp2
  go_ret
  refine ⟨?_, rfl⟩
  show Ending.returned (Value.slice _ (a - 65536 + 16 - (a - 65536)) (a - 65536 + 16 - (a - 65536))) = _
  rw [HE.out]
end Go.Proofs.YtemamhkhjijdlaaGreatDoor
/-
  BUS: has, State, Busy.
-/
namespace Go.Proofs.YtemamhkhjijdlaaGreatDoor
open Go Go.RowKit
/-- the state of an address's line in a cache -/
noncomputable def CS.st (T : CS) (a : Nat) : Nat :=
  open Classical in if h : ∃ i, At (T.set (T.of a)) a i then ((T.set (T.of a)).getD h.choose l0).s else 0
theorem CS.st_at {T : CS} {a i : Nat} (h : At (T.set (T.of a)) a i) : T.st a = ((T.set (T.of a)).getD i l0).s := by
  unfold CS.st
  have hx : ∃ i, At (T.set (T.of a)) a i := ⟨i, h⟩
  rw [dif_pos hx, at_inj hx.choose_spec h]
theorem CS.st_no {T : CS} {a : Nat} (h : No (T.set (T.of a)) a) : T.st a = 0 := by
  unfold CS.st
  rw [dif_neg (fun ⟨i, hi⟩ => h i hi.1 hi.2.1)]
def BS.has (S : BS) (core : Int) (a : Nat) : Bool := decide (0 ≤ core) && decide (core < S.nc) && hasB_bus a S.len
section
variable {x : World} {B p rb rc mb mc nb ab kn ka : Nat} {P H C : Nat → Nat} {V : Nat → Nat → Value} {S : BS}
noncomputable def BS.st (S : BS) (core : Int) (a : Nat) : Nat := if S.has core a then (S.c core.toNat).st a else 0
end
end Go.Proofs.YtemamhkhjijdlaaGreatDoor
/-
  BUS: Busy, Read.
-/
namespace Go.Proofs.YtemamhkhjijdlaaGreatDoor
open Go Go.RowKit
theorem zero_ask (w : World) : (zeroValue 154).run Tryz.prog w = .ok (.agg #[.int .u32 0, .bool false]) w := by kernel_rfl
theorem wf_i64 {a : Int} (h : -9223372036854775808 ≤ a ∧ a ≤ 9223372036854775807) : (Lit.int .i64 a).wf = true := by
  simp [Lit.wf, IntKind.min, IntKind.max, IntKind.signed, IntKind.bits]
  omega
theorem wf_u32 {a : Nat} (h : a < 4294967296) : (Lit.int .u32 (a : Int)).wf = true := by
  simp [Lit.wf, IntKind.min, IntKind.max, IntKind.signed, IntKind.bits]
  omega
def i64 (a : Int) : Prop := -9223372036854775808 ≤ a ∧ a ≤ 9223372036854775807
section
variable {x : World} {B p rb rc mb mc nb ab kn ka : Nat} {P H C : Nat → Nat} {V : Nat → Nat → Value} {S : BS}
theorem ask_look (k : Bm x B p rb rc mb mc nb ab kn ka P H C V S) (core : Int) (hc : i64 core) : ∃ (l : Nat) (b : Bool), (Instr.lookup 150 (.map (some ab)) (.int .i64 core) true).run Tryz.prog x = .ok (.tuple #[.agg #[.int .u32 l, .bool b], .bool (S.ak core).isSome]) x ∧ (Instr.lookup 150 (.map (some ab)) (.int .i64 core) false).run Tryz.prog x = .ok (.agg #[.int .u32 l, .bool b]) x ∧ ∀ q, S.ak core = some q → q = (l, b) := by
  have h1 := k.ak.look Tryz.underlying3 Tryz.underlying150 (zero_ask x) (wf_i64 hc)
  have h2 := k.ak.look1 Tryz.underlying3 Tryz.underlying150 (zero_ask x) (wf_i64 hc)
  unfold encA at h1 h2
  cases ha : S.ak core with
  | none =>
    rw [ha] at h1 h2
    exact ⟨0, false, h1, h2, fun q hq => by cases hq⟩
  | some u =>
    rw [ha] at h1 h2
    exact ⟨u.1, u.2, h1, h2, fun q hq => by cases hq; rfl⟩
set_option maxRecDepth 100000 in
theorem bbusy_any (k : Bm x B p rb rc mb mc nb ab kn ka P H C V S) (core : Int) (hc : i64 core) : Calls Tryz.prog 66 #[.pointer (some ⟨p, 0, none⟩), .int .i64 core] x fun e w' => e = .returned (.bool (S.ak core).isSome) ∧ Below x.heap.size x w' := by
  obtain ⟨l, b, hr, -, -⟩ := ask_look k core hc
  have c4 : x.cell? ⟨p, 4, none⟩ = some (.map (some ab)) := k.c.cell 4 (by decide)
  have hp := k.c.here
  generalize (S.ak core).isSome = is at hr ⊢
  clear k hc
  go_enter Tryz.func66, Tryz.ntmps66
  go_wp2
  go_ret
  exact ⟨rfl, (Below.refl _ _).alloc (Nat.le_refl _) _⟩
end
end Go.Proofs.YtemamhkhjijdlaaGreatDoor
/-
  BUS: what changes in it; Ask.
-/
namespace Go.Proofs.YtemamhkhjijdlaaGreatDoor
open Go Go.RowKit
def updO {α : Type} (f : Int → Option α) (a : Int) (v : Option α) : Int → Option α := fun x => if x = a then v else f x
section
variable {x y : World} {B p rb rc mb mc nb ab kn ka : Nat} {P H C : Nat → Nat} {V : Nat → Nat → Value} {S : BS}
theorem Bm.chs {z : Nat} (k : Bm x B p rb rc mb mc nb ab kn ka P H C V S) (t : Turned (fun j => j = z) x y) (hz : own5 p rb mb nb ab z) : ∀ i, i < S.nc → Ch y B (P i) (H i) (C i) (V i) (S.c i) := fun i hi => (k.ch i hi).off t (fun j hj e => k.d1 i hi z hz (by rw [← e]; exact hj))
theorem Bm.newer {kn' : Nat} {f : Int → Option (Nat → Nat)} (k : Bm x B p rb rc mb mc nb ab kn ka P H C V S) (t : Turned (fun j => j = nb) x y) (h : MapAt y 43 .u32 nb kn' (encN f)) : Bm y B p rb rc mb mc nb ab kn' ka P H C V { S with nw := f } := by
  obtain ⟨-, -, h3, -, -, h6, -, h8, -, h10⟩ := k.d0
  exact ⟨t.cells k.c h3, t.cells k.row h6, k.chs t (Or.inr (Or.inr (Or.inr (Or.inl rfl)))), t.cells k.m h8, h, k.ak.turned t (fun e => h10 e.symm), k.d0, k.d1, k.d2, k.lo, k.sz, k.rm, k.m8⟩
/-- its own block has changed: turn, goesOn, ticks -/
theorem Bm.own {tu tk : Nat} {on : Bool} (k : Bm x B p rb rc mb mc nb ab kn ka P H C V S) (t : Turned (fun j => j = p) x y) (h : CellsAt 8 y p (bv rb rc mb mc nb ab { S with turn := tu, on := on, tk := tk })) (htu : tu < S.nc) (htk : tk ≤ 10) : Bm y B p rb rc mb mc nb ab kn ka P H C V { S with turn := tu, on := on, tk := tk } := by
  obtain ⟨h1, h2, h3, h4, -⟩ := k.d0
  obtain ⟨s1, s2, s3, s4, s5, -, -⟩ := k.sz
  exact ⟨h, t.cells k.row (fun e => h1 e.symm), k.chs t (Or.inl rfl), t.cells k.m (fun e => h2 e.symm), k.nw.turned t (fun e => h3 e.symm), k.ak.turned t (fun e => h4 e.symm), k.d0, k.d1, k.d2, k.lo, ⟨s1, s2, s3, s4, s5, htu, htk⟩, k.rm, k.m8⟩
end
end Go.Proofs.YtemamhkhjijdlaaGreatDoor
/-
  BUS: Read.
-/
namespace Go.Proofs.YtemamhkhjijdlaaGreatDoor
open Go Go.RowKit
/-- one of its caches is another -/
def BS.cput (S : BS) (i : Nat) (T : CS) : BS := { S with c := fun j => if j = i then T else S.c j }
section
variable {x y : World} {B p rb rc mb mc nb ab kn ka : Nat} {P H C : Nat → Nat} {V : Nat → Nat → Value} {S : BS}
end
end Go.Proofs.YtemamhkhjijdlaaGreatDoor
/-
  BUS: bytes: what is copied, a line's bytes in memory.
-/
namespace Go.Proofs.YtemamhkhjijdlaaGreatDoor
open Go Go.RowKit
theorem arr_one (b : Nat → Nat) : (bvs b).toArray.all (·.oneCell') = true := all_oneCell_toArray (bvs_one b)
theorem st_arr {ops : Array Oper} {rest : List Oper} {op : Oper} {a : Act} {w : World} {Q : Exit → Act → World → Prop} (g o : Nat) (b : Nat → Nat) (hc : w.there g o 16) (hgd : op.guard = none) (hds : op.dst = none) (x y : Operand) (ho : op.op = .store 166 x y) (hx : a.eval x = .pointer (some ⟨g, o, none⟩)) (hy : a.eval y = .agg (bvs b).toArray) (h : wpList Tryz.prog ops Q rest a (w.setCells g o (bvs b))) : wpList Tryz.prog ops Q (op :: rest) a w := by
  refine wpList_store_mid hgd _ x y ho g o (bvs b).toArray hx hy (by simp [bvs_len]; exact hc) (by rw [arr_info]; simp [bvs_len]) (arr_one b) ?_
  rw [hds]
  exact (by simpa using h : wpList Tryz.prog ops Q rest a (w.setCells g o (bvs b).toArray.toList))
theorem byte_info : (Tryz.prog.info? 5).map (·.size) = some 1 := by kernel_rfl
theorem copy16 (w : World) (ty : TypeId) (g o M a n n2 : Nat) (b : Nat → Nat) (k1 k2 : Nat) (hn : Nat.min n n2 = 16) (hr : w.rangeAt M a (bvs b)) (ht : w.there g o 16) : (Builtin.copy_ #[36, 36] ty #[.slice (some ⟨g, o, none⟩) n2 k1, .slice (some ⟨M, a, none⟩) n k2]).run Tryz.prog w = .ok (goInt 16) (w.setCells g o (bvs b)) := by
  have := run_copy_cells (P := Tryz.prog) w 36 36 ty 5 g o n2 k1 ⟨M, a, none⟩ n k2 (bvs b) Tryz.underlying36 byte_info (by rw [bvs_len]; exact hn.symm) (fun j v hj => by rw [Addr.add_mid]; exact hr j v hj) (fun j hj => (ht j (by rw [bvs_len] at hj; exact hj)).1) (fun j hj => (ht j (by rw [bvs_len] at hj; exact hj)).2) (bvs_one b)
  rw [bvs_len] at this
  exact this
theorem there_row {w : World} {M L len : Nat} {c : Nat → Value} (k : CellsAt len w M c) (h : L + 16 ≤ len) : w.there M L 16 := fun j hj => ⟨by rw [k.cell (L + j) (by omega)]; rfl, k.free _⟩
def z16 : Array Value := #[.int .u8 0, .int .u8 0, .int .u8 0, .int .u8 0, .int .u8 0, .int .u8 0, .int .u8 0, .int .u8 0, .int .u8 0, .int .u8 0, .int .u8 0, .int .u8 0, .int .u8 0, .int .u8 0, .int .u8 0, .int .u8 0]
theorem there_arr (w : World) (t : TypeId) : (w.alloc (.cells z16 t)).there w.heap.size 0 16 := by
  intro j hj
  refine ⟨?_, World.frozen?_alloc_at _ _ _ _ rfl⟩
  rw [World.cell?_alloc_new, Nat.zero_add, Array.getElem?_eq_getElem (by show j < 16; exact hj)]
  rfl
/-- bytes that stand somewhere -/
def HandB (w : World) (q : Option Addr) (n : Nat) (g : Nat → Nat) : Prop := ∀ i, i < n → ∃ c o, q = some ⟨c, o, none⟩ ∧ c < w.heap.size ∧ w.cell? ⟨c, o + i, none⟩ = some (.int .u8 (g i : Nat))
theorem HandB.below {w w' : World} {q : Option Addr} {n : Nat} {g : Nat → Nat} (h : HandB w q n g) (hb : Below w.heap.size w w') : HandB w' q n g := fun i hi => by
  obtain ⟨c, o, h1, h2, h3⟩ := h i hi
  exact ⟨c, o, h1, Nat.lt_of_lt_of_le h2 hb.size, (hb.cell (p := ⟨c, o + i, none⟩) h2).trans h3⟩
theorem hand_row {w : World} {M len : Nat} {m : Nat → Nat} (k : CellsAt len w M (fun o => .int .u8 (m o))) : HandB w (some ⟨M, 0, none⟩) len m := fun i hi => ⟨M, 0, rfl, k.here, by rw [Nat.zero_add]; exact k.cell i hi⟩
theorem frz {w : World} {b : Nat} {c : Array Value} {t : TypeId} (h : w.heap[b]? = some (.cells c t (0, 0))) (o : Nat) : w.frozen? ⟨b, o, none⟩ = false := by
  simp only [World.frozen?, h]
  simp
theorem below_setR {b : Nat} {w x : World} (h : Below b w x) {g : Nat} (hg : b ≤ g) (cs : Array Value) : Below b w (x.setRow g cs) :=
  ⟨h.os, h.tape, h.output, by simpa using h.size, fun k hk => by rw [setRow_other _ _ _ _ (by omega)]; exact h.block k hk⟩
theorem mcopy (x : World) (q : Option Addr) (n cc : Nat) (g : Nat → Nat) (hD : HandB x q n g) (hq0 : q = none → cc = 0) : ∃ y, (Builtin.copy_ #[148, 148] 3 #[.slice (some ⟨x.heap.size, 0, none⟩) n n, .slice q n cc]).run Tryz.prog (x.alloc (.cells (madeCells #[.int .u8 0] n) 5)) = .ok (goInt n) y ∧ Below x.heap.size x y ∧ CellsAt n y x.heap.size (fun i => .int .u8 (g i : Nat)) := by
  have bA : Below x.heap.size x (x.alloc (.cells (madeCells #[.int .u8 0] n) 5)) := (Below.refl _ _).alloc (Nat.le_refl _) _
  have hs : (Tryz.prog.info? 5).map (·.size) = some 1 := by kernel_rfl
  have hg : (x.alloc (.cells (madeCells #[.int .u8 0] n) 5)).heap[x.heap.size]? = some (.cells (madeCells #[.int .u8 0] n) 5 (0, 0)) := by
    show (x.heap.push _)[x.heap.size]? = _
    simp
  have hz : (madeCells #[Value.int .u8 0] n).size = n := size_madeCells _ _
  cases q with
  | none =>
    obtain rfl : n = 0 := by
      rcases Nat.eq_zero_or_pos n with h | h
      · exact h
      · obtain ⟨c, o, h1, -⟩ := hD 0 h
        cases h1
    obtain rfl := hq0 rfl
    exact ⟨_, run_copy_nil (P := Tryz.prog) _ 148 148 3 5 ⟨x.heap.size, 0, none⟩ 0 0 Tryz.underlying148 (by cases h : Tryz.prog.info? 5 <;> simp_all), bA, by simp, fun o ho => absurd ho (by omega), frz hg⟩
  | some a =>
    have hD' := hD.below bA
    have hr := run_copy_row (P := Tryz.prog) _ 148 148 3 5 x.heap.size 0 n n a n cc _ _ ((List.range n).map fun i => .int .u8 (g i : Nat)) Tryz.underlying148 hs hg (by rw [List.length_map, List.length_range]; exact (Nat.min_self n).symm) (fun j u hj => by
      have hjn : j < n := by
        have := (List.getElem?_eq_some_iff.1 hj).1
        simpa using this
      rw [List.getElem?_map, List.getElem?_range hjn] at hj
      obtain ⟨c, o, h1, h2, h3⟩ := hD' j hjn
      obtain rfl := Option.some.inj h1
      rw [Addr.add_lit, h3]
      exact hj) (by simp [hz]) (by
      intro u hu
      obtain ⟨i, _, rfl⟩ := List.mem_map.1 hu
      rfl)
    refine ⟨_, by simpa using hr, below_setR bA (Nat.le_refl _) _, ?_, fun o ho => ?_, fun o => ?_⟩
    · exact (Array.getElem?_eq_some_iff.1 (setRow_heap _ _ _ _ _ _ hg)).1
    · rw [cell_setRow_same _ _ o _ _ _ _ hg]
      simp [List.getElem?_append, ho]
    · exact frz (setRow_heap _ _ _ _ _ _ hg) o
theorem wpl_make {P : Program} {ops : Array Oper} {Q : Exit → Act → World → Prop} {rest : List Oper} {o : Oper} {a : Act} {w w' : World} {s x : Operand} {t : TypeId} {v u v' : Value} (hg : o.guard = none) (ho : o.op = Op.makeSlice t s x) (hs : a.eval s = v) (hx : a.eval x = u) (hr : (Instr.makeSlice t v u).run P w = .ok v' w') (h : wpList P ops Q rest (a.put o.dst v') w') : wpList P ops Q (o :: rest) a w := by
  unfold wpList
  rw [if_pos (by unfold Region.wanted; rw [hg])]
  refine Or.inl ?_
  unfold Oper.wp
  simp [execOp, ho, hs, hx, hr, Result.andThen]
  exact h
set_option maxRecDepth 100000 in
theorem copied_any (q : Option Addr) (n cc : Nat) (g : Nat → Nat) (w : World) (hD : HandB w q n g) (hq0 : q = none → cc = 0) (hn : n ≤ 4096) : Calls Tryz.prog 54 #[.slice q n cc] w fun e w' => e = .returned (.slice (some ⟨w.heap.size, 0, none⟩) n n) ∧ Below w.heap.size w w' ∧ CellsAt n w' w.heap.size (fun i => .int .u8 (g i : Nat)) := by
  obtain ⟨y, hc, hb, hk⟩ := mcopy w q n cc g hD hq0
  have HMK := Hid.in (make_run_bus (P := Tryz.prog) 148 5 (.int .u8 0) 1 Tryz.underlying148 (by kernel_rfl) rfl n (by omega) (by omega) w)
  have HC := Hid.in hc
  have HB := Hid.in hb
  have HK := Hid.in hk
  clear hc hb hk hD hq0
  go_enter Tryz.func54, Tryz.ntmps54
  go_wp2_with (refine wpl_make (v := .int .i64 n) (u := .int .i64 n) rfl rfl rfl rfl HMK.out ?_)
  rw [HC.out]
  go_wp2
  go_ret
  exact ⟨rfl, HB.out, HK.out⟩
end Go.Proofs.YtemamhkhjijdlaaGreatDoor
/-
  BUS: a line's bytes in memory.
-/
namespace Go.Proofs.YtemamhkhjijdlaaGreatDoor
open Go Go.RowKit
end Go.Proofs.YtemamhkhjijdlaaGreatDoor
/-
  BUS: do others have a line?
-/
namespace Go.Proofs.YtemamhkhjijdlaaGreatDoor
open Go Go.RowKit
/-- does a core ahead of n, other than the one whose turn it is, have a line? -/
def BS.oth (S : BS) (l n : Nat) : Prop := ∃ i, i < n ∧ i ≠ S.turn ∧ (S.c i).st l ≠ 0
section
variable {x : World} {B p rb rc mb mc nb ab kn ka : Nat} {P H C : Nat → Nat} {V : Nat → Nat → Value} {S : BS}
end
end Go.Proofs.YtemamhkhjijdlaaGreatDoor
/-
  BUS: begin.
-/
namespace Go.Proofs.YtemamhkhjijdlaaGreatDoor
open Go Go.RowKit
def BS.nxt (S : BS) (i : Nat) : Nat := (S.turn + 1 + i) % S.nc
section
variable {x : World} {B p rb rc mb mc nb ab kn ka : Nat} {P H C : Nat → Nat} {V : Nat → Nat → Value} {S : BS}
theorem Bm.begun (k : Bm x B p rb rc mb mc nb ab kn ka P H C V S) (t : Nat) (ht : t < S.nc) : Bm (((x.setCell ⟨p, 5, none⟩ (.int .i64 t)).setCell ⟨p, 7, none⟩ (.int .i64 0)).setCell ⟨p, 6, none⟩ (.bool true)) B p rb rc mb mc nb ab kn ka P H C V { S with turn := t, on := true, tk := 0 } ∧ Turned (fun j => j = p) x (((x.setCell ⟨p, 5, none⟩ (.int .i64 t)).setCell ⟨p, 7, none⟩ (.int .i64 0)).setCell ⟨p, 6, none⟩ (.bool true)) := by
  have tt : Turned (fun j => j = p) x (((x.setCell ⟨p, 5, none⟩ (.int .i64 t)).setCell ⟨p, 7, none⟩ (.int .i64 0)).setCell ⟨p, 6, none⟩ (.bool true)) := (((Turned.refl (fun j => j = p) x).set rfl 5 _).set rfl 7 _).set rfl 6 _
  refine ⟨k.own tt ?_ ht (by omega), tt⟩
  have c := ((k.c.set 5 (by decide) (.int .i64 t)).set 7 (by decide) (.int .i64 ((0 : Nat) : Int))).set 6 (by decide) (.bool true)
  refine ⟨c.here, fun o ho => ?_, c.free⟩
  refine (c.cell o ho).trans ?_
  match o, ho with
  | 0, _ => rfl
  | 1, _ => rfl
  | 2, _ => rfl
  | 3, _ => rfl
  | 4, _ => rfl
  | 5, _ => rfl
  | 6, _ => rfl
  | 7, _ => rfl
set_option maxRecDepth 100000 in
set_option maxHeartbeats 1000000 in
theorem bbegin_any (k : Bm x B p rb rc mb mc nb ab kn ka P H C V S) : Calls Tryz.prog 43 #[.pointer (some ⟨p, 0, none⟩)] x fun e w' => ((∃ i, i < S.nc ∧ (S.ak (S.nxt i : Nat)).isSome = true ∧ (∀ j, j < i → (S.ak (S.nxt j : Nat)).isSome = false) ∧ e = .returned (.bool true) ∧ Bm w' B p rb rc mb mc nb ab kn ka P H C V { S with turn := S.nxt i, on := true, tk := 0 }) ∨ ((∀ j, j < S.nc → (S.ak (S.nxt j : Nat)).isSome = false) ∧ e = .returned (.bool false) ∧ Bm w' B p rb rc mb mc nb ab kn ka P H C V S)) ∧ Turned (fun j => j = p) x w' := by
  have HK := Hid.in k
  have c0 : x.cell? ⟨p, 0, none⟩ = some (.slice (some ⟨rb, 0, none⟩) S.nc rc) := k.c.cell 0 (by decide)
  have hp := k.c.here
  have hnc : S.nc ≤ 2 := k.sz.2.1
  have hn1 : 1 ≤ S.nc := k.sz.1
  have htu : S.turn < S.nc := k.sz.2.2.2.2.2.1
  clear k
  go_enter Tryz.func43, Tryz.ntmps43
  go_wp2
  go_loopw [10] (fun iv wr => ∃ i : Nat, iv = .int .i64 i ∧ i ≤ S.nc ∧ Below x.heap.size x wr ∧ ∀ j, j < i → (S.ak (S.nxt j : Nat)).isSome = false) (fun iv _ => 3 - (intOf iv).toNat)
  case atStart => exact ⟨0, rfl, by omega, Below.refl _ _, fun i hi => absurd hi (by omega)⟩
  case round =>
    obtain ⟨i, rfl, hi, hb, hno⟩ := hrel
    have HB := Hid.in hb
    have HNO := Hid.in hno
    have kR := HK.out.below hb
    clear hb hno
    by_cases hlt : i < S.nc
    · have hlt' : (i : Int) < (S.nc : Int) := by omega
      have d0 : wr.cell? ⟨p, 0, none⟩ = some (.slice (some ⟨rb, 0, none⟩) S.nc rc) := kR.c.cell 0 (by decide)
      have d5 : wr.cell? ⟨p, 5, none⟩ = some (.int .i64 S.turn) := kR.c.cell 5 (by decide)
      have dp := kR.c.here
      have hmod : ((S.turn : Int) + 1 + (i : Int)).tmod (S.nc : Int) = ((S.nxt i : Nat) : Int) := by
        rw [Int.tmod_eq_emod_of_nonneg (by omega)]
        unfold BS.nxt
        rw [Int.natCast_emod, Int.natCast_add, Int.natCast_add]
        rfl
      have hnz : ¬ (S.nc : Int) = 0 := by omega
      have hnx : S.nxt i < S.nc := Nat.mod_lt _ (by omega)
      have HNX := Hid.in hnx
      clear hnx
      have HKR := Hid.in kR
      clear kR
      go_upto_region 4 with fail
      go_quiet (fail)
      have bq : Below wr.heap.size wr (wr.drewN nq) := below_drewN_bus wr nq
      have HKQ := Hid.in (HKR.out.below bq)
      have HBQ := Hid.in (HB.out.trans (bq.mono HB.out.size))
      generalize wr.drewN nq = wq at HKQ HBQ ⊢
      clear bq d0 d5 dp
      have HBU := Hid.in (bbusy_any HKQ.out (S.nxt i : Nat) ⟨by omega, by have := HNX.out; omega⟩)
      cases hs : (S.ak (S.nxt i : Nat)).isSome
      · rw [hs] at HBU
        have HSS := Hid.in hs
        clear hs
        go_wp2_with (go_at_call 66; refine HBU.out.mono ?_; rintro e z ⟨rfl, hz⟩; have HZ := Hid.in (HBQ.out.trans (hz.mono HBQ.out.size)); clear hz)
        go_roundw
        case rel =>
          refine ⟨i + 1, by simp, by omega, HZ.out, fun j hj => ?_⟩
          by_cases e : j = i
          · rw [e]; exact HSS.out
          · exact HNO.out j (by omega)
        case measure =>
          simp [intOf]
          omega
      · rw [hs] at HBU
        have HSS := Hid.in hs
        clear hs
        go_upto_region 6 with (go_at_call 66; refine HBU.out.mono ?_; rintro e z ⟨rfl, hz⟩; have HZ := Hid.in (HBQ.out.trans (hz.mono HBQ.out.size)); clear hz)
        have kZ := HK.out.below HZ.out
        have c5 : z.cell? ⟨p, 5, none⟩ = some (.int .i64 S.turn) := kZ.c.cell 5 (by decide)
        have c6 : z.cell? ⟨p, 6, none⟩ = some (.bool S.on) := kZ.c.cell 6 (by decide)
        have c7 : z.cell? ⟨p, 7, none⟩ = some (.int .i64 S.tk) := kZ.c.cell 7 (by decide)
        have f5 := kZ.c.free 5
        have f6 := kZ.c.free 6
        have f7 := kZ.c.free 7
        have zp := kZ.c.here
        obtain ⟨hq1, hq2⟩ := kZ.begun (S.nxt i) HNX.out
        have HQ1 := Hid.in hq1
        have HQ2 := Hid.in ((Turned.of_below HZ.out).trans hq2)
        clear hq1 hq2 kZ
        go_wp2
        go_ret
        exact ⟨Or.inl ⟨i, hlt, HSS.out, HNO.out, rfl, HQ1.out⟩, HQ2.out⟩
    · obtain rfl : i = S.nc := by omega
      have HKR := Hid.in kR
      clear kR
      go_wp2
      go_ret
      exact ⟨Or.inr ⟨HNO.out, rfl, HKR.out⟩, Turned.of_below HB.out⟩
end
end Go.Proofs.YtemamhkhjijdlaaGreatDoor
/-
  BUS: writeBack.
-/
namespace Go.Proofs.YtemamhkhjijdlaaGreatDoor
open Go Go.RowKit
theorem cells_setCells {n : Nat} {b : Nat} : ∀ (vs : List Value) (o : Nat) (w : World) (c : Nat → Value), CellsAt n w b c → o + vs.length ≤ n → CellsAt n (w.setCells b o vs) b (fun i => if o ≤ i ∧ i < o + vs.length then vs.getD (i - o) (c i) else c i)
  | [], o, w, c, h, _ => h.ext fun i _ => by rw [if_neg (by simp)]
  | v :: r, o, w, c, h, hl => by
    have hl' : o + (r.length + 1) ≤ n := by simpa using hl
    refine (cells_setCells r (o + 1) _ _ (h.set o (by omega) v) (by omega)).ext fun i hi => ?_
    rw [List.length_cons]
    by_cases e : i = o
    · subst e
      rw [if_neg (by omega), if_pos (by omega), upd_same, Nat.sub_self]
      rfl
    · by_cases q : o + 1 ≤ i ∧ i < o + 1 + r.length
      · rw [if_pos q, if_pos (by omega), show i - o = (i - (o + 1)) + 1 by omega, List.getD_cons_succ, upd_other _ _ _ _ e]
      · rw [if_neg q, if_neg (by omega), upd_other _ _ _ _ e]
/-- memory, a line's bytes laid into it -/
def wbm (m : Nat → Nat) (e : Ln) : Nat → Nat := fun o => if e.a - 65536 ≤ o ∧ o < e.a - 65536 + 16 then e.b (o - (e.a - 65536)) else m o
section
variable {x : World} {B p rb rc mb mc nb ab kn ka : Nat} {P H C : Nat → Nat} {V : Nat → Nat → Value} {S : BS}
end
end Go.Proofs.YtemamhkhjijdlaaGreatDoor
