/-
  THE BUS IN MEMORY.
-/
import Derived.Test.YtbbaopldebdoiaaBu1
import Derived.Test.YtbbaopldebdoiaaGb
namespace Go.Proofs.Ytbbaopldebdoiaa
open Go Go.RowKit
/-- a bus, plainly: cores, cycles, caches, memory, what is newer, what was asked, whose turn it is, does a transaction go on, for how long -/
structure BS where
  nc : Nat
  cyc : Nat
  c : Nat → CS
  len : Nat
  mem : Nat → Nat
  nw : Int → Option (Nat → Nat)
  ak : Int → Option (Nat × Bool)
  turn : Nat
  on : Bool
  tk : Nat
def askV (p : Nat × Bool) : Value := .agg #[.int .u32 p.1, .bool p.2]
def encN (f : Int → Option (Nat → Nat)) (a : Int) : Option Value := (f a).map fun b => .agg (bvs b).toArray
def encA (f : Int → Option (Nat × Bool)) (a : Int) : Option Value := (f a).map askV
def bv (rb rc mb mc nb ab : Nat) (S : BS) : Nat → Value
  | 0 => .slice (some ⟨rb, 0, none⟩) S.nc rc
  | 1 => .int .i64 S.cyc
  | 2 => .slice (some ⟨mb, 0, none⟩) S.len mc
  | 3 => .map (some nb)
  | 4 => .map (some ab)
  | 5 => .int .i64 S.turn
  | 6 => .bool S.on
  | _ => .int .i64 S.tk
/-- the blocks of a bus that are none of its caches' -/
def own5 (p rb mb nb ab : Nat) (j : Nat) : Prop := j = p ∨ j = rb ∨ j = mb ∨ j = nb ∨ j = ab
structure Bm (x : World) (B p rb rc mb mc nb ab kn ka : Nat) (P H C : Nat → Nat) (V : Nat → Nat → Value) (S : BS) : Prop where
  c : CellsAt 8 x p (bv rb rc mb mc nb ab S)
  row : CellsAt S.nc x rb (fun i => .pointer (some ⟨P i, 0, none⟩))
  ch : ∀ i, i < S.nc → Ch x B (P i) (H i) (C i) (V i) (S.c i)
  m : CellsAt S.len x mb (fun o => .int .u8 (S.mem o))
  nw : MapAt x 33 .u32 nb kn (encN S.nw)
  ak : MapAt x 3 .i64 ab ka (encA S.ak)
  d0 : p ≠ rb ∧ p ≠ mb ∧ p ≠ nb ∧ p ≠ ab ∧ rb ≠ mb ∧ rb ≠ nb ∧ rb ≠ ab ∧ mb ≠ nb ∧ mb ≠ ab ∧ nb ≠ ab
  d1 : ∀ i, i < S.nc → ∀ z, own5 p rb mb nb ab z → ¬ mine (P i) (H i) (S.c i).n (V i) z
  d2 : ∀ i j, i < S.nc → j < S.nc → i ≠ j → ∀ z, mine (P i) (H i) (S.c i).n (V i) z → ¬ mine (P j) (H j) (S.c j).n (V j) z
  lo : ∀ z, own5 p rb mb nb ab z → B ≤ z
  sz : 1 ≤ S.nc ∧ S.nc ≤ 2 ∧ S.cyc ≤ 10 ∧ S.len ≤ 4096 ∧ S.len % 16 = 0 ∧ S.turn < S.nc ∧ S.tk ≤ 10
  rm : S.nc ≤ rc ∧ S.len ≤ mc ∧ rc ≤ 9223372036854775807 ∧ mc ≤ 9223372036854775807
  m8 : ∀ o, S.mem o < 256
section
variable {x y : World} {B p rb rc mb mc nb ab kn ka : Nat} {P H C : Nat → Nat} {V : Nat → Nat → Value} {S : BS}
theorem mine_lt {p h c : Nat} {V : Nat → Value} {T : CS} (k : Ch x B p h c V T) : ∀ z, mine p h T.n V z → z < x.heap.size ∧ B ≤ z := by
  rintro z (rfl | rfl | ⟨i, hi, hz⟩)
  · exact ⟨k.c.here, k.lo.1⟩
  · exact ⟨k.v.here, k.lo.2⟩
  · have := own_base (k.l i hi) z hz
    exact ⟨this.2, this.1⟩
theorem Ch.off {Q : Nat → Prop} {p h c : Nat} {V : Nat → Value} {T : CS} (k : Ch x B p h c V T) (t : Turned Q x y) (hq : ∀ z, mine p h T.n V z → ¬ Q z) : Ch y B p h c V T :=
  k.turned t (hq p (Or.inl rfl)) (hq h (Or.inr (Or.inl rfl))) (fun i j hi hj => hq j (Or.inr (Or.inr ⟨i, hi, hj⟩)))
theorem Bm.at (k : Bm x B p rb rc mb mc nb ab kn ka P H C V S) : ∀ z, own5 p rb mb nb ab z → z < x.heap.size := by
  rintro z (rfl | rfl | rfl | rfl | rfl)
  · exact k.c.here
  · exact k.row.here
  · exact k.m.here
  · exact k.nw.here
  · exact k.ak.here
theorem Bm.below (k : Bm x B p rb rc mb mc nb ab kn ka P H C V S) (t : Below x.heap.size x y) : Bm y B p rb rc mb mc nb ab kn ka P H C V S :=
  ⟨k.c.below t, k.row.below t, fun i hi => (k.ch i hi).below t, k.m.below t, k.nw.below t, k.ak.below t, k.d0, k.d1, k.d2, k.lo, k.sz, k.rm, k.m8⟩
/-- one of its caches has changed -/
theorem Bm.cache (k : Bm x B p rb rc mb mc nb ab kn ka P H C V S) (i : Nat) (hi : i < S.nc) {T : CS} {W : Nat → Value} (hT : T.n = (S.c i).n) (ch : Ch y B (P i) (H i) (C i) W T) (hw : ∀ j q, j < T.n → (W j).ownBlock = some q → (V i j).ownBlock = some q ∨ x.heap.size ≤ q) (t : Turned (mine (P i) (H i) (S.c i).n (V i)) x y) : Bm y B p rb rc mb mc nb ab kn ka P H C (fun j => if j = i then W else V j) { S with c := fun j => if j = i then T else S.c j } := by
  have hm : ∀ z, mine (P i) (H i) T.n W z → mine (P i) (H i) (S.c i).n (V i) z ∨ x.heap.size ≤ z := by
    rintro z (rfl | rfl | ⟨j, hj, hz⟩)
    · exact Or.inl (Or.inl rfl)
    · exact Or.inl (Or.inr (Or.inl rfl))
    · rcases hw j z hj hz with h | h
      · exact Or.inl (Or.inr (Or.inr ⟨j, by omega, h⟩))
      · exact Or.inr h
  have h5 : ∀ z, own5 p rb mb nb ab z → ¬ mine (P i) (H i) (S.c i).n (V i) z := k.d1 i hi
  refine ⟨?_, ?_, fun j hj => ?_, ?_, ?_, ?_, k.d0, fun j hj z hz => ?_, fun a b ha hb hab z hz => ?_, k.lo, k.sz, k.rm, k.m8⟩
  · exact t.cells k.c (h5 p (Or.inl rfl))
  · exact t.cells k.row (h5 rb (Or.inr (Or.inl rfl)))
  · show Ch y B (P j) (H j) (C j) (if j = i then W else V j) (if j = i then T else S.c j)
    by_cases e : j = i
    · subst e
      rw [if_pos rfl, if_pos rfl]
      exact ch
    · rw [if_neg e, if_neg e]
      exact (k.ch j hj).off t (k.d2 j i hj hi e)
  · exact t.cells k.m (h5 mb (Or.inr (Or.inr (Or.inl rfl))))
  · exact k.nw.turned t (h5 nb (Or.inr (Or.inr (Or.inr (Or.inl rfl)))))
  · exact k.ak.turned t (h5 ab (Or.inr (Or.inr (Or.inr (Or.inr rfl)))))
  · show ¬ mine (P j) (H j) (if j = i then T else S.c j).n (if j = i then W else V j) z
    by_cases e : j = i
    · subst e
      rw [if_pos rfl, if_pos rfl]
      intro q
      rcases hm z q with h | h
      · exact h5 z hz h
      · have := k.at z hz
        omega
    · rw [if_neg e, if_neg e]
      exact k.d1 j hj z hz
  · show ¬ mine (P b) (H b) (if b = i then T else S.c b).n (if b = i then W else V b) z
    have hz2 : mine (P a) (H a) (if a = i then T else S.c a).n (if a = i then W else V a) z := hz
    clear hz
    by_cases ea : a = i
    · subst ea
      rw [if_pos rfl, if_pos rfl] at hz2
      rw [if_neg (fun e => hab e.symm), if_neg (fun e => hab e.symm)]
      rcases hm z hz2 with h | h
      · exact k.d2 a b ha hb hab z h
      · intro q
        have := (mine_lt (k.ch b hb) z q).1
        omega
    · rw [if_neg ea, if_neg ea] at hz2
      by_cases eb : b = i
      · subst eb
        rw [if_pos rfl, if_pos rfl]
        intro q
        rcases hm z q with h | h
        · exact k.d2 a b ha hb hab z hz2 h
        · have := (mine_lt (k.ch a ha) z hz2).1
          omega
      · rw [if_neg eb, if_neg eb]
        exact k.d2 a b ha hb hab z hz2
end
end Go.Proofs.Ytbbaopldebdoiaa
