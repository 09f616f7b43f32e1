/-
  CACHE's LAW CacheMemory: its memory.
-/
import Derived.Test.YtaffimbkdmbndaaCl
import Derived.Deep.CutBlock
import Derived.Deep.DeepCutAuto
import Derived.Deep.RegionWith
namespace Go.Proofs.Ytaffimbkdmbndaa
open Go Go.RowKit
def I64 (c : Int) : Prop := -9223372036854775808 ≤ c ∧ c ≤ 9223372036854775807
/-- the law's choice -/
def pk (c : Int) (n : Nat) : Nat := (if c < 0 then -(c + 1) else c).toNat % n
theorem pk_lt (c : Int) (n : Nat) (h : 0 < n) : pk c n < n := Nat.mod_lt _ h
theorem pk_is (c : Int) (n : Nat) (h : 0 ≤ c) : c.tmod n = ((c.toNat % n : Nat) : Int) := by
  rw [Int.tmod_eq_emod_of_nonneg h]
  have : c = (c.toNat : Int) := by omega
  rw [this]
  simp
set_option maxHeartbeats 1000000 in
theorem pick_any (c : Int) (n : Nat) (w : World) (hc : I64 c) (hn : 0 < n) : Calls Try.prog 5 #[.int .i64 c, .int .i64 n] w fun e w' => e = .returned (.int .i64 (pk c n : Nat)) ∧ w' = w := by
  obtain ⟨hc1, hc2⟩ := hc
  have hz : ((n : Int) == 0) = false := by simp; omega
  have hz2 : ¬ (n : Int) = 0 := by omega
  have hz3 : ¬ (n : Int) = -1 := by omega
  by_cases h0 : c < 0
  · have he := pk_is (-(c + 1)) n (by omega)
    have hp : pk c n = (-(c + 1)).toNat % n := by simp [pk, h0]
    rw [hp]
    obtain ⟨k, hk⟩ : ∃ k, (-(c + 1)).toNat % n = k := ⟨_, rfl⟩
    rw [hk] at he ⊢
    clear hk hp
    go_enter Try.func5, Try.ntmps5
    go_wp2
    go_ret
    exact ⟨rfl, rfl⟩
  · have he := pk_is c n (by omega)
    have hp : pk c n = c.toNat % n := by simp [pk, h0]
    rw [hp]
    obtain ⟨k, hk⟩ : ∃ k, c.toNat % n = k := ⟨_, rfl⟩
    rw [hk] at he ⊢
    clear hk hp
    go_enter Try.func5, Try.ntmps5
    go_wp2
    go_ret
    exact ⟨rfl, rfl⟩
/-- all that lasts -/
structure Lw (w0 x : World) (p h c F M : Nat) (V : Nat → Value) (S : CS) (f m : Nat → Nat) : Prop where
  ch : Ch x w0.heap.size p h c V S
  cf : CellsAt 1024 x F (fun o => .int .u8 (f o))
  cm : CellsAt 1024 x M (fun o => .int .u8 (m o))
  nf : ¬ mine p h S.n V F
  nm : ¬ mine p h S.n V M
  ne : F ≠ M
  low : Below w0.heap.size w0 x
  lo : w0.heap.size ≤ F ∧ w0.heap.size ≤ M
theorem Lw.mineLo {w0 x : World} {p h c F M : Nat} {V : Nat → Value} {S : CS} {f m : Nat → Nat} (k : Lw w0 x p h c F M V S f m) (q : Nat) (hq : mine p h S.n V q) : w0.heap.size ≤ q ∧ q < x.heap.size := by
  rcases hq with rfl | rfl | ⟨i, hi, hb⟩
  · exact ⟨k.ch.lo.1, k.ch.c.here⟩
  · exact ⟨k.ch.lo.2, k.ch.v.here⟩
  · exact own_base (k.ch.l i hi) q hb
theorem Lw.below {w0 x y : World} {p h c F M : Nat} {V : Nat → Value} {S : CS} {f m : Nat → Nat} (k : Lw w0 x p h c F M V S f m) (t : Below x.heap.size x y) : Lw w0 y p h c F M V S f m :=
  ⟨k.ch.below t, k.cf.below t, k.cm.below t, k.nf, k.nm, k.ne, k.low.trans (t.mono k.low.size), k.lo⟩
theorem Lw.onC {w0 x y : World} {p h c F M : Nat} {V V' : Nat → Value} {S S' : CS} {f m : Nat → Nat} (k : Lw w0 x p h c F M V S f m) (ch : Ch y w0.heap.size p h c V' S') (t : Turned (mine p h S.n V) x y) (hV : ∀ q, mine p h S'.n V' q → mine p h S.n V q ∨ x.heap.size ≤ q) : Lw w0 y p h c F M V' S' f m :=
  ⟨ch, t.cells k.cf k.nf, t.cells k.cm k.nm, fun q => (hV F q).elim k.nf (fun e => by have := k.cf.here; omega), fun q => (hV M q).elim k.nm (fun e => by have := k.cm.here; omega), k.ne, k.low.trans (t.below k.low.size (fun q hq => (k.mineLo q hq).1)), k.lo⟩
theorem Lw.onF {w0 x y : World} {p h c F M : Nat} {V : Nat → Value} {S : CS} {f f' m : Nat → Nat} (k : Lw w0 x p h c F M V S f m) (t : Turned (fun q => q = F) x y) (cf : CellsAt 1024 y F (fun o => .int .u8 (f' o))) : Lw w0 y p h c F M V S f' m :=
  ⟨k.ch.turned t (fun e => k.nf (Or.inl e.symm)) (fun e => k.nf (Or.inr (Or.inl e.symm))) (fun i j hi hj e => k.nf (Or.inr (Or.inr ⟨i, hi, by rw [hj, e]⟩))), cf, t.cells k.cm (fun e => k.ne e.symm), k.nf, k.nm, k.ne, k.low.trans (t.below k.low.size (fun q e => by have := k.lo.1; omega)), k.lo⟩
theorem Lw.onM {w0 x y : World} {p h c F M : Nat} {V : Nat → Value} {S : CS} {f m m' : Nat → Nat} (k : Lw w0 x p h c F M V S f m) (t : Turned (fun q => q = M) x y) (cm : CellsAt 1024 y M (fun o => .int .u8 (m' o))) : Lw w0 y p h c F M V S f m' :=
  ⟨k.ch.turned t (fun e => k.nm (Or.inl e.symm)) (fun e => k.nm (Or.inr (Or.inl e.symm))) (fun i j hi hj e => k.nm (Or.inr (Or.inr ⟨i, hi, by rw [hj, e]⟩))), t.cells k.cf k.ne, cm, k.nf, k.nm, k.ne, k.low.trans (t.below k.low.size (fun q e => by have := k.lo.2; omega)), k.lo⟩
/-- what is handed in: a row of accesses -/
structure Acc where
  st : Bool
  ad : Int
  sz : Int
  da : Nat
def Accs (w : World) (p : Option Addr) (m : Nat) (g : Nat → Acc) : Prop := ∀ i, i < m → ∃ b o, p = some ⟨b, o, none⟩ ∧ b < w.heap.size ∧ w.cell? ⟨b, o + i * 4, none⟩ = some (.bool (g i).st) ∧ w.cell? ⟨b, o + i * 4 + 1, none⟩ = some (.int .i64 (g i).ad) ∧ w.cell? ⟨b, o + i * 4 + 2, none⟩ = some (.int .i64 (g i).sz) ∧ w.cell? ⟨b, o + i * 4 + 3, none⟩ = some (.int .u32 (g i).da) ∧ I64 (g i).ad ∧ I64 (g i).sz ∧ (g i).da < 4294967296
theorem leN_shift (g : Nat → Nat) : ∀ k, leN g (k + 1) = g 0 + 256 * leN (fun t => g (t + 1)) k
  | 0 => by simp [leN]
  | k + 1 => by
    rw [leN, leN_shift g k]
    show _ = g 0 + 256 * (leN (fun t => g (t + 1)) k + g (k + 1) * 256 ^ k)
    rw [Nat.pow_succ, Nat.mul_add, Nat.add_assoc]
    congr 2
    rw [Nat.mul_comm (256 ^ k) 256, ← Nat.mul_assoc, ← Nat.mul_assoc, Nat.mul_comm (g (k + 1)) 256]
theorem shl_or (x y : Nat) (hx : x < 16777216) (hy : y < 256) : bits .or .u32 ((x : Int) * 256 % 4294967296) (y : Int) = ((y + 256 * x : Nat) : Int) := by
  have e1 : (x : Int) * 256 % 4294967296 = ((x * 256 : Nat) : Int) := by omega
  rw [e1, u32_or_nat _ _ (by omega) (by omega), nat_join 8 _ _ (by omega) (by omega)]
  omega
theorem inv_start (n k : Nat) (hn : 1 ≤ n) (hk : 1 ≤ k) : Inv ⟨k, n, fun _ => []⟩ (fun _ => 0) (fun _ => 0) :=
  ⟨hn, hk, fun i hi e he => by simp at he, fun i hi => List.Pairwise.nil, fun x hx hn => rfl, fun _ => by decide, fun _ => by decide⟩
end Go.Proofs.Ytaffimbkdmbndaa
