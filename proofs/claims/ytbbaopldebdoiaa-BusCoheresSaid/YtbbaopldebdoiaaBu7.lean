/-
  BUS: Read.
-/
import Derived.Test.YtbbaopldebdoiaaBu6
namespace Go.Proofs.Ytbbaopldebdoiaa
open Go Go.RowKit
/-- one of its caches is another -/
def BS.cput (S : BS) (i : Nat) (T : CS) : BS := { S with c := fun j => if j = i then T else S.c j }
theorem same_n (T : CS) (i : Nat) (l : List Ln) : (T.put i l).n = T.n := rfl
theorem if_same {α : Type} (i : Nat) (f : Nat → α) : (fun j => if j = i then f i else f j) = f := by
  funext j
  split
  · rename_i e; rw [e]
  · rfl
section
variable {x y : World} {B p rb rc mb mc nb ab kn ka : Nat} {P H C : Nat → Nat} {V : Nat → Nat → Value} {S : BS}
/-- one of its caches has changed, its rows stand where they stood -/
theorem Bm.cache1 (k : Bm x B p rb rc mb mc nb ab kn ka P H C V S) (i : Nat) (hi : i < S.nc) {T : CS} (hT : T.n = (S.c i).n) (ch : Ch y B (P i) (H i) (C i) (V i) T) (t : Turned (mine (P i) (H i) (S.c i).n (V i)) x y) : Bm y B p rb rc mb mc nb ab kn ka P H C V (S.cput i T) := by
  have h := k.cache i hi hT ch (fun j q _ hq => Or.inl hq) t
  rw [if_same i V] at h
  exact h
set_option maxRecDepth 100000 in
theorem bread_no (k : Bm x B p rb rc mb mc nb ab kn ka P H C V S) (core : Int) (a : Nat) (z : Int) (ha : a < 4294967296) (hh : S.has core a = false) : Calls Try.prog 11 #[.pointer (some ⟨p, 0, none⟩), .int .i64 core, .int .u32 a, .int .i64 z] x fun e w' => e = .returned (.tuple #[.int .u32 0, .bool false]) ∧ w' = x := by
  have HH := Hid.in (bhas_any k core a ha)
  rw [hh] at HH
  clear k ha hh
  go_enter Try.func11, Try.ntmps11
  go_wp2_with (go_at_call 17; refine HH.out.mono ?_; rintro e y ⟨rfl, hy⟩; have hy2 := hy.symm; clear hy; subst hy2)
  exact bodyPost_ret (v := .tuple #[.int .u32 0, .bool false]) (by simp [results, Try.results11, go_sem]) rfl ⟨rfl, rfl⟩
/-- Read, where there are such a core and such an address, is its cache's -/
theorem bread_of {R : Value → Value → World → Prop} (k : Bm x B p rb rc mb mc nb ab kn ka P H C V S) (i : Nat) (a : Nat) (z : Int) (ha : a < 4294967296) (hh : S.has i a = true) (hr : Calls Try.prog 24 #[.pointer (some ⟨P i, 0, none⟩), .int .u32 a, .int .i64 z] x fun e w' => ∃ u v, e = .returned (.tuple #[u, v]) ∧ R u v w') : Calls Try.prog 11 #[.pointer (some ⟨p, 0, none⟩), .int .i64 i, .int .u32 a, .int .i64 z] x fun e w' => ∃ u v, e = .returned (.tuple #[u, v]) ∧ R u v w' := by
  have HH := Hid.in (bhas_any k i a ha)
  rw [hh] at HH
  obtain ⟨i', hii, hi, -, -⟩ := has_core hh
  obtain rfl : i = i' := by omega
  have HR := Hid.in hr
  have c0 : x.cell? ⟨p, 0, none⟩ = some (.slice (some ⟨rb, 0, none⟩) S.nc rc) := k.c.cell 0 (by decide)
  have r0 : x.cell? ⟨rb, i, none⟩ = some (.pointer (some ⟨P i, 0, none⟩)) := k.row.cell i hi
  have hp := k.c.here
  have hrr := k.row.here
  have hi' : (i : Int) < (S.nc : Int) := by omega
  clear k ha hh hr hii hi
  go_enter Try.func11, Try.ntmps11
  go_wp2_with (first
    | (go_at_call 17; refine HH.out.mono ?_; rintro e y ⟨rfl, hy⟩; have hy2 := hy.symm; clear hy; subst hy2)
    | (go_at_call 24; refine HR.out.mono ?_; rintro e y ⟨u, v, rfl, hq⟩; have HQ := Hid.in hq; clear hq))
  exact bodyPost_ret (v := .tuple #[u, v]) (by simp [results, Try.results11, go_sem]) rfl ⟨u, v, rfl, HQ.out⟩
theorem bread_miss (k : Bm x B p rb rc mb mc nb ab kn ka P H C V S) (i a : Nat) (z : Int) (ha : a < 4294967296) (hh : S.has i a = true) (hno : No ((S.c i).set ((S.c i).of a)) a ∨ fits a z = false) : Calls Try.prog 11 #[.pointer (some ⟨p, 0, none⟩), .int .i64 i, .int .u32 a, .int .i64 z] x fun e w' => e = .returned (.tuple #[.int .u32 0, .bool false]) ∧ Below x.heap.size x w' := by
  obtain ⟨i', hii, hi, -, -⟩ := has_core hh
  obtain rfl : i = i' := by omega
  refine (bread_of (R := fun u v w' => u = .int .u32 0 ∧ v = .bool false ∧ Below x.heap.size x w') k i a z ha hh ((read_no B (P i) (H i) (C i) (V i) (S.c i) a z x (k.ch i hi) ha hno).mono fun e w' h => ⟨_, _, h.1, rfl, rfl, h.2⟩)).mono fun e w' h => ?_
  obtain ⟨u, v, rfl, rfl, rfl, hb⟩ := h
  exact ⟨rfl, hb⟩
theorem bread_hit (k : Bm x B p rb rc mb mc nb ab kn ka P H C V S) (i a z j : Nat) (ha : a < 4294967296) (hh : S.has i a = true) (hA : At ((S.c i).set ((S.c i).of a)) a j) (hz : fits a z = true) (hb : ∀ t, t < 16 → (((S.c i).set ((S.c i).of a)).getD j l0).b t < 256) : Calls Try.prog 11 #[.pointer (some ⟨p, 0, none⟩), .int .i64 i, .int .u32 a, .int .i64 z] x fun e w' => e = .returned (.tuple #[.int .u32 (leN (fun t => (((S.c i).set ((S.c i).of a)).getD j l0).b (a % 16 + t)) z : Nat), .bool true]) ∧ Bm w' B p rb rc mb mc nb ab kn ka P H C V (S.cput i ((S.c i).used ((S.c i).of a) j)) ∧ Turned (mine (P i) (H i) (S.c i).n (V i)) x w' := by
  obtain ⟨i', hii, hi, -, -⟩ := has_core hh
  obtain rfl : i = i' := by omega
  refine (bread_of (R := fun u v w' => u = .int .u32 (leN (fun t => (((S.c i).set ((S.c i).of a)).getD j l0).b (a % 16 + t)) z : Nat) ∧ v = .bool true ∧ Ch w' B (P i) (H i) (C i) (V i) ((S.c i).used ((S.c i).of a) j) ∧ Turned (mine (P i) (H i) (S.c i).n (V i)) x w') k i a z ha hh ((read_at B (P i) (H i) (C i) (V i) (S.c i) a z j x (k.ch i hi) ha hA hz hb).mono fun e w' h => ⟨_, _, h.1, rfl, rfl, h.2⟩)).mono fun e w' h => ?_
  obtain ⟨u, v, rfl, rfl, rfl, hc, ht⟩ := h
  exact ⟨rfl, k.cache1 i hi rfl hc ht, ht⟩
end
end Go.Proofs.Ytbbaopldebdoiaa
