/-
  BUS: note.
-/
import Derived.Test.YtbbaopldebdoiaaBuc
import Derived.Test.YtbbaopldebdoiaaCl
namespace Go.Proofs.Ytbbaopldebdoiaa
open Go Go.RowKit
theorem used_last (T : CS) (i : Nat) (h : 0 < (T.set i).length) : T.used i ((T.set i).length - 1) = T := by
  unfold CS.used CS.put
  have e : rest (T.set i) ((T.set i).length - 1) ++ [(T.set i).getD ((T.set i).length - 1) l0] = T.set i := by
    unfold rest
    rw [List.drop_eq_nil_of_le (by omega), List.append_nil]
    have h2 := cut_at (T.set i) ((T.set i).length - 1) (by omega)
    rw [List.drop_eq_nil_of_le (by omega)] at h2
    exact h2.symm
  rw [e]
  have : upd T.set i (T.set i) = T.set := by
    funext j
    unfold upd
    split
    · rename_i q; rw [q]
    · rfl
  rw [this]
theorem leN_one (b : Nat → Nat) : leN b 1 = b 0 := by simp [leN]
theorem cput_same (S : BS) (i : Nat) : S.cput i (S.c i) = S := by
  unfold BS.cput
  rw [if_same i S.c]
section
variable {x : World} {B p rb rc mb mc nb ab kn ka : Nat} {P H C : Nat → Nat} {V : Nat → Nat → Value} {S : BS}
/-- one byte of a line that stands last in its set is read: nothing changes -/
theorem read_last (k : Bm x B p rb rc mb mc nb ab kn ka P H C V S) (i L t : Nat) (hi : i < S.nc) (h16 : L % 16 = 0) (ht : t < 16) (hL : L + 16 < 4294967296) (hA : At ((S.c i).set ((S.c i).of L)) L (((S.c i).set ((S.c i).of L)).length - 1)) (e : Ln) (he : ((S.c i).set ((S.c i).of L)).getD (((S.c i).set ((S.c i).of L)).length - 1) l0 = e) (h8 : ∀ q, e.b q < 256) : Calls Try.prog 24 #[.pointer (some ⟨P i, 0, none⟩), .int .u32 ((L + t : Nat) : Int), .int .i64 1] x fun r w' => r = .returned (.tuple #[.int .u32 (e.b t : Nat), .bool true]) ∧ Bm w' B p rb rc mb mc nb ab kn ka P H C V S ∧ Turned (mine (P i) (H i) (S.c i).n (V i)) x w' := by
  have hlo : lineOf (L + t) = lineOf L := by unfold lineOf; omega
  have hof : (S.c i).of (L + t) = (S.c i).of L := of_line _ _ _ hlo
  have hA' : At ((S.c i).set ((S.c i).of (L + t))) (L + t) (((S.c i).set ((S.c i).of L)).length - 1) := by
    rw [hof]
    refine ⟨hA.1, ?_, fun j hj => ?_⟩
    · rw [hlo]; exact hA.2.1
    · rw [hlo]; exact hA.2.2 j hj
  have hr := read_at B (P i) (H i) (C i) (V i) (S.c i) (L + t) 1 (((S.c i).set ((S.c i).of L)).length - 1) x (k.ch i hi) (by omega) hA' (by unfold fits; simp) (fun j _ => by rw [hof, he]; exact h8 j)
  refine hr.mono fun r w' h => ?_
  obtain ⟨h1, h2, h3⟩ := h
  rw [hof] at h2
  rw [used_last _ _ (by have := hA.1; omega)] at h2
  have kk := k.cache1 i hi rfl h2 h3
  rw [cput_same] at kk
  refine ⟨?_, kk, h3⟩
  rw [h1, hof, he, leN_one]
  have : (L + t) % 16 + 0 = t := by omega
  rw [this]
end
end Go.Proofs.Ytbbaopldebdoiaa
