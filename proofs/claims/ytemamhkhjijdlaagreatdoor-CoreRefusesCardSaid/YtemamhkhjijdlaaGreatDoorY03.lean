import Derived.Test.YtemamhkhjijdlaaGreatDoorY02
import Derived.Great.BuildSlice
import Derived.Laws.MakeOwn
import Derived.Deep.Cut
/-
  CACHE: Fill.
-/
namespace Go.Proofs.YtemamhkhjijdlaaGreatDoor
open Go Go.RowKit
theorem append_op0_bus {P : Program} {o : Oper} {a : Act} {w w' : World} {K : Act → World → Prop} {Q : Exit → Act → World → Prop} {s x : Operand} {t : TypeId} {v u v' : Value} (ho : o.op = Op.call { callee := Callee.builtin Builtin.append, args := #[s, x], argTypes := #[t, t] }) (hs : a.eval s = v) (hx : a.eval x = u) (hr : (Builtin.append_ #[t, t] o.type #[v, u]).run P w = .ok v' w') (hK : K (a.put o.dst v') w') : o.wp P a w K Q := by
  unfold Oper.wp
  simp [execOp, ho, resolve, invoke, builtin, hs, hx, hr, Result.andThen]
  exact hK
def CS.full (S : CS) (a : Nat) : Bool := decide ((S.set (S.of a)).length = S.ways)
def CS.left (S : CS) (a : Nat) : Ln := if S.full a then (S.set (S.of a)).getD 0 l0 else l0
def CS.kept (S : CS) (a : Nat) : List Ln := if S.full a then rest (S.set (S.of a)) 0 else S.set (S.of a)
def CS.fill (S : CS) (a s : Nat) (b : Nat → Nat) : CS := S.put (S.of a) (S.kept a ++ [⟨a, s, b⟩])
theorem arr_info : (Tryz.prog.info? 166).map (·.size) = some 16 := by kernel_rfl
end Go.Proofs.YtemamhkhjijdlaaGreatDoor
/-
  CACHE: New.
-/
namespace Go.Proofs.YtemamhkhjijdlaaGreatDoor
open Go Go.RowKit
theorem make_run_bus {P : Program} (t e : TypeId) (z : Value) (bytes : Nat) (ht : P.underlying t = some (.slice e)) (hi : (P.info? e).map (fun i => (i.zero, i.size, i.bytes)) = some (some z, 1, bytes)) (hz : z.cells = #[z]) (n : Nat) (hb : (bytes : Int) * n ≤ 281474976710656) (hn : n ≤ 9223372036854775807) : ∀ u : World, (Instr.makeSlice t (.int .i64 n) (.int .i64 n)).run P u = .ok (.slice (some ⟨u.heap.size, 0, none⟩) n n) (u.alloc (.cells (madeCells #[z] n) e)) := fun u => by
  obtain ⟨i, h1, h2, h3, h4⟩ := info_parts_bus hi
  have q := run_make (P := P) u t e i z ht h1 h2 .i64 .i64 n n (by omega) (Int.le_refl _) (by rw [h4]; exact hb) (by omega)
  simpa [h3, hz] using q
theorem made_cell_bus (z : Value) (n i : Nat) (h : i < n) : (madeCells #[z] n)[i]? = some z := by
  simp [madeCells, h, Nat.mod_one]
set_option maxRecDepth 100000 in
set_option maxHeartbeats 1000000 in
theorem isShape_good (n : Nat) (k : Int) (w : World) (hn : n = 1 ∨ n = 2 ∨ n = 4 ∨ n = 8 ∨ n = 16) (hk : 1 ≤ k ∧ k ≤ 4) : Calls Tryz.prog 97 #[.agg #[.int .i64 n, .int .i64 k]] w fun e w' => e = .returned (.bool true) ∧ Below w.heap.size w w' := by
  obtain ⟨k1, k4⟩ := hk
  have e1 : bits .and .i64 1 0 = 0 := by decide +kernel
  have e2 : bits .and .i64 2 1 = 0 := by decide +kernel
  have e4 : bits .and .i64 4 3 = 0 := by decide +kernel
  have e8 : bits .and .i64 8 7 = 0 := by decide +kernel
  have e16 : bits .and .i64 16 15 = 0 := by decide +kernel
  rcases hn with rfl | rfl | rfl | rfl | rfl
  all_goals
    go_enter Tryz.func97, Tryz.ntmps97
    go_wp2
    go_ret
    exact ⟨by simp, (Below.refl _ _).alloc (Nat.le_refl _) _⟩
set_option maxRecDepth 100000 in
set_option maxHeartbeats 1000000 in
theorem new_good_bus (B n k : Nat) (w : World) (hB : B ≤ w.heap.size) (hn : n = 1 ∨ n = 2 ∨ n = 4 ∨ n = 8 ∨ n = 16) (hk : 1 ≤ k ∧ k ≤ 4) : Calls Tryz.prog 57 #[.agg #[.int .i64 n, .int .i64 k]] w fun e w' => ∃ p h, e = .returned (.tuple #[.pointer (some ⟨p, 0, none⟩), .nilIface]) ∧ Ch w' B p h n (fun _ => .slice none 0 0) ⟨k, n, fun _ => []⟩ ∧ Below w.heap.size w w' ∧ w.heap.size ≤ p ∧ w.heap.size ≤ h := by
  have HN := Hid.in hn
  have HKK := Hid.in hk
  have hn16 : n ≤ 16 := by omega
  have hmk := make_run_bus (P := Tryz.prog) 242 275 (.slice none 0 0) 24 Tryz.underlying242 (by kernel_rfl) rfl n (by omega) (by omega)
  have hb0 : Below w.heap.size w (w.alloc (.cells #[.int .i64 n, .int .i64 k] 27)) := (Below.refl _ _).alloc (Nat.le_refl _) _
  obtain ⟨X, hX⟩ : ∃ X, w.alloc (.cells #[.int .i64 n, .int .i64 k] 27) = X := ⟨_, rfl⟩
  have HX := Hid.in hX
  have cX : X.cell? ⟨w.heap.size, 0, none⟩ = some (.int .i64 n) ∧ X.cell? ⟨w.heap.size, 1, none⟩ = some (.int .i64 k) ∧ w.heap.size < X.heap.size := by
    rw [← hX]
    exact ⟨World.cell?_alloc_new w _ _ 0, World.cell?_alloc_new w _ _ 1, by simp⟩
  have HCX := Hid.in cX
  rw [hX] at hb0
  have HB0 := Hid.in hb0
  clear hn hk hX cX hb0
  go_enter Tryz.func57, Tryz.ntmps57
  go_wp2_with (go_at_call 97; rw [HX.out]; refine (isShape_good n k _ HN.out (by have := HKK.out; omega)).mono ?_; rintro e w1 ⟨rfl, hb⟩; have HB := Hid.in hb; have c0 := (hb.cell (p := ⟨w.heap.size, 0, none⟩) HCX.out.2.2).trans HCX.out.1; have c1 := (hb.cell (p := ⟨w.heap.size, 1, none⟩) HCX.out.2.2).trans HCX.out.2.1; have hw1 := Nat.lt_of_lt_of_le HCX.out.2.2 hb.size; clear hb)
  go_region
  go_wp2
  refine bodyPost_ret (results_tmp2 Tryz.results57 _ _ _) rfl ?_
  have hs1 : w.heap.size ≤ w1.heap.size := by omega
  refine ⟨w1.heap.size + 1, w1.heap.size, rfl, ?_, ?_, by omega, hs1⟩
  · refine Ch.drew ⟨?_, ?_, fun i hi => ⟨rfl, Or.inl ⟨rfl, rfl⟩⟩, by omega, fun i hi => by simp [Value.ownBlock], fun i hi => by simp [Value.ownBlock], fun a b q ha hb hab hq => by simp [Value.ownBlock], fun i hi => by show 0 ≤ k; omega, ?_, by omega⟩
    · have q := cells_new (n := 2) (g := cv k w1.heap.size n n) (t := 244) (c := #[.int .i64 k, .slice (some ⟨w1.heap.size, 0, none⟩) n n]) (w1.alloc (.cells (madeCells #[.slice none 0 0] n) 275)) (fun i hi => by
        match i, hi with
        | 0, _ => rfl
        | 1, _ => rfl)
      rw [World.size_alloc] at q
      exact q
    · exact (cells_new (t := 275) w1 (made_cell_bus (.slice none 0 0) n)).alloc _
    · have h1 := HKK.out
      have h2 := HN.out
      show k ≤ 4 ∧ 1 ≤ k ∧ 1 ≤ n ∧ n ≤ 16 ∧ n ≤ n ∧ n ≤ 16
      omega
  · exact ((((HB0.out.trans (HB.out.mono HB0.out.size)).alloc (by omega) _).alloc (by simp; omega) _)).drew
end Go.Proofs.YtemamhkhjijdlaaGreatDoor
/-
  CACHE: what is refused by Read, Write, Fill, New.
-/
namespace Go.Proofs.YtemamhkhjijdlaaGreatDoor
open Go Go.RowKit
end Go.Proofs.YtemamhkhjijdlaaGreatDoor
/-
  CACHE: Lower.
-/
namespace Go.Proofs.YtemamhkhjijdlaaGreatDoor
open Go Go.RowKit
end Go.Proofs.YtemamhkhjijdlaaGreatDoor
