/-
  PREDICT's LAW PredictGuesses: its small parts.
-/
import Derived.Test.YtaioaakaffafoaaDoorFc
namespace Go.Proofs.YtaioaakaffafoaaDoor
open Go Go.RowKit
set_option maxHeartbeats 400000 in
theorem guessing_any (a b c d e : Int) (w : World) : Calls Tryd.prog 7 #[.agg #[.int .i64 a, .int .i64 b, .int .i64 c, .int .i64 d, .int .i64 e]] w fun r w' => r = .returned (.agg #[.int .i64 a, .int .i64 b, .int .i64 c, .int .i64 d, .int .i64 e]) ∧ Below w.heap.size w w' := by
  go_enter Tryd.func7, Tryd.ntmps7
  go_wp2
  refine bodyPost_ret (v := .agg #[.int .i64 a, .int .i64 b, .int .i64 c, .int .i64 d, .int .i64 e]) (by simp [results, Tryd.results7, go_sem]) rfl ⟨rfl, ?_⟩
  repeat (with_reducible first | exact Below.refl _ _ | refine Below.drew ?_ | refine Below.alloc ?_ (by first | omega | (simp <;> omega)) _ | refine Below.setCell ?_ (by first | omega | (simp <;> omega)) _)
set_option maxHeartbeats 400000 in
theorem mark_any (a b c : Int) (w : World) : Calls Tryd.prog 13 #[.agg #[.int .i64 a, .int .i64 b, .int .u32 c]] w fun r w' => r = .returned (.agg #[.int .i64 a, .int .i64 b, .int .u32 c]) ∧ Below w.heap.size w w' := by
  go_enter Tryd.func13, Tryd.ntmps13
  go_wp2
  refine bodyPost_ret (v := .agg #[.int .i64 a, .int .i64 b, .int .u32 c]) (by simp [results, Tryd.results13, go_sem]) rfl ⟨rfl, ?_⟩
  repeat (with_reducible first | exact Below.refl _ _ | refine Below.drew ?_ | refine Below.alloc ?_ (by first | omega | (simp <;> omega)) _ | refine Below.setCell ?_ (by first | omega | (simp <;> omega)) _)
def whatN (what : Int) : Int := if what = 1 then 1 else if what = 2 then 2 else if what = 3 then 3 else 0
theorem whatN_is (what : Int) : What (whatN what) := by
  unfold whatN What
  split
  · exact Or.inr (Or.inl rfl)
  · split
    · exact Or.inr (Or.inr (Or.inl rfl))
    · split
      · exact Or.inr (Or.inr (Or.inr rfl))
      · exact Or.inl rfl
set_option maxHeartbeats 1000000 in
theorem instr1 (kn oa pc rd rs1 imm tg : Int) (taken : Bool) (w : World) : Calls Tryd.prog 10 #[.agg #[.int .i64 kn, .int .i64 oa, .int .u32 pc, .int .i64 1, .int .i64 rd, .int .i64 rs1, .int .i64 imm, .bool taken, .int .u32 tg]] w fun r w' => r = .returned (.tuple #[.agg #[.int .i64 8, .int .i64 rd, .int .i64 rs1, .int .i64 0, .int .i64 imm], .agg #[.int .i64 1, .int .i64 rd, .int .i64 rs1, .int .i64 imm]]) ∧ Below w.heap.size w w' := by
  go_enter Tryd.func10, Tryd.ntmps10
  go_wp2
  go_region
  all_goals (try go_wp2)
  refine bodyPost_ret (v := .tuple #[.agg #[.int .i64 8, .int .i64 rd, .int .i64 rs1, .int .i64 0, .int .i64 imm], .agg #[.int .i64 1, .int .i64 rd, .int .i64 rs1, .int .i64 imm]]) (by simp [results, Tryd.results10, go_sem]) rfl ⟨rfl, ?_⟩
  repeat (with_reducible first | exact Below.refl _ _ | refine Below.drew ?_ | refine Below.alloc ?_ (by first | omega | (simp <;> omega)) _ | refine Below.setCell ?_ (by first | omega | (simp <;> omega)) _)
set_option maxHeartbeats 1000000 in
theorem instr2 (kn oa pc rd rs1 imm tg : Int) (taken : Bool) (w : World) : Calls Tryd.prog 10 #[.agg #[.int .i64 kn, .int .i64 oa, .int .u32 pc, .int .i64 2, .int .i64 rd, .int .i64 rs1, .int .i64 imm, .bool taken, .int .u32 tg]] w fun r w' => r = .returned (.tuple #[.agg #[.int .i64 3, .int .i64 rd, .int .i64 rs1, .int .i64 0, .int .i64 imm], .agg #[.int .i64 2, .int .i64 rd, .int .i64 rs1, .int .i64 imm]]) ∧ Below w.heap.size w w' := by
  go_enter Tryd.func10, Tryd.ntmps10
  go_wp2
  go_region
  all_goals (try go_wp2)
  refine bodyPost_ret (v := .tuple #[.agg #[.int .i64 3, .int .i64 rd, .int .i64 rs1, .int .i64 0, .int .i64 imm], .agg #[.int .i64 2, .int .i64 rd, .int .i64 rs1, .int .i64 imm]]) (by simp [results, Tryd.results10, go_sem]) rfl ⟨rfl, ?_⟩
  repeat (with_reducible first | exact Below.refl _ _ | refine Below.drew ?_ | refine Below.alloc ?_ (by first | omega | (simp <;> omega)) _ | refine Below.setCell ?_ (by first | omega | (simp <;> omega)) _)
set_option maxHeartbeats 1000000 in
theorem instr3 (kn oa pc rd rs1 imm tg : Int) (taken : Bool) (w : World) : Calls Tryd.prog 10 #[.agg #[.int .i64 kn, .int .i64 oa, .int .u32 pc, .int .i64 3, .int .i64 rd, .int .i64 rs1, .int .i64 imm, .bool taken, .int .u32 tg]] w fun r w' => r = .returned (.tuple #[.agg #[.int .i64 4, .int .i64 rd, .int .i64 rs1, .int .i64 0, .int .i64 imm], .agg #[.int .i64 3, .int .i64 rd, .int .i64 rs1, .int .i64 imm]]) ∧ Below w.heap.size w w' := by
  go_enter Tryd.func10, Tryd.ntmps10
  go_wp2
  go_region
  all_goals (try go_wp2)
  refine bodyPost_ret (v := .tuple #[.agg #[.int .i64 4, .int .i64 rd, .int .i64 rs1, .int .i64 0, .int .i64 imm], .agg #[.int .i64 3, .int .i64 rd, .int .i64 rs1, .int .i64 imm]]) (by simp [results, Tryd.results10, go_sem]) rfl ⟨rfl, ?_⟩
  repeat (with_reducible first | exact Below.refl _ _ | refine Below.drew ?_ | refine Below.alloc ?_ (by first | omega | (simp <;> omega)) _ | refine Below.setCell ?_ (by first | omega | (simp <;> omega)) _)
set_option maxHeartbeats 1000000 in
theorem instr0 (kn oa pc what rd rs1 imm tg : Int) (taken : Bool) (w : World) (h1 : (what == 1) = false) (h2 : (what == 2) = false) (h3 : (what == 3) = false) : Calls Tryd.prog 10 #[.agg #[.int .i64 kn, .int .i64 oa, .int .u32 pc, .int .i64 what, .int .i64 rd, .int .i64 rs1, .int .i64 imm, .bool taken, .int .u32 tg]] w fun r w' => r = .returned (.tuple #[.agg #[.int .i64 28, .int .i64 rd, .int .i64 rs1, .int .i64 0, .int .i64 imm], .agg #[.int .i64 0, .int .i64 rd, .int .i64 rs1, .int .i64 imm]]) ∧ Below w.heap.size w w' := by
  go_enter Tryd.func10, Tryd.ntmps10
  go_wp2
  go_region
  all_goals (try go_wp2)
  refine bodyPost_ret (v := .tuple #[.agg #[.int .i64 28, .int .i64 rd, .int .i64 rs1, .int .i64 0, .int .i64 imm], .agg #[.int .i64 0, .int .i64 rd, .int .i64 rs1, .int .i64 imm]]) (by simp [results, Tryd.results10, go_sem]) rfl ⟨rfl, ?_⟩
  repeat (with_reducible first | exact Below.refl _ _ | refine Below.drew ?_ | refine Below.alloc ?_ (by first | omega | (simp <;> omega)) _ | refine Below.setCell ?_ (by first | omega | (simp <;> omega)) _)
theorem instr_any (kn oa pc what rd rs1 imm tg : Int) (taken : Bool) (w : World) : Calls Tryd.prog 10 #[.agg #[.int .i64 kn, .int .i64 oa, .int .u32 pc, .int .i64 what, .int .i64 rd, .int .i64 rs1, .int .i64 imm, .bool taken, .int .u32 tg]] w fun r w' => r = .returned (.tuple #[.agg #[.int .i64 (opW (whatN what)), .int .i64 rd, .int .i64 rs1, .int .i64 0, .int .i64 imm], .agg #[.int .i64 (whatN what), .int .i64 rd, .int .i64 rs1, .int .i64 imm]]) ∧ Below w.heap.size w w' := by
  by_cases h1 : what = 1
  · subst h1; exact instr1 kn oa pc rd rs1 imm tg taken w
  by_cases h2 : what = 2
  · subst h2; exact instr2 kn oa pc rd rs1 imm tg taken w
  by_cases h3 : what = 3
  · subst h3; exact instr3 kn oa pc rd rs1 imm tg taken w
  · have e : whatN what = 0 := by unfold whatN; rw [if_neg h1, if_neg h2, if_neg h3]
    rw [e]
    exact instr0 kn oa pc what rd rs1 imm tg taken w (by simpa using h1) (by simpa using h2) (by simpa using h3)
end Go.Proofs.YtaioaakaffafoaaDoor
