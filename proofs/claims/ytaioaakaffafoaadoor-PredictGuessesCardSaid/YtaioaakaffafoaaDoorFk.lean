/-
  PREDICT: how the answer's predictor is made.
-/
import Derived.Test.YtaioaakaffafoaaDoorFc
namespace Go.Proofs.YtaioaakaffafoaaDoor
open Go Go.RowKit
set_option maxRecDepth 20000 in
set_option maxHeartbeats 4000000 in
theorem rnew_bad (kind bits hist tg ret : Int) (w : World) (h : gOk kind bits hist tg ret = false) : Calls Tryd.prog 8 #[.agg #[.int .i64 kind, .int .i64 bits, .int .i64 hist, .int .i64 tg, .int .i64 ret]] w fun e w' => e = .returned (.tuple #[.pointer none, .int .i64 2]) ∧ Below w.heap.size w w' := by
  cases q0 : decide (kind < 0)
  · skip
    cases q1 : decide (3 < kind)
    · skip
      cases q2 : decide (bits < 1)
      · skip
        cases q3 : decide (10 < bits)
        · skip
          cases q4 : decide (hist < 0)
          · skip
            cases q5 : decide (bits < hist)
            · skip
              cases q6 : decide (tg < 0)
              · skip
                cases q7 : decide (8 < tg)
                · skip
                  cases q8 : decide (ret < 1)
                  · skip
                    cases q9 : decide (16 < ret)
                    · skip
                      exfalso
                      unfold gOk at h
                      simp at h q0 q1 q2 q3 q4 q5 q6 q7 q8 q9
                      omega
                    · clear h
                      go_enter Tryd.func8, Tryd.ntmps8
                      go_wp2
                      go_ret2
                      exact ⟨rfl, (Below.refl _ _).alloc (Nat.le_refl _) _⟩
                  · clear h
                    go_enter Tryd.func8, Tryd.ntmps8
                    go_wp2
                    go_ret2
                    exact ⟨rfl, (Below.refl _ _).alloc (Nat.le_refl _) _⟩
                · clear h
                  go_enter Tryd.func8, Tryd.ntmps8
                  go_wp2
                  go_ret2
                  exact ⟨rfl, (Below.refl _ _).alloc (Nat.le_refl _) _⟩
              · clear h
                go_enter Tryd.func8, Tryd.ntmps8
                go_wp2
                go_ret2
                exact ⟨rfl, (Below.refl _ _).alloc (Nat.le_refl _) _⟩
            · clear h
              go_enter Tryd.func8, Tryd.ntmps8
              go_wp2
              go_ret2
              exact ⟨rfl, (Below.refl _ _).alloc (Nat.le_refl _) _⟩
          · clear h
            go_enter Tryd.func8, Tryd.ntmps8
            go_wp2
            go_ret2
            exact ⟨rfl, (Below.refl _ _).alloc (Nat.le_refl _) _⟩
        · clear h
          go_enter Tryd.func8, Tryd.ntmps8
          go_wp2
          go_ret2
          exact ⟨rfl, (Below.refl _ _).alloc (Nat.le_refl _) _⟩
      · clear h
        go_enter Tryd.func8, Tryd.ntmps8
        go_wp2
        go_ret2
        exact ⟨rfl, (Below.refl _ _).alloc (Nat.le_refl _) _⟩
    · clear h
      go_enter Tryd.func8, Tryd.ntmps8
      go_wp2
      go_ret2
      exact ⟨rfl, (Below.refl _ _).alloc (Nat.le_refl _) _⟩
  · clear h
    go_enter Tryd.func8, Tryd.ntmps8
    go_wp2
    go_ret2
    exact ⟨rfl, (Below.refl _ _).alloc (Nat.le_refl _) _⟩
end Go.Proofs.YtaioaakaffafoaaDoor
