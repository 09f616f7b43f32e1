/-
  WINDOW: the ways through the places; where an instruction stands.
-/
import Derived.Test.YtckglpmjaplcnaaDoorVc
namespace Go.Proofs.YtckglpmjaplcnaaDoor
open Go Go.RowKit Go.Shelf
attribute [local go_sem] Oper.semAt_some
set_option maxRecDepth 100000 in
set_option maxHeartbeats 1000000 in
theorem oldest_hands (n p N cap : Nat) (q : Option Addr) (w : World) (hn : 1 ≤ n) (hN : N ≤ 64) (hp : p < w.heap.size) (c2 : w.cell? ⟨p, 2, none⟩ = some (.slice q N cap)) : Hands n Tryd.prog 32 (.pointer (some ⟨p, 0, none⟩)) N (fun i => .int .i64 i) w := by
  intro l J Jx W hW hY h0
  have c2' : W.cell? ⟨p, 2, none⟩ = some (.slice q N cap) := (hW.cell (p := ⟨p, 2, none⟩) hp).trans c2
  clear c2 hW hp
  refine callsIn_of_wp Tryd.func32 rfl trivial ?_ rfl
  simp only [Tryd.ntmps32, List.size_toArray, List.length_cons, List.length_nil, Nat.reduceAdd, Nat.reduceSub, Array.replicate_succ, Array.replicate_zero, List.push_toArray, List.append_toArray, List.nil_append, List.cons_append]
  gi_wp2
  gi_loopw [10] (fun i wr => ∃ k : Nat, k ≤ N ∧ i = .int .i64 k ∧ J k wr) (fun i _ => N - (intOf i).toNat)
  case atStart => exact ⟨0, Nat.zero_le _, rfl, h0⟩
  case round =>
    obtain ⟨k, hk, rfl, hJs⟩ := hrel
    by_cases hlt : k < N
    · obtain ⟨fn, tmps, assign, body, hy, hR⟩ := hY k wr hJs hlt
      gi_wp2
      refine hR.mono ?_
      rintro e W3 (⟨rfl, hJ3⟩ | ⟨rfl, hJx3⟩)
      · gi_wp2
        go_roundw
        case rel => exact ⟨k + 1, by omega, by simp, hJ3⟩
        case measure => simp [intOf]; omega
      · gi_wp2
        refine bodyPost_ret (results_none rfl _ _ _) rfl ?_
        exact ⟨⟨_, rfl⟩, Or.inr ⟨k, hlt, hJx3⟩⟩
    · obtain rfl : k = N := by omega
      gi_wp2
      go_end0
      exact ⟨⟨_, rfl⟩, Or.inl hJs⟩
set_option maxRecDepth 100000 in
set_option maxHeartbeats 1000000 in
theorem youngest_hands (n p N cap : Nat) (q : Option Addr) (w : World) (hn : 1 ≤ n) (hN : N ≤ 64) (hp : p < w.heap.size) (c2 : w.cell? ⟨p, 2, none⟩ = some (.slice q N cap)) : Hands n Tryd.prog 40 (.pointer (some ⟨p, 0, none⟩)) N (fun i => .int .i64 ((N : Int) - 1 - i)) w := by
  intro l J Jx W hW hY h0
  have c2' : W.cell? ⟨p, 2, none⟩ = some (.slice q N cap) := (hW.cell (p := ⟨p, 2, none⟩) hp).trans c2
  clear c2 hW hp
  refine callsIn_of_wp Tryd.func40 rfl trivial ?_ rfl
  simp only [Tryd.ntmps40, List.size_toArray, List.length_cons, List.length_nil, Nat.reduceAdd, Nat.reduceSub, Array.replicate_succ, Array.replicate_zero, List.push_toArray, List.append_toArray, List.nil_append, List.cons_append]
  gi_wp2
  gi_loopw [4] (fun i wr => ∃ k : Nat, k ≤ N ∧ i = .int .i64 ((N : Int) - 1 - k) ∧ J k wr) (fun i _ => (intOf i + 1).toNat)
  case atStart => exact ⟨0, Nat.zero_le _, by simp, h0⟩
  case round =>
    obtain ⟨k, hk, rfl, hJs⟩ := hrel
    by_cases hlt : k < N
    · obtain ⟨fn, tmps, assign, body, hy, hR⟩ := hY k wr hJs hlt
      obtain ⟨z, hz⟩ : ∃ z : Int, (N : Int) - 1 - k = z := ⟨_, rfl⟩
      have hz0 : 0 ≤ z := by omega
      have hz1 : z ≤ 64 := by omega
      rw [hz] at hy ⊢
      gi_wp2
      refine hR.mono ?_
      rintro e W3 (⟨rfl, hJ3⟩ | ⟨rfl, hJx3⟩)
      · gi_wp2
        go_roundw
        case rel => exact ⟨k + 1, by omega, by simp; omega, hJ3⟩
        case measure => simp [intOf]; omega
      · gi_wp2
        refine bodyPost_ret (results_none rfl _ _ _) rfl ?_
        exact ⟨⟨_, rfl⟩, Or.inr ⟨k, hlt, hJx3⟩⟩
    · obtain rfl : k = N := by omega
      have hz : (k : Int) - 1 - k = -1 := by omega
      rw [hz]
      gi_wp2
      go_end0
      exact ⟨⟨_, rfl⟩, Or.inl hJs⟩
end Go.Proofs.YtckglpmjaplcnaaDoor
