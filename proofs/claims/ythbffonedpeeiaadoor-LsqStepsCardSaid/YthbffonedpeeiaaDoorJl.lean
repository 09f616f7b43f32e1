/-
  THE ANSWER: Address of a load.
-/
import Derived.Test.YthbffonedpeeiaaDoorJj
namespace Go.Proofs.YthbffonedpeeiaaDoor
open Go Go.RowKit
def Re.put (e : Re) (a z : Nat) : Re := { e with pl := true, a := a, z := z }
theorem Rm.put3 {w : World} {B p g cap : Nat} {v : Value} {S : RS} (k : Rm w B p v S) (hv : v = .slice (some ⟨g, 0, none⟩) S.on.length cap) (i : Nat) (hi : i < S.on.length) (a z : Nat) (ha : a < 4294967296) (hz : z = 1 ∨ z = 2 ∨ z = 4) (ai zi : Int) (hai : (a : Int) = ai) (hzi : (z : Int) = zi) : RStep w (((w.setCell ⟨g, i * 13 + 2, none⟩ (.bool true)).setCell ⟨g, i * 13 + 3, none⟩ (.int .i64 ai)).setCell ⟨g, i * 13 + 4, none⟩ (.int .i64 zi)) B p v v (S.set i ((S.at i).put a z)) := by
  subst hai hzi
  have f := k.fit i hi
  have l1 : (S.set i { S.at i with pl := true }).on.length = S.on.length := S.set_len i _
  have s1 := k.set1 hv i hi 2 (by decide) (.bool true) { S.at i with pl := true } rfl ⟨f.n0, f.n1, f.a, f.z, f.d⟩
  have s2 := s1.q.set1 (g := g) (cap := cap) (by rw [l1]; exact hv) i (by omega) 3 (by decide) (.int .i64 a) { S.at i with pl := true, a := a } (by rw [S.at_set i _ hi]; rfl) ⟨f.n0, f.n1, ha, f.z, f.d⟩
  rw [S.set_set] at s2
  have l2 : (S.set i { S.at i with pl := true, a := a }).on.length = S.on.length := S.set_len i _
  have s3 := s2.q.set1 (g := g) (cap := cap) (by rw [l2]; exact hv) i (by omega) 4 (by decide) (.int .i64 z) ((S.at i).put a z) (by rw [S.at_set i _ hi]; rfl) ⟨f.n0, f.n1, ha, Or.inr hz, f.d⟩
  rw [S.set_set] at s3
  exact (s1.trans s2).trans s3
set_option maxRecDepth 100000 in
set_option maxHeartbeats 1000000 in
theorem raddr_load (B p : Nat) (v : Value) (S : RS) (seq : Int) (i a z : Nat) (w : World) (k : Rm w B p v S) (hr : First (S.isN seq) S.on.length i) (hi : i < S.on.length) (hpl : (S.at i).pl = false) (hrt : (S.at i).rt = false) (hst : (S.at i).st = false) (ha : a < 4294967296) (hm : (z = 1 ∨ z = 2 ∨ z = 4) ∧ a % z = 0) : Calls Tryd.prog 11 #[.pointer (some ⟨p, 0, none⟩), .int .i64 seq, .int .i64 a, .int .i64 z] w fun e w' => e = .returned (.tuple #[.int .i64 (-1), .int .i64 0]) ∧ RStep w w' B p v v (S.set i ((S.at i).put a z)) := by
  have HC := Hid.in (rfind_any B p v S seq w k)
  have HR := Hid.in hr
  have HK := Hid.in k
  have hs := k.small.1
  have hmul : (i : Int) * 13 = ((i * 13 : Nat) : Int) := by omega
  have hneg : ¬ (i : Int) < 0 := by omega
  have hnd : decide ((i : Int) < 0) = false := decide_eq_false hneg
  obtain ⟨g, cap, hv, hpg, -, -, hrow⟩ := k.rows i hi
  obtain ⟨x1, x2, x3, x4⟩ := hrow w (Below.refl _ _)
  obtain ⟨-, y1, y2, y3, y4, -, -, -, y12⟩ := rrow_cells x2
  rw [hst] at y1
  rw [hpl] at y2
  rw [hrt] at y12
  have f2 := x3 (i * 13 + 2)
  have f3 := x3 (i * 13 + 3)
  have f4 := x3 (i * 13 + 4)
  have HV := Hid.in hv
  have hpg2 : g ≠ p := Ne.symm hpg
  have HS3 := Hid.in fun ai zi h1 h2 => k.put3 hv i hi a z ha hm.1 ai zi h1 h2
  obtain ⟨ai, hai⟩ : ∃ ai : Int, (a : Int) = ai := ⟨_, rfl⟩
  obtain ⟨zi, hzi⟩ : ∃ zi : Int, (z : Int) = zi := ⟨_, rfl⟩
  have hz : zi = 1 ∨ zi = 2 ∨ zi = 4 := by omega
  have ht : ai.tmod zi = 0 := by
    rw [Int.tmod_eq_emod_of_nonneg (by omega), ← hai, ← hzi]
    have := hm.2
    omega
  rw [hai, hzi]
  have HAI := Hid.in hai
  have HZI := Hid.in hzi
  clear k hr hrow x2 x3 hv hpl hrt hst hai hzi hm ha
  rcases hz with rfl | rfl | rfl
  all_goals
    go_enter Tryd.func11, Tryd.ntmps11
    go_wp2_with (first | (go_at_call 42; refine HC.out.mono ?_; rintro e w2 ⟨r2, rfl, h1, rfl⟩; obtain rfl := h1.uniq HR.out; clear h1))
    refine bodyPost_ret (results_tmp2 Tryd.results11 _ _ _) rfl ?_
    exact ⟨rfl, HS3.out _ _ HAI.out HZI.out⟩
/-- has a load read a byte too early? -/
def Re.bad1 (e : Re) (a z : Nat) (seq : Int) (b : Nat) : Bool := decide (a ≤ e.a + b) && (decide (e.a + b < a + z) && decide (e.f b < seq))
def Re.bad (e : Re) (a z : Nat) (seq : Int) : Bool := e.ld && (List.range e.z).any (e.bad1 a z seq)
def RS.bads (S : RS) (i a z : Nat) (seq : Int) (k : Nat) : Bool := decide (i < k) && (S.at k).bad a z seq
end Go.Proofs.YthbffonedpeeiaaDoor
