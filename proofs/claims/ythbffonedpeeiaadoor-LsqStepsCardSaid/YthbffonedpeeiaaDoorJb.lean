/-
  THE ANSWER: find, first, New, Value.
-/
import Derived.Test.YthbffonedpeeiaaDoorJa
namespace Go.Proofs.YthbffonedpeeiaaDoor
open Go Go.RowKit
def RS.isN (S : RS) (seq : Int) (i : Nat) : Bool := decide ((S.at i).n = seq)
def RS.act (S : RS) (i : Nat) : Bool := !(S.at i).rt
set_option maxRecDepth 100000 in
set_option maxHeartbeats 1000000 in
theorem rfind_any (B p : Nat) (v : Value) (S : RS) (seq : Int) (w : World) (k : Rm w B p v S) : Calls Tryd.prog 42 #[.pointer (some ⟨p, 0, none⟩), .int .i64 seq] w fun e w' => ∃ r, e = .returned (.int .i64 r) ∧ First (S.isN seq) S.on.length r ∧ w' = w := by
  obtain ⟨hp, -, c1, -⟩ := k.cells
  have hs := k.small.1
  obtain ⟨q, cap, hv, -, -⟩ := own_rrow k.l
  rw [hv] at c1
  have HK := Hid.in k
  have HV := Hid.in hv
  obtain ⟨m, hm⟩ : ∃ m, S.on.length = m := ⟨_, rfl⟩
  have HM := Hid.in hm
  rw [hm] at c1 hs ⊢
  clear k hv hm
  go_enter Tryd.func42, Tryd.ntmps42
  go_wp2
  go_loopw [5] (fun u wr => ∃ i : Nat, u = .int .i64 i ∧ i ≤ m ∧ (∀ j, j < i → S.isN seq j = false) ∧ w = wr) (fun v _ => 33 - (intOf v).toNat)
  case atStart => exact ⟨0, rfl, by omega, fun j hj => by omega, rfl⟩
  case round =>
    obtain ⟨i, rfl, hi, hno, rfl⟩ := hrel
    have HN := Hid.in hno
    clear hno
    by_cases him : i < m
    · obtain ⟨g, cap', hv', -, -, -, hrow⟩ := HK.out.rows i (by rw [HM.out]; exact him)
      rw [HV.out] at hv'
      cases hv'
      obtain ⟨-, x2, -⟩ := hrow w (Below.refl _ _)
      obtain ⟨y0, -⟩ := rrow_cells x2
      obtain ⟨x, hx⟩ : ∃ x, (S.at i).n = x := ⟨_, rfl⟩
      rw [hx] at y0
      have HX := Hid.in hx
      have hmul : (i : Int) * 13 = ((i * 13 : Nat) : Int) := by omega
      clear hrow x2 hx
      by_cases he : x = seq
      · subst he
        go_wp2
        go_ret
        exact ⟨_, rfl, Or.inl ⟨i, him, by unfold RS.isN; rw [HX.out]; simp, HN.out, rfl⟩, rfl⟩
      · have hd : (x == seq) = false := by simpa using he
        go_wp2
        go_roundw
        case rel =>
          refine ⟨i + 1, by simp, by omega, fun j hj => ?_, trivial⟩
          rcases Nat.lt_or_ge j i with q | q
          · exact HN.out j q
          · obtain rfl : j = i := by omega
            unfold RS.isN
            rw [HX.out, decide_eq_false he]
        case measure =>
          simp [intOf]
          omega
    · obtain rfl : i = m := by omega
      go_wp2
      go_ret
      exact ⟨_, rfl, Or.inr ⟨HN.out, rfl⟩, rfl⟩
set_option maxRecDepth 100000 in
set_option maxHeartbeats 1000000 in
theorem rfirst_any (B p : Nat) (v : Value) (S : RS) (w : World) (k : Rm w B p v S) : Calls Tryd.prog 54 #[.pointer (some ⟨p, 0, none⟩)] w fun e w' => ∃ r, e = .returned (.int .i64 r) ∧ First S.act S.on.length r ∧ w' = w := by
  obtain ⟨hp, -, c1, -⟩ := k.cells
  have hs := k.small.1
  obtain ⟨q, cap, hv, -, -⟩ := own_rrow k.l
  rw [hv] at c1
  have HK := Hid.in k
  have HV := Hid.in hv
  obtain ⟨m, hm⟩ : ∃ m, S.on.length = m := ⟨_, rfl⟩
  have HM := Hid.in hm
  rw [hm] at c1 hs ⊢
  clear k hv hm
  go_enter Tryd.func54, Tryd.ntmps54
  go_wp2
  go_loopw [3] (fun u wr => ∃ i : Nat, u = .int .i64 i ∧ i ≤ m ∧ (∀ j, j < i → S.act j = false) ∧ w = wr) (fun v _ => 33 - (intOf v).toNat)
  case atStart => exact ⟨0, rfl, by omega, fun j hj => by omega, rfl⟩
  case round =>
    obtain ⟨i, rfl, hi, hno, rfl⟩ := hrel
    have HN := Hid.in hno
    clear hno
    by_cases him : i < m
    · obtain ⟨g, cap', hv', -, -, -, hrow⟩ := HK.out.rows i (by rw [HM.out]; exact him)
      rw [HV.out] at hv'
      cases hv'
      obtain ⟨-, x2, -⟩ := hrow w (Below.refl _ _)
      obtain ⟨-, -, -, -, -, -, -, -, y12⟩ := rrow_cells x2
      obtain ⟨x, hx⟩ : ∃ x, (S.at i).rt = x := ⟨_, rfl⟩
      rw [hx] at y12
      have HX := Hid.in hx
      have hmul : (i : Int) * 13 = ((i * 13 : Nat) : Int) := by omega
      clear hrow x2 hx
      cases x
      · go_wp2
        go_ret
        exact ⟨_, rfl, Or.inl ⟨i, him, by unfold RS.act; rw [HX.out]; rfl, HN.out, rfl⟩, rfl⟩
      · go_wp2
        go_roundw
        case rel =>
          refine ⟨i + 1, by simp, by omega, fun j hj => ?_, trivial⟩
          rcases Nat.lt_or_ge j i with q | q
          · exact HN.out j q
          · obtain rfl : j = i := by omega
            unfold RS.act
            rw [HX.out]
            rfl
        case measure =>
          simp [intOf]
          omega
    · obtain rfl : i = m := by omega
      go_wp2
      go_ret
      exact ⟨_, rfl, Or.inr ⟨HN.out, rfl⟩, rfl⟩
theorem rnew_bad (n : Int) (w : World) (hn : ¬ (1 ≤ n ∧ n ≤ 32)) : Calls Tryd.prog 6 #[.int .i64 n] w fun e w' => e = .returned (.tuple #[.pointer none, .int .i64 2]) ∧ w' = w := by
  by_cases h : n < 1
  · go_enter Tryd.func6, Tryd.ntmps6
    go_wp2
    refine bodyPost_ret (results_tmp2 Tryd.results6 _ _ _) rfl ?_
    exact ⟨rfl, rfl⟩
  · have h2 : 32 < n := by omega
    go_enter Tryd.func6, Tryd.ntmps6
    go_wp2
    refine bodyPost_ret (results_tmp2 Tryd.results6 _ _ _) rfl ?_
    exact ⟨rfl, rfl⟩
theorem rnew_good (B n : Nat) (w : World) (hB : B ≤ w.heap.size) (hn : 1 ≤ n ∧ n ≤ 32) : Calls Tryd.prog 6 #[.int .i64 n] w fun e w' => e = .returned (.tuple #[.pointer (some ⟨w.heap.size, 0, none⟩), .int .i64 0]) ∧ Rm w' B w.heap.size (.slice none 0 0) ⟨n, []⟩ ∧ Below w.heap.size w w' := by
  have h1 : ¬ (n : Int) < 1 := by omega
  have h2 : ¬ (32 : Int) < n := by omega
  go_enter Tryd.func6, Tryd.ntmps6
  go_wp2
  refine bodyPost_ret (results_tmp2 Tryd.results6 _ _ _) rfl ?_
  refine ⟨rfl, ⟨?_, ⟨rfl, Or.inl ⟨rfl, rfl⟩⟩, by simp [Value.ownBlock], hB, ⟨by simp, hn.2⟩, fun i hi => absurd hi (by simp)⟩, (Below.refl _ _).alloc (Nat.le_refl _) _⟩
  exact cells_new w (fun i hi => by
    match i, hi with
    | 0, _ => rfl
    | 1, _ => rfl)
def RS.mayV (S : RS) (r : Int) : Prop := r ≠ -1 ∧ (S.at r.toNat).st = true ∧ (S.at r.toNat).hv = false ∧ (S.at r.toNat).rt = false
set_option maxRecDepth 100000 in
set_option maxHeartbeats 1000000 in
theorem rvalue_bad (B p : Nat) (v : Value) (S : RS) (seq r : Int) (d : Nat) (w : World) (k : Rm w B p v S) (hr : First (S.isN seq) S.on.length r) (h : ¬ S.mayV r) : Calls Tryd.prog 13 #[.pointer (some ⟨p, 0, none⟩), .int .i64 seq, .int .u32 d] w fun e w' => e = .returned (.int .i64 7) ∧ w' = w := by
  have HC := Hid.in (rfind_any B p v S seq w k)
  have HR := Hid.in hr
  by_cases h1 : r = -1
  · subst h1
    clear k hr h
    go_enter Tryd.func13, Tryd.ntmps13
    go_wp2_with (first | (refine HC.out.mono ?_; rintro e w2 ⟨r2, rfl, h1, rfl⟩; obtain rfl := h1.uniq HR.out; clear h1))
    go_ret
    exact ⟨rfl, rfl⟩
  · obtain ⟨i, hi, -, rfl⟩ := hr.some h1
    have hs := k.small.1
    have hmul : (i : Int) * 13 = ((i * 13 : Nat) : Int) := by omega
    have hneg : ¬ (i : Int) < 0 := by omega
    obtain ⟨g, cap, hv, hpg, -, -, hrow⟩ := k.rows i hi
    obtain ⟨x1, x2, -⟩ := hrow w (Below.refl _ _)
    obtain ⟨-, y1, -, -, -, y5, -, -, y12⟩ := rrow_cells x2
    have h2 : (S.at i).st = true → (S.at i).hv = false → (S.at i).rt = true := fun e1 e2 => by
      cases e3 : (S.at i).rt
      · exact absurd ⟨h1, by rw [Int.toNat_natCast]; exact ⟨e1, e2, e3⟩⟩ h
      · rfl
    generalize (S.at i).st = sb at y1 h2
    generalize (S.at i).hv = hb at y5 h2
    generalize (S.at i).rt = rb at y12 h2
    clear k hr h hrow x2 hv
    cases sb
    · go_enter Tryd.func13, Tryd.ntmps13
      go_wp2_with (first | (refine HC.out.mono ?_; rintro e w2 ⟨r2, rfl, h1, rfl⟩; obtain rfl := h1.uniq HR.out; clear h1))
      go_ret
      exact ⟨rfl, rfl⟩
    · cases hb
      · obtain rfl := h2 rfl rfl
        go_enter Tryd.func13, Tryd.ntmps13
        go_wp2_with (first | (refine HC.out.mono ?_; rintro e w2 ⟨r2, rfl, h1, rfl⟩; obtain rfl := h1.uniq HR.out; clear h1))
        go_ret
        exact ⟨rfl, rfl⟩
      · go_enter Tryd.func13, Tryd.ntmps13
        go_wp2_with (first | (refine HC.out.mono ?_; rintro e w2 ⟨r2, rfl, h1, rfl⟩; obtain rfl := h1.uniq HR.out; clear h1))
        go_ret
        exact ⟨rfl, rfl⟩
set_option maxRecDepth 100000 in
set_option maxHeartbeats 1000000 in
theorem rvalue_good (B p : Nat) (v : Value) (S : RS) (seq : Int) (i d : Nat) (w : World) (k : Rm w B p v S) (hr : First (S.isN seq) S.on.length i) (hi : i < S.on.length) (h1 : (S.at i).st = true) (h2 : (S.at i).hv = false) (h3 : (S.at i).rt = false) (hd : d < 4294967296) : Calls Tryd.prog 13 #[.pointer (some ⟨p, 0, none⟩), .int .i64 seq, .int .u32 d] w fun e w' => e = .returned (.int .i64 0) ∧ RStep w w' B p v v (S.set i { S.at i with d := d, hv := true }) := by
  have HC := Hid.in (rfind_any B p v S seq w k)
  have HR := Hid.in hr
  have HK := Hid.in k
  have hs := k.small.1
  have hmul : (i : Int) * 13 = ((i * 13 : Nat) : Int) := by omega
  have hneg : ¬ (i : Int) < 0 := by omega
  obtain ⟨g, cap, hv, hpg, -, -, hrow⟩ := k.rows i hi
  obtain ⟨x1, x2, x3, -⟩ := hrow w (Below.refl _ _)
  obtain ⟨-, y1, -, -, -, y5, y6, -, y12⟩ := rrow_cells x2
  rw [h1] at y1
  rw [h2] at y5
  rw [h3] at y12
  have f5 := x3 (i * 13 + 5)
  have f6 := x3 (i * 13 + 6)
  have HV := Hid.in hv
  have hpg2 : g ≠ p := Ne.symm hpg
  clear k hr hrow x2 x3 hv
  go_enter Tryd.func13, Tryd.ntmps13
  go_wp2_with (first | (refine HC.out.mono ?_; rintro e w2 ⟨r2, rfl, h1, rfl⟩; obtain rfl := h1.uniq HR.out; clear h1))
  go_ret
  refine ⟨rfl, ?_⟩
  have f := HK.out.fit i hi
  have hl : (S.set i { S.at i with hv := true }).on.length = S.on.length := S.set_len i _
  have s1 := HK.out.set1 HV.out i hi 5 (by decide) (.bool true) { S.at i with hv := true } rfl ⟨f.n0, f.n1, f.a, f.z, f.d⟩
  have s2 := s1.q.set1 (g := g) (cap := cap) (by rw [hl]; exact HV.out) i (by omega) 6 (by decide) (.int .u32 d) { S.at i with d := d, hv := true } (by rw [S.at_set i _ hi]; rfl) ⟨f.n0, f.n1, f.a, f.z, hd⟩
  rw [S.set_set] at s2
  exact s1.trans s2
end Go.Proofs.YthbffonedpeeiaaDoor
