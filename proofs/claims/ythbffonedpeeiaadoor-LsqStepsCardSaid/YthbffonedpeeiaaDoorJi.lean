/-
  THE ANSWER: Retire.
-/
import Derived.Test.YthbffonedpeeiaaDoorJh
namespace Go.Proofs.YthbffonedpeeiaaDoor
open Go Go.RowKit
def Re.done (e : Re) : Bool := if e.st then e.pl && e.hv else e.ld
set_option maxRecDepth 100000 in
set_option maxHeartbeats 1000000 in
theorem rretire_order (B p : Nat) (v : Value) (S : RS) (seq r : Int) (w : World) (k : Rm w B p v S) (hr : First S.act S.on.length r) (h : r = -1 ∨ (S.at r.toNat).n ≠ seq) : Calls Tryd.prog 21 #[.pointer (some ⟨p, 0, none⟩), .int .i64 seq] w fun e w' => e = .returned (.int .i64 5) ∧ w' = w := by
  have HC := Hid.in (rfirst_any B p v S w k)
  have HR := Hid.in hr
  by_cases h1 : r = -1
  · subst h1
    clear k hr h
    go_enter Tryd.func21, Tryd.ntmps21
    go_wp2_with (first | (go_at_call 54; refine HC.out.mono ?_; rintro e w2 ⟨r2, rfl, h1, rfl⟩; obtain rfl := h1.uniq HR.out; clear h1))
    go_ret
    exact ⟨rfl, rfl⟩
  · obtain ⟨i, hi, -, rfl⟩ := hr.some h1
    have hs := k.small.1
    have hmul : (i : Int) * 13 = ((i * 13 : Nat) : Int) := by omega
    have hneg : ¬ (i : Int) < 0 := by omega
    have hnd : decide ((i : Int) < 0) = false := decide_eq_false hneg
    have hn : (S.at i).n ≠ seq := by
      rcases h with h | h
      · exact absurd h h1
      · rw [Int.toNat_natCast] at h
        exact h
    obtain ⟨g, cap, hv, hpg, -, -, hrow⟩ := k.rows i hi
    obtain ⟨x1, x2, -⟩ := hrow w (Below.refl _ _)
    obtain ⟨y0, -⟩ := rrow_cells x2
    generalize (S.at i).n = x at y0 hn
    have hn2 : (x == seq) = false := by simpa using hn
    clear k hr h hrow x2 hv
    go_enter Tryd.func21, Tryd.ntmps21
    go_wp2_with (first | (go_at_call 54; refine HC.out.mono ?_; rintro e w2 ⟨r2, rfl, h1, rfl⟩; obtain rfl := h1.uniq HR.out; clear h1))
    go_ret
    exact ⟨rfl, rfl⟩
set_option maxRecDepth 100000 in
set_option maxHeartbeats 1000000 in
theorem rretire_store (B p : Nat) (v : Value) (S : RS) (seq : Int) (i : Nat) (w : World) (k : Rm w B p v S) (hr : First S.act S.on.length i) (hi : i < S.on.length) (hn : (S.at i).n = seq) (hst : (S.at i).st = true) (hpl : (S.at i).pl = true) (hhv : (S.at i).hv = true) : Calls Tryd.prog 21 #[.pointer (some ⟨p, 0, none⟩), .int .i64 seq] w fun e w' => e = .returned (.int .i64 0) ∧ RStep w w' B p v v (S.set i { S.at i with rt := true }) := by
  have HC := Hid.in (rfirst_any B p v S w k)
  have HR := Hid.in hr
  have HK := Hid.in k
  have hs := k.small.1
  have hmul : (i : Int) * 13 = ((i * 13 : Nat) : Int) := by omega
  have hneg : ¬ (i : Int) < 0 := by omega
  have hnd : decide ((i : Int) < 0) = false := decide_eq_false hneg
  obtain ⟨g, cap, hv, hpg, -, -, hrow⟩ := k.rows i hi
  obtain ⟨x1, x2, x3, x4⟩ := hrow w (Below.refl _ _)
  obtain ⟨y0, -⟩ := rrow_cells x2
  rw [hn] at y0
  have HV := Hid.in hv
  have HRW := Hid.in hrow
  obtain ⟨e, he⟩ : ∃ e, S.at i = e := ⟨_, rfl⟩
  have HE := Hid.in he
  rw [he] at x2 HRW hst hpl hhv ⊢
  have HX2 := Hid.in x2
  clear k hr hrow x2 x3 hv he hn
  go_enter Tryd.func21, Tryd.ntmps21
  go_upto_region 6 with (first
    | (go_at_call 54; refine HC.out.mono ?_; rintro e0 w2 ⟨r2, rfl, h1, rfl⟩; obtain rfl := h1.uniq HR.out; clear h1)
    | (refine ld_ent g (i * 13) e HX2.out rfl _ rfl rfl ?_)
    | (refine st_ent e zre rfl w2.heap.size rfl rfl rfl _ _ rfl rfl rfl ?_))
  obtain ⟨Z, hZ, rZ, bZ, hsZ⟩ := rboxed e w2 89
  rw [hZ]
  obtain ⟨-, z1, z2, -, -, z5, -, z7, -⟩ := rrow_cells0 rZ
  have HBZ := Hid.in bZ
  clear hZ rZ x1 y0
  obtain ⟨x1, x2, x3, x4⟩ := HRW.out Z bZ
  obtain ⟨-, -, -, -, -, -, -, -, y12⟩ := rrow_cells x2
  have f12 := x3 (i * 13 + 12)
  clear bZ x2 x3
  rw [hst] at z1
  rw [hpl] at z2
  rw [hhv] at z5
  go_wp2
  go_ret
  refine ⟨rfl, ?_⟩
  have f := HK.out.fit i hi
  rw [HE.out] at f
  exact (RStep.same HK.out HBZ.out).trans ((HK.out.below HBZ.out).set1 HV.out i hi 12 (by decide) (.bool true) { e with rt := true } (by rw [HE.out]; rfl) ⟨f.n0, f.n1, f.a, f.z, f.d⟩)
set_option maxRecDepth 100000 in
set_option maxHeartbeats 1000000 in
theorem rretire_load (B p : Nat) (v : Value) (S : RS) (seq : Int) (i : Nat) (w : World) (k : Rm w B p v S) (hr : First S.act S.on.length i) (hi : i < S.on.length) (hn : (S.at i).n = seq) (hst : (S.at i).st = false) (hld : (S.at i).ld = true) : Calls Tryd.prog 21 #[.pointer (some ⟨p, 0, none⟩), .int .i64 seq] w fun e w' => e = .returned (.int .i64 0) ∧ ∃ v', RStep w w' B p v v' (S.del i) := by
  have HC := Hid.in (rfirst_any B p v S w k)
  have HR := Hid.in hr
  have HK := Hid.in k
  have hs := k.small.1
  have hmul : (i : Int) * 13 = ((i * 13 : Nat) : Int) := by omega
  have hneg : ¬ (i : Int) < 0 := by omega
  have hnd : decide ((i : Int) < 0) = false := decide_eq_false hneg
  obtain ⟨g, cap, hv, hpg, -, -, hrow⟩ := k.rows i hi
  obtain ⟨x1, x2, x3, x4⟩ := hrow w (Below.refl _ _)
  obtain ⟨y0, -⟩ := rrow_cells x2
  rw [hn] at y0
  have HV := Hid.in hv
  have HRW := Hid.in hrow
  obtain ⟨e, he⟩ : ∃ e, S.at i = e := ⟨_, rfl⟩
  have HE := Hid.in he
  rw [he] at x2 HRW hst hld
  have HX2 := Hid.in x2
  clear k hr hrow x2 x3 hv he hn
  go_enter Tryd.func21, Tryd.ntmps21
  go_upto_region 6 with (first
    | (go_at_call 54; refine HC.out.mono ?_; rintro e0 w2 ⟨r2, rfl, h1, rfl⟩; obtain rfl := h1.uniq HR.out; clear h1)
    | (refine ld_ent g (i * 13) e HX2.out rfl _ rfl rfl ?_)
    | (refine st_ent e zre rfl w2.heap.size rfl rfl rfl _ _ rfl rfl rfl ?_))
  obtain ⟨Z, hZ, rZ, bZ, hsZ⟩ := rboxed e w2 89
  rw [hZ]
  obtain ⟨-, z1, z2, -, -, z5, -, z7, -⟩ := rrow_cells0 rZ
  have HBZ := Hid.in bZ
  clear hZ rZ x1 y0
  obtain ⟨x1, x2, x3, x4⟩ := HRW.out Z bZ
  obtain ⟨-, -, -, -, -, -, -, -, y12⟩ := rrow_cells x2
  have f12 := x3 (i * 13 + 12)
  clear bZ x2 x3
  rw [hst] at z1
  rw [hld] at z7
  go_wp2_with (first | (go_at_call 55; refine (rwithout_any B p v S i Z (HK.out.below HBZ.out) hi).mono ?_; rintro e0 w5 ⟨rfl, v5, h5⟩; have H5 := Hid.in h5; clear h5))
  go_ret
  exact ⟨rfl, v5, (RStep.same HK.out HBZ.out).trans H5.out⟩
set_option maxRecDepth 100000 in
set_option maxHeartbeats 1000000 in
theorem rretire_state (B p : Nat) (v : Value) (S : RS) (seq : Int) (i : Nat) (w : World) (k : Rm w B p v S) (hr : First S.act S.on.length i) (hi : i < S.on.length) (hn : (S.at i).n = seq) (hd : (S.at i).done = false) : Calls Tryd.prog 21 #[.pointer (some ⟨p, 0, none⟩), .int .i64 seq] w fun e w' => e = .returned (.int .i64 7) ∧ Below w.heap.size w w' := by
  have HC := Hid.in (rfirst_any B p v S w k)
  have HR := Hid.in hr
  have HK := Hid.in k
  have hs := k.small.1
  have hmul : (i : Int) * 13 = ((i * 13 : Nat) : Int) := by omega
  have hneg : ¬ (i : Int) < 0 := by omega
  have hnd : decide ((i : Int) < 0) = false := decide_eq_false hneg
  obtain ⟨g, cap, hv, hpg, -, -, hrow⟩ := k.rows i hi
  obtain ⟨x1, x2, x3, x4⟩ := hrow w (Below.refl _ _)
  obtain ⟨y0, -⟩ := rrow_cells x2
  rw [hn] at y0
  have HV := Hid.in hv
  have HRW := Hid.in hrow
  obtain ⟨e, he⟩ : ∃ e, S.at i = e := ⟨_, rfl⟩
  have HE := Hid.in he
  rw [he] at x2 HRW hd
  have HX2 := Hid.in x2
  clear k hr hrow x2 x3 hv he hn
  go_enter Tryd.func21, Tryd.ntmps21
  go_upto_region 6 with (first
    | (go_at_call 54; refine HC.out.mono ?_; rintro e0 w2 ⟨r2, rfl, h1, rfl⟩; obtain rfl := h1.uniq HR.out; clear h1)
    | (refine ld_ent g (i * 13) e HX2.out rfl _ rfl rfl ?_)
    | (refine st_ent e zre rfl w2.heap.size rfl rfl rfl _ _ rfl rfl rfl ?_))
  obtain ⟨Z, hZ, rZ, bZ, hsZ⟩ := rboxed e w2 89
  rw [hZ]
  obtain ⟨-, z1, z2, -, -, z5, -, z7, -⟩ := rrow_cells0 rZ
  have HBZ := Hid.in bZ
  clear hZ rZ x1 y0
  obtain ⟨x1, x2, x3, x4⟩ := HRW.out Z bZ
  obtain ⟨-, -, -, -, -, -, -, -, y12⟩ := rrow_cells x2
  have f12 := x3 (i * 13 + 12)
  clear bZ x2 x3
  unfold Re.done at hd
  generalize e.st = sb at z1 hd
  generalize e.pl = pb at z2 hd
  generalize e.hv = hb at z5 hd
  generalize e.ld = lb at z7 hd
  cases sb
  · have hd : lb = false := by simpa using hd
    subst hd
    go_wp2
    go_ret
    exact ⟨rfl, HBZ.out⟩
  · cases pb
    · go_wp2
      go_ret
      exact ⟨rfl, HBZ.out⟩
    · have hd : hb = false := by simpa using hd
      subst hd
      go_wp2
      go_ret
      exact ⟨rfl, HBZ.out⟩
end Go.Proofs.YthbffonedpeeiaaDoor
