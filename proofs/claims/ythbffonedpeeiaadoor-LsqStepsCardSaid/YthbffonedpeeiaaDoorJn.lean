/-
  THE ANSWER: Take.
-/
import Derived.Test.YthbffonedpeeiaaDoorJj
namespace Go.Proofs.YthbffonedpeeiaaDoor
open Go Go.RowKit
theorem boxV (w : World) (x y z : Value) : ∃ X, w.alloc (.cells #[x, y, z] 47) = X ∧ Below w.heap.size w X ∧ X.cell? ⟨w.heap.size, 0, none⟩ = some x ∧ X.heap.size = w.heap.size + 1 :=
  ⟨_, rfl, (Below.refl _ _).alloc (Nat.le_refl _) _, by rw [World.cell?_alloc_new]; rfl, by simp⟩
set_option maxRecDepth 100000 in
set_option maxHeartbeats 1000000 in
theorem rtake_no (B p : Nat) (v : Value) (S : RS) (seq r : Int) (w : World) (k : Rm w B p v S) (hr : First (S.isN seq) S.on.length r) (h : ¬ S.mayS r) : Calls Tryd.prog 18 #[.pointer (some ⟨p, 0, none⟩), .int .i64 seq] w fun e w' => e = .returned (.int .i64 7) ∧ Below w.heap.size w w' := by
  have HC := Hid.in (rfind_any B p v S seq w k)
  have HR := Hid.in hr
  have HB := Hid.in (rsearch_bad B p v S seq r true w k hr h)
  clear k hr h
  go_enter Tryd.func18, Tryd.ntmps18
  go_wp2_with (first
    | (go_at_call 42; refine HC.out.mono ?_; rintro e w2 ⟨r2, rfl, h1, rfl⟩; obtain rfl := h1.uniq HR.out; clear h1)
    | (go_at_call 15; refine HB.out.mono ?_; rintro e w3 ⟨rfl, h3⟩; have H3 := Hid.in h3; clear h3))
  go_ret
  refine ⟨rfl, below2 H3.out ?_⟩
  exact (Below.refl _ _).alloc (Nat.le_refl _) _
set_option maxRecDepth 100000 in
set_option maxHeartbeats 1000000 in
theorem rtake_bad (B p : Nat) (v : Value) (S : RS) (seq : Int) (i : Nat) (w : World) (k : Rm w B p v S) (hi : i < S.on.length) (hr : First (S.isN seq) S.on.length i) (hst : (S.at i).st = false) (hpl : (S.at i).pl = true) (haz : (S.at i).a + (S.at i).z ≤ 4294967296) (h : S.lacks i = true ∨ (S.at i).ld = true) : Calls Tryd.prog 18 #[.pointer (some ⟨p, 0, none⟩), .int .i64 seq] w fun e w' => e = .returned (.int .i64 7) ∧ Below w.heap.size w w' := by
  have HC := Hid.in (rfind_any B p v S seq w k)
  have HR := Hid.in hr
  have hB := rsearch_good B p v S seq true i w k hi hr hst hpl haz
  have hs := k.small.1
  have hmul : (i : Int) * 13 = ((i * 13 : Nat) : Int) := by omega
  obtain ⟨g, cap, hv, hpg, -, -, hrow⟩ := k.rows i hi
  have HRW := Hid.in hrow
  by_cases hl : S.lacks i = true
  · have e1 : S.found i true = .agg #[.bool true, .int .i64 0, .int .u32 0] := by
      unfold RS.found
      rw [hl]
      simp
    rw [e1] at hB
    have HB := Hid.in hB
    clear k hr h hst hpl haz hB hrow hv e1 hl
    go_enter Tryd.func18, Tryd.ntmps18
    go_wp2_with (first
      | (go_at_call 42; refine HC.out.mono ?_; rintro e w2 ⟨r2, rfl, h1, rfl⟩; obtain rfl := h1.uniq HR.out; clear h1)
      | (go_at_call 15; refine HB.out.mono ?_; rintro e w3 ⟨rfl, h3⟩; have H3 := Hid.in h3; clear h3))
    go_ret
    refine ⟨rfl, below2 H3.out ?_⟩
    exact (Below.refl _ _).alloc (Nat.le_refl _) _
  · have hld : (S.at i).ld = true := h.resolve_left hl
    have e1 : S.found i true = .agg #[.bool false, .int .i64 (gmN (S.ofs i) (S.at i).z), .int .u32 (S.gvN (S.at i).a (S.ofs i) (S.at i).z)] := by
      unfold RS.found
      simp [hl]
    rw [e1] at hB
    have HLD := Hid.in hld
    generalize ((gmN (S.ofs i) (S.at i).z : Nat) : Int) = gm at hB
    generalize ((S.gvN (S.at i).a (S.ofs i) (S.at i).z : Nat) : Int) = gv at hB
    have HB := Hid.in hB
    clear k hr h hst hpl haz hB hrow hv e1 hl hld
    go_enter Tryd.func18, Tryd.ntmps18
    go_upto_region 3 with (first
      | (go_at_call 42; refine HC.out.mono ?_; rintro e w2 ⟨r2, rfl, h1, rfl⟩; obtain rfl := h1.uniq HR.out; clear h1)
      | (go_at_call 15; refine HB.out.mono ?_; rintro e w3 ⟨rfl, h3⟩; have H3 := Hid.in h3; clear h3))
    obtain ⟨Z, hZ, bZ, cZ, -⟩ := boxV w3 (.bool false) (.int .i64 gm) (.int .u32 gv)
    rw [hZ]
    have HBZ := Hid.in (below2 H3.out bZ)
    obtain ⟨x1, x2, x3, x4⟩ := HRW.out Z HBZ.out
    obtain ⟨-, -, -, -, -, -, -, y7, -⟩ := rrow_cells x2
    rw [HLD.out] at y7
    clear hZ x2 x3 bZ
    go_wp2
    go_ret
    exact ⟨rfl, HBZ.out⟩
def Re.setf (e : Re) (b : Nat) (x : Int) : Re := { e with f := fun t => if t = b then x else e.f t }
theorem Re.setf_vs (e : Re) (b : Nat) (hb : b < 4) (x : Int) : (e.setf b x).vs = e.vs.set (8 + b) (.int .i64 x) := by
  match b, hb with
  | 0, _ => rfl
  | 1, _ => rfl
  | 2, _ => rfl
  | 3, _ => rfl
theorem Re.setf_setf (e : Re) (b : Nat) (x y : Int) : (e.setf b x).setf b y = e.setf b y := by
  unfold Re.setf
  simp only [Re.mk.injEq, true_and, and_true]
  funext t
  split <;> rfl
theorem RS.set_self (S : RS) (i : Nat) (hi : i < S.on.length) : S.set i (S.at i) = S := by
  obtain ⟨n, l⟩ := S
  unfold RS.set RS.at
  simp only [RS.mk.injEq, true_and]
  apply List.ext_getElem?
  intro j
  by_cases e : i = j
  · subst e
    rw [List.getElem?_set_self hi, List.getD_eq_getElem?_getD, List.getElem?_eq_getElem hi]
    rfl
  · rw [List.getElem?_set_ne e]
theorem Re.Fit.setf {e : Re} (f : e.Fit) (b : Nat) (x : Int) : (e.setf b x).Fit := ⟨f.n0, f.n1, f.a, f.z, f.d⟩
/-- a byte's number is written -/
theorem Rm.setf {w : World} {B p g cap : Nat} {v : Value} {S : RS} (k : Rm w B p v S) (hv : v = .slice (some ⟨g, 0, none⟩) S.on.length cap) (i : Nat) (hi : i < S.on.length) (b : Nat) (hb : b < 4) (x : Int) : RStep w (w.setCell ⟨g, i * 13 + (8 + b), none⟩ (.int .i64 x)) B p v v (S.set i ((S.at i).setf b x)) :=
  k.set1 hv i hi (8 + b) (by omega) _ _ ((S.at i).setf_vs b hb x) ((k.fit i hi).setf b x)
theorem lastI_congr {f h : Nat → Bool} : ∀ (n : Nat), (∀ k, k < n → f k = h k) → lastI f n = lastI h n
  | 0, _ => rfl
  | n + 1, e => by
    unfold lastI
    rw [e n (by omega), lastI_congr n (fun k hk => e k (by omega))]
/-- the number of the store that a byte comes of -/
def RS.srcN (S : RS) (i y : Nat) : Int := S.num (lastI (S.src y) i)
def RS.frT (S : RS) (i : Nat) : Nat → Re
  | 0 => S.at i
  | b + 1 => (RS.frT S i b).setf b (S.srcN i ((S.at i).a + b))
theorem RS.frT_same (S : RS) (i : Nat) : ∀ b, (S.frT i b).a = (S.at i).a ∧ (S.frT i b).z = (S.at i).z ∧ (S.frT i b).ld = (S.at i).ld
  | 0 => ⟨rfl, rfl, rfl⟩
  | b + 1 => RS.frT_same S i b
theorem RS.src_set (S : RS) (i y k : Nat) (e : Re) (h : k ≠ i) : (S.set i e).src y k = S.src y k := by
  unfold RS.src
  rw [S.at_set' i k e h]
set_option maxRecDepth 100000 in
set_option maxHeartbeats 1000000 in
theorem rtake_good (B p : Nat) (v : Value) (S : RS) (seq : Int) (i : Nat) (w : World) (k : Rm w B p v S) (hi : i < S.on.length) (hr : First (S.isN seq) S.on.length i) (hst : (S.at i).st = false) (hpl : (S.at i).pl = true) (haz : (S.at i).a + (S.at i).z ≤ 4294967296) (hlk : S.lacks i = false) (hld : (S.at i).ld = false) : Calls Tryd.prog 18 #[.pointer (some ⟨p, 0, none⟩), .int .i64 seq] w fun e w' => e = .returned (.int .i64 0) ∧ RStep w w' B p v v (S.set i { S.frT i 4 with ld := true }) := by
  have HC := Hid.in (rfind_any B p v S seq w k)
  have HR := Hid.in hr
  have hB := rsearch_good B p v S seq true i w k hi hr hst hpl haz
  have hs := k.small.1
  have hmul : (i : Int) * 13 = ((i * 13 : Nat) : Int) := by omega
  obtain ⟨g, cap, hv, hpg, -, -, hrow⟩ := k.rows i hi
  have HRW := Hid.in hrow
  have HK := Hid.in k
  have HV := Hid.in hv
  have e1 : S.found i true = .agg #[.bool false, .int .i64 (gmN (S.ofs i) (S.at i).z), .int .u32 (S.gvN (S.at i).a (S.ofs i) (S.at i).z)] := by
    unfold RS.found
    simp [hlk]
  rw [e1] at hB
  generalize ((gmN (S.ofs i) (S.at i).z : Nat) : Int) = gm at hB
  generalize ((S.gvN (S.at i).a (S.ofs i) (S.at i).z : Nat) : Int) = gv at hB
  have HB := Hid.in hB
  have HLD := Hid.in hld
  have hpg2 : g ≠ p := Ne.symm hpg
  have hA := (k.fit i hi).a
  obtain ⟨m, hm⟩ : ∃ m, S.on.length = m := ⟨_, rfl⟩
  have HM := Hid.in hm
  rw [hm] at hi hs
  clear k hr hst hpl haz hB hrow hv e1 hlk hld hm
  go_enter Tryd.func18, Tryd.ntmps18
  go_upto_region 3 with (first
    | (go_at_call 42; refine HC.out.mono ?_; rintro e w2 ⟨r2, rfl, h1, rfl⟩; obtain rfl := h1.uniq HR.out; clear h1)
    | (go_at_call 15; refine HB.out.mono ?_; rintro e w3 ⟨rfl, h3⟩; have H3 := Hid.in h3; clear h3))
  obtain ⟨Z, hZ, bZ, cZ, -⟩ := boxV w3 (.bool false) (.int .i64 gm) (.int .u32 gv)
  rw [hZ]
  have HBZ := Hid.in (below2 H3.out bZ)
  obtain ⟨x1, x2, x3, x4⟩ := HRW.out Z HBZ.out
  obtain ⟨-, -, -, -, -, -, -, y7, -⟩ := rrow_cells x2
  rw [HLD.out] at y7
  rw [HM.out] at x1
  clear hZ x2 x3 bZ
  go_wp2
  clear x1 y7 cZ x4
  have HS0 := Hid.in (RStep.same HK.out HBZ.out)
  go_loopw [8] (fun u wr => ∃ b : Nat, u = .int .i64 b ∧ b ≤ 4 ∧ RStep w2 wr B p v v (S.set i (S.frT i b))) (fun v _ => 5 - (intOf v).toNat)
  case atStart =>
    refine ⟨0, rfl, by omega, ?_⟩
    rw [show S.frT i 0 = S.at i from rfl, S.set_self i (by rw [HM.out]; exact hi)]
    exact HS0.out
  case round =>
    obtain ⟨b, rfl, hb, hst⟩ := hrel
    have HST := Hid.in hst
    obtain ⟨T, hT⟩ : ∃ T, S.set i (S.frT i b) = T := ⟨_, rfl⟩
    have hTl : T.on.length = m := by rw [← hT, ← HM.out]; exact S.set_len i _
    have hTi : T.at i = S.frT i b := by rw [← hT]; exact S.at_set i _ (by rw [HM.out]; exact hi)
    have hTk : ∀ j, j ≠ i → T.at j = S.at j := fun j hj => by rw [← hT]; exact S.at_set' i j _ hj
    have hTy : ∀ y, lastI (T.src y) i = lastI (S.src y) i := fun y => lastI_congr i (fun j hj => by rw [← hT]; exact S.src_set i y j _ (by omega))
    rw [hT] at hst
    have HT := Hid.in hT
    have HTL := Hid.in hTl
    have HTI := Hid.in hTi
    have HTK := Hid.in hTk
    have HTY := Hid.in hTy
    have HST := Hid.in hst
    have hvT : v = .slice (some ⟨g, 0, none⟩) T.on.length cap := by rw [hTl, ← HM.out]; exact HV.out
    have HVT := Hid.in hvT
    obtain ⟨g', cap', hv', -, -, -, hrow⟩ := hst.q.rows i (by rw [hTl]; exact hi)
    rw [hvT] at hv'
    cases hv'
    obtain ⟨x1, x2, x3, x4⟩ := hrow wr (Below.refl _ _)
    rw [hTl] at x1
    rw [hTi] at x2
    have hsame := S.frT_same i b
    obtain ⟨-, -, -, y3, -, -, -, y7, -⟩ := rrow_cells x2
    rw [hsame.1] at y3
    by_cases hb4 : b < 4
    · have yb := rrow_from x2 b hb4
      have fb := x3 (i * 13 + (8 + b))
      have yb2 : wr.cell? ⟨g, i * 13 + 8 + b, none⟩ = some (.int .i64 ((S.frT i b).f b)) := by rw [Nat.add_assoc]; exact yb
      have fb2 := x3 (i * 13 + 8 + b)
      have hb4' : (b : Int) < 4 := by omega
      have HS1 := Hid.in (hst.q.setf hvT i (by rw [hTl]; exact hi) b hb4 (-1))
      clear hst hT hTl hTi hTk hTy hvT hrow x2 x3 hsame
      go_upto_region 9 with fail
      have hS1 := HST.out.trans HS1.out
      rw [HTI.out, ← HT.out, S.set_set, ← Nat.add_assoc] at hS1
      generalize wr.setCell ⟨g, i * 13 + 8 + b, none⟩ (.int .i64 (-1)) = W at hS1 ⊢
      clear x1 x4 y3 y7 yb fb yb2 fb2 HS1 HST HT HTL HTI HTK HTY HVT T
      obtain ⟨T, hT⟩ : ∃ T, S.set i ((S.frT i b).setf b (-1)) = T := ⟨_, rfl⟩
      have hTl : T.on.length = m := by rw [← hT, ← HM.out]; exact S.set_len i _
      have hTi : T.at i = (S.frT i b).setf b (-1) := by rw [← hT]; exact S.at_set i _ (by rw [HM.out]; exact hi)
      have hTk : ∀ j, j ≠ i → T.at j = S.at j := fun j hj => by rw [← hT]; exact S.at_set' i j _ hj
      have hTy : ∀ y, lastI (T.src y) i = lastI (S.src y) i := fun y => lastI_congr i (fun j hj => by rw [← hT]; exact S.src_set i y j _ (by omega))
      rw [hT] at hS1
      have HT := Hid.in hT
      have HS1 := Hid.in hS1
      have hvT : v = .slice (some ⟨g, 0, none⟩) T.on.length cap := by rw [hTl, ← HM.out]; exact HV.out
      obtain ⟨g', cap', hv', -, -, -, hrow⟩ := hS1.q.rows i (by rw [hTl]; exact hi)
      rw [hvT] at hv'
      cases hv'
      obtain ⟨x1, x2, x3, x4⟩ := hrow W (Below.refl _ _)
      rw [hTl] at x1
      rw [hTi] at x2
      obtain ⟨-, -, -, y3, -⟩ := rrow_cells x2
      rw [show ((S.frT i b).setf b (-1)).a = (S.at i).a from (S.frT_same i b).1] at y3
      obtain ⟨y, hy⟩ : ∃ y : Nat, (S.at i).a + b = y := ⟨_, rfl⟩
      obtain ⟨ea, hea⟩ : ∃ ea : Int, ((S.at i).a : Int) = ea := ⟨_, rfl⟩
      have hws : IntKind.i64.wrap (ea + (b : Int)) = (y : Int) := by
        simp only [IntKind.wrap_i64]
        omega
      have hws2 : wrap64 (ea + (b : Int)) = (y : Int) := by
        unfold wrap64
        omega
      rw [hea] at y3
      have hsrc := rsource_any B p v T i y W hS1.q (by rw [hTl]; omega)
      rw [hTy] at hsrc
      have HY := Hid.in hy
      have HNX : Hid (S.frT i (b + 1) = (S.frT i b).setf b (S.num (lastI (S.src y) i))) := by
        show S.frT i (b + 1) = _
        rw [← hy]
        rfl
      rcases lastI_t (S.src y) i with hl | ⟨kk, hl, hk, -⟩
      · rw [hl] at hsrc
        have HSRC := Hid.in hsrc
        have HL := Hid.in hl
        clear hS1 hT hTl hTi hTk hTy hvT hrow x2 x3 hy hea hsrc hl hA
        go_wp2_with (first | (go_at_call 48; refine HSRC.out.mono ?_; rintro e w5 ⟨rfl, h5⟩; have H5 := Hid.in h5; clear h5))
        go_roundw
        case rel =>
          refine ⟨b + 1, by simp, by omega, ?_⟩
          rw [HNX.out, HL.out, show S.num (-1) = -1 from rfl, HT.out]
          exact HS1.out.trans (RStep.same HS1.out.q H5.out)
        case measure =>
          simp [intOf]
          omega
      · rw [hl] at hsrc
        have HSRC := Hid.in hsrc
        have HL := Hid.in hl
        have hkm : kk < m := by omega
        have hmulk : (kk : Int) * 13 = ((kk * 13 : Nat) : Int) := by omega
        have hk0 : (0 : Int) ≤ (kk : Int) := by omega
        have HR5 : Hid (∀ w5, Below W.heap.size W w5 → w5.cell? ⟨p, 1, none⟩ = some (.slice (some ⟨g, 0, none⟩) m cap) ∧ w5.cell? ⟨g, kk * 13, none⟩ = some (.int .i64 (S.at kk).n) ∧ w5.cell? ⟨g, i * 13 + 8 + b, none⟩ = some (.int .i64 (-1)) ∧ w5.frozen? ⟨g, i * 13 + 8 + b, none⟩ = false ∧ g < w5.heap.size ∧ RStep W (w5.setCell ⟨g, i * 13 + 8 + b, none⟩ (.int .i64 (S.at kk).n)) B p v v (T.set i ((T.at i).setf b (S.at kk).n))) := fun w5 hb5 => by
          obtain ⟨u1, u2, u3, u4⟩ := hrow w5 hb5
          rw [hTl] at u1
          rw [hTi] at u2
          obtain ⟨g2, cap2, hv2, -, -, -, hrow2⟩ := hS1.q.rows kk (by rw [hTl]; exact hkm)
          rw [hvT] at hv2
          cases hv2
          obtain ⟨-, t2, -⟩ := hrow2 w5 hb5
          rw [hTk kk (by omega)] at t2
          have ub := rrow_from u2 b hb4
          rw [← Nat.add_assoc] at ub
          have e1 : ((S.frT i b).setf b (-1)).f b = -1 := by simp [Re.setf]
          rw [e1] at ub
          refine ⟨u1, (rrow_cells t2).1, ub, u3 _, u4, ?_⟩
          rw [Nat.add_assoc]
          exact (RStep.same hS1.q hb5).trans ((hS1.q.below hb5).setf hvT i (by rw [hTl]; exact hi) b hb4 _)
        have HTI := Hid.in hTi
        have HNM : Hid (S.num (kk : Int) = (S.at kk).n) := by
          show S.num (kk : Int) = _
          unfold RS.num
          rw [if_neg (by omega), Int.toNat_natCast]
        clear hS1 hT hTl hTi hTk hTy hvT hrow x2 x3 hy hea hsrc hl hA
        go_upto_region 11 with (first | (go_at_call 48; refine HSRC.out.mono ?_; rintro e w5 ⟨rfl, h5⟩; have H5 := Hid.in h5; clear h5))
        clear x1 x4 y3
        obtain ⟨x1, z0, zb, zf, x4, st5⟩ := HR5.out w5 H5.out
        have HS5 := Hid.in st5
        generalize (S.at kk).n = nk at z0 HS5 HNM
        clear st5
        go_region
        go_wp2
        go_roundw
        case rel =>
          refine ⟨b + 1, by simp, by omega, ?_⟩
          rw [HNX.out, HL.out, HNM.out]
          have s := HS1.out.trans HS5.out
          rw [HTI.out, ← HT.out, S.set_set, Re.setf_setf] at s
          exact s.trans (RStep.same s.q (Below.refl _ _).drew)
        case measure =>
          simp [intOf]
          omega
    · obtain rfl : b = 4 := by omega
      have f7 := x3 (i * 13 + 7)
      have hnl : ¬ ((4 : Nat) : Int) < 4 := by omega
      have HS1 := Hid.in (hst.q.set1 hvT i (by rw [hTl]; exact hi) 7 (by decide) (.bool true) { T.at i with ld := true } rfl (by have f := hst.q.fit i (by rw [hTl]; exact hi); exact ⟨f.n0, f.n1, f.a, f.z, f.d⟩))
      clear hst hT hTl hTi hTk hTy hvT hrow x2 x3 hsame
      go_wp2
      go_ret
      refine ⟨rfl, ?_⟩
      have s := HST.out.trans HS1.out
      rw [HTI.out, ← HT.out, S.set_set] at s
      exact s
end Go.Proofs.YthbffonedpeeiaaDoor
