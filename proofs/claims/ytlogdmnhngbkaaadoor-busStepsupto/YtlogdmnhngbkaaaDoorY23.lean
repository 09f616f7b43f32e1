import Derived.Test.YtlogdmnhngbkaaaDoorY20
import Derived.Test.YtlogdmnhngbkaaaDoorY22
/-
  BUS: the steps that the answer's done is made of.
-/
namespace Go.Proofs.YtlogdmnhngbkaaaDoor
open Go Go.RowKit
section
variable {x y : World} {g : Rn} {F : Nat → Prop} {S : BS}
theorem Ru.own (h : Ru x g F S) : ∃ last left : Int, CellsAt 7 x g.p (rbv g S last left) ∧ CellsAt S.nc x g.cb (fun i => .pointer (some ⟨g.q i, 0, none⟩)) ∧ (0 < S.len → g.mq = some ⟨g.mb, 0, none⟩ ∧ CellsAt S.len x g.mb (fun o => .int .u8 (S.mem o))) ∧ CellsAt (3 * S.nc) x g.ab (akc S.ak) ∧ (1 ≤ S.nc ∧ S.nc ≤ 2 ∧ S.cyc ≤ 10 ∧ S.len ≤ 4096 ∧ S.len % 16 = 0 ∧ S.turn < S.nc ∧ S.tk ≤ 10) ∧ (S.nc ≤ g.cc ∧ g.cc ≤ 9223372036854775807 ∧ S.nc ≤ g.ac ∧ g.ac ≤ 9223372036854775807 ∧ S.len ≤ g.mc ∧ g.mc ≤ 9223372036854775807) ∧ (∀ o, S.mem o < 256) := by
  obtain ⟨rv, R, last, left, k, -⟩ := h
  exact ⟨last, left, k.c, k.row, k.m, k.ak, k.sz, k.rm, k.m8⟩
theorem rucst (h : Ru x g F S) (i a : Nat) (hi : i < S.nc) (ha : a < 4294967296) : Calls Tryd.prog 37 #[.pointer (some ⟨g.q i, 0, none⟩), .int .i64 a] x fun e w' => e = .returned (.int .i64 ((S.c i).st a : Nat)) ∧ w' = x := by
  obtain ⟨rv, R, last, left, k, -⟩ := h
  exact rcst_any (k.rc i hi) (k.sm i hi) a ha
theorem rulower_bad (h : Ru x g F S) (i a tw : Nat) (hi : i < S.nc) (ha : a < 4294967296) (h16 : a % 16 = 0) (h2 : tw ≤ 2) (hst : (S.c i).st a ≤ tw) : Calls Tryd.prog 51 #[.pointer (some ⟨g.q i, 0, none⟩), .int .i64 a, .int .i64 tw] x fun e w' => e = .returned (.tuple #[.agg l0.rv.toArray, .int .i64 7]) ∧ Below x.heap.size x w' := by
  obtain ⟨rv, R, last, left, k, -⟩ := h
  have sm := k.sm i hi
  refine rlower_state g.B (g.q i) (rv i) (S.c i).n (S.c i).ways (R i) a tw x (k.rc i hi) ha h16 h2 ?_
  rcases at_or_no (R i) a with ⟨j, hj⟩ | hj
  · right
    refine ⟨j, hj, ?_⟩
    rw [← sm.st_at hj]
    exact hst
  · exact Or.inl hj
theorem rulower (h : Ru x g F S) (i a tw : Nat) (hi : i < S.nc) (ha : a < 4294967296) (h16 : a % 16 = 0) (h2 : tw ≤ 2) (hst : tw < (S.c i).st a) : Calls Tryd.prog 51 #[.pointer (some ⟨g.q i, 0, none⟩), .int .i64 a, .int .i64 tw] x fun e w' => e = .returned (.tuple #[.agg ((S.c i).ln a).rv.toArray, .int .i64 0]) ∧ Ru w' g F (S.cput i ((S.c i).lowTo a tw)) ∧ Turned (fun j => ¬ F j) x w' := by
  obtain ⟨rv, R, last, left, k, hF⟩ := h
  have sm := k.sm i hi
  obtain ⟨hA, hs⟩ := CS.st_ix (T := S.c i) (a := a) (by omega)
  obtain ⟨j, hj⟩ := sm.both hA
  obtain ⟨X, e, Y, h1, h2', h3, h4, h5, h6, h7, h8⟩ := sm.at hA hj
  have hln : (S.c i).ln a = e := h4
  have hst2 : tw < e.s := by rw [← hln, ← hs]; exact hst
  have hem := sm.line e (by rw [h1]; simp)
  refine (rlower_good g.B (g.q i) (rv i) (S.c i).n (S.c i).ways (R i) a tw j x (k.rc i hi) ha h16 h2 hj (by rw [h3]; exact hst2)).mono ?_
  rintro r w' ⟨rfl, v', rc, hv, t⟩
  refine ⟨by rw [h3, hln], ?_⟩
  refine ru_cache hF k i hi (T := (S.c i).lowTo a tw) rfl rfl rc ?_ hv t
  unfold CS.lowTo
  by_cases h0 : tw = 0
  · rw [if_pos h0, if_pos h0]
    exact sm.gone hA hj
  · rw [if_neg h0, if_neg h0]
    exact sm.state hA hj tw (by have := hem.2.2.1; omega)
set_option maxRecDepth 100000 in
theorem rukeep (h : Ru x g F S) (e : Ln) (hs : e.s = 3 → e.a < 4294967296 ∧ e.a % 16 = 0 ∧ hasB e.a S.len = true ∧ ∀ t, t < 16 → e.b t < 256) : Calls Tryd.prog 52 #[.pointer (some ⟨g.p, 0, none⟩), .agg e.rv.toArray] x fun r w' => r = .returned (.tuple #[]) ∧ Ru w' g F (S.wb e) ∧ Turned (fun j => ¬ F j) x w' := by
  have h0 := h
  obtain ⟨rv, R, last, left, k, hF⟩ := h
  by_cases c : e.s = 3
  · obtain ⟨q1, q2, q3, q4⟩ := hs c
    refine (rkeep_yes k e c q2 q1 q3 q4).mono ?_
    rintro r w' ⟨rfl, k', t⟩
    have : S.wb e = { S with mem := wbm S.mem e, nw := updO S.nw (e.a : Nat) none } := by
      unfold BS.wb wbm' wbn
      rw [if_pos c, if_pos c]
    rw [this]
    have hb : 0 < S.len := by
      have h9 : 65536 ≤ e.a ∧ e.a < 65536 + S.len := by simpa [hasB] using q3
      omega
    clear this
    have k2 := k'.nw (updO S.nw (e.a : Nat) none)
    have hq : ∀ z, z = g.mb → g.its rv S z ∨ x.heap.size ≤ z := fun z hz => Or.inl (Or.inl (Or.inr (Or.inr (Or.inr ⟨hb, hz⟩))))
    have hv : ∀ i q, i < S.nc → (rv i).ownBlock = some q → (rv i).ownBlock = some q ∨ x.heap.size ≤ q := fun _ _ _ q => Or.inl q
    dsimp only at k2
    have h12 : Rb w' g rv R last left { S with mem := wbm S.mem e, nw := updO S.nw (e.a : Nat) none } := k2
    have h13 : Turned (fun j => j = g.mb) x w' := t
    have h11 := Ru.step (x := x) (y := w') (F := F) (g := g) (rv := rv) (S := S) (S' := { S with mem := wbm S.mem e, nw := updO S.nw (e.a : Nat) none }) (Q := fun j => j = g.mb) hF h12 rfl rfl hv h13 hq
    exact ⟨rfl, h11⟩
  · refine (rkeep_no e x g.p c).mono ?_
    rintro r w' ⟨rfl, t⟩
    have : S.wb e = S := by
      unfold BS.wb wbm' wbn
      rw [if_neg c, if_neg c]
    rw [this]
    exact ⟨rfl, h0.below t, Turned.of_below t⟩
theorem rufill (h : Ru x g F S) (i a s : Nat) (b : Nat → Nat) (hi : i < S.nc) (ha : a < 4294967296) (h16 : a % 16 = 0) (hs : s = 1 ∨ s = 2 ∨ s = 3) (hb : ∀ t, t < 16 → b t < 256) (hN : No ((S.c i).set ((S.c i).of a)) a) : (((S.c i).full a = true ↔ ((S.c i).left a).s ≠ 0)) ∧ Calls Tryd.prog 53 #[.pointer (some ⟨g.q i, 0, none⟩), .int .i64 a, .agg (bvs b).toArray, .int .i64 s] x fun e w' => e = .returned (.tuple #[.agg ((S.c i).left a).rv.toArray, .int .i64 0]) ∧ Ru w' g F (S.cput i ((S.c i).fill a s b)) ∧ Turned (fun j => ¬ F j) x w' := by
  obtain ⟨rv, R, last, left, k, hF⟩ := h
  have sm := k.sm i hi
  obtain ⟨kept, h1, h2, h3, h4, h5, h6⟩ := sm.fill a s b h16 ha hs hb
  refine ⟨h4, (rfill_good g.B (g.q i) (rv i) (S.c i).n (S.c i).ways (R i) a s b x (k.rc i hi) ha h16 (by omega) ((sm.no a).1 hN) (fun j => ?_) ((S.c i).of a) rfl ((S.c i).left a) kept h1 h2).mono ?_⟩
  · rcases Nat.lt_or_ge j (R i).length with q1 | q1
    · exact (sm.line _ (getD_mem _ _ q1)).2.1
    · rw [List.getD_eq_getElem?_getD, List.getElem?_eq_none q1]
      decide
  · rintro r w' ⟨rfl, v', rc, hv, t⟩
    exact ⟨rfl, ru_cache hF k i hi (T := (S.c i).fill a s b) rfl rfl rc h3 hv t⟩
end
/-- the answer's snoops -/
def Snp.rs (e : Snp) : List Value := [.int .i64 e.c, .int .i64 e.a, .int .i64 e.f, .int .i64 e.t]
def flatT (l : List Snp) : List Value := l.flatMap Snp.rs
theorem flatT_app (l m : List Snp) : flatT (l ++ m) = flatT l ++ flatT m := List.flatMap_append
theorem flatT_one (e : Snp) : flatT [e] = e.rs := by simp [flatT]
theorem app_rs {B : Nat} (x : World) (v : Value) (l : List Snp) (y : Snp) (hr : x.ownsRow B 86 4 v l.length (flatT l)) (hl : l.length ≤ 1000000) (hB : B ≤ x.heap.size) : ∃ g cap z, (Builtin.append_ #[39, 39] 39 #[v, .slice (some ⟨x.heap.size, 0, none⟩) 1 1]).run Tryd.prog (x.alloc (.cells #[.int .i64 y.c, .int .i64 y.a, .int .i64 y.f, .int .i64 y.t] 86)) = .ok (.slice (some ⟨g, 0, none⟩) (l.length + 1) cap) z ∧ z.ownsRow B 86 4 (.slice (some ⟨g, 0, none⟩) (l.length + 1) cap) (l.length + 1) (flatT (l ++ [y])) ∧ Turned (fun j => v.ownBlock = some j) x z ∧ (some g = v.ownBlock ∨ x.heap.size ≤ g) := by
  obtain ⟨i0, hi0, hz0, hz1, hz2⟩ := info_parts (show (Tryd.prog.info? 86).map (fun i => (i.zero, i.size, i.bytes)) = some (some (.agg #[.int .i64 0, .int .i64 0, .int .i64 0, .int .i64 0]), 4, 32) by kernel_rfl)
  obtain ⟨v', w1, hrun, r1, r2, r3, r4⟩ := run_append_own_at (P := Tryd.prog) (w := x.alloc (.cells #[.int .i64 y.c, .int .i64 y.a, .int .i64 y.f, .int .i64 y.t] 86)) B 39 39 86 i0 (.agg #[.int .i64 0, .int .i64 0, .int .i64 0, .int .i64 0]) 4 32 Tryd.underlying39 hi0 hz0 hz1 hz2 rfl (by decide) v l.length (flatT l) (hr.alloc _) ⟨x.heap.size, 0, none⟩ 1 1 y.rs rfl (fun j u hj => by
      rw [Addr.add_lit, Nat.zero_add]
      refine (World.cell?_alloc_new x _ _ j).trans ?_
      rw [← hj]
      simp [Snp.rs]) (fun u hu => by
      simp [Snp.rs] at hu
      rcases hu with rfl | rfl | rfl | rfl <;> rfl) (by unfold maxLen; omega) (by omega) (by simp; omega)
  obtain ⟨g, cap, rfl⟩ := own_succ r1
  have e : flatT l ++ y.rs = flatT (l ++ [y]) := by rw [flatT_app, flatT_one]
  rw [e] at r1
  refine ⟨g, cap, w1, hrun, r1, (((Turned.refl _ x).alloc _).trans (turned_grown r2)), ?_⟩
  rcases r4 with q | q
  · exact Or.inl q
  · right
    have h9 := Option.some.inj q
    rw [World.size_alloc] at h9
    have h10 : g = x.heap.size + 1 := h9
    omega
open Classical in
/-- with which state the line comes -/
noncomputable def BS.toA (S : BS) (l : Nat) (wr : Bool) (i : Nat) : Nat := if wr = false ∧ S.oth l i then 1 else 2
theorem toA_0 (S : BS) (l : Nat) (wr : Bool) : S.toA l wr 0 = 2 := if_neg (fun q => by obtain ⟨-, i, hi, -⟩ := q; omega)
theorem toA_w (S : BS) (l i : Nat) : S.toA l true i = 2 := if_neg (fun q => by cases q.1)
theorem toA_same {S : BS} {l i : Nat} {wr : Bool} (h : i = S.turn ∨ (S.c i).st l = 0) : S.toA l wr (i + 1) = S.toA l wr i := by
  unfold BS.toA
  have : S.oth l (i + 1) ↔ S.oth l i := by
    constructor
    · rintro ⟨j, h1, h2, h3⟩
      by_cases e : j = i
      · subst e
        rcases h with q | q
        · exact absurd q h2
        · exact absurd q h3
      · exact ⟨j, by omega, h2, h3⟩
    · rintro ⟨j, h1, h2, h3⟩
      exact ⟨j, by omega, h2, h3⟩
  by_cases c : wr = false ∧ S.oth l i
  · rw [if_pos c, if_pos ⟨c.1, this.2 c.2⟩]
  · rw [if_neg c, if_neg (fun q => c ⟨q.1, this.1 q.2⟩)]
theorem toA_one {S : BS} {l i : Nat} (h1 : i ≠ S.turn) (h2 : (S.c i).st l ≠ 0) : S.toA l false (i + 1) = 1 := if_pos ⟨rfl, i, by omega, h1, h2⟩
end Go.Proofs.YtlogdmnhngbkaaaDoor
