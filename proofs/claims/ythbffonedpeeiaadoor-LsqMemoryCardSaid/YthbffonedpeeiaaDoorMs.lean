/-
  LSQ: Retire.
-/
import Derived.Test.YthbffonedpeeiaaDoorMr
namespace Go.Proofs.YthbffonedpeeiaaDoor
open Go Go.RowKit
def QS.del (S : QS) (i : Nat) : QS := ⟨S.size, S.on.eraseIdx i⟩
def skip (i j : Nat) : Nat := if j < i then j else j + 1
theorem QS.at_del (S : QS) (i j : Nat) : (S.del i).at j = S.at (skip i j) := by
  unfold QS.at QS.del skip
  rw [List.getD_eq_getElem?_getD, List.getD_eq_getElem?_getD, List.getElem?_eraseIdx]
  split <;> rfl
theorem QS.del_len (S : QS) (i : Nat) (hi : i < S.on.length) : (S.del i).on.length = S.on.length - 1 := List.length_eraseIdx_of_lt hi
theorem skip_inj {i j k : Nat} (h : skip i j = skip i k) : j = k := by
  unfold skip at h
  split at h <;> split at h <;> omega
theorem skip_lt {i j n : Nat} (h : j < n - 1) : skip i j < n := by
  unfold skip
  split <;> omega
/-- a queue of which only some are left, in a row in the same block -/
theorem Qm.part {w w' : World} {B p : Nat} {v v' : Value} {S S' : QS} (k : Qm w B p v S) (hsz : S'.size = S.size) (f : Nat → Nat) (hf : ∀ j, j < S'.on.length → f j < S.on.length ∧ S'.at j = S.at (f j)) (hinj : ∀ a b, a < S'.on.length → b < S'.on.length → f a = f b → a = b) (own : w'.ownsRow B 86 8 v' S'.on.length (flatA S'.on)) (hle : S'.on.length ≤ S.on.length) (hv : v'.ownBlock = v.ownBlock) (t : Turned (fun j => v.ownBlock = some j) w w') : Step w (w'.setCell ⟨p, 1, none⟩ v') B p v S v' S' := by
  have t1 : Turned (fun j => j = p) w' (w'.setCell ⟨p, 1, none⟩ v') := (Turned.refl (fun j => j = p) w').set (b := p) rfl 1 v'
  have hvp := k.vp
  refine ⟨⟨?_, ?_, fun j hj => ?_, by rw [hv]; exact hvp, fun j hj => ?_, fun j hj b hb => ?_, fun j j' hj hj' b hb hb' => ?_, k.lo, by rw [hsz]; exact ⟨Nat.le_trans hle k.small.1, k.small.2⟩, fun j hj => ?_⟩, ?_, ?_⟩
  · refine ((t.cells k.c hvp).set 1 (by decide) v').ext (fun o ho => ?_)
    match o, ho with
    | 0, _ => rw [hsz]; rfl
    | 1, _ => rfl
  · exact own_turned own t1 (fun j hj e => hvp (by rw [← hv, hj, e]))
  · obtain ⟨h1, h2⟩ := hf j hj
    rw [h2]
    refine own_turned (own_turned (k.f _ h1) t (fun b hb e => ?_)) t1 (fun b hb e => ?_)
    · rw [Ac.vb] at hb
      exact k.fv _ h1 b hb e
    · rw [Ac.vb] at hb
      exact k.fp _ h1 (by rw [hb, e])
  · obtain ⟨h1, h2⟩ := hf j hj
    rw [h2]; exact k.fp _ h1
  · obtain ⟨h1, h2⟩ := hf j hj
    rw [h2] at hb
    rw [hv]
    exact k.fv _ h1 b hb
  · obtain ⟨h1, h2⟩ := hf j hj
    obtain ⟨h3, h4⟩ := hf j' hj'
    rw [h2] at hb
    rw [h4] at hb'
    exact hinj j j' hj hj' (k.ff _ _ h1 h3 b hb hb')
  · obtain ⟨h1, h2⟩ := hf j hj
    rw [h2]; exact k.fit _ h1
  · exact (t.mono (fun j e => Or.inr (Or.inl e))).trans (t1.mono (fun j e => Or.inl e))
  · rintro j (rfl | h | ⟨i, hi, h⟩)
    · exact Or.inl (Or.inl rfl)
    · exact Or.inl (Or.inr (Or.inl (by rw [← hv]; exact h)))
    · obtain ⟨h1, h2⟩ := hf i hi
      rw [h2] at h
      exact Or.inl (Or.inr (Or.inr ⟨_, h1, h⟩))
theorem Qm.del {w w' : World} {B p g cap : Nat} {v : Value} {S : QS} (k : Qm w B p v S) (hv : v = .slice (some ⟨g, 0, none⟩) S.on.length cap) (i : Nat) (hi : i < S.on.length) (own : w'.ownsRow B 86 8 (.slice (some ⟨g, 0, none⟩) (S.on.length - 1) cap) (S.on.length - 1) (flatA (S.on.eraseIdx i))) (t : Turned (fun j => j = g) w w') : Step w (w'.setCell ⟨p, 1, none⟩ (.slice (some ⟨g, 0, none⟩) (S.on.length - 1) cap)) B p v S (.slice (some ⟨g, 0, none⟩) (S.on.length - 1) cap) (S.del i) := by
  have hl := S.del_len i hi
  refine k.part rfl (skip i) (fun j hj => ⟨skip_lt (by omega), S.at_del i j⟩) (fun a b _ _ h => skip_inj h) ?_ (by omega) (by rw [hv]; rfl) (t.mono (fun j e => by rw [hv, e]; rfl))
  rw [hl]
  exact own
def QS.act (S : QS) (i : Nat) : Bool := !(S.at i).rt
set_option maxRecDepth 100000 in
set_option maxHeartbeats 1000000 in
theorem retire_order (B p : Nat) (v : Value) (S : QS) (seq r : Int) (w : World) (k : Qm w B p v S) (hr : First S.act S.on.length r) (h : r = -1 ∨ (S.at r.toNat).n ≠ seq) : Calls Tryd.prog 20 #[.pointer (some ⟨p, 0, none⟩), .int .i64 seq] w fun e w' => e = .returned (errV 5) ∧ Below w.heap.size w w' := by
  have HC := Hid.in (oldest_any B p v S 51 #[] S.act w (fun args w => enters_of Tryd.func51 (by kernel_rfl) rfl args w) k (fun i hi y hy => retireW (S.at i) y))
  have HR := Hid.in hr
  by_cases h1 : r = -1
  · subst h1
    clear k hr h
    go_enter Tryd.func20, Tryd.ntmps20
    go_wp2_with (first | (refine HC.out.mono ?_; rintro e w2 ⟨r2, rfl, h1, h2⟩; obtain rfl := h1.uniq HR.out; have H2 := Hid.in h2; clear h1 h2))
    go_ret
    exact ⟨rfl, H2.out⟩
  · obtain ⟨i, hi, -, rfl⟩ := hr.some h1
    have hs := k.small.1
    have hmul : (i : Int) * 8 = ((i * 8 : Nat) : Int) := by omega
    have hne : ((i : Int) == -1) = false := by simp
    have hn : (S.at i).n ≠ seq := by
      rcases h with h | h
      · exact absurd h h1
      · rw [Int.toNat_natCast] at h
        exact h
    obtain ⟨g, cap, hv, hpg, hrow⟩ := k.rows i hi
    have HRW := Hid.in hrow
    obtain ⟨x, hx⟩ : ∃ x, (S.at i).n = x := ⟨_, rfl⟩
    rw [hx] at hn
    have HXX := Hid.in hx
    have hn2 : (x == seq) = false := by simpa using hn
    clear k hr h hrow hv hx
    go_enter Tryd.func20, Tryd.ntmps20
    go_wp2_with (first
      | (go_at_call 50; refine HC.out.mono ?_; rintro e w2 ⟨r2, rfl, h1, h2⟩; obtain rfl := h1.uniq HR.out; obtain ⟨x1, x2, x3, x4⟩ := HRW.out w2 h2; obtain ⟨y0, -⟩ := row_cells x2; rw [HXX.out] at y0; have H2 := Hid.in h2; clear h1 h2 x2 x3))
    go_ret
    exact ⟨rfl, H2.out⟩
set_option maxRecDepth 100000 in
set_option maxHeartbeats 1000000 in
theorem retire_state (B p : Nat) (v : Value) (S : QS) (seq : Int) (i : Nat) (w : World) (k : Qm w B p v S) (hr : First S.act S.on.length i) (hi : i < S.on.length) (hn : (S.at i).n = seq) (hd : (S.at i).done = false) : Calls Tryd.prog 20 #[.pointer (some ⟨p, 0, none⟩), .int .i64 seq] w fun e w' => e = .returned (errV 7) ∧ Below w.heap.size w w' := by
  have HC := Hid.in (oldest_any B p v S 51 #[] S.act w (fun args w => enters_of Tryd.func51 (by kernel_rfl) rfl args w) k (fun i hi y hy => retireW (S.at i) y))
  have HR := Hid.in hr
  have hs := k.small.1
  have hmul : (i : Int) * 8 = ((i * 8 : Nat) : Int) := by omega
  have hne : ((i : Int) == -1) = false := by simp
  obtain ⟨g, cap, hv, hpg, hrow⟩ := k.rows i hi
  have HRW := Hid.in hrow
  have HN := Hid.in hn
  have HD := Hid.in hd
  clear k hr hrow hv hn hd
  go_enter Tryd.func20, Tryd.ntmps20
  go_wp2_with (first
    | (go_at_call 50; refine HC.out.mono ?_; rintro e w2 ⟨r2, rfl, h1, h2⟩; obtain rfl := h1.uniq HR.out; obtain ⟨x1, x2, x3, x4⟩ := HRW.out w2 h2; obtain ⟨y0, -⟩ := row_cells x2; rw [HN.out] at y0; have X2 := Hid.in x2; have H2 := Hid.in h2; clear h1 h2 x2 x3)
    | (refine ld_accG g (i * 8) (S.at i) X2.out rfl _ rfl rfl ?_)
    | (go_at_call 52; refine (isFinished_any (S.at i) _).mono ?_; rintro r w3 ⟨rfl, hb2⟩; rw [HD.out]; have HB2 := Hid.in hb2; clear hb2))
  go_ret
  exact ⟨rfl, below2 H2.out HB2.out⟩
set_option maxRecDepth 100000 in
set_option maxHeartbeats 1000000 in
theorem retire_store (B p : Nat) (v : Value) (S : QS) (seq : Int) (i : Nat) (w : World) (k : Qm w B p v S) (hr : First S.act S.on.length i) (hi : i < S.on.length) (hn : (S.at i).n = seq) (hd : (S.at i).done = true) (hst : (S.at i).st = true) : Calls Tryd.prog 20 #[.pointer (some ⟨p, 0, none⟩), .int .i64 seq] w fun e w' => e = .returned .nilIface ∧ Step w w' B p v S v (S.set i { S.at i with rt := true }) := by
  have HC := Hid.in (oldest_any B p v S 51 #[] S.act w (fun args w => enters_of Tryd.func51 (by kernel_rfl) rfl args w) k (fun i hi y hy => retireW (S.at i) y))
  have HR := Hid.in hr
  have HK := Hid.in k
  have hs := k.small.1
  have hmul : (i : Int) * 8 = ((i * 8 : Nat) : Int) := by omega
  have hne : ((i : Int) == -1) = false := by simp
  obtain ⟨g, cap, hv, hpg, hrow⟩ := k.rows i hi
  have HV := Hid.in hv
  have HRW := Hid.in hrow
  have HN := Hid.in hn
  have HD := Hid.in hd
  have HST := Hid.in hst
  clear k hr hrow hv hn hd hst
  go_enter Tryd.func20, Tryd.ntmps20
  go_wp2_with (first
    | (go_at_call 50; refine HC.out.mono ?_; rintro e w2 ⟨r2, rfl, h1, h2⟩; obtain rfl := h1.uniq HR.out; obtain ⟨x1, x2, x3, x4⟩ := HRW.out w2 h2; obtain ⟨y0, -⟩ := row_cells x2; rw [HN.out] at y0; have X2 := Hid.in x2; have H2 := Hid.in h2; clear h1 h2 x2 x3)
    | (refine ld_accG g (i * 8) (S.at i) X2.out rfl _ rfl rfl ?_)
    | (go_at_call 52; refine (isFinished_any (S.at i) _).mono ?_; rintro r w3 ⟨rfl, hb2⟩; rw [HD.out]; clear x1 y0; obtain ⟨x1, x2, x3, x4⟩ := HRW.out w3 (below2 H2.out hb2); obtain ⟨-, y1, -, -, -, -, y6, -⟩ := row_cells x2; rw [HST.out] at y1; have f6 := x3 (i * 8 + 6); have HB2 := Hid.in hb2; clear hb2 x2 x3))
  go_ret
  refine ⟨rfl, ?_⟩
  have b3 := below2 H2.out HB2.out
  exact (Step.same HK.out b3).trans ((HK.out.below b3).set1 HV.out i hi 6 (by decide) (.bool true) { S.at i with rt := true } rfl (by
    have f := HK.out.fit i hi
    exact ⟨f.n0, f.n1, f.a, f.d, f.z, f.az, f.f, f.fa, f.fz⟩) rfl rfl rfl)
set_option maxRecDepth 100000 in
set_option maxHeartbeats 1000000 in
theorem retire_load (B p : Nat) (v : Value) (S : QS) (seq : Int) (i : Nat) (w : World) (k : Qm w B p v S) (hr : First S.act S.on.length i) (hi : i < S.on.length) (hn : (S.at i).n = seq) (hd : (S.at i).done = true) (hst : (S.at i).st = false) : Calls Tryd.prog 20 #[.pointer (some ⟨p, 0, none⟩), .int .i64 seq] w fun e w' => e = .returned .nilIface ∧ ∃ v', Step w w' B p v S v' (S.del i) := by
  have HC := Hid.in (oldest_any B p v S 51 #[] S.act w (fun args w => enters_of Tryd.func51 (by kernel_rfl) rfl args w) k (fun i hi y hy => retireW (S.at i) y))
  have HR := Hid.in hr
  have HK := Hid.in k
  have hs := k.small.1
  have hmul : (i : Int) * 8 = ((i * 8 : Nat) : Int) := by omega
  have hne : ((i : Int) == -1) = false := by simp
  obtain ⟨g, cap, hv, hpg, hrow⟩ := k.rows i hi
  have HV := Hid.in hv
  have HRW := Hid.in hrow
  have HN := Hid.in hn
  have HD := Hid.in hd
  have HST := Hid.in hst
  have hgb : ¬ (fun j => j = g) p := hpg
  clear k hr hrow hv hn hd hst
  go_enter Tryd.func20, Tryd.ntmps20
  go_wp2_with (first
    | (go_at_call 50; refine HC.out.mono ?_; rintro e w2 ⟨r2, rfl, h1, h2⟩; obtain rfl := h1.uniq HR.out; obtain ⟨x1, x2, x3, x4⟩ := HRW.out w2 h2; obtain ⟨y0, -⟩ := row_cells x2; rw [HN.out] at y0; have X2 := Hid.in x2; have H2 := Hid.in h2; clear h1 h2 x2 x3)
    | (refine ld_accG g (i * 8) (S.at i) X2.out rfl _ rfl rfl ?_)
    | (go_at_call 52; refine (isFinished_any (S.at i) _).mono ?_; rintro r w3 ⟨rfl, hb2⟩; rw [HD.out]; clear x1 y0; obtain ⟨x1, x2, x3, x4⟩ := HRW.out w3 (below2 H2.out hb2); obtain ⟨-, y1, -⟩ := row_cells x2; rw [HST.out] at y1; have HB2 := Hid.in (below2 H2.out hb2); clear hb2 x2 x3)
    | (go_at_call 53
       have kk := HK.out.below HB2.out
       have ll := kk.l
       rw [HV.out] at ll
       refine (delete_any B g cap i S.on _ hi ll hs).mono ?_
       rintro e w5 ⟨rfl, o5, t5⟩
       have c5 := t5.to_cell kk.c.here hgb kk.cells.2.2.1
       have f5 : w5.frozen? ⟨p, 1, none⟩ = false := (World.frozen?_of_block (t5.block p kk.c.here hgb)).trans kk.cells.2.2.2
       have S5 := Hid.in (kk.del HV.out i hi o5 t5)
       clear kk ll o5 t5))
  go_ret
  exact ⟨rfl, _, (Step.same HK.out HB2.out).trans S5.out⟩
end Go.Proofs.YthbffonedpeeiaaDoor
