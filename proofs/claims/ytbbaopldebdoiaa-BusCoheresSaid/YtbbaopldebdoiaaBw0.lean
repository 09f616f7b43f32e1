/-
  BUS: the bus as a whole, and what lies outside of it.
-/
import Derived.Test.YtbbaopldebdoiaaBv2
namespace Go.Proofs.Ytbbaopldebdoiaa
open Go Go.RowKit
/-- where the bus stands -/
structure Bn where
  B : Nat
  p : Nat
  rb : Nat
  rc : Nat
  mb : Nat
  mc : Nat
  nb : Nat
  ab : Nat
  P : Nat → Nat
  H : Nat → Nat
  C : Nat → Nat
abbrev Bn.M (g : Bn) (x : World) (kn ka : Nat) (V : Nat → Nat → Value) (S : BS) : Prop := Bm x g.B g.p g.rb g.rc g.mb g.mc g.nb g.ab kn ka g.P g.H g.C V S
/-- its blocks -/
def Bn.its (g : Bn) (V : Nat → Nat → Value) (S : BS) (z : Nat) : Prop := own5 g.p g.rb g.mb g.nb g.ab z ∨ ∃ i, i < S.nc ∧ mine (g.P i) (g.H i) (S.c i).n (V i) z
/-- F: blocks that are not the bus' -/
def Bu (x : World) (g : Bn) (F : Nat → Prop) (N : Nat) (S : BS) : Prop := ∃ V kn ka, g.M x kn ka V S ∧ kn ≤ N ∧ ka ≤ N ∧ ∀ z, F z → z < x.heap.size ∧ ¬ g.its V S z
section
variable {x y : World} {g : Bn} {F : Nat → Prop} {N kn ka : Nat} {V : Nat → Nat → Value} {S : BS}
theorem its_lt (k : g.M x kn ka V S) {z : Nat} (h : g.its V S z) : z < x.heap.size := by
  rcases h with h | ⟨i, hi, h⟩
  · exact k.at z h
  · exact (mine_lt (k.ch i hi) z h).1
theorem Bm.turn {Q : Nat → Prop} (k : g.M x kn ka V S) (t : Turned Q x y) (hq : ∀ z, Q z → ¬ g.its V S z) : g.M y kn ka V S := by
  have n5 : ∀ j, own5 g.p g.rb g.mb g.nb g.ab j → ¬ Q j := fun j hj e => hq j e (Or.inl hj)
  exact ⟨t.cells k.c (n5 _ (Or.inl rfl)), t.cells k.row (n5 _ (Or.inr (Or.inl rfl))), fun i hi => (k.ch i hi).off t (fun j hj e => hq j e (Or.inr ⟨i, hi, hj⟩)), t.cells k.m (n5 _ (Or.inr (Or.inr (Or.inl rfl)))), k.nw.turned t (n5 _ (Or.inr (Or.inr (Or.inr (Or.inl rfl))))), k.ak.turned t (n5 _ (Or.inr (Or.inr (Or.inr (Or.inr rfl))))), k.d0, k.d1, k.d2, k.lo, k.sz, k.rm, k.m8⟩
/-- something outside has changed, or is new -/
theorem Bu.turn {Q : Nat → Prop} (h : Bu x g F N S) (t : Turned Q x y) (hq : ∀ z, Q z → z < x.heap.size → F z) : Bu y g (fun j => F j ∨ (x.heap.size ≤ j ∧ j < y.heap.size)) N S := by
  obtain ⟨V, kn, ka, k, h1, h2, hF⟩ := h
  refine ⟨V, kn, ka, Bm.turn k t (fun z hz hi => (hF z (hq z hz (its_lt k hi))).2 hi), h1, h2, fun z hz => ?_⟩
  rcases hz with hz | hz
  · exact ⟨Nat.lt_of_lt_of_le (hF z hz).1 t.size, (hF z hz).2⟩
  · exact ⟨hz.2, fun hi => by have := its_lt k hi; omega⟩
theorem Bu.less {F' : Nat → Prop} (h : Bu x g F N S) (hF : ∀ z, F' z → F z) : Bu x g F' N S := by
  obtain ⟨V, kn, ka, k, h1, h2, h3⟩ := h
  exact ⟨V, kn, ka, k, h1, h2, fun z hz => h3 z (hF z hz)⟩
theorem Bu.fresh (h : Bu x g F N S) (t : Below x.heap.size x y) : Bu y g (fun j => F j ∨ (x.heap.size ≤ j ∧ j < y.heap.size)) N S := h.turn (Q := fun _ => False) (Turned.of_below t) (fun _ q => q.elim)
theorem Bu.below (h : Bu x g F N S) (t : Below x.heap.size x y) : Bu y g F N S := (h.fresh t).less (fun _ q => Or.inl q)
theorem Bu.up {N' : Nat} (h : Bu x g F N S) (hN : N ≤ N') : Bu x g F N' S := by
  obtain ⟨V, kn, ka, k, h1, h2, h3⟩ := h
  exact ⟨V, kn, ka, k, by omega, by omega, h3⟩
/-- the bus itself has changed -/
theorem Bu.step {Q : Nat → Prop} {N' kn' ka' : Nat} {V' : Nat → Nat → Value} {S' : BS} (hF : ∀ z, F z → z < x.heap.size ∧ ¬ g.its V S z) (k' : g.M y kn' ka' V' S') (h1 : kn' ≤ N') (h2 : ka' ≤ N') (hnc : S'.nc = S.nc) (hn : ∀ i, (S'.c i).n = (S.c i).n) (hv : ∀ i j q, i < S.nc → j < (S.c i).n → (V' i j).ownBlock = some q → (V i j).ownBlock = some q ∨ x.heap.size ≤ q) (t : Turned Q x y) (hQ : ∀ z, Q z → g.its V S z) : Bu y g F N' S' ∧ Turned (fun j => ¬ F j) x y := by
  refine ⟨⟨V', kn', ka', k', h1, h2, fun z hz => ⟨Nat.lt_of_lt_of_le (hF z hz).1 t.size, ?_⟩⟩, t.mono (fun z hz hf => (hF z hf).2 (hQ z hz))⟩
  rintro (h | ⟨i, hi, h⟩)
  · exact (hF z hz).2 (Or.inl h)
  · rcases h with h | h | ⟨j, hj, h⟩
    · exact (hF z hz).2 (Or.inr ⟨i, by omega, Or.inl h⟩)
    · exact (hF z hz).2 (Or.inr ⟨i, by omega, Or.inr (Or.inl h)⟩)
    · rcases hv i j z (by omega) (by rw [← hn i]; exact hj) h with q | q
      · exact (hF z hz).2 (Or.inr ⟨i, by omega, Or.inr (Or.inr ⟨j, by rw [← hn i]; exact hj, q⟩)⟩)
      · have := (hF z hz).1
        omega
theorem Bu.here (h : Bu x g F N S) {z : Nat} (hz : F z) : z < x.heap.size := by
  obtain ⟨V, kn, ka, k, h1, h2, h3⟩ := h
  exact (h3 z hz).1
/-- a cell outside -/
theorem out_cells {n c : Nat} {v : Nat → Value} (t : Turned (fun j => ¬ F j) x y) (k : CellsAt n x c v) (hc : F c) : CellsAt n y c v := t.cells k (fun h => h hc)
/-- State, Busy -/
theorem ustate (h : Bu x g F N S) (core : Int) (a : Nat) (ha : a < 4294967296) : Calls Try.prog 6 #[.pointer (some ⟨g.p, 0, none⟩), .int .i64 core, .int .u32 a] x fun e w' => e = .returned (.int .i64 (S.st core a : Nat)) ∧ Below x.heap.size x w' := by
  obtain ⟨V, kn, ka, k, -⟩ := h
  exact bstate_any k core a ha
theorem ubusy (h : Bu x g F N S) (core : Int) (hc : i64 core) : Calls Try.prog 7 #[.pointer (some ⟨g.p, 0, none⟩), .int .i64 core] x fun e w' => e = .returned (.bool (S.ak core).isSome) ∧ Below x.heap.size x w' := by
  obtain ⟨V, kn, ka, k, -⟩ := h
  exact bbusy_any k core hc
theorem uask (h : Bu x g F N S) (hN : N < 9000000000000000000) (core : Int) (hc : i64 core) (a : Nat) (wr : Bool) (ha : a < 4294967296) (hh : S.has core a = true) (hb : (S.ak core).isSome = false) (hs : S.st core a < (if wr then 2 else 1)) : Calls Try.prog 8 #[.pointer (some ⟨g.p, 0, none⟩), .int .i64 core, .int .u32 a, .bool wr] x fun e w' => e = .returned .nilIface ∧ Bu w' g F (N + 1) { S with ak := updO S.ak core (some (lineOf a, wr)) } ∧ Turned (fun j => ¬ F j) x w' := by
  obtain ⟨V, kn, ka, k, h1, h2, h3⟩ := h
  refine (bask_good k core hc a wr ha hh hb hs (by unfold maxLen; omega)).mono ?_
  rintro e w' ⟨rfl, k', t⟩
  exact ⟨rfl, Bu.step h3 k' (by omega) (by omega) rfl (fun _ => rfl) (fun _ _ _ _ _ q => Or.inl q) t (fun z hz => Or.inl (Or.inr (Or.inr (Or.inr (Or.inr hz)))))⟩
theorem ubegin (h : Bu x g F N S) : Calls Try.prog 20 #[.pointer (some ⟨g.p, 0, none⟩)] x fun e w' => ((∃ i, i < S.nc ∧ (S.ak (S.nxt i : Nat)).isSome = true ∧ (∀ j, j < i → (S.ak (S.nxt j : Nat)).isSome = false) ∧ e = .returned (.bool true) ∧ Bu w' g F N { S with turn := S.nxt i, on := true, tk := 0 }) ∨ ((∀ j, j < S.nc → (S.ak (S.nxt j : Nat)).isSome = false) ∧ e = .returned (.bool false) ∧ Bu w' g F N S)) ∧ Turned (fun j => ¬ F j) x w' := by
  obtain ⟨V, kn, ka, k, h1, h2, h3⟩ := h
  refine (bbegin_any k).mono ?_
  rintro e w' ⟨hor, t⟩
  have hQ : ∀ z, z = g.p → g.its V S z := fun z hz => Or.inl (Or.inl hz)
  rcases hor with ⟨i, hi, a1, a2, rfl, k'⟩ | ⟨a1, rfl, k'⟩
  · have := Bu.step h3 k' h1 h2 rfl (fun _ => rfl) (fun _ _ _ _ _ q => Or.inl q) t hQ
    exact ⟨Or.inl ⟨i, hi, a1, a2, rfl, this.1⟩, this.2⟩
  · have := Bu.step h3 k' h1 h2 rfl (fun _ => rfl) (fun _ _ _ _ _ q => Or.inl q) t hQ
    exact ⟨Or.inr ⟨a1, rfl, this.1⟩, this.2⟩
theorem uoth (h : Bu x g F N S) (l : Nat) (hl : l < 4294967296) : Calls Try.prog 32 #[.pointer (some ⟨g.p, 0, none⟩), .int .u32 l] x fun e w' => ∃ b : Bool, e = .returned (.bool b) ∧ (b = true ↔ S.oth l S.nc) ∧ Below x.heap.size x w' := by
  obtain ⟨V, kn, ka, k, -⟩ := h
  exact both_any k l hl
/-- writeBack -/
def BS.wb (S : BS) (e : Ln) : BS := { S with mem := wbm' S.mem e, nw := wbn S.nw e }
theorem uback (h : Bu x g F N S) (e : Ln) (hs : e.s = 3 → (∀ t, e.b t < 256) ∧ e.a < 4294967296 ∧ e.a % 16 = 0 ∧ hasB e.a S.len = true) : Calls Try.prog 35 #[.pointer (some ⟨g.p, 0, none⟩), .agg e.vs.toArray] x fun r w' => r = .returned (.tuple #[]) ∧ Bu w' g F N (S.wb e) ∧ Turned (fun j => ¬ F j) x w' := by
  obtain ⟨V, kn, ka, k, h1, h2, h3⟩ := h
  by_cases c : e.s = 3
  · obtain ⟨q1, q2, q3, q4⟩ := hs c
    refine (wback_yes k e c q1 q2 q3 q4).mono ?_
    rintro r w' ⟨rfl, k', t⟩
    have : S.wb e = { S with mem := wbm S.mem e, nw := updO S.nw (e.a : Nat) none } := by
      unfold BS.wb wbm' wbn
      rw [if_pos c, if_pos c]
    rw [this]
    exact ⟨rfl, Bu.step h3 k' h1 h2 rfl (fun _ => rfl) (fun _ _ _ _ _ q => Or.inl q) t (fun z hz => by
      rcases hz with hz | hz
      · exact Or.inl (Or.inr (Or.inr (Or.inl hz)))
      · exact Or.inl (Or.inr (Or.inr (Or.inr (Or.inl hz)))))⟩
  · refine (wback_no e x g.p c).mono ?_
    rintro r w' ⟨rfl, t⟩
    have : S.wb e = S := by
      unfold BS.wb wbm' wbn
      rw [if_neg c, if_neg c]
    rw [this]
    exact ⟨rfl, Bu.below ⟨V, kn, ka, k, h1, h2, h3⟩ t, Turned.of_below t⟩
open Classical in
noncomputable def CS.ix (T : CS) (a : Nat) : Nat := if h : ∃ i, At (T.set (T.of a)) a i then h.choose else 0
theorem CS.ix_is {T : CS} {a i : Nat} (h : At (T.set (T.of a)) a i) : T.ix a = i := by
  unfold CS.ix
  have hx : ∃ i, At (T.set (T.of a)) a i := ⟨i, h⟩
  rw [dif_pos hx]
  exact at_inj hx.choose_spec h
noncomputable def CS.ln (T : CS) (a : Nat) : Ln := (T.set (T.of a)).getD (T.ix a) l0
noncomputable def CS.lowTo (T : CS) (a to : Nat) : CS := T.put (T.of a) (if to = 0 then rest (T.set (T.of a)) (T.ix a) else (T.set (T.of a)).set (T.ix a) ((T.ln a).setS to))
theorem CS.st_ix {T : CS} {a : Nat} (h : T.st a ≠ 0) : At (T.set (T.of a)) a (T.ix a) ∧ T.st a = (T.ln a).s := by
  rcases at_or_no (T.set (T.of a)) a with ⟨i, hi⟩ | hn
  · have := CS.ix_is hi
    unfold CS.ln
    rw [this]
    exact ⟨hi, CS.st_at hi⟩
  · exact absurd (CS.st_no hn) h
/-- Lower, of one of its caches -/
theorem ulower (h : Bu x g F N S) (i a to : Nat) (hi : i < S.nc) (ha : a < 4294967296) (h16 : a % 16 = 0) (h2 : to ≤ 2) (hst : to < (S.c i).st a) : Calls Try.prog 31 #[.pointer (some ⟨g.P i, 0, none⟩), .int .u32 a, .int .i64 to] x fun e w' => e = .returned (.tuple #[.agg ((S.c i).ln a).vs.toArray, .nilIface]) ∧ Bu w' g F N (S.cput i ((S.c i).lowTo a to)) ∧ Turned (fun j => ¬ F j) x w' := by
  obtain ⟨V, kn, ka, k, h1, h2', h3⟩ := h
  obtain ⟨hA, hs⟩ := CS.st_ix (T := S.c i) (a := a) (by omega)
  refine (lower_good g.B (g.P i) (g.H i) (g.C i) (V i) (S.c i) a to ((S.c i).ix a) x (k.ch i hi) ha h16 h2 hA (by rw [hs] at hst; exact hst)).mono ?_
  rintro e w' ⟨rfl, V', ch, hv, t⟩
  refine ⟨rfl, ?_⟩
  have k' := k.cache i hi (T := (S.c i).lowTo a to) rfl ch (fun j q hj hq => Or.inl (hv j q hj hq)) t
  refine Bu.step (V' := fun j => if j = i then V' else V j) h3 k' h1 h2' rfl (fun j => ?_) (fun j j' q _ hj hq => ?_) t (fun z hz => Or.inr ⟨i, hi, hz⟩)
  · show (if j = i then (S.c i).lowTo a to else S.c j).n = _
    by_cases e : j = i
    · rw [if_pos e, e]; rfl
    · rw [if_neg e]
  · left
    by_cases e : j = i
    · subst e
      have hq : (V' j').ownBlock = some q := by simpa using hq
      exact hv j' q hj hq
    · simpa [e] using hq
theorem ucst (h : Bu x g F N S) (i a : Nat) (hi : i < S.nc) (ha : a < 4294967296) : Calls Try.prog 18 #[.pointer (some ⟨g.P i, 0, none⟩), .int .u32 a] x fun e w' => e = .returned (.int .i64 ((S.c i).st a : Nat)) ∧ Below x.heap.size x w' := by
  obtain ⟨V, kn, ka, k, -⟩ := h
  exact cst_any g.B (g.P i) (g.H i) (g.C i) (V i) (S.c i) a x (k.ch i hi) ha
/-- Fill, of one of its caches -/
theorem ufill (h : Bu x g F N S) (i a s : Nat) (b : Nat → Nat) (hi : i < S.nc) (ha : a < 4294967296) (h16 : a % 16 = 0) (hs : 1 ≤ s ∧ s ≤ 3) (hN : No ((S.c i).set ((S.c i).of a)) a) : Calls Try.prog 33 #[.pointer (some ⟨g.P i, 0, none⟩), .int .u32 a, .agg (bvs b).toArray, .int .i64 s] x fun e w' => e = .returned (.tuple #[.agg ((S.c i).left a).vs.toArray, .bool ((S.c i).full a), .nilIface]) ∧ Bu w' g F N (S.cput i ((S.c i).fill a s b)) ∧ Turned (fun j => ¬ F j) x w' := by
  obtain ⟨V, kn, ka, k, h1, h2', h3⟩ := h
  have key : Calls Try.prog 33 #[.pointer (some ⟨g.P i, 0, none⟩), .int .u32 a, .agg (bvs b).toArray, .int .i64 s] x fun e w' => e = .returned (.tuple #[.agg ((S.c i).left a).vs.toArray, .bool ((S.c i).full a), .nilIface]) ∧ ∃ v', Ch w' g.B (g.P i) (g.H i) (g.C i) (upd (V i) ((S.c i).of a) v') ((S.c i).fill a s b) ∧ (∀ j, v'.ownBlock = some j → (V i ((S.c i).of a)).ownBlock = some j ∨ x.heap.size ≤ j) ∧ Turned (mine (g.P i) (g.H i) (S.c i).n (V i)) x w' := by
    cases hf : (S.c i).full a
    · have := fill_room g.B (g.P i) (g.H i) (g.C i) (V i) (S.c i) a s b x (k.ch i hi) ha h16 hs hN hf
      rw [hf] at this
      exact this
    · have := fill_full g.B (g.P i) (g.H i) (g.C i) (V i) (S.c i) a s b x (k.ch i hi) ha h16 hs hN hf
      rw [hf] at this
      exact this
  refine key.mono ?_
  rintro e w' ⟨rfl, v', ch, hv, t⟩
  have hw : ∀ j q, (upd (V i) ((S.c i).of a) v' j).ownBlock = some q → (V i j).ownBlock = some q ∨ x.heap.size ≤ q := by
    intro j q hq
    by_cases e : j = (S.c i).of a
    · subst e
      rw [upd_same] at hq
      exact hv q hq
    · rw [upd_other _ _ _ _ e] at hq
      exact Or.inl hq
  refine ⟨rfl, Bu.step (V' := fun j => if j = i then upd (V i) ((S.c i).of a) v' else V j) h3 (k.cache i hi (T := (S.c i).fill a s b) rfl ch (fun j q _ hq => hw j q hq) t) h1 h2' rfl (fun j => ?_) (fun j j' q _ _ hq => ?_) t (fun z hz => Or.inr ⟨i, hi, hz⟩)⟩
  · show (if j = i then (S.c i).fill a s b else S.c j).n = _
    by_cases e : j = i
    · rw [if_pos e, e]; rfl
    · rw [if_neg e]
  · by_cases e : j = i
    · subst e
      have hq : (upd (V j) ((S.c j).of a) v' j').ownBlock = some q := by simpa using hq
      exact hw j' q hq
    · left
      simpa [e] using hq
end
end Go.Proofs.Ytbbaopldebdoiaa
