import Derived.Test.YtlogdmnhngbkaaaDoorY17
/-
  BUS' LAW BusCoheres: what lasts, plainly: the lines of all caches, memory, what is newer.
-/
namespace Go.Proofs.YtlogdmnhngbkaaaDoor
open Go Go.RowKit
/-- L: the lines of each cache; m: memory; nw: what is newer; f: what was written last -/
structure Se (L : Nat → Ln → Prop) (m : Nat → Nat) (nw : Int → Option (Nat → Nat)) (f : Nat → Nat) : Prop where
  line : ∀ i e, L i e → i < 2 ∧ e.a % 16 = 0 ∧ 65536 ≤ e.a ∧ e.a < 65792 ∧ 1 ≤ e.s ∧ e.s ≤ 3 ∧ (∀ t, t < 16 → e.b t = f (e.a - 65536 + t)) ∧ ∀ t, e.b t < 256
  uni : ∀ i e e', L i e → L i e' → e.a = e'.a → e = e'
  ex : ∀ i j e e', i ≠ j → L i e → L j e' → e.a = e'.a → e.s = 1
  out : ∀ o, o < 256 → m o = f o ∨ ∃ i e, L i e ∧ e.s = 3 ∧ e.a = 65536 + lineOf o
  n1 : ∀ i e, L i e → e.s = 3 → nw (e.a : Nat) = some e.b
  n2 : ∀ (a : Nat) b, nw a = some b → ∃ i e, L i e ∧ e.s = 3 ∧ e.a = a ∧ e.b = b
theorem Se.congr {L L' : Nat → Ln → Prop} {m : Nat → Nat} {nw : Int → Option (Nat → Nat)} {f : Nat → Nat} (h : Se L m nw f) (hL : ∀ i e, L' i e ↔ L i e) : Se L' m nw f := by
  obtain rfl : L' = L := funext fun i => funext fun e => propext (hL i e)
  exact h
theorem setS_a (e : Ln) (s : Nat) : (e.setS s).a = e.a ∧ (e.setS s).s = s ∧ (e.setS s).b = e.b := ⟨rfl, rfl, rfl⟩
/-- memory behind a line that was written back, if it was Modified -/
def wbm' (m : Nat → Nat) (e : Ln) : Nat → Nat := if e.s = 3 then wbm m e else m
def wbn (nw : Int → Option (Nat → Nat)) (e : Ln) : Int → Option (Nat → Nat) := if e.s = 3 then updO nw (e.a : Nat) none else nw
theorem Se.low {L L' : Nat → Ln → Prop} {m : Nat → Nat} {nw : Int → Option (Nat → Nat)} {f : Nat → Nat} (h : Se L m nw f) (i : Nat) (e0 : Ln) (h0 : L i e0) (s' : Nat) (hs : s' < e0.s) (hL : ∀ j e, L' j e ↔ ((L j e ∧ ¬ (j = i ∧ e.a = e0.a)) ∨ (s' = 1 ∧ j = i ∧ e = e0.setS 1))) : Se L' (wbm' m e0) (wbn nw e0) f := by
  obtain ⟨i2, a16, alo, ahi, s1, s3, hb, h8⟩ := h.line i e0 h0
  have same : ∀ j e, L' j e → ∃ e', L j e' ∧ e'.a = e.a ∧ e'.b = e.b ∧ (e.s = 1 ∨ (e = e' ∧ ¬ (j = i ∧ e.a = e0.a))) := by
    intro j e he
    rcases (hL j e).1 he with ⟨u, v⟩ | ⟨u, rfl, rfl⟩
    · exact ⟨e, u, rfl, rfl, Or.inr ⟨rfl, v⟩⟩
    · exact ⟨e0, h0, rfl, rfl, Or.inl rfl⟩
  refine ⟨fun j e he => ?_, fun j e e' he he' q => ?_, fun j j' e e' hj he he' q => ?_, fun o ho => ?_, fun j e he h3 => ?_, fun a b hab => ?_⟩
  · obtain ⟨e', l', q1, q2, q3⟩ := same j e he
    obtain ⟨u1, u2, u3, u4, u5, u6, u7, u8⟩ := h.line j e' l'
    rw [q1] at u2 u3 u4 u7
    rw [q2] at u7 u8
    refine ⟨u1, u2, u3, u4, ?_, ?_, u7, u8⟩
    · rcases q3 with q | q
      · omega
      · rw [q.1]; omega
    · rcases q3 with q | q
      · omega
      · rw [q.1]; omega
  · rcases (hL j e).1 he with ⟨u, v⟩ | ⟨u, u2, u3⟩ <;> rcases (hL j e').1 he' with ⟨x, y⟩ | ⟨x, x2, x3⟩
    · exact h.uni j e e' u x q
    · exact absurd ⟨x2, by rw [q, x3]; rfl⟩ v
    · exact absurd ⟨u2, by rw [← q, u3]; rfl⟩ y
    · rw [u3, x3]
  · obtain ⟨x, lx, x1, x2, x3⟩ := same j e he
    obtain ⟨y, ly, y1, y2, y3⟩ := same j' e' he'
    rcases x3 with x3 | x3
    · exact x3
    · rw [x3.1]
      exact h.ex j j' x y hj lx ly (by rw [x1, y1, q])
  · by_cases c : e0.s = 3 ∧ e0.a = 65536 + lineOf o
    · left
      unfold wbm'
      rw [if_pos c.1]
      unfold wbm
      have : e0.a - 65536 ≤ o ∧ o < e0.a - 65536 + 16 := by
        have := c.2
        unfold lineOf at this
        omega
      have e2 : e0.a - 65536 + (o - (e0.a - 65536)) = o := by omega
      rw [if_pos this, hb _ (by omega), e2]
    · have hm : wbm' m e0 o = m o := by
        unfold wbm'
        split
        · rename_i h3
          unfold wbm
          rw [if_neg]
          intro q
          refine c ⟨h3, ?_⟩
          unfold lineOf
          omega
        · rfl
      rw [hm]
      rcases h.out o ho with q | ⟨j, e, l, q1, q2⟩
      · exact Or.inl q
      · right
        refine ⟨j, e, (hL j e).2 (Or.inl ⟨l, ?_⟩), q1, q2⟩
        rintro ⟨rfl, q3⟩
        have := h.uni j e e0 l h0 q3
        subst this
        exact c ⟨q1, q2⟩
  · rcases (hL j e).1 he with ⟨u, v⟩ | ⟨u, u2, u3⟩
    · have := h.n1 j e u h3
      unfold wbn
      split
      · unfold updO
        rw [if_neg]
        · exact this
        · intro q
          have q : e.a = e0.a := by omega
          by_cases z : j = i
          · exact v ⟨z, q⟩
          · have := h.ex j i e e0 z u h0 q
            omega
      · exact this
    · rw [u3] at h3
      cases h3
  · have key : nw a = some b ∧ (e0.s = 3 → a ≠ e0.a) := by
      unfold wbn at hab
      split at hab
      · unfold updO at hab
        split at hab
        · cases hab
        · rename_i q
          exact ⟨hab, fun _ z => q (by rw [z])⟩
      · rename_i q
        exact ⟨hab, fun z => absurd z q⟩
    obtain ⟨j, e, l, q1, q2, q3⟩ := h.n2 a b key.1
    refine ⟨j, e, (hL j e).2 (Or.inl ⟨l, ?_⟩), q1, q2, q3⟩
    rintro ⟨rfl, q4⟩
    have := h.uni j e e0 l h0 q4
    subst this
    exact key.2 q1 q2.symm
theorem Se.new {L L' : Nat → Ln → Prop} {m : Nat → Nat} {nw : Int → Option (Nat → Nat)} {f : Nat → Nat} (h : Se L m nw f) (i a s : Nat) (b : Nat → Nat) (hi : i < 2) (h16 : a % 16 = 0) (hlo : 65536 ≤ a) (hhi : a < 65792) (hs : s = 1 ∨ s = 2) (hno : ∀ e, L i e → e.a ≠ a) (hot : ∀ j e, L j e → e.a = a → e.s = 1 ∧ s = 1) (hb : ∀ t, t < 16 → b t = m (a - 65536 + t)) (h8 : ∀ t, b t < 256) (hL : ∀ j e, L' j e ↔ (L j e ∨ (j = i ∧ e = ⟨a, s, b⟩))) : Se L' m nw f := by
  refine ⟨fun j e he => ?_, fun j e e' he he' q => ?_, fun j j' e e' hj he he' q => ?_, fun o ho => ?_, fun j e he h3 => ?_, fun a' b' hab => ?_⟩
  · rcases (hL j e).1 he with u | ⟨rfl, rfl⟩
    · exact h.line j e u
    · refine ⟨hi, h16, hlo, hhi, by show 1 ≤ s; omega, by show s ≤ 3; omega, fun t ht => ?_, h8⟩
      show b t = f (a - 65536 + t)
      rw [hb t ht]
      rcases h.out (a - 65536 + t) (by omega) with q | ⟨j', e', l', q1, q2⟩
      · exact q
      · have q3 : e'.a = a := by
          rw [q2]
          unfold lineOf
          omega
        have := (hot j' e' l' q3).1
        omega
  · rcases (hL j e).1 he with u | ⟨u1, u2⟩ <;> rcases (hL j e').1 he' with x | ⟨x1, x2⟩
    · exact h.uni j e e' u x q
    · exact absurd (by rw [q, x2]) (hno e (by rw [← x1]; exact u))
    · exact absurd (by rw [← q, u2]) (hno e' (by rw [← u1]; exact x))
    · rw [u2, x2]
  · rcases (hL j e).1 he with u | ⟨u1, u2⟩ <;> rcases (hL j' e').1 he' with x | ⟨x1, x2⟩
    · exact h.ex j j' e e' hj u x q
    · exact (hot j e u (by rw [q, x2])).1
    · rw [u2]
      exact (hot j' e' x (by rw [← q, u2])).2
    · exact absurd (u1.trans x1.symm) hj
  · rcases h.out o ho with q | ⟨j, e, l, q1, q2⟩
    · exact Or.inl q
    · exact Or.inr ⟨j, e, (hL j e).2 (Or.inl l), q1, q2⟩
  · rcases (hL j e).1 he with u | ⟨u1, u2⟩
    · exact h.n1 j e u h3
    · rw [u2] at h3
      have h3 : s = 3 := h3
      omega
  · obtain ⟨j, e, l, q⟩ := h.n2 a' b' hab
    exact ⟨j, e, (hL j e).2 (Or.inl l), q⟩
theorem wr_is (e : Ln) (q d z : Nat) : (e.wr q d z).a = e.a ∧ (e.wr q d z).s = 3 ∧ ∀ t, (e.wr q d z).b t = if q ≤ t ∧ t < q + z then d / 256 ^ (t - q) % 256 else e.b t := by
  unfold Ln.wr
  exact ⟨(putN_a _ q d z).1, (putN_a _ q d z).2, fun t => putN_b _ q d z t⟩
theorem Se.write {L L' : Nat → Ln → Prop} {m : Nat → Nat} {nw : Int → Option (Nat → Nat)} {f : Nat → Nat} (h : Se L m nw f) (i : Nat) (e0 : Ln) (h0 : L i e0) (h2 : 2 ≤ e0.s) (a z d : Nat) (ha : e0.a = lineOf a) (hz : a % 16 + z ≤ 16) (hL : ∀ j e, L' j e ↔ ((L j e ∧ ¬ (j = i ∧ e.a = e0.a)) ∨ (j = i ∧ e = e0.wr (a % 16) d z))) : Se L' m (updO nw (e0.a : Nat) (some (e0.wr (a % 16) d z).b)) (written f (a - 65536) z d) := by
  obtain ⟨i2, a16, alo, ahi, s1, s3, hb, h8⟩ := h.line i e0 h0
  obtain ⟨w1, w2, w3⟩ := wr_is e0 (a % 16) d z
  have hal : lineOf a = a - a % 16 := rfl
  have alone : ∀ j e, L j e → ¬ (j = i ∧ e.a = e0.a) → e.a ≠ e0.a := by
    intro j e l hn q
    by_cases x : j = i
    · exact hn ⟨x, q⟩
    · have := h.ex i j e0 e (fun z => x z.symm) h0 l q.symm
      omega
  refine ⟨fun j e he => ?_, fun j e e' he he' q => ?_, fun j j' e e' hj he he' q => ?_, fun o ho => ?_, fun j e he h3 => ?_, fun a' b' hab => ?_⟩
  · rcases (hL j e).1 he with ⟨u, v⟩ | ⟨rfl, rfl⟩
    · obtain ⟨u1, u2, u3, u4, u5, u6, u7, u8⟩ := h.line j e u
      refine ⟨u1, u2, u3, u4, u5, u6, fun t ht => ?_, u8⟩
      rw [u7 t ht]
      unfold written
      rw [if_neg]
      have := alone j e u v
      omega
    · refine ⟨i2, by rw [w1]; exact a16, by rw [w1]; exact alo, by rw [w1]; exact ahi, by omega, by omega, fun t ht => ?_, fun t => ?_⟩
      · rw [w1, w3 t]
        unfold written
        by_cases c : a % 16 ≤ t ∧ t < a % 16 + z
        · have e2 : e0.a - 65536 + t - (a - 65536) = t - a % 16 := by omega
          rw [if_pos c, if_pos (by omega), e2]
        · rw [if_neg c, if_neg (by omega)]
          exact hb t ht
      · rw [w3 t]
        split
        · exact Nat.mod_lt _ (by decide)
        · exact h8 t
  · rcases (hL j e).1 he with ⟨u, v⟩ | ⟨u1, u2⟩ <;> rcases (hL j e').1 he' with ⟨x, y⟩ | ⟨x1, x2⟩
    · exact h.uni j e e' u x q
    · exact absurd ⟨x1, by rw [q, x2, w1]⟩ v
    · exact absurd ⟨u1, by rw [← q, u2, w1]⟩ y
    · rw [u2, x2]
  · rcases (hL j e).1 he with ⟨u, v⟩ | ⟨u1, u2⟩ <;> rcases (hL j' e').1 he' with ⟨x, y⟩ | ⟨x1, x2⟩
    · exact h.ex j j' e e' hj u x q
    · exact absurd (by rw [q, x2, w1]) (alone j e u v)
    · exact absurd (by rw [← q, u2, w1]) (alone j' e' x y)
    · exact absurd (u1.trans x1.symm) hj
  · by_cases c : e0.a = 65536 + lineOf o
    · exact Or.inr ⟨i, _, (hL i _).2 (Or.inr ⟨rfl, rfl⟩), w2, by rw [w1]; exact c⟩
    · have hw : written f (a - 65536) z d o = f o := by
        unfold written
        rw [if_neg]
        intro q
        apply c
        unfold lineOf
        omega
      rw [hw]
      rcases h.out o ho with q | ⟨j, e, l, q1, q2⟩
      · exact Or.inl q
      · exact Or.inr ⟨j, e, (hL j e).2 (Or.inl ⟨l, fun q => c (by rw [← q.2, q2])⟩), q1, q2⟩
  · rcases (hL j e).1 he with ⟨u, v⟩ | ⟨u1, u2⟩
    · unfold updO
      rw [if_neg]
      · exact h.n1 j e u h3
      · have := alone j e u v
        omega
    · rw [u2, w1]
      unfold updO
      rw [if_pos rfl]
  · unfold updO at hab
    split at hab
    · rename_i q
      have q : a' = e0.a := by omega
      refine ⟨i, _, (hL i _).2 (Or.inr ⟨rfl, rfl⟩), w2, by rw [w1]; exact q.symm, ?_⟩
      exact Option.some.inj hab
    · rename_i q
      obtain ⟨j, e, l, q1, q2, q3⟩ := h.n2 a' b' hab
      exact ⟨j, e, (hL j e).2 (Or.inl ⟨l, fun z => q (by rw [← z.2, q2])⟩), q1, q2, q3⟩
end Go.Proofs.YtlogdmnhngbkaaaDoor
/-
  BUS: the bus as a whole, and what lies outside of it.
-/
namespace Go.Proofs.YtlogdmnhngbkaaaDoor
open Go Go.RowKit
/-- where the bus stands -/
structure Bn where
  B : Nat
  p : Nat
  rb : Nat
  rc : Nat
  mb : Nat
  mc : Nat
  nb : Nat
  ab : Nat
  P : Nat → Nat
  H : Nat → Nat
  C : Nat → Nat
abbrev Bn.M (g : Bn) (x : World) (kn ka : Nat) (V : Nat → Nat → Value) (S : BS) : Prop := Bm x g.B g.p g.rb g.rc g.mb g.mc g.nb g.ab kn ka g.P g.H g.C V S
/-- its blocks -/
def Bn.its (g : Bn) (V : Nat → Nat → Value) (S : BS) (z : Nat) : Prop := own5 g.p g.rb g.mb g.nb g.ab z ∨ ∃ i, i < S.nc ∧ mine (g.P i) (g.H i) (S.c i).n (V i) z
/-- F: blocks that are not the bus' -/
def Bu (x : World) (g : Bn) (F : Nat → Prop) (N : Nat) (S : BS) : Prop := ∃ V kn ka, g.M x kn ka V S ∧ kn ≤ N ∧ ka ≤ N ∧ ∀ z, F z → z < x.heap.size ∧ ¬ g.its V S z
section
variable {x y : World} {g : Bn} {F : Nat → Prop} {N kn ka : Nat} {V : Nat → Nat → Value} {S : BS}
theorem its_lt (k : g.M x kn ka V S) {z : Nat} (h : g.its V S z) : z < x.heap.size := by
  rcases h with h | ⟨i, hi, h⟩
  · exact k.at z h
  · exact (mine_lt (k.ch i hi) z h).1
theorem Bm.turn {Q : Nat → Prop} (k : g.M x kn ka V S) (t : Turned Q x y) (hq : ∀ z, Q z → ¬ g.its V S z) : g.M y kn ka V S := by
  have n5 : ∀ j, own5 g.p g.rb g.mb g.nb g.ab j → ¬ Q j := fun j hj e => hq j e (Or.inl hj)
  exact ⟨t.cells k.c (n5 _ (Or.inl rfl)), t.cells k.row (n5 _ (Or.inr (Or.inl rfl))), fun i hi => (k.ch i hi).off t (fun j hj e => hq j e (Or.inr ⟨i, hi, hj⟩)), t.cells k.m (n5 _ (Or.inr (Or.inr (Or.inl rfl)))), k.nw.turned t (n5 _ (Or.inr (Or.inr (Or.inr (Or.inl rfl))))), k.ak.turned t (n5 _ (Or.inr (Or.inr (Or.inr (Or.inr rfl))))), k.d0, k.d1, k.d2, k.lo, k.sz, k.rm, k.m8⟩
/-- something outside has changed, or is new -/
theorem Bu.turn {Q : Nat → Prop} (h : Bu x g F N S) (t : Turned Q x y) (hq : ∀ z, Q z → z < x.heap.size → F z) : Bu y g (fun j => F j ∨ (x.heap.size ≤ j ∧ j < y.heap.size)) N S := by
  obtain ⟨V, kn, ka, k, h1, h2, hF⟩ := h
  refine ⟨V, kn, ka, Bm.turn k t (fun z hz hi => (hF z (hq z hz (its_lt k hi))).2 hi), h1, h2, fun z hz => ?_⟩
  rcases hz with hz | hz
  · exact ⟨Nat.lt_of_lt_of_le (hF z hz).1 t.size, (hF z hz).2⟩
  · exact ⟨hz.2, fun hi => by have := its_lt k hi; omega⟩
theorem Bu.less {F' : Nat → Prop} (h : Bu x g F N S) (hF : ∀ z, F' z → F z) : Bu x g F' N S := by
  obtain ⟨V, kn, ka, k, h1, h2, h3⟩ := h
  exact ⟨V, kn, ka, k, h1, h2, fun z hz => h3 z (hF z hz)⟩
theorem Bu.fresh (h : Bu x g F N S) (t : Below x.heap.size x y) : Bu y g (fun j => F j ∨ (x.heap.size ≤ j ∧ j < y.heap.size)) N S := h.turn (Q := fun _ => False) (Turned.of_below t) (fun _ q => q.elim)
theorem Bu.below (h : Bu x g F N S) (t : Below x.heap.size x y) : Bu y g F N S := (h.fresh t).less (fun _ q => Or.inl q)
theorem Bu.up {N' : Nat} (h : Bu x g F N S) (hN : N ≤ N') : Bu x g F N' S := by
  obtain ⟨V, kn, ka, k, h1, h2, h3⟩ := h
  exact ⟨V, kn, ka, k, by omega, by omega, h3⟩
/-- the bus itself has changed -/
theorem Bu.step {Q : Nat → Prop} {N' kn' ka' : Nat} {V' : Nat → Nat → Value} {S' : BS} (hF : ∀ z, F z → z < x.heap.size ∧ ¬ g.its V S z) (k' : g.M y kn' ka' V' S') (h1 : kn' ≤ N') (h2 : ka' ≤ N') (hnc : S'.nc = S.nc) (hn : ∀ i, (S'.c i).n = (S.c i).n) (hv : ∀ i j q, i < S.nc → j < (S.c i).n → (V' i j).ownBlock = some q → (V i j).ownBlock = some q ∨ x.heap.size ≤ q) (t : Turned Q x y) (hQ : ∀ z, Q z → g.its V S z) : Bu y g F N' S' ∧ Turned (fun j => ¬ F j) x y := by
  refine ⟨⟨V', kn', ka', k', h1, h2, fun z hz => ⟨Nat.lt_of_lt_of_le (hF z hz).1 t.size, ?_⟩⟩, t.mono (fun z hz hf => (hF z hf).2 (hQ z hz))⟩
  rintro (h | ⟨i, hi, h⟩)
  · exact (hF z hz).2 (Or.inl h)
  · rcases h with h | h | ⟨j, hj, h⟩
    · exact (hF z hz).2 (Or.inr ⟨i, by omega, Or.inl h⟩)
    · exact (hF z hz).2 (Or.inr ⟨i, by omega, Or.inr (Or.inl h)⟩)
    · rcases hv i j z (by omega) (by rw [← hn i]; exact hj) h with q | q
      · exact (hF z hz).2 (Or.inr ⟨i, by omega, Or.inr (Or.inr ⟨j, by rw [← hn i]; exact hj, q⟩)⟩)
      · have := (hF z hz).1
        omega
theorem Bu.here (h : Bu x g F N S) {z : Nat} (hz : F z) : z < x.heap.size := by
  obtain ⟨V, kn, ka, k, h1, h2, h3⟩ := h
  exact (h3 z hz).1
/-- a cell outside -/
theorem out_cells {n c : Nat} {v : Nat → Value} (t : Turned (fun j => ¬ F j) x y) (k : CellsAt n x c v) (hc : F c) : CellsAt n y c v := t.cells k (fun h => h hc)
/-- State, Busy -/
theorem ustate (h : Bu x g F N S) (core : Int) (a : Nat) (ha : a < 4294967296) : Calls Tryd.prog 15 #[.pointer (some ⟨g.p, 0, none⟩), .int .i64 core, .int .u32 a] x fun e w' => e = .returned (.int .i64 (S.st core a : Nat)) ∧ Below x.heap.size x w' := by
  obtain ⟨V, kn, ka, k, -⟩ := h
  exact bstate_any k core a ha
theorem ubusy (h : Bu x g F N S) (core : Int) (hc : i64 core) : Calls Tryd.prog 17 #[.pointer (some ⟨g.p, 0, none⟩), .int .i64 core] x fun e w' => e = .returned (.bool (S.ak core).isSome) ∧ Below x.heap.size x w' := by
  obtain ⟨V, kn, ka, k, -⟩ := h
  exact bbusy_any k core hc
theorem uask (h : Bu x g F N S) (hN : N < 9000000000000000000) (core : Int) (hc : i64 core) (a : Nat) (wr : Bool) (ha : a < 4294967296) (hh : S.has core a = true) (hb : (S.ak core).isSome = false) (hs : S.st core a < (if wr then 2 else 1)) : Calls Tryd.prog 5 #[.pointer (some ⟨g.p, 0, none⟩), .int .i64 core, .int .u32 a, .bool wr] x fun e w' => e = .returned .nilIface ∧ Bu w' g F (N + 1) { S with ak := updO S.ak core (some (lineOf a, wr)) } ∧ Turned (fun j => ¬ F j) x w' := by
  obtain ⟨V, kn, ka, k, h1, h2, h3⟩ := h
  refine (bask_good k core hc a wr ha hh hb hs (by unfold maxLen; omega)).mono ?_
  rintro e w' ⟨rfl, k', t⟩
  exact ⟨rfl, Bu.step h3 k' (by omega) (by omega) rfl (fun _ => rfl) (fun _ _ _ _ _ q => Or.inl q) t (fun z hz => Or.inl (Or.inr (Or.inr (Or.inr (Or.inr hz)))))⟩
theorem ubegin (h : Bu x g F N S) : Calls Tryd.prog 28 #[.pointer (some ⟨g.p, 0, none⟩)] x fun e w' => ((∃ i, i < S.nc ∧ (S.ak (S.nxt i : Nat)).isSome = true ∧ (∀ j, j < i → (S.ak (S.nxt j : Nat)).isSome = false) ∧ e = .returned (.bool true) ∧ Bu w' g F N { S with turn := S.nxt i, on := true, tk := 0 }) ∨ ((∀ j, j < S.nc → (S.ak (S.nxt j : Nat)).isSome = false) ∧ e = .returned (.bool false) ∧ Bu w' g F N S)) ∧ Turned (fun j => ¬ F j) x w' := by
  obtain ⟨V, kn, ka, k, h1, h2, h3⟩ := h
  refine (bbegin_any k).mono ?_
  rintro e w' ⟨hor, t⟩
  have hQ : ∀ z, z = g.p → g.its V S z := fun z hz => Or.inl (Or.inl hz)
  rcases hor with ⟨i, hi, a1, a2, rfl, k'⟩ | ⟨a1, rfl, k'⟩
  · have := Bu.step h3 k' h1 h2 rfl (fun _ => rfl) (fun _ _ _ _ _ q => Or.inl q) t hQ
    exact ⟨Or.inl ⟨i, hi, a1, a2, rfl, this.1⟩, this.2⟩
  · have := Bu.step h3 k' h1 h2 rfl (fun _ => rfl) (fun _ _ _ _ _ q => Or.inl q) t hQ
    exact ⟨Or.inr ⟨a1, rfl, this.1⟩, this.2⟩
theorem uoth (h : Bu x g F N S) (l : Nat) (hl : l < 4294967296) : Calls Tryd.prog 47 #[.pointer (some ⟨g.p, 0, none⟩), .int .u32 l] x fun e w' => ∃ b : Bool, e = .returned (.bool b) ∧ (b = true ↔ S.oth l S.nc) ∧ Below x.heap.size x w' := by
  obtain ⟨V, kn, ka, k, -⟩ := h
  exact both_any k l hl
/-- writeBack -/
def BS.wb (S : BS) (e : Ln) : BS := { S with mem := wbm' S.mem e, nw := wbn S.nw e }
theorem uback (h : Bu x g F N S) (e : Ln) (hs : e.s = 3 → (∀ t, e.b t < 256) ∧ e.a < 4294967296 ∧ e.a % 16 = 0 ∧ hasB e.a S.len = true) : Calls Tryd.prog 50 #[.pointer (some ⟨g.p, 0, none⟩), .agg e.vs.toArray] x fun r w' => r = .returned (.tuple #[]) ∧ Bu w' g F N (S.wb e) ∧ Turned (fun j => ¬ F j) x w' := by
  obtain ⟨V, kn, ka, k, h1, h2, h3⟩ := h
  by_cases c : e.s = 3
  · obtain ⟨q1, q2, q3, q4⟩ := hs c
    refine (wback_yes k e c q1 q2 q3 q4).mono ?_
    rintro r w' ⟨rfl, k', t⟩
    have : S.wb e = { S with mem := wbm S.mem e, nw := updO S.nw (e.a : Nat) none } := by
      unfold BS.wb wbm' wbn
      rw [if_pos c, if_pos c]
    rw [this]
    exact ⟨rfl, Bu.step h3 k' h1 h2 rfl (fun _ => rfl) (fun _ _ _ _ _ q => Or.inl q) t (fun z hz => by
      rcases hz with hz | hz
      · exact Or.inl (Or.inr (Or.inr (Or.inl hz)))
      · exact Or.inl (Or.inr (Or.inr (Or.inr (Or.inl hz)))))⟩
  · refine (wback_no e x g.p c).mono ?_
    rintro r w' ⟨rfl, t⟩
    have : S.wb e = S := by
      unfold BS.wb wbm' wbn
      rw [if_neg c, if_neg c]
    rw [this]
    exact ⟨rfl, Bu.below ⟨V, kn, ka, k, h1, h2, h3⟩ t, Turned.of_below t⟩
open Classical in
noncomputable def CS.ix (T : CS) (a : Nat) : Nat := if h : ∃ i, At (T.set (T.of a)) a i then h.choose else 0
theorem CS.ix_is {T : CS} {a i : Nat} (h : At (T.set (T.of a)) a i) : T.ix a = i := by
  unfold CS.ix
  have hx : ∃ i, At (T.set (T.of a)) a i := ⟨i, h⟩
  rw [dif_pos hx]
  exact at_inj hx.choose_spec h
noncomputable def CS.ln (T : CS) (a : Nat) : Ln := (T.set (T.of a)).getD (T.ix a) l0
noncomputable def CS.lowTo (T : CS) (a to : Nat) : CS := T.put (T.of a) (if to = 0 then rest (T.set (T.of a)) (T.ix a) else (T.set (T.of a)).set (T.ix a) ((T.ln a).setS to))
theorem CS.st_ix {T : CS} {a : Nat} (h : T.st a ≠ 0) : At (T.set (T.of a)) a (T.ix a) ∧ T.st a = (T.ln a).s := by
  rcases at_or_no (T.set (T.of a)) a with ⟨i, hi⟩ | hn
  · have := CS.ix_is hi
    unfold CS.ln
    rw [this]
    exact ⟨hi, CS.st_at hi⟩
  · exact absurd (CS.st_no hn) h
/-- Lower, of one of its caches -/
theorem ulower (h : Bu x g F N S) (i a to : Nat) (hi : i < S.nc) (ha : a < 4294967296) (h16 : a % 16 = 0) (h2 : to ≤ 2) (hst : to < (S.c i).st a) : Calls Tryd.prog 46 #[.pointer (some ⟨g.P i, 0, none⟩), .int .u32 a, .int .i64 to] x fun e w' => e = .returned (.tuple #[.agg ((S.c i).ln a).vs.toArray, .nilIface]) ∧ Bu w' g F N (S.cput i ((S.c i).lowTo a to)) ∧ Turned (fun j => ¬ F j) x w' := by
  obtain ⟨V, kn, ka, k, h1, h2', h3⟩ := h
  obtain ⟨hA, hs⟩ := CS.st_ix (T := S.c i) (a := a) (by omega)
  refine (lower_good g.B (g.P i) (g.H i) (g.C i) (V i) (S.c i) a to ((S.c i).ix a) x (k.ch i hi) ha h16 h2 hA (by rw [hs] at hst; exact hst)).mono ?_
  rintro e w' ⟨rfl, V', ch, hv, t⟩
  refine ⟨rfl, ?_⟩
  have k' := k.cache i hi (T := (S.c i).lowTo a to) rfl ch (fun j q hj hq => Or.inl (hv j q hj hq)) t
  refine Bu.step (V' := fun j => if j = i then V' else V j) h3 k' h1 h2' rfl (fun j => ?_) (fun j j' q _ hj hq => ?_) t (fun z hz => Or.inr ⟨i, hi, hz⟩)
  · show (if j = i then (S.c i).lowTo a to else S.c j).n = _
    by_cases e : j = i
    · rw [if_pos e, e]; rfl
    · rw [if_neg e]
  · left
    by_cases e : j = i
    · subst e
      have hq : (V' j').ownBlock = some q := by simpa using hq
      exact hv j' q hj hq
    · simpa [e] using hq
theorem ucst (h : Bu x g F N S) (i a : Nat) (hi : i < S.nc) (ha : a < 4294967296) : Calls Tryd.prog 36 #[.pointer (some ⟨g.P i, 0, none⟩), .int .u32 a] x fun e w' => e = .returned (.int .i64 ((S.c i).st a : Nat)) ∧ Below x.heap.size x w' := by
  obtain ⟨V, kn, ka, k, -⟩ := h
  exact cst_any g.B (g.P i) (g.H i) (g.C i) (V i) (S.c i) a x (k.ch i hi) ha
/-- Fill, of one of its caches -/
theorem ufill (h : Bu x g F N S) (i a s : Nat) (b : Nat → Nat) (hi : i < S.nc) (ha : a < 4294967296) (h16 : a % 16 = 0) (hs : 1 ≤ s ∧ s ≤ 3) (hN : No ((S.c i).set ((S.c i).of a)) a) : Calls Tryd.prog 48 #[.pointer (some ⟨g.P i, 0, none⟩), .int .u32 a, .agg (bvs b).toArray, .int .i64 s] x fun e w' => e = .returned (.tuple #[.agg ((S.c i).left a).vs.toArray, .bool ((S.c i).full a), .nilIface]) ∧ Bu w' g F N (S.cput i ((S.c i).fill a s b)) ∧ Turned (fun j => ¬ F j) x w' := by
  obtain ⟨V, kn, ka, k, h1, h2', h3⟩ := h
  have key : Calls Tryd.prog 48 #[.pointer (some ⟨g.P i, 0, none⟩), .int .u32 a, .agg (bvs b).toArray, .int .i64 s] x fun e w' => e = .returned (.tuple #[.agg ((S.c i).left a).vs.toArray, .bool ((S.c i).full a), .nilIface]) ∧ ∃ v', Ch w' g.B (g.P i) (g.H i) (g.C i) (upd (V i) ((S.c i).of a) v') ((S.c i).fill a s b) ∧ (∀ j, v'.ownBlock = some j → (V i ((S.c i).of a)).ownBlock = some j ∨ x.heap.size ≤ j) ∧ Turned (mine (g.P i) (g.H i) (S.c i).n (V i)) x w' := by
    cases hf : (S.c i).full a
    · have := fill_room g.B (g.P i) (g.H i) (g.C i) (V i) (S.c i) a s b x (k.ch i hi) ha h16 hs hN hf
      rw [hf] at this
      exact this
    · have := fill_full g.B (g.P i) (g.H i) (g.C i) (V i) (S.c i) a s b x (k.ch i hi) ha h16 hs hN hf
      rw [hf] at this
      exact this
  refine key.mono ?_
  rintro e w' ⟨rfl, v', ch, hv, t⟩
  have hw : ∀ j q, (upd (V i) ((S.c i).of a) v' j).ownBlock = some q → (V i j).ownBlock = some q ∨ x.heap.size ≤ q := by
    intro j q hq
    by_cases e : j = (S.c i).of a
    · subst e
      rw [upd_same] at hq
      exact hv q hq
    · rw [upd_other _ _ _ _ e] at hq
      exact Or.inl hq
  refine ⟨rfl, Bu.step (V' := fun j => if j = i then upd (V i) ((S.c i).of a) v' else V j) h3 (k.cache i hi (T := (S.c i).fill a s b) rfl ch (fun j q _ hq => hw j q hq) t) h1 h2' rfl (fun j => ?_) (fun j j' q _ _ hq => ?_) t (fun z hz => Or.inr ⟨i, hi, hz⟩)⟩
  · show (if j = i then (S.c i).fill a s b else S.c j).n = _
    by_cases e : j = i
    · rw [if_pos e, e]; rfl
    · rw [if_neg e]
  · by_cases e : j = i
    · subst e
      have hq : (upd (V j) ((S.c j).of a) v' j').ownBlock = some q := by simpa using hq
      exact hw j' q hq
    · left
      simpa [e] using hq
end
end Go.Proofs.YtlogdmnhngbkaaaDoor
