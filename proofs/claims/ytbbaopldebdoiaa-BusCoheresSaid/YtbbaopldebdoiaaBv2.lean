/-
  BUS' LAW BusCoheres: what lasts, plainly: the lines of all caches, memory, what is newer.
-/
import Derived.Test.YtbbaopldebdoiaaBv1
namespace Go.Proofs.Ytbbaopldebdoiaa
open Go Go.RowKit
/-- L: the lines of each cache; m: memory; nw: what is newer; f: what was written last -/
structure Se (L : Nat → Ln → Prop) (m : Nat → Nat) (nw : Int → Option (Nat → Nat)) (f : Nat → Nat) : Prop where
  line : ∀ i e, L i e → i < 2 ∧ e.a % 16 = 0 ∧ 65536 ≤ e.a ∧ e.a < 65792 ∧ 1 ≤ e.s ∧ e.s ≤ 3 ∧ (∀ t, t < 16 → e.b t = f (e.a - 65536 + t)) ∧ ∀ t, e.b t < 256
  uni : ∀ i e e', L i e → L i e' → e.a = e'.a → e = e'
  ex : ∀ i j e e', i ≠ j → L i e → L j e' → e.a = e'.a → e.s = 1
  out : ∀ o, o < 256 → m o = f o ∨ ∃ i e, L i e ∧ e.s = 3 ∧ e.a = 65536 + lineOf o
  n1 : ∀ i e, L i e → e.s = 3 → nw (e.a : Nat) = some e.b
  n2 : ∀ (a : Nat) b, nw a = some b → ∃ i e, L i e ∧ e.s = 3 ∧ e.a = a ∧ e.b = b
theorem Se.congr {L L' : Nat → Ln → Prop} {m : Nat → Nat} {nw : Int → Option (Nat → Nat)} {f : Nat → Nat} (h : Se L m nw f) (hL : ∀ i e, L' i e ↔ L i e) : Se L' m nw f := by
  obtain rfl : L' = L := funext fun i => funext fun e => propext (hL i e)
  exact h
theorem setS_a (e : Ln) (s : Nat) : (e.setS s).a = e.a ∧ (e.setS s).s = s ∧ (e.setS s).b = e.b := ⟨rfl, rfl, rfl⟩
/-- memory behind a line that was written back, if it was Modified -/
def wbm' (m : Nat → Nat) (e : Ln) : Nat → Nat := if e.s = 3 then wbm m e else m
def wbn (nw : Int → Option (Nat → Nat)) (e : Ln) : Int → Option (Nat → Nat) := if e.s = 3 then updO nw (e.a : Nat) none else nw
theorem Se.low {L L' : Nat → Ln → Prop} {m : Nat → Nat} {nw : Int → Option (Nat → Nat)} {f : Nat → Nat} (h : Se L m nw f) (i : Nat) (e0 : Ln) (h0 : L i e0) (s' : Nat) (hs : s' < e0.s) (hL : ∀ j e, L' j e ↔ ((L j e ∧ ¬ (j = i ∧ e.a = e0.a)) ∨ (s' = 1 ∧ j = i ∧ e = e0.setS 1))) : Se L' (wbm' m e0) (wbn nw e0) f := by
  obtain ⟨i2, a16, alo, ahi, s1, s3, hb, h8⟩ := h.line i e0 h0
  have same : ∀ j e, L' j e → ∃ e', L j e' ∧ e'.a = e.a ∧ e'.b = e.b ∧ (e.s = 1 ∨ (e = e' ∧ ¬ (j = i ∧ e.a = e0.a))) := by
    intro j e he
    rcases (hL j e).1 he with ⟨u, v⟩ | ⟨u, rfl, rfl⟩
    · exact ⟨e, u, rfl, rfl, Or.inr ⟨rfl, v⟩⟩
    · exact ⟨e0, h0, rfl, rfl, Or.inl rfl⟩
  refine ⟨fun j e he => ?_, fun j e e' he he' q => ?_, fun j j' e e' hj he he' q => ?_, fun o ho => ?_, fun j e he h3 => ?_, fun a b hab => ?_⟩
  · obtain ⟨e', l', q1, q2, q3⟩ := same j e he
    obtain ⟨u1, u2, u3, u4, u5, u6, u7, u8⟩ := h.line j e' l'
    rw [q1] at u2 u3 u4 u7
    rw [q2] at u7 u8
    refine ⟨u1, u2, u3, u4, ?_, ?_, u7, u8⟩
    · rcases q3 with q | q
      · omega
      · rw [q.1]; omega
    · rcases q3 with q | q
      · omega
      · rw [q.1]; omega
  · rcases (hL j e).1 he with ⟨u, v⟩ | ⟨u, u2, u3⟩ <;> rcases (hL j e').1 he' with ⟨x, y⟩ | ⟨x, x2, x3⟩
    · exact h.uni j e e' u x q
    · exact absurd ⟨x2, by rw [q, x3]; rfl⟩ v
    · exact absurd ⟨u2, by rw [← q, u3]; rfl⟩ y
    · rw [u3, x3]
  · obtain ⟨x, lx, x1, x2, x3⟩ := same j e he
    obtain ⟨y, ly, y1, y2, y3⟩ := same j' e' he'
    rcases x3 with x3 | x3
    · exact x3
    · rw [x3.1]
      exact h.ex j j' x y hj lx ly (by rw [x1, y1, q])
  · by_cases c : e0.s = 3 ∧ e0.a = 65536 + lineOf o
    · left
      unfold wbm'
      rw [if_pos c.1]
      unfold wbm
      have : e0.a - 65536 ≤ o ∧ o < e0.a - 65536 + 16 := by
        have := c.2
        unfold lineOf at this
        omega
      have e2 : e0.a - 65536 + (o - (e0.a - 65536)) = o := by omega
      rw [if_pos this, hb _ (by omega), e2]
    · have hm : wbm' m e0 o = m o := by
        unfold wbm'
        split
        · rename_i h3
          unfold wbm
          rw [if_neg]
          intro q
          refine c ⟨h3, ?_⟩
          unfold lineOf
          omega
        · rfl
      rw [hm]
      rcases h.out o ho with q | ⟨j, e, l, q1, q2⟩
      · exact Or.inl q
      · right
        refine ⟨j, e, (hL j e).2 (Or.inl ⟨l, ?_⟩), q1, q2⟩
        rintro ⟨rfl, q3⟩
        have := h.uni j e e0 l h0 q3
        subst this
        exact c ⟨q1, q2⟩
  · rcases (hL j e).1 he with ⟨u, v⟩ | ⟨u, u2, u3⟩
    · have := h.n1 j e u h3
      unfold wbn
      split
      · unfold updO
        rw [if_neg]
        · exact this
        · intro q
          have q : e.a = e0.a := by omega
          by_cases z : j = i
          · exact v ⟨z, q⟩
          · have := h.ex j i e e0 z u h0 q
            omega
      · exact this
    · rw [u3] at h3
      cases h3
  · have key : nw a = some b ∧ (e0.s = 3 → a ≠ e0.a) := by
      unfold wbn at hab
      split at hab
      · unfold updO at hab
        split at hab
        · cases hab
        · rename_i q
          exact ⟨hab, fun _ z => q (by rw [z])⟩
      · rename_i q
        exact ⟨hab, fun z => absurd z q⟩
    obtain ⟨j, e, l, q1, q2, q3⟩ := h.n2 a b key.1
    refine ⟨j, e, (hL j e).2 (Or.inl ⟨l, ?_⟩), q1, q2, q3⟩
    rintro ⟨rfl, q4⟩
    have := h.uni j e e0 l h0 q4
    subst this
    exact key.2 q1 q2.symm
theorem Se.new {L L' : Nat → Ln → Prop} {m : Nat → Nat} {nw : Int → Option (Nat → Nat)} {f : Nat → Nat} (h : Se L m nw f) (i a s : Nat) (b : Nat → Nat) (hi : i < 2) (h16 : a % 16 = 0) (hlo : 65536 ≤ a) (hhi : a < 65792) (hs : s = 1 ∨ s = 2) (hno : ∀ e, L i e → e.a ≠ a) (hot : ∀ j e, L j e → e.a = a → e.s = 1 ∧ s = 1) (hb : ∀ t, t < 16 → b t = m (a - 65536 + t)) (h8 : ∀ t, b t < 256) (hL : ∀ j e, L' j e ↔ (L j e ∨ (j = i ∧ e = ⟨a, s, b⟩))) : Se L' m nw f := by
  refine ⟨fun j e he => ?_, fun j e e' he he' q => ?_, fun j j' e e' hj he he' q => ?_, fun o ho => ?_, fun j e he h3 => ?_, fun a' b' hab => ?_⟩
  · rcases (hL j e).1 he with u | ⟨rfl, rfl⟩
    · exact h.line j e u
    · refine ⟨hi, h16, hlo, hhi, by show 1 ≤ s; omega, by show s ≤ 3; omega, fun t ht => ?_, h8⟩
      show b t = f (a - 65536 + t)
      rw [hb t ht]
      rcases h.out (a - 65536 + t) (by omega) with q | ⟨j', e', l', q1, q2⟩
      · exact q
      · have q3 : e'.a = a := by
          rw [q2]
          unfold lineOf
          omega
        have := (hot j' e' l' q3).1
        omega
  · rcases (hL j e).1 he with u | ⟨u1, u2⟩ <;> rcases (hL j e').1 he' with x | ⟨x1, x2⟩
    · exact h.uni j e e' u x q
    · exact absurd (by rw [q, x2]) (hno e (by rw [← x1]; exact u))
    · exact absurd (by rw [← q, u2]) (hno e' (by rw [← u1]; exact x))
    · rw [u2, x2]
  · rcases (hL j e).1 he with u | ⟨u1, u2⟩ <;> rcases (hL j' e').1 he' with x | ⟨x1, x2⟩
    · exact h.ex j j' e e' hj u x q
    · exact (hot j e u (by rw [q, x2])).1
    · rw [u2]
      exact (hot j' e' x (by rw [← q, u2])).2
    · exact absurd (u1.trans x1.symm) hj
  · rcases h.out o ho with q | ⟨j, e, l, q1, q2⟩
    · exact Or.inl q
    · exact Or.inr ⟨j, e, (hL j e).2 (Or.inl l), q1, q2⟩
  · rcases (hL j e).1 he with u | ⟨u1, u2⟩
    · exact h.n1 j e u h3
    · rw [u2] at h3
      have h3 : s = 3 := h3
      omega
  · obtain ⟨j, e, l, q⟩ := h.n2 a' b' hab
    exact ⟨j, e, (hL j e).2 (Or.inl l), q⟩
theorem wr_is (e : Ln) (q d z : Nat) : (e.wr q d z).a = e.a ∧ (e.wr q d z).s = 3 ∧ ∀ t, (e.wr q d z).b t = if q ≤ t ∧ t < q + z then d / 256 ^ (t - q) % 256 else e.b t := by
  unfold Ln.wr
  exact ⟨(putN_a _ q d z).1, (putN_a _ q d z).2, fun t => putN_b _ q d z t⟩
theorem Se.write {L L' : Nat → Ln → Prop} {m : Nat → Nat} {nw : Int → Option (Nat → Nat)} {f : Nat → Nat} (h : Se L m nw f) (i : Nat) (e0 : Ln) (h0 : L i e0) (h2 : 2 ≤ e0.s) (a z d : Nat) (ha : e0.a = lineOf a) (hz : a % 16 + z ≤ 16) (hL : ∀ j e, L' j e ↔ ((L j e ∧ ¬ (j = i ∧ e.a = e0.a)) ∨ (j = i ∧ e = e0.wr (a % 16) d z))) : Se L' m (updO nw (e0.a : Nat) (some (e0.wr (a % 16) d z).b)) (written f (a - 65536) z d) := by
  obtain ⟨i2, a16, alo, ahi, s1, s3, hb, h8⟩ := h.line i e0 h0
  obtain ⟨w1, w2, w3⟩ := wr_is e0 (a % 16) d z
  have hal : lineOf a = a - a % 16 := rfl
  have alone : ∀ j e, L j e → ¬ (j = i ∧ e.a = e0.a) → e.a ≠ e0.a := by
    intro j e l hn q
    by_cases x : j = i
    · exact hn ⟨x, q⟩
    · have := h.ex i j e0 e (fun z => x z.symm) h0 l q.symm
      omega
  refine ⟨fun j e he => ?_, fun j e e' he he' q => ?_, fun j j' e e' hj he he' q => ?_, fun o ho => ?_, fun j e he h3 => ?_, fun a' b' hab => ?_⟩
  · rcases (hL j e).1 he with ⟨u, v⟩ | ⟨rfl, rfl⟩
    · obtain ⟨u1, u2, u3, u4, u5, u6, u7, u8⟩ := h.line j e u
      refine ⟨u1, u2, u3, u4, u5, u6, fun t ht => ?_, u8⟩
      rw [u7 t ht]
      unfold written
      rw [if_neg]
      have := alone j e u v
      omega
    · refine ⟨i2, by rw [w1]; exact a16, by rw [w1]; exact alo, by rw [w1]; exact ahi, by omega, by omega, fun t ht => ?_, fun t => ?_⟩
      · rw [w1, w3 t]
        unfold written
        by_cases c : a % 16 ≤ t ∧ t < a % 16 + z
        · have e2 : e0.a - 65536 + t - (a - 65536) = t - a % 16 := by omega
          rw [if_pos c, if_pos (by omega), e2]
        · rw [if_neg c, if_neg (by omega)]
          exact hb t ht
      · rw [w3 t]
        split
        · exact Nat.mod_lt _ (by decide)
        · exact h8 t
  · rcases (hL j e).1 he with ⟨u, v⟩ | ⟨u1, u2⟩ <;> rcases (hL j e').1 he' with ⟨x, y⟩ | ⟨x1, x2⟩
    · exact h.uni j e e' u x q
    · exact absurd ⟨x1, by rw [q, x2, w1]⟩ v
    · exact absurd ⟨u1, by rw [← q, u2, w1]⟩ y
    · rw [u2, x2]
  · rcases (hL j e).1 he with ⟨u, v⟩ | ⟨u1, u2⟩ <;> rcases (hL j' e').1 he' with ⟨x, y⟩ | ⟨x1, x2⟩
    · exact h.ex j j' e e' hj u x q
    · exact absurd (by rw [q, x2, w1]) (alone j e u v)
    · exact absurd (by rw [← q, u2, w1]) (alone j' e' x y)
    · exact absurd (u1.trans x1.symm) hj
  · by_cases c : e0.a = 65536 + lineOf o
    · exact Or.inr ⟨i, _, (hL i _).2 (Or.inr ⟨rfl, rfl⟩), w2, by rw [w1]; exact c⟩
    · have hw : written f (a - 65536) z d o = f o := by
        unfold written
        rw [if_neg]
        intro q
        apply c
        unfold lineOf
        omega
      rw [hw]
      rcases h.out o ho with q | ⟨j, e, l, q1, q2⟩
      · exact Or.inl q
      · exact Or.inr ⟨j, e, (hL j e).2 (Or.inl ⟨l, fun q => c (by rw [← q.2, q2])⟩), q1, q2⟩
  · rcases (hL j e).1 he with ⟨u, v⟩ | ⟨u1, u2⟩
    · unfold updO
      rw [if_neg]
      · exact h.n1 j e u h3
      · have := alone j e u v
        omega
    · rw [u2, w1]
      unfold updO
      rw [if_pos rfl]
  · unfold updO at hab
    split at hab
    · rename_i q
      have q : a' = e0.a := by omega
      refine ⟨i, _, (hL i _).2 (Or.inr ⟨rfl, rfl⟩), w2, by rw [w1]; exact q.symm, ?_⟩
      exact Option.some.inj hab
    · rename_i q
      obtain ⟨j, e, l, q1, q2, q3⟩ := h.n2 a' b' hab
      exact ⟨j, e, (hL j e).2 (Or.inl ⟨l, fun z => q (by rw [← z.2, q2])⟩), q1, q2, q3⟩
end Go.Proofs.Ytbbaopldebdoiaa
