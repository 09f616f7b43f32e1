import Derived.Test.YtlogdmnhngbkaaaDoorY38
import Derived.Test.YtlogdmnhngbkaaaDoorY39
/-
  BUS' LAW BusSteps: both buses side by side.
-/
namespace Go.Proofs.YtlogdmnhngbkaaaDoor
open Go Go.RowKit
/-- F: blocks of neither -/
def Two (x : World) (gp : Bn) (gr : Rn) (F : Nat → Prop) (N : Nat) (S R : BS) : Prop := ∃ A B : Nat → Prop, Bu x gp (fun j => F j ∨ A j) N S ∧ Ru x gr (fun j => F j ∨ B j) R ∧ ∀ z, z < x.heap.size → F z ∨ A z ∨ B z
section
variable {x y : World} {gp : Bn} {gr : Rn} {F : Nat → Prop} {N N' : Nat} {S S' R R' : BS}
theorem Two.here (h : Two x gp gr F N S R) {z : Nat} (hz : F z) : z < x.heap.size := by
  obtain ⟨A, B, hb, -⟩ := h
  exact hb.here (Or.inl hz)
theorem Two.up (h : Two x gp gr F N S R) (hN : N ≤ N') : Two x gp gr F N' S R := by
  obtain ⟨A, B, hb, hr, hc⟩ := h
  exact ⟨A, B, hb.up hN, hr, hc⟩
theorem two_cover {F A B : Nat → Prop} (_t : x.heap.size ≤ y.heap.size) (hc : ∀ z, z < x.heap.size → F z ∨ A z ∨ B z) : ∀ z, z < y.heap.size → F z ∨ A z ∨ (B z ∨ (x.heap.size ≤ z ∧ z < y.heap.size)) := fun z hz => by
  by_cases q : z < x.heap.size
  · rcases hc z q with h | h | h
    · exact Or.inl h
    · exact Or.inr (Or.inl h)
    · exact Or.inr (Or.inr (Or.inl h))
  · exact Or.inr (Or.inr (Or.inr ⟨by omega, hz⟩))
/-- something outside has changed, or is new: the new blocks may be put into F -/
theorem Two.turn {Q G : Nat → Prop} (h : Two x gp gr F N S R) (t : Turned Q x y) (hq : ∀ z, Q z → z < x.heap.size → F z) (hG : ∀ z, G z → F z ∨ (x.heap.size ≤ z ∧ z < y.heap.size)) : Two y gp gr G N S R := by
  obtain ⟨A, B, hb, hr, hc⟩ := h
  have hb' := hb.turn t (fun z hz hl => Or.inl (hq z hz hl))
  have hr' := hr.turn t (fun z hz hl => Or.inl (hq z hz hl))
  refine ⟨fun z => (F z ∨ A z) ∨ (x.heap.size ≤ z ∧ z < y.heap.size), fun z => (F z ∨ B z) ∨ (x.heap.size ≤ z ∧ z < y.heap.size), hb'.less (fun z hz => ?_), hr'.less (fun z hz => ?_), fun z hz => ?_⟩
  · rcases hz with hz | hz
    · exact (hG z hz).imp Or.inl id
    · exact hz
  · rcases hz with hz | hz
    · exact (hG z hz).imp Or.inl id
    · exact hz
  · by_cases q : z < x.heap.size
    · rcases hc z q with h | h | h
      · exact Or.inr (Or.inl (Or.inl (Or.inl h)))
      · exact Or.inr (Or.inl (Or.inl (Or.inr h)))
      · exact Or.inr (Or.inr (Or.inl (Or.inr h)))
    · exact Or.inr (Or.inl (Or.inr ⟨by omega, hz⟩))
theorem Two.below (h : Two x gp gr F N S R) (b : Below x.heap.size x y) : Two y gp gr F N S R := h.turn (Q := fun _ => False) (Turned.of_below b) (fun _ q => q.elim) (fun _ q => Or.inl q)
theorem Two.less {G : Nat → Prop} (h : Two x gp gr F N S R) (hG : ∀ z, G z → F z) : Two x gp gr G N S R := h.turn (Q := fun _ => False) (Turned.refl _ x) (fun _ q => q.elim) (fun z q => Or.inl (hG z q))
/-- a step of the program's -/
theorem Two.onP {fn : FuncId} {args : Array Value} {P : Ending → Prop} (h : Two x gp gr F N S R) (hs : ∀ G, Bu x gp G N S → Calls Tryd.prog fn args x fun e w' => P e ∧ Bu w' gp G N' S' ∧ Turned (fun j => ¬ G j) x w') : Calls Tryd.prog fn args x fun e w' => P e ∧ Two w' gp gr F N' S' R ∧ Turned (fun j => ¬ F j) x w' := by
  obtain ⟨A, B, hb, hr, hc⟩ := h
  refine (hs _ hb).mono ?_
  rintro e w' ⟨hp, hb', t⟩
  refine ⟨hp, ⟨A, fun z => B z ∨ (x.heap.size ≤ z ∧ z < w'.heap.size), hb', ?_, two_cover t.size hc⟩, t.mono (fun z q f => q (Or.inl f))⟩
  refine (hr.turn t (fun z hz hl => ?_)).less (fun z hz => ?_)
  · rcases hc z hl with q | q | q
    · exact Or.inl q
    · exact absurd (Or.inr q) hz
    · exact Or.inr q
  · rcases hz with hz | hz | hz
    · exact Or.inl (Or.inl hz)
    · exact Or.inl (Or.inr hz)
    · exact Or.inr hz
/-- a step of the answer's -/
theorem Two.onR {fn : FuncId} {args : Array Value} {P : Ending → Prop} (h : Two x gp gr F N S R) (hs : ∀ G, Ru x gr G R → Calls Tryd.prog fn args x fun e w' => P e ∧ Ru w' gr G R' ∧ Turned (fun j => ¬ G j) x w') : Calls Tryd.prog fn args x fun e w' => P e ∧ Two w' gp gr F N S R' ∧ Turned (fun j => ¬ F j) x w' := by
  obtain ⟨A, B, hb, hr, hc⟩ := h
  refine (hs _ hr).mono ?_
  rintro e w' ⟨hp, hr', t⟩
  refine ⟨hp, ⟨fun z => A z ∨ (x.heap.size ≤ z ∧ z < w'.heap.size), B, ?_, hr', fun z hz => ?_⟩, t.mono (fun z q f => q (Or.inl f))⟩
  · refine (hb.turn t (fun z hz hl => ?_)).less (fun z hz => ?_)
    · rcases hc z hl with q | q | q
      · exact Or.inl q
      · exact Or.inr q
      · exact absurd (Or.inr q) hz
    · rcases hz with hz | hz | hz
      · exact Or.inl (Or.inl hz)
      · exact Or.inl (Or.inr hz)
      · exact Or.inr hz
  · by_cases q : z < x.heap.size
    · rcases hc z q with h | h | h
      · exact Or.inl h
      · exact Or.inr (Or.inl (Or.inl h))
      · exact Or.inr (Or.inr h)
    · exact Or.inr (Or.inl (Or.inr ⟨by omega, hz⟩))
/-- a step of the program's that hands a row over -/
theorem Two.onPT {fn : FuncId} {args : Array Value} {T : List Snp} (h : Two x gp gr F N S R) (hs : ∀ G, Bu x gp G N S → Calls Tryd.prog fn args x (DoesT gp N S' T x G)) : Calls Tryd.prog fn args x fun e w' => ∃ v, e = .returned v ∧ w'.ownsRow x.heap.size 84 4 v T.length (flatS T) ∧ Two w' gp gr (fun j => F j ∨ v.ownBlock = some j) N S' R ∧ Turned (fun j => ¬ F j) x w' := by
  obtain ⟨A, B, hb, hr, hc⟩ := h
  refine (hs _ hb).mono ?_
  rintro e w' ⟨v, rfl, hrow, hb', t⟩
  have hv : ∀ z, v.ownBlock = some z → x.heap.size ≤ z ∧ z < w'.heap.size := fun z hz => own_base hrow z hz
  refine ⟨v, rfl, hrow, ⟨A, fun z => B z ∨ (x.heap.size ≤ z ∧ z < w'.heap.size), hb'.less (fun z hz => ?_), ?_, fun z hz => ?_⟩, t.mono (fun z q f => q (Or.inl f))⟩
  · rcases hz with (hz | hz) | hz
    · exact Or.inl (Or.inl hz)
    · exact Or.inr hz
    · exact Or.inl (Or.inr hz)
  · refine (hr.turn t (fun z hz hl => ?_)).less (fun z hz => ?_)
    · rcases hc z hl with q | q | q
      · exact Or.inl q
      · exact absurd (Or.inr q) hz
      · exact Or.inr q
    · rcases hz with (hz | hz) | hz | hz
      · exact Or.inl (Or.inl hz)
      · exact Or.inr (hv z hz)
      · exact Or.inl (Or.inr hz)
      · exact Or.inr hz
  · rcases two_cover t.size hc z hz with q | q | q
    · exact Or.inl (Or.inl q)
    · exact Or.inr (Or.inl q)
    · exact Or.inr (Or.inr q)
/-- a step of the answer's that hands a row over -/
theorem Two.onRT {fn : FuncId} {args : Array Value} {T : List Snp} (h : Two x gp gr F N S R) (hs : ∀ G, Ru x gr G R → Calls Tryd.prog fn args x (DoesR gr R' T x G)) : Calls Tryd.prog fn args x fun e w' => ∃ v, e = .returned v ∧ w'.ownsRow x.heap.size 86 4 v T.length (flatT T) ∧ Two w' gp gr (fun j => F j ∨ v.ownBlock = some j) N S R' ∧ Turned (fun j => ¬ F j) x w' := by
  obtain ⟨A, B, hb, hr, hc⟩ := h
  refine (hs _ hr).mono ?_
  rintro e w' ⟨v, rfl, hrow, hr', t⟩
  have hv : ∀ z, v.ownBlock = some z → x.heap.size ≤ z ∧ z < w'.heap.size := fun z hz => own_base hrow z hz
  refine ⟨v, rfl, hrow, ⟨fun z => A z ∨ (x.heap.size ≤ z ∧ z < w'.heap.size), B, ?_, hr'.less (fun z hz => ?_), fun z hz => ?_⟩, t.mono (fun z q f => q (Or.inl f))⟩
  · refine (hb.turn t (fun z hz hl => ?_)).less (fun z hz => ?_)
    · rcases hc z hl with q | q | q
      · exact Or.inl q
      · exact Or.inr q
      · exact absurd (Or.inr q) hz
    · rcases hz with (hz | hz) | hz | hz
      · exact Or.inl (Or.inl hz)
      · exact Or.inr (hv z hz)
      · exact Or.inl (Or.inr hz)
      · exact Or.inr hz
  · rcases hz with (hz | hz) | hz
    · exact Or.inl (Or.inl hz)
    · exact Or.inr hz
    · exact Or.inl (Or.inr hz)
  · by_cases q : z < x.heap.size
    · rcases hc z q with h | h | h
      · exact Or.inl (Or.inl h)
      · exact Or.inr (Or.inl (Or.inl h))
      · exact Or.inr (Or.inr h)
    · exact Or.inr (Or.inl (Or.inr ⟨by omega, hz⟩))
end
/-- what lasts -/
structure Iv (S : BS) (f : Nat → Nat) : Prop where
  co : Cg S f
  ao : ∀ c, (S.ak c).isSome = true → 0 ≤ c ∧ c < S.nc
  al : ∀ (c l : Nat) (wr : Bool), c < S.nc → S.ak c = some (l, wr) → l % 16 = 0 ∧ 65536 ≤ l ∧ l < 65536 + S.len ∧ (S.c c).st l ≤ 1
  on : S.on = true → (S.ak (S.turn : Nat)).isSome = true
  tu : S.turn < S.nc
theorem stl_line (T : CS) (a : Nat) : T.st (lineOf a) = T.st a := by
  have e1 : lineOf (lineOf a) = lineOf a := lineOf_self (by unfold lineOf; omega)
  rcases at_or_no (T.set (T.of a)) a with ⟨i, h⟩ | h
  · rw [CS.st_at h]
    have h' : At (T.set (T.of (lineOf a))) (lineOf a) i := by
      rw [of_lineOf]
      exact ⟨h.1, by rw [e1]; exact h.2.1, fun j hj => by rw [e1]; exact h.2.2 j hj⟩
    rw [CS.st_at h', of_lineOf]
  · rw [CS.st_no h]
    have h' : No (T.set (T.of (lineOf a))) (lineOf a) := by
      rw [of_lineOf]
      exact fun j hj => by rw [e1]; exact h j hj
    rw [CS.st_no h']
theorem st_has {S : BS} {i a : Nat} (h : S.has i a = true) : S.st (i : Nat) a = (S.c i).st a := by
  unfold BS.st
  rw [if_pos h]
  rfl
theorem Iv.start (nn cyc : Nat) (n ws : Nat → Nat) (len : Nat) (m : Nat → Nat) (hnn : 1 ≤ nn ∧ nn ≤ 2) (hlen : len ≤ 4096 ∧ len % 16 = 0) (hn : ∀ i, i < nn → 1 ≤ n i) (hw : ∀ i, i < nn → 1 ≤ ws i) (hm : ∀ o, m o < 256) : Iv (newG nn cyc n ws len m) m := by
  have hL : ∀ i e, ¬ ((newG nn cyc n ws len m).c i).L e := fun i e h => by
    obtain ⟨q, -, he⟩ := h
    simp [newG] at he
  have st : ∀ i, i < nn → Stc ((newG nn cyc n ws len m).c i) := fun i hi => ⟨hn i hi, hw i hi, fun q _ e he => (by simp [newG] at he), fun q _ => List.Pairwise.nil⟩
  have se : Sg nn len (fun i e => i < nn ∧ ((newG nn cyc n ws len m).c i).L e) m (fun _ => none) m := ⟨fun i e h => absurd h.2 (hL i e), fun i e e' h => absurd h.2 (hL i e), fun i j e e' _ h => absurd h.2 (hL i e), fun o _ => Or.inl rfl, fun i e h => absurd h.2 (hL i e), fun a b h => (by cases h)⟩
  exact ⟨⟨hnn, hlen, st, se, hm⟩, fun c h => (by cases h), fun c l wr _ h => (by cases h), fun h => (by cases h), (by show nn - 1 < nn; omega)⟩
end Go.Proofs.YtlogdmnhngbkaaaDoor
