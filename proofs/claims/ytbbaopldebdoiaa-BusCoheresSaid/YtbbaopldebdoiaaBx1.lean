/-
  BUS' LAW BusCoheres: its memory; the steps of a core that waits.
-/
import Derived.Test.YtbbaopldebdoiaaBx0
namespace Go.Proofs.Ytbbaopldebdoiaa
open Go Go.RowKit
theorem stl_line (T : CS) (a : Nat) : T.st (lineOf a) = T.st a := by
  have e1 : lineOf (lineOf a) = lineOf a := lineOf_self (by unfold lineOf; omega)
  rcases at_or_no (T.set (T.of a)) a with ⟨i, h⟩ | h
  · rw [CS.st_at h]
    have h' : At (T.set (T.of (lineOf a))) (lineOf a) i := by
      rw [of_lineOf]
      exact ⟨h.1, by rw [e1]; exact h.2.1, fun j hj => by rw [e1]; exact h.2.2 j hj⟩
    rw [CS.st_at h', of_lineOf]
  · rw [CS.st_no h]
    have h' : No (T.set (T.of (lineOf a))) (lineOf a) := by
      rw [of_lineOf]
      exact fun j hj => by rw [e1]; exact h j hj
    rw [CS.st_no h']
/-- what the law holds: the bus, the bytes that should be there -/
structure Cw (w0 x : World) (g : Bn) (N fb : Nat) (S : BS) (f : Nat → Nat) : Prop where
  u : Bu x g (fun j => j < w0.heap.size ∨ j = fb) N S
  co : Co S f
  cf : CellsAt 256 x fb (fun o => .int .u8 (f o))
  low : Below w0.heap.size w0 x
  lo : w0.heap.size ≤ fb
  f8 : ∀ o, f o < 256
section
variable {w0 x y : World} {g : Bn} {N N' fb : Nat} {S S' : BS} {f : Nat → Nat}
theorem Cw.bus (k : Cw w0 x g N fb S f) (u : Bu y g (fun j => j < w0.heap.size ∨ j = fb) N' S') (t : Turned (fun j => ¬ (j < w0.heap.size ∨ j = fb)) x y) (co : Co S' f) : Cw w0 y g N' fb S' f :=
  ⟨u, co, t.cells k.cf (fun q => q (Or.inr rfl)), k.low.trans (t.below k.low.size (fun j q => by
    by_cases c : j < w0.heap.size
    · exact absurd (Or.inl c) q
    · omega)), k.lo, k.f8⟩
theorem Cw.below (k : Cw w0 x g N fb S f) (b : Below x.heap.size x y) : Cw w0 y g N fb S f := k.bus (k.u.below b) (Turned.of_below b) k.co
theorem Cw.up (k : Cw w0 x g N fb S f) (h : N ≤ N') : Cw w0 x g N' fb S f := ⟨k.u.up h, k.co, k.cf, k.low, k.lo, k.f8⟩
/-- no core has asked -/
def Idle (S : BS) : Prop := S.ak 0 = none ∧ S.ak 1 = none ∧ S.on = false
theorem idle_ak {S : BS} (h : Idle S) {c : Nat} (hc : c < 2) : S.ak (c : Nat) = none := by
  match c, hc with
  | 0, _ => exact h.1
  | 1, _ => exact h.2.1
def enough (wr : Bool) : Nat := if wr then 2 else 1
/-- a core has asked, and no other; it is ready for a tick -/
def Asked (S : BS) (c l t : Nat) (wr : Bool) : Prop := S.ak (c : Nat) = some (l, wr) ∧ S.ak ((1 - c : Nat) : Int) = none ∧ (S.c c).st l < enough wr ∧ ∃ S2, S.goes S2 ∧ S2.turn = c ∧ S2.tk = t
/-- in the loop: not yet asked; or it waits; or the line is there -/
def Jt (S : BS) (c A t : Nat) (wr : Bool) : Prop := (Idle S ∧ t = 0) ∨ (Asked S c (lineOf A) t wr ∧ S.on = true ∧ 1 ≤ t ∧ t ≤ S.cyc) ∨ (Idle S ∧ t ≤ 11 ∧ enough wr ≤ (S.c c).st A)
theorem st_has {S : BS} {f : Nat → Nat} (co : Co S f) {c A : Nat} (hc : c < 2) (hlo : 65536 ≤ A) (hhi : A < 65792) : S.has (c : Nat) A = true := by
  unfold BS.has hasB
  rw [co.nc, co.len]
  simp
  omega
theorem st_is {S : BS} {f : Nat → Nat} (co : Co S f) {c A : Nat} (hc : c < 2) (hlo : 65536 ≤ A) (hhi : A < 65792) : S.st (c : Nat) A = (S.c c).st A := by
  unfold BS.st
  rw [if_pos (st_has co hc hlo hhi)]
  rfl
theorem line_in {A : Nat} (hlo : 65536 ≤ A) (hhi : A < 65792) : lineOf A % 16 = 0 ∧ 65536 ≤ lineOf A ∧ lineOf A < 65792 := lineOf_range ⟨hlo, hhi⟩
/-- Ask -/
theorem cw_ask (k : Cw w0 x g N fb S f) (hN : N < 1000000) (c A : Nat) (wr : Bool) (hc : c < 2) (hlo : 65536 ≤ A) (hhi : A < 65792) (hi : Idle S) (hs : (S.c c).st A < enough wr) : Calls Try.prog 8 #[.pointer (some ⟨g.p, 0, none⟩), .int .i64 c, .int .u32 A, .bool wr] x fun e w' => e = .returned .nilIface ∧ ∃ S', Cw w0 w' g (N + 1) fb S' f ∧ Asked S' c (lineOf A) 0 wr ∧ S'.cyc = S.cyc := by
  refine (uask k.u (by omega) (c : Nat) (by unfold i64; omega) A wr (by omega) (st_has k.co hc hlo hhi) (by rw [idle_ak hi hc]; rfl) (by rw [st_is k.co hc hlo hhi]; exact hs)).mono ?_
  rintro e w' ⟨rfl, hu, ht⟩
  refine ⟨rfl, _, k.bus hu ht (k.co.same rfl rfl rfl rfl rfl), ⟨if_pos rfl, ?_, by rw [stl_line]; exact hs, ?_⟩, rfl⟩
  · show updO S.ak (c : Nat) _ ((1 - c : Nat) : Int) = none
    unfold updO
    rw [if_neg (by omega)]
    exact idle_ak hi (by omega)
  · have hT : S.turn < 2 := by have := k.u.own.2.2.2.1; have := k.co.nc; omega
    have hnc := k.co.nc
    have hak : ∀ d : Nat, d < 2 → (updO S.ak (c : Nat) (some (lineOf A, wr)) (d : Nat)).isSome = decide (d = c) := fun d hd => by
      unfold updO
      by_cases e : d = c
      · rw [e, if_pos rfl]; simp
      · rw [if_neg (by omega), idle_ak hi hd]; simp [e]
    by_cases e : (S.turn + 1) % 2 = c
    · refine ⟨{ S with ak := updO S.ak (c : Nat) (some (lineOf A, wr)), turn := c, on := true, tk := 0 }, Or.inr ⟨hi.2.2, 0, ?_, ?_, fun j hj => absurd hj (by omega), ?_⟩, rfl, rfl⟩
      · show 0 < S.nc; omega
      · have : BS.nxt { S with ak := updO S.ak (c : Nat) (some (lineOf A, wr)) } 0 = c := by unfold BS.nxt; show (S.turn + 1 + 0) % S.nc = c; rw [hnc, Nat.add_zero]; exact e
        show (updO S.ak (c : Nat) (some (lineOf A, wr)) _).isSome = true
        rw [this, hak c hc]
        simp
      · have : BS.nxt { S with ak := updO S.ak (c : Nat) (some (lineOf A, wr)) } 0 = c := by unfold BS.nxt; show (S.turn + 1 + 0) % S.nc = c; rw [hnc, Nat.add_zero]; exact e
        rw [this]
    · have n0 : BS.nxt { S with ak := updO S.ak (c : Nat) (some (lineOf A, wr)) } 0 = (S.turn + 1) % 2 := by unfold BS.nxt; show (S.turn + 1 + 0) % S.nc = _; rw [hnc, Nat.add_zero]
      have n1 : BS.nxt { S with ak := updO S.ak (c : Nat) (some (lineOf A, wr)) } 1 = c := by unfold BS.nxt; show (S.turn + 1 + 1) % S.nc = c; rw [hnc]; omega
      refine ⟨{ S with ak := updO S.ak (c : Nat) (some (lineOf A, wr)), turn := c, on := true, tk := 0 }, Or.inr ⟨hi.2.2, 1, ?_, ?_, fun j hj => ?_, ?_⟩, rfl, rfl⟩
      · show 1 < S.nc; omega
      · show (updO S.ak (c : Nat) (some (lineOf A, wr)) _).isSome = true
        rw [n1, hak c hc]
        simp
      · obtain rfl : j = 0 := by omega
        show (updO S.ak (c : Nat) (some (lineOf A, wr)) _).isSome = false
        rw [n0, hak _ (by omega)]
        simp [e]
      · rw [n1]
/-- Tick -/
theorem cw_tick (k : Cw w0 x g N fb S f) (c A t : Nat) (wr : Bool) (hc : c < 2) (hlo : 65536 ≤ A) (hhi : A < 65792) (ha : Asked S c (lineOf A) t wr) (ht : t ≤ S.cyc) : Calls Try.prog 9 #[.pointer (some ⟨g.p, 0, none⟩)] x fun e w' => ∃ v S', e = .returned v ∧ Cw w0 w' g N fb S' f ∧ Jt S' c A (t + 1) wr := by
  obtain ⟨a1, a2, a3, S2, g1, g2, g3⟩ := ha
  obtain ⟨l1, l2, l3⟩ := line_in hlo hhi
  have hcyc : S.cyc ≤ 10 := k.u.own.2.2.2.1.2.2.1
  refine (tick_all k.u k.co g1 c hc g2 (lineOf A) wr a1 a2 l1 l2 l3 a3).mono ?_
  rintro e w' ⟨v, S', rfl, hu, htu, co, hcy, hor⟩
  refine ⟨v, S', rfl, k.bus hu htu co, ?_⟩
  obtain ⟨s1, s2, s3, s4, s5, s6, s7⟩ := goes_same g1
  rcases hor with ⟨q1, q2⟩ | ⟨q1, q2, q3, q4⟩
  · right; left
    have hon : S2.on = true := by
      rcases g1 with ⟨q, rfl⟩ | ⟨-, i, -, -, -, rfl⟩
      · exact q
      · rfl
    subst q2
    refine ⟨⟨by show S2.ak (c : Nat) = _; rw [s6]; exact a1, by show S2.ak _ = none; rw [s6]; exact a2, by show (S2.c c).st _ < _; rw [s3]; exact a3, _, Or.inl ⟨hon, rfl⟩, g2, ?_⟩, hon, by omega, ?_⟩
    · show S2.tk + 1 = t + 1
      rw [g3]
    · show t + 1 ≤ S2.cyc
      omega
  · right; right
    refine ⟨⟨q1, q2, q3⟩, by omega, ?_⟩
    rw [← stl_line]
    exact q4
/-- whoever may write a line has it alone -/
theorem cw_alone (k : Cw w0 x g N fb S f) (l : Nat) : ¬ (2 ≤ (S.c 0).st l ∧ (S.c 1).st l ≠ 0) ∧ ¬ (2 ≤ (S.c 1).st l ∧ (S.c 0).st l ≠ 0) :=
  ⟨fun h => h.2 (k.co.alone l (by omega) (by omega) (by omega) h.1), fun h => h.2 (k.co.alone l (by omega) (by omega) (by omega) h.1)⟩
/-- Write -/
theorem cw_write (k : Cw w0 x g N fb S f) (hN : N < 1000000) (c A z d : Nat) (hc : c < 2) (hlo : 65536 ≤ A) (hhi : A < 65792) (hd : d < 4294967296) (hz : fits A z = true) (hs : 2 ≤ (S.c c).st A) : Calls Try.prog 10 #[.pointer (some ⟨g.p, 0, none⟩), .int .i64 c, .int .u32 A, .int .i64 z, .int .u32 d] x fun e w' => e = .returned (.bool true) ∧ ∃ S', Bu w' g (fun j => j < w0.heap.size ∨ j = fb) (N + 1) S' ∧ Turned (fun j => ¬ (j < w0.heap.size ∨ j = fb)) x w' ∧ Co S' (written f (A - 65536) z d) ∧ S'.ak = S.ak ∧ S'.on = S.on := by
  obtain ⟨i, hA, hL, hla, hst⟩ := (k.co.st hc).st_some A (by omega)
  obtain ⟨z0, z4, z16⟩ := fits_le A z hz
  have ll := k.co.se.line c _ ⟨hc, hL⟩
  refine (uwrite k.u (by omega) c A z d i (by omega) hd (st_has k.co hc hlo hhi) hA hz (by omega) (k.co.st hc) ll.2.2.2.2.2.2.2).mono ?_
  rintro e w' ⟨rfl, hu, ht⟩
  exact ⟨rfl, _, hu, ht, k.co.wrt c hc A i d z hA (by omega) z16, rfl, rfl⟩
/-- Read -/
theorem cw_read (k : Cw w0 x g N fb S f) (c A z : Nat) (hc : c < 2) (hlo : 65536 ≤ A) (hhi : A < 65792) (hz : fits A z = true) (hs : 1 ≤ (S.c c).st A) : Calls Try.prog 11 #[.pointer (some ⟨g.p, 0, none⟩), .int .i64 c, .int .u32 A, .int .i64 z] x fun e w' => e = .returned (.tuple #[.int .u32 (leN (fun t => f (A - 65536 + t)) z : Nat), .bool true]) ∧ ∃ S', Cw w0 w' g N fb S' f ∧ S'.ak = S.ak ∧ S'.on = S.on := by
  obtain ⟨i, hA, hL, hla, hst⟩ := (k.co.st hc).st_some A (by omega)
  obtain ⟨z0, z4, z16⟩ := fits_le A z hz
  have ll := k.co.se.line c _ ⟨hc, hL⟩
  refine (uread k.u c A z i (by omega) (st_has k.co hc hlo hhi) hA hz (fun t _ => ll.2.2.2.2.2.2.2 t)).mono ?_
  rintro e w' ⟨rfl, hu, ht⟩
  have e1 : leN (fun t => (((S.c c).set ((S.c c).of A)).getD i l0).b (A % 16 + t)) z = leN (fun t => f (A - 65536 + t)) z := by
    refine leN_congr _ _ _ (fun t ht => ?_)
    show _ = f _
    rw [ll.2.2.2.2.2.2.1 _ (by omega), hla]
    have : lineOf A - 65536 + (A % 16 + t) = A - 65536 + t := by
      have := (line_in hlo hhi).2.1
      have e : lineOf A = A - A % 16 := rfl
      omega
    rw [this]
  rw [e1]
  exact ⟨rfl, _, k.bus hu ht (k.co.used c hc A i hA), rfl, rfl⟩
end
end Go.Proofs.Ytbbaopldebdoiaa
