/-
  BUS' LAW BusCoheres: a tick.
-/
import Derived.Test.YtbbaopldebdoiaaBv4
namespace Go.Proofs.Ytbbaopldebdoiaa
open Go Go.RowKit
section
variable {x : World} {g : Bn} {F : Nat → Prop} {N : Nat} {S S2 : BS} {f : Nat → Nat}
theorem goes_same (h : S.goes S2) : S2.nc = S.nc ∧ S2.len = S.len ∧ S2.c = S.c ∧ S2.mem = S.mem ∧ S2.nw = S.nw ∧ S2.ak = S.ak ∧ S2.cyc = S.cyc := by
  rcases h with ⟨-, rfl⟩ | ⟨-, i, -, -, -, rfl⟩
  · exact ⟨rfl, rfl, rfl, rfl, rfl, rfl, rfl⟩
  · exact ⟨rfl, rfl, rfl, rfl, rfl, rfl, rfl⟩
theorem does_of {D : BS} {T : List Snp} {y : World} {G : Nat → Prop} {e : Ending} {w' : World} (h : DoesT g N D T y G e w') : Does g N D y G e w' := by
  obtain ⟨v, h1, h2, h3⟩ := h
  exact ⟨v, h1, ⟨T, h2⟩, h3⟩
theorem do_co (co : Co S f) (ht : S.turn < 2) (l : Nat) (wr : Bool) (hl : l % 16 = 0) (hlo : 65536 ≤ l) (hhi : l < 65792) (hown : (S.c S.turn).st l ≤ 1) : ∃ D, Co D f ∧ (if wr then 2 else 1) ≤ (D.c S.turn).st l ∧ D.ak = S.ak ∧ D.on = S.on ∧ D.cyc = S.cyc ∧ ∀ (y : World) (G : Nat → Prop), Bu y g G N S → Calls Try.prog 21 #[.pointer (some ⟨g.p, 0, none⟩), .agg #[.int .u32 l, .bool wr]] y (Does g N D y G) := by
  have hh : hasB l S.len = true := by
    rw [co.len]
    unfold hasB
    simp
    omega
  have h8 : ∀ i, i < S.nc → ∀ t, ((S.c i).ln l).b t < 256 := fun i hi => co.ln8 i (by rw [← co.nc]; exact hi) l
  have main : ∀ tw, tw ≤ 1 → (tw = if wr then 0 else 1) → (∀ (y : World) (G : Nat → Prop), Bu y g G N S → Calls Try.prog 30 #[.pointer (some ⟨g.p, 0, none⟩), .agg #[.int .u32 l, .bool wr]] y fun e w' => ∃ v, e = .returned v ∧ w'.ownsRow y.heap.size 94 4 v (S.toldN l tw 2).length (flatS (S.toldN l tw 2)) ∧ Bu w' g (fun j => G j ∨ v.ownBlock = some j) N (S.lowN l tw 2) ∧ Turned (fun j => ¬ G j) y w') → ∃ D, Co D f ∧ (if wr then 2 else 1) ≤ (D.c S.turn).st l ∧ D.ak = S.ak ∧ D.on = S.on ∧ D.cyc = S.cyc ∧ ∀ (y : World) (G : Nat → Prop), Bu y g G N S → Calls Try.prog 21 #[.pointer (some ⟨g.p, 0, none⟩), .agg #[.int .u32 l, .bool wr]] y (Does g N D y G) := by
    intro tw htw hwr hlow
    obtain ⟨d1, d2, d3, d4, d5, d6, d7, d8⟩ := co.does ht l tw hl hlo hhi htw hown
    obtain ⟨t1, t2, t3, -⟩ := lowN_same S l tw 2
    refine ⟨_, d1, ?_, d6, d7, d8, fun y G hy => (udo hy l wr (by omega) hl hh (S.lowN l tw 2) (S.toldN l tw 2) ⟨t1, t2, t3⟩ (Nat.le_trans (told_le S l tw 2) (by omega)) hlow d2 (fun hf _ => ?_)).mono (fun e w' q => does_of q)⟩
    · refine Nat.le_trans ?_ d5
      rw [hwr]
      cases wr <;> simp
    · have ll := d4.se.line S.turn _ ⟨ht, d3 hf⟩
      refine ⟨ll.2.2.2.2.2.2.2, by have := ll.2.2.2.1; omega, ll.2.1, ?_⟩
      rw [co.len]
      unfold hasB
      have h1 := ll.2.2.1
      have h2 := ll.2.2.2.1
      simp
      omega
  cases wr
  · refine main 1 (by omega) rfl (fun y G hy => ?_)
    have := ulow_r hy l (by omega) hl hh h8
    rw [co.nc] at this
    exact this
  · refine main 0 (by omega) rfl (fun y G hy => ?_)
    have := ulow_w hy l (by omega) hl hh h8
    rw [co.nc] at this
    exact this
/-- a tick, where a core has asked, and no other -/
theorem tick_all (h : Bu x g F N S) (co : Co S f) (hg : S.goes S2) (c : Nat) (hc : c < 2) (ht : S2.turn = c) (l : Nat) (wr : Bool) (ha : S.ak (c : Nat) = some (l, wr)) (ho : S.ak ((1 - c : Nat) : Int) = none) (hl : l % 16 = 0) (hlo : 65536 ≤ l) (hhi : l < 65792) (hst : (S.c c).st l < (if wr then 2 else 1)) : Calls Try.prog 9 #[.pointer (some ⟨g.p, 0, none⟩)] x fun e w' => ∃ v S', e = .returned v ∧ Bu w' g F N S' ∧ Turned (fun j => ¬ F j) x w' ∧ Co S' f ∧ S'.cyc = S.cyc ∧ ((S2.tk < S.cyc ∧ S' = { S2 with tk := S2.tk + 1 }) ∨ (S'.ak 0 = none ∧ S'.ak 1 = none ∧ S'.on = false ∧ (if wr then 2 else 1) ≤ (S'.c c).st l)) := by
  obtain ⟨g1, g2, g3, g4, g5, g6, g7⟩ := goes_same hg
  have co2 : Co S2 f := co.same g1 g2 g3 g4 g5
  by_cases hw : S2.tk < S2.cyc
  · refine (utick_wait h hg hw).mono ?_
    rintro e w' ⟨rfl, hu, htu⟩
    exact ⟨_, _, rfl, hu, htu, co2.same rfl rfl rfl rfl rfl, g7, Or.inl ⟨by rw [← g7]; exact hw, rfl⟩⟩
  · have co3 : Co { S2 with on := false, ak := updO S2.ak (S2.turn : Nat) none } f := co2.same rfl rfl rfl rfl rfl
    obtain ⟨D, d1, d2, d3, d4, d5, d6⟩ := do_co (g := g) (N := N) co3 (by show S2.turn < 2; omega) l wr hl hlo hhi (by
      show (S2.c S2.turn).st l ≤ 1
      rw [g3, ht]
      cases wr
      · simp at hst; omega
      · simp at hst; omega)
    refine (utick_do h hg hw l wr (by rw [g6, ht]; exact ha) d6).mono ?_
    rintro e w' ⟨v, rfl, -, hu, htu⟩
    refine ⟨v, D, rfl, hu.less (fun j hj => Or.inl hj), htu, d1, d5.trans g7, Or.inr ?_⟩
    have e1 : ∀ k : Int, D.ak k = if k = (c : Nat) then none else S.ak k := fun k => by
      rw [d3]
      show updO S2.ak (S2.turn : Nat) none k = _
      unfold updO
      rw [ht, g6]
    refine ⟨?_, ?_, d4, ?_⟩
    · rw [e1]
      match c, hc with
      | 0, _ => rfl
      | 1, _ => exact ho
    · rw [e1]
      match c, hc with
      | 0, _ => exact ho
      | 1, _ => rfl
    · have : (D.c S2.turn).st l = (D.c c).st l := by rw [ht]
      rw [← this]
      exact d2
end
end Go.Proofs.Ytbbaopldebdoiaa
