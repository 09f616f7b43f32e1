/-
  THE ANSWER's TABLE OF NAMES: names are taken.
-/
import Derived.Test.YtpolfpebhbkabaaDoorOb
namespace Go.Proofs.YtpolfpebhbkabaaDoor
open Go Go.RowKit
theorem rtake_range (b : Nat) (r : Int) (w : World) (hr : ¬ (1 ≤ r ∧ r < 32)) : Calls Tryd.prog 26 #[.pointer (some ⟨b, 0, none⟩), .int .i64 r] w fun e w' => e = .returned (.tuple #[.int .i64 0, .int .i64 0, .int .i64 3]) ∧ w' = w := by
  have hu : undef = Value.tuple #[] := rfl
  by_cases h1 : 1 ≤ r
  all_goals
    go_enter Tryd.func26, Tryd.ntmps26
    go_wp2
    all_goals first
      | (exfalso; omega)
      | exact bodyPost_ret (by simp [results, Tryd.results26, go_sem]) rfl ⟨rfl, rfl⟩
theorem rtake_full (b g n : Nat) (name : Nat → Nat) (r : Nat) (w : World) (t : RTab w b g n name []) (hr : 1 ≤ r ∧ r < 32) : Calls Tryd.prog 26 #[.pointer (some ⟨b, 0, none⟩), .int .i64 r] w fun e w' => e = .returned (.tuple #[.int .i64 0, .int .i64 0, .int .i64 4]) ∧ w' = w := by
  obtain ⟨⟨ao, cap, hc, ho⟩, ne⟩ := t
  have cf : w.cell? ⟨b, 33, none⟩ = some (.slice ao 0 cap) := hc.cell 33 (by decide)
  have h3 := hc.here
  obtain ⟨hr1, hr2⟩ := hr
  have d1 : decide ((r : Int) < 1) = false := decide_eq_false (by omega)
  have d2 : decide (31 < (r : Int)) = false := decide_eq_false (by omega)
  clear hc ho
  go_enter Tryd.func26, Tryd.ntmps26
  go_wp2
  exact bodyPost_ret (by simp [results, Tryd.results26, go_sem]) rfl ⟨rfl, rfl⟩
set_option maxHeartbeats 2000000 in
theorem rtake_good (b g n : Nat) (name : Nat → Nat) (x : Nat) (l : List Nat) (r : Nat) (w : World) (t : RTab w b g n name (x :: l)) (hr : 1 ≤ r ∧ r < 32) (hl : l.length ≤ 1000) : Calls Tryd.prog 26 #[.pointer (some ⟨b, 0, none⟩), .int .i64 r] w fun e w' => e = .returned (.tuple #[.int .i64 x, .int .i64 (name r), .int .i64 0]) ∧ (∃ g', RTab w' b g' n (upd name r x) l ∧ w.heap.size ≤ g') ∧ Turned (fun k => k = b) w w' := by
  obtain ⟨⟨ao, cap, hc, ho⟩, ne⟩ := t
  have hle := ho.le
  simp only [List.length_cons] at hle
  obtain ⟨ad, had⟩ : ∃ ad, ao = some ad := by
    cases ao with
    | none => have := ho.none rfl; omega
    | some q => exact ⟨q, rfl⟩
  obtain ⟨off, rfl, b3, b4, b5, b6⟩ := ho.at' ad had
  subst had
  have cf : w.cell? ⟨b, 33, none⟩ = some (.slice (some ⟨g, off, none⟩) (l.length + 1) cap) := hc.cell 33 (by decide)
  have c0 : w.cell? ⟨g, off, none⟩ = some (.int .i64 x) := b5 0 (by simp)
  have cn := CR.atName hc r hr.2
  have h3 := hc.here
  have h4 := hc.free
  obtain ⟨hr1, hr2⟩ := hr
  have d1 : decide ((r : Int) < 1) = false := decide_eq_false (by omega)
  have d2 : decide (31 < (r : Int)) = false := decide_eq_false (by omega)
  have hcm : cap ≤ 9223372036854775807 := by have := ho.max; unfold maxLen at this; omega
  have hne0 : ((l.length : Int) + 1 == 0) = false := by simp; omega
  have HB5 : Hid (∀ j u, (numsV l)[j]? = some u → w.cell? ⟨g, off + 1 + j, none⟩ = some u) := by
    intro j u hj
    unfold numsV at hj
    rw [List.getElem?_map] at hj
    have hjl : j < l.length := by
      rcases Nat.lt_or_ge j l.length with q | q
      · exact q
      · rw [List.getElem?_eq_none q] at hj; simp at hj
    have := b5 (j + 1) (by simp; omega)
    rw [show off + 1 + j = off + (j + 1) by omega, this]
    rw [List.getElem?_eq_getElem hjl] at hj
    simp only [Option.map_some, Option.some.injEq] at hj
    simp only [List.getD_eq_getElem?_getD, List.getElem?_cons_succ]
    rw [List.getElem?_eq_getElem hjl, ← hj]
    rfl
  have HC := Hid.in hc
  have HL := Hid.in hl
  obtain ⟨i0, hi0, hz0, hz1, hz2⟩ := info_parts (show (Tryd.prog.info? 3).map (fun i => (i.zero, i.size, i.bytes)) = some (some (.int .i64 0), 1, 8) by kernel_rfl)
  generalize hq : name r = old at cn ⊢
  clear hc ho b4 b5 b6 hl
  by_cases hcap : cap = 1
  · have hl0 : l = [] := List.eq_nil_of_length_eq_zero (by omega)
    subst hl0
    subst hcap
    go_enter Tryd.func26, Tryd.ntmps26
    go_wp2_with (at_builtin; refine append_ownR _ rfl (.tmp 34) (.tmp 39) 96 rfl 3 i0 Tryd.underlying96 hi0 hz0 hz1 hz2 w.heap.size (.slice none 0 0) [] [] rfl (World.ownsRow_nil _ _ _ _) ⟨g, off, none⟩ 0 rfl (fun j u hj => by simp [numsV] at hj) (by simp) (Nat.le_refl _) (fun q hq => by simp [Value.ownBlock] at hq) ?_; intro w2 g' ao' cap' hO hB hg'; have cw := (hB.cell (p := ⟨b, 33, none⟩) h3).trans cf; have cnw := (hB.cell (p := ⟨b, 1 + r, none⟩) h3).trans cn; have hf2 : ∀ o, w2.frozen? ⟨b, o, none⟩ = false := fun o => (hB.frozen (p := ⟨b, o, none⟩) h3).trans (h4 o); have hs2 := Nat.lt_of_lt_of_le h3 hB.size; have HO := Hid.in hO; have HB := Hid.in hB; have HG := Hid.in hg'; clear hO hB hg')
    refine bodyPost_ret (v := .tuple #[.int .i64 x, .int .i64 old, .int .i64 0]) (by simp [results, Tryd.results26, go_sem]) rfl ⟨rfl, ⟨g', ⟨⟨ao', cap', ?_, ?_⟩, ?_⟩, HG.out⟩, ?_⟩
    · exact CR.name (CR.free (HC.out.below HB.out) _) r x hr2
    · exact HO.out.turned (((Turned.refl (fun k => k = b) w2).set rfl _ _).set rfl _ _) (by have := HG.out; omega)
    · have := HG.out; omega
    · exact ((Turned.of_below (Q := fun k => k = b) HB.out).set (b := b) rfl _ _).set (b := b) rfl _ _
  · go_enter Tryd.func26, Tryd.ntmps26
    go_wp2_with (at_builtin; refine append_ownR _ rfl (.tmp 34) (.tmp 39) 96 rfl 3 i0 Tryd.underlying96 hi0 hz0 hz1 hz2 w.heap.size (.slice none 0 0) [] l rfl (World.ownsRow_nil _ _ _ _) ⟨g, off + 1, none⟩ (cap - 1) rfl (fun j u hj => by rw [Addr.add_lit]; exact HB5.out j u hj) (by have := HL.out; simp; omega) (Nat.le_refl _) (fun q hq => by simp [Value.ownBlock] at hq) ?_; intro w2 g' ao' cap' hO hB hg'; rw [List.nil_append] at hO; have cw := (hB.cell (p := ⟨b, 33, none⟩) h3).trans cf; have cnw := (hB.cell (p := ⟨b, 1 + r, none⟩) h3).trans cn; have hf2 : ∀ o, w2.frozen? ⟨b, o, none⟩ = false := fun o => (hB.frozen (p := ⟨b, o, none⟩) h3).trans (h4 o); have hs2 := Nat.lt_of_lt_of_le h3 hB.size; have HO := Hid.in hO; have HB := Hid.in hB; have HG := Hid.in hg'; clear hO hB hg')
    refine bodyPost_ret (v := .tuple #[.int .i64 x, .int .i64 old, .int .i64 0]) (by simp [results, Tryd.results26, go_sem]) rfl ⟨rfl, ⟨g', ⟨⟨ao', cap', ?_, ?_⟩, ?_⟩, HG.out⟩, ?_⟩
    · first
        | exact CR.name (CR.free (HC.out.below HB.out) _) r x hr2
        | (have q := CR.name (CR.free (HC.out.below HB.out) (.slice ao' (([] : List Nat).length + l.length) cap')) r x hr2
           simp only [List.length_nil, Nat.zero_add] at q
           exact q)
    · exact HO.out.turned (((Turned.refl (fun k => k = b) w2).set rfl _ _).set rfl _ _) (by have := HG.out; omega)
    · have := HG.out; omega
    · exact ((Turned.of_below (Q := fun k => k = b) HB.out).set (b := b) rfl _ _).set (b := b) rfl _ _
end Go.Proofs.YtpolfpebhbkabaaDoor
