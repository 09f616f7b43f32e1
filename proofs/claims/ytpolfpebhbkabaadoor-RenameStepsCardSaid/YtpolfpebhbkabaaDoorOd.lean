/-
  THE ANSWER's TABLE OF NAMES: names are released, and undone.
-/
import Derived.Test.YtpolfpebhbkabaaDoorOc
namespace Go.Proofs.YtpolfpebhbkabaaDoor
open Go Go.RowKit
theorem rrel_range (b g n : Nat) (name : Nat → Nat) (free : List Nat) (x : Int) (w : World) (t : RTab w b g n name free) (hx : ¬ (1 ≤ x ∧ x < n)) : Calls Tryd.prog 30 #[.pointer (some ⟨b, 0, none⟩), .int .i64 x] w fun e w' => e = .returned (.int .i64 3) ∧ w' = w := by
  obtain ⟨⟨ao, cap, hc, ho⟩, ne⟩ := t
  have c0 : w.cell? ⟨b, 0, none⟩ = some (.int .i64 n) := hc.cell 0 (by decide)
  have h3 := hc.here
  have hu : undef = Value.tuple #[] := rfl
  clear hc ho
  by_cases h1 : 1 ≤ x
  all_goals
    go_enter Tryd.func30, Tryd.ntmps30
    go_wp2
    all_goals first
      | (exfalso; omega)
      | (go_ret; exact ⟨rfl, rfl⟩)
theorem rrel_free (b g n : Nat) (name : Nat → Nat) (free : List Nat) (x : Nat) (w : World) (t : RTab w b g n name free) (hx : 1 ≤ x ∧ x < n) (hl : free.length ≤ 1000) (hf : 0 < free.count x ∨ 0 < cnt name x 32) : Calls Tryd.prog 30 #[.pointer (some ⟨b, 0, none⟩), .int .i64 x] w fun e w' => e = .returned (.int .i64 6) ∧ w' = w := by
  have HT := Hid.in t
  have HL := Hid.in hl
  obtain ⟨⟨ao, cap, hc, ho⟩, ne⟩ := t
  have c0 : w.cell? ⟨b, 0, none⟩ = some (.int .i64 n) := hc.cell 0 (by decide)
  have h3 := hc.here
  have hu : undef = Value.tuple #[] := rfl
  obtain ⟨hx1, hx2⟩ := hx
  have d1 : decide ((x : Int) < 1) = false := decide_eq_false (by omega)
  have d2 : decide ((n : Int) ≤ (x : Int)) = false := decide_eq_false (by omega)
  clear hc ho hl
  by_cases hfc : 0 < free.count x
  · have HF : Hid (decide (0 < free.count x) = true) := decide_eq_true hfc
    by_cases hmc : 0 < cnt name x 32
    · have HM : Hid (decide (0 < cnt name x 32) = true) := decide_eq_true hmc
      clear hf hfc hmc
      go_enter Tryd.func30, Tryd.ntmps30
      go_wp2_with (first | (go_at_call 49; refine (rfree_any b g n name free x _ HT.out HL.out).mono ?_; rintro e v1 ⟨rfl, hw⟩; have hw2 := hw.symm; clear hw; subst hw2; rw [HF.out]) | (go_at_call 50; refine (rmapped_any b g n name free x _ HT.out).mono ?_; rintro e v1 ⟨rfl, hw⟩; have hw2 := hw.symm; clear hw; subst hw2; rw [HM.out]))
      go_ret
      exact ⟨rfl, rfl⟩
    · have HM : Hid (decide (0 < cnt name x 32) = false) := decide_eq_false hmc
      clear hf hfc hmc
      go_enter Tryd.func30, Tryd.ntmps30
      go_wp2_with (first | (go_at_call 49; refine (rfree_any b g n name free x _ HT.out HL.out).mono ?_; rintro e v1 ⟨rfl, hw⟩; have hw2 := hw.symm; clear hw; subst hw2; rw [HF.out]) | (go_at_call 50; refine (rmapped_any b g n name free x _ HT.out).mono ?_; rintro e v1 ⟨rfl, hw⟩; have hw2 := hw.symm; clear hw; subst hw2; rw [HM.out]))
      go_ret
      exact ⟨rfl, rfl⟩
  · have HF : Hid (decide (0 < free.count x) = false) := decide_eq_false hfc
    have HM : Hid (decide (0 < cnt name x 32) = true) := decide_eq_true (by omega)
    clear hf hfc
    go_enter Tryd.func30, Tryd.ntmps30
    go_wp2_with (first | (go_at_call 49; refine (rfree_any b g n name free x _ HT.out HL.out).mono ?_; rintro e v1 ⟨rfl, hw⟩; have hw2 := hw.symm; clear hw; subst hw2; rw [HF.out]) | (go_at_call 50; refine (rmapped_any b g n name free x _ HT.out).mono ?_; rintro e v1 ⟨rfl, hw⟩; have hw2 := hw.symm; clear hw; subst hw2; rw [HM.out]))
    go_ret
    exact ⟨rfl, rfl⟩
set_option maxRecDepth 100000 in
set_option maxHeartbeats 2000000 in
theorem rrel_good (b g n : Nat) (name : Nat → Nat) (free : List Nat) (x : Nat) (w : World) (t : RTab w b g n name free) (hx : 1 ≤ x ∧ x < n) (hl : free.length ≤ 1000) (hf : free.count x = 0) (hm : cnt name x 32 = 0) : Calls Tryd.prog 30 #[.pointer (some ⟨b, 0, none⟩), .int .i64 x] w fun e w' => e = .returned (.int .i64 0) ∧ (∃ g', RTab w' b g' n name (free ++ [x]) ∧ (g' = g ∨ w.heap.size ≤ g')) ∧ Turned (fun k => k = b ∨ k = g) w w' := by
  have HT := Hid.in t
  have HL := Hid.in hl
  have HF : Hid (decide (0 < free.count x) = false) := decide_eq_false (by omega)
  have HM : Hid (decide (0 < cnt name x 32) = false) := decide_eq_false (by omega)
  obtain ⟨⟨ao, cap, hc, ho⟩, ne⟩ := t
  have c0 : w.cell? ⟨b, 0, none⟩ = some (.int .i64 n) := hc.cell 0 (by decide)
  have cf : w.cell? ⟨b, 33, none⟩ = some (.slice ao free.length cap) := hc.cell 33 (by decide)
  have h3 := hc.here
  have h4 := hc.free
  have HC := Hid.in hc
  have HO := Hid.in ho
  obtain ⟨hx1, hx2⟩ := hx
  have d1 : decide ((x : Int) < 1) = false := decide_eq_false (by omega)
  have d2 : decide ((n : Int) ≤ (x : Int)) = false := decide_eq_false (by omega)
  obtain ⟨i0, hi0, hz0, hz1, hz2⟩ := info_parts (show (Tryd.prog.info? 3).map (fun i => (i.zero, i.size, i.bytes)) = some (some (.int .i64 0), 1, 8) by kernel_rfl)
  clear hc ho hl hf hm
  go_enter Tryd.func30, Tryd.ntmps30
  go_wp2_with (first
    | (go_at_call 49; refine (rfree_any b g n name free x _ HT.out HL.out).mono ?_; rintro e v1 ⟨rfl, hw⟩; have hw2 := hw.symm; clear hw; subst hw2; rw [HF.out])
    | (go_at_call 50; refine (rmapped_any b g n name free x _ HT.out).mono ?_; rintro e v1 ⟨rfl, hw⟩; have hw2 := hw.symm; clear hw; subst hw2; rw [HM.out])
    | (at_builtin; refine append_ownG _ rfl (.tmp 31) (.tmp 33) 96 rfl 3 i0 Tryd.underlying96 hi0 hz0 hz1 hz2 g ao cap free rfl (HO.out.alloc _) ⟨w.heap.size, 0, none⟩ 1 x rfl (by simp) rfl (by have := HL.out; omega) ?_; intro w2 g' ao' cap' hO hT hg'; have hTw : Turned (fun k => k = g) w w2 := ((Turned.refl (fun k => k = g) w).alloc _).trans hT; have cw := hTw.to_cell h3 ne cf; have hf2 : ∀ o, w2.frozen? ⟨b, o, none⟩ = false := (hTw.cells HC.out ne).free; have hs2 := Nat.lt_of_lt_of_le h3 hTw.size; have HO2 := Hid.in hO; have HT2 := Hid.in hTw; have HG := Hid.in hg'; clear hO hT hTw hg'))
  go_ret
  have hbg : b ≠ g' := by
    rcases HG.out with q | q
    · rw [q]; exact ne
    · simp at q; omega
  refine ⟨rfl, ⟨g', ⟨⟨ao', cap', ?_, ?_⟩, hbg⟩, ?_⟩, ?_⟩
  · have q := CR.free (HT2.out.cells HC.out ne) (.slice ao' (free.length + 1) cap')
    rw [show (free ++ [x]).length = free.length + 1 by simp]
    exact q
  · exact HO2.out.turned ((Turned.refl (fun k => k = b) w2).set (b := b) rfl _ _) (fun e => hbg e.symm)
  · rcases HG.out with q | q
    · exact Or.inl q
    · right; simp at q; omega
  · exact Turned.set (Q := fun k => k = b ∨ k = g) (b := b) (HT2.out.mono (fun _ => Or.inr)) (Or.inl rfl) _ _
theorem rundo_range (b g n : Nat) (name : Nat → Nat) (free : List Nat) (r fresh old : Int) (w : World) (t : RTab w b g n name free) (hx : ¬ ((1 ≤ r ∧ r < 32) ∧ 1 ≤ old ∧ old < n)) : Calls Tryd.prog 28 #[.pointer (some ⟨b, 0, none⟩), .int .i64 r, .int .i64 fresh, .int .i64 old] w fun e w' => e = .returned (.int .i64 3) ∧ w' = w := by
  obtain ⟨⟨ao, cap, hc, ho⟩, ne⟩ := t
  have c0 : w.cell? ⟨b, 0, none⟩ = some (.int .i64 n) := hc.cell 0 (by decide)
  have h3 := hc.here
  have hu : undef = Value.tuple #[] := rfl
  clear hc ho
  by_cases h1 : 1 ≤ r
  · by_cases h2 : r < 32
    · by_cases h4 : 1 ≤ old
      · go_enter Tryd.func28, Tryd.ntmps28
        go_wp2
        all_goals first
          | (exfalso; omega)
          | (go_ret; exact ⟨rfl, rfl⟩)
      · go_enter Tryd.func28, Tryd.ntmps28
        go_wp2
        all_goals first
          | (exfalso; omega)
          | (go_ret; exact ⟨rfl, rfl⟩)
    · go_enter Tryd.func28, Tryd.ntmps28
      go_wp2
      all_goals first
        | (exfalso; omega)
        | (go_ret; exact ⟨rfl, rfl⟩)
  · go_enter Tryd.func28, Tryd.ntmps28
    go_wp2
    all_goals first
      | (exfalso; omega)
      | (go_ret; exact ⟨rfl, rfl⟩)
set_option maxHeartbeats 1000000 in
theorem rundo_order (b g n : Nat) (name : Nat → Nat) (free : List Nat) (r : Nat) (fresh : Int) (old : Nat) (w : World) (t : RTab w b g n name free) (hr : 1 ≤ r ∧ r < 32) (hx : 1 ≤ old ∧ old < n) (hl : free.length ≤ 1000) (h : ¬ (name r : Int) = fresh ∨ 0 < free.count old ∨ 0 < cnt name old 32) : Calls Tryd.prog 28 #[.pointer (some ⟨b, 0, none⟩), .int .i64 r, .int .i64 fresh, .int .i64 old] w fun e w' => e = .returned (.int .i64 5) ∧ w' = w := by
  have HT := Hid.in t
  have HL := Hid.in hl
  obtain ⟨⟨ao, cap, hc, ho⟩, ne⟩ := t
  have c0 : w.cell? ⟨b, 0, none⟩ = some (.int .i64 n) := hc.cell 0 (by decide)
  have cn := CR.atName hc r hr.2
  have h3 := hc.here
  have hu : undef = Value.tuple #[] := rfl
  obtain ⟨hx1, hx2⟩ := hx
  obtain ⟨hr1, hr2⟩ := hr
  have d1 : decide ((old : Int) < 1) = false := decide_eq_false (by omega)
  have d2 : decide ((n : Int) ≤ (old : Int)) = false := decide_eq_false (by omega)
  have d3 : decide ((r : Int) < 1) = false := decide_eq_false (by omega)
  have d4 : decide (31 < (r : Int)) = false := decide_eq_false (by omega)
  obtain ⟨fb, hfb⟩ : ∃ fb, decide (0 < free.count old) = fb := ⟨_, rfl⟩
  obtain ⟨mb, hmb⟩ : ∃ mb, decide (0 < cnt name old 32) = mb := ⟨_, rfl⟩
  obtain ⟨nb, hnb⟩ : ∃ nb, ((name r : Int) != fresh) = nb := ⟨_, rfl⟩
  have hor : nb = true ∨ fb = true ∨ mb = true := by
    rcases h with h | h | h
    · left; rw [← hnb]; simpa using h
    · right; left; rw [← hfb]; simpa using h
    · right; right; rw [← hmb]; simpa using h
  have HF := Hid.in hfb
  have HM := Hid.in hmb
  clear hc ho hl h hfb hmb
  cases nb
  · cases fb
    · cases mb
      · simp at hor
      · clear hor
        go_enter Tryd.func28, Tryd.ntmps28
        go_wp2_with (first
          | (go_at_call 49; refine (rfree_any b g n name free old _ HT.out HL.out).mono ?_; rintro e v1 ⟨rfl, hw⟩; have hw2 := hw.symm; clear hw; subst hw2; rw [HF.out])
          | (go_at_call 50; refine (rmapped_any b g n name free old _ HT.out).mono ?_; rintro e v1 ⟨rfl, hw⟩; have hw2 := hw.symm; clear hw; subst hw2; rw [HM.out]))
        go_ret
        exact ⟨rfl, rfl⟩
    · clear hor
      cases mb
      all_goals
        go_enter Tryd.func28, Tryd.ntmps28
        go_wp2_with (first
          | (go_at_call 49; refine (rfree_any b g n name free old _ HT.out HL.out).mono ?_; rintro e v1 ⟨rfl, hw⟩; have hw2 := hw.symm; clear hw; subst hw2; rw [HF.out])
          | (go_at_call 50; refine (rmapped_any b g n name free old _ HT.out).mono ?_; rintro e v1 ⟨rfl, hw⟩; have hw2 := hw.symm; clear hw; subst hw2; rw [HM.out]))
        go_ret
        exact ⟨rfl, rfl⟩
  · clear hor
    cases fb
    all_goals
      cases mb
      all_goals
        go_enter Tryd.func28, Tryd.ntmps28
        go_wp2_with (first
          | (go_at_call 49; refine (rfree_any b g n name free old _ HT.out HL.out).mono ?_; rintro e v1 ⟨rfl, hw⟩; have hw2 := hw.symm; clear hw; subst hw2; rw [HF.out])
          | (go_at_call 50; refine (rmapped_any b g n name free old _ HT.out).mono ?_; rintro e v1 ⟨rfl, hw⟩; have hw2 := hw.symm; clear hw; subst hw2; rw [HM.out]))
        go_ret
        exact ⟨rfl, rfl⟩
theorem own_lit (w : World) (x : Nat) (e : TypeId) : (w.alloc (.cells #[.int .i64 x] e)).ownsRow w.heap.size e 1 (.slice (some ⟨w.heap.size, 0, none⟩) 1 1) ([x] : List Nat).length (numsV [x]) := by
  refine ⟨rfl, Or.inr ⟨w.heap.size, 1, #[.int .i64 x], rfl, Nat.le_refl _, ?_, Nat.le_refl _, by unfold maxLen; omega, rfl, rfl⟩⟩
  exact (MapKept.heap_alloc w _).1
theorem own_litS (w : World) (a : Addr) (v : Value) (x : Nat) (e : TypeId) : ((w.setCell a v).alloc (.cells #[.int .i64 x] e)).ownsRow w.heap.size e 1 (.slice (some ⟨w.heap.size, 0, none⟩) 1 1) ([x] : List Nat).length (numsV [x]) := by
  have q := own_lit (w.setCell a v) x e
  rw [size_set] at q
  exact q
set_option maxRecDepth 100000 in
set_option maxHeartbeats 2000000 in
theorem rundo_good (b g n : Nat) (name : Nat → Nat) (free : List Nat) (r : Nat) (old : Nat) (w : World) (t : RTab w b g n name free) (hr : 1 ≤ r ∧ r < 32) (hx : 1 ≤ old ∧ old < n) (hl : free.length ≤ 1000) (hf : free.count old = 0) (hm : cnt name old 32 = 0) : Calls Tryd.prog 28 #[.pointer (some ⟨b, 0, none⟩), .int .i64 r, .int .i64 (name r), .int .i64 old] w fun e w' => e = .returned (.int .i64 0) ∧ (∃ g', RTab w' b g' n (upd name r old) (name r :: free) ∧ w.heap.size ≤ g') ∧ Turned (fun k => k = b) w w' := by
  have HT := Hid.in t
  have HL := Hid.in hl
  have HF : Hid (decide (0 < free.count old) = false) := decide_eq_false (by omega)
  have HM : Hid (decide (0 < cnt name old 32) = false) := decide_eq_false (by omega)
  obtain ⟨⟨ao, cap, hc, ho⟩, ne⟩ := t
  have c0 : w.cell? ⟨b, 0, none⟩ = some (.int .i64 n) := hc.cell 0 (by decide)
  have cf : w.cell? ⟨b, 33, none⟩ = some (.slice ao free.length cap) := hc.cell 33 (by decide)
  have cn := CR.atName hc r hr.2
  have h3 := hc.here
  have h4 := hc.free
  have HC := Hid.in hc
  have HO := Hid.in ho
  obtain ⟨hx1, hx2⟩ := hx
  obtain ⟨hr1, hr2⟩ := hr
  have d1 : decide ((old : Int) < 1) = false := decide_eq_false (by omega)
  have d2 : decide ((n : Int) ≤ (old : Int)) = false := decide_eq_false (by omega)
  have d3 : decide ((r : Int) < 1) = false := decide_eq_false (by omega)
  have d4 : decide (31 < (r : Int)) = false := decide_eq_false (by omega)
  obtain ⟨i0, hi0, hz0, hz1, hz2⟩ := info_parts (show (Tryd.prog.info? 3).map (fun i => (i.zero, i.size, i.bytes)) = some (some (.int .i64 0), 1, 8) by kernel_rfl)
  generalize hq : name r = fresh at cn ⊢
  clear hc ho hl hf hm
  cases ao with
  | none =>
    have hn0 := HO.out.none rfl
    have hle := HO.out.le
    have hfr : free = [] := List.eq_nil_of_length_eq_zero (by omega)
    subst hfr
    subst hn0
    go_enter Tryd.func28, Tryd.ntmps28
    go_wp2_with (first
      | (go_at_call 49; refine (rfree_any b g n name [] old _ HT.out HL.out).mono ?_; rintro e v1 ⟨rfl, hw⟩; have hw2 := hw.symm; clear hw; subst hw2; rw [HF.out])
      | (go_at_call 50; refine (rmapped_any b g n name [] old _ HT.out).mono ?_; rintro e v1 ⟨rfl, hw⟩; have hw2 := hw.symm; clear hw; subst hw2; rw [HM.out])
      | (at_builtin; refine wpList_append_own_none rfl (.tmp 58) (.tmp 62) 96 rfl w.heap.size 3 i0 1 Tryd.underlying96 hi0 _ _ _ rfl (own_litS w ⟨b, 1 + r, none⟩ (.int .i64 old) fresh 3) rfl ?_))
    go_ret
    have hC2 := (CR.free (CR.name HC.out r old hr2) (.slice (some ⟨w.heap.size, 0, none⟩) 1 1)).alloc (.cells #[.int .i64 fresh] 3)
    have hown := own_lit ((w.setCell ⟨b, 1 + r, none⟩ (.int .i64 old)).setCell ⟨b, 33, none⟩ (.slice (some ⟨w.heap.size, 0, none⟩) 1 1)) fresh 3
    rw [size_set, size_set] at hown
    obtain ⟨g', ao', cap', hv, hO, hg'⟩ := ownG_of hown
    cases hv
    refine ⟨rfl, ⟨g', ⟨⟨_, _, hC2, hO⟩, by omega⟩, hg'⟩, ?_⟩
    exact (((Turned.refl (fun k => k = b) w).set (b := b) rfl _ _).set (b := b) rfl _ _).alloc _
  | some ad =>
    obtain ⟨off, rfl, b3, b4, b5, b6⟩ := HO.out.at' ad rfl
    have HO1 : Hid (OwnG ((w.setCell ⟨b, 1 + r, none⟩ (.int .i64 old)).alloc (.cells #[.int .i64 fresh] 3)) g (some ⟨g, off, none⟩) cap free) := (HO.out.turned ((Turned.refl (fun k => k = b) w).set (b := b) rfl _ _) (fun e => ne e.symm)).alloc _
    clear b4 b5 b6
    go_enter Tryd.func28, Tryd.ntmps28
    go_wp2_with (first
      | (go_at_call 49; refine (rfree_any b g n name free old _ HT.out HL.out).mono ?_; rintro e v1 ⟨rfl, hw⟩; have hw2 := hw.symm; clear hw; subst hw2; rw [HF.out])
      | (go_at_call 50; refine (rmapped_any b g n name free old _ HT.out).mono ?_; rintro e v1 ⟨rfl, hw⟩; have hw2 := hw.symm; clear hw; subst hw2; rw [HM.out])
      | (at_builtin; refine append_ownR _ rfl (.tmp 58) (.tmp 62) 96 rfl 3 i0 Tryd.underlying96 hi0 hz0 hz1 hz2 w.heap.size (.slice (some ⟨w.heap.size, 0, none⟩) 1 1) [fresh] free rfl (own_litS w ⟨b, 1 + r, none⟩ (.int .i64 old) fresh 3) ⟨g, off, none⟩ cap rfl HO1.out.cells (by have := HL.out; simp <;> omega) (by rw [World.size_alloc, size_set] <;> omega) (fun q hq => by simp [Value.ownBlock] at hq <;> omega) ?_; intro w2 g' ao' cap' hO hB hg'; have hTw := turned_of hB; have hbb : ¬ w.heap.size ≤ b := (by omega); have hC1 := hTw.cells ((CR.name HC.out r old hr2).alloc (.cells #[.int .i64 fresh] 3)) hbb; have cw : w2.cell? ⟨b, 33, none⟩ = some (.slice (some ⟨g, off, none⟩) free.length cap) := hC1.cell 33 (by decide); have hf2 := hC1.free; have hs2 := hC1.here; have HC1 := Hid.in hC1; have HO2 := Hid.in hO; have HB2 := Hid.in hB; have HG := Hid.in hg'; clear hO hB hTw hC1 hg'))
    go_ret
    refine ⟨rfl, ⟨g', ⟨⟨ao', cap', ?_, ?_⟩, ?_⟩, HG.out⟩, ?_⟩
    · have q := CR.free HC1.out (.slice ao' (1 + free.length) cap')
      rw [show (fresh :: free).length = 1 + free.length by simp [Nat.add_comm]]
      exact q
    · exact HO2.out.turned ((Turned.refl (fun k => k = b) w2).set (b := b) rfl _ _) (by have := HG.out; omega)
    · have := HG.out; omega
    · have q : Turned (fun k => k = b) w w2 := ⟨HB2.out.os, HB2.out.tape, HB2.out.output, Nat.le_trans (by rw [World.size_alloc, size_set]; omega) HB2.out.size, fun k hk hkb => (HB2.out.block k hk).trans ((((Turned.refl (fun k => k = b) w).set (b := b) rfl (1 + r) (.int .i64 old)).alloc (.cells #[.int .i64 fresh] 3)).block k hk hkb)⟩
      exact q.set (b := b) rfl _ _
end Go.Proofs.YtpolfpebhbkabaaDoor
