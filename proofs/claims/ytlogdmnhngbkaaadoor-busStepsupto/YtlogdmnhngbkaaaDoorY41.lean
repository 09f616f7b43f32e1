import Derived.Test.YtlogdmnhngbkaaaDoorY40
/-
  BUS' LAW BusSteps: what lasts, step by step; Ask, Read, Write, State, Busy, Data as two calls.
-/
namespace Go.Proofs.YtlogdmnhngbkaaaDoor
open Go Go.RowKit
theorem st_less {T T' : CS} (h : Stc T) (h' : Stc T') (a : Nat) (hL : ∀ e, T'.L e → e.a = lineOf a → T.L e) : T'.st a ≤ T.st a := by
  by_cases z : T'.st a = 0
  · omega
  · obtain ⟨k, -, r1, r2, r3⟩ := h'.st_some a z
    rw [r3, h.st_is a (hL _ r1 r2) r2]
    exact Nat.le_refl _
/-- a cache, memory, what is newer and what was written have changed; no line that was asked for is more than before -/
theorem Iv.put {S S' : BS} {f f' : Nat → Nat} (iv : Iv S f) (co : Cg S' f') (h1 : S'.nc = S.nc) (h2 : S'.len = S.len) (h3 : S'.ak = S.ak) (h4 : S'.on = S.on) (h5 : S'.turn = S.turn) (hs : ∀ (c l : Nat) (wr : Bool), c < S.nc → S.ak c = some (l, wr) → (S'.c c).st l ≤ 1) : Iv S' f' := by
  refine ⟨co, fun c h => ?_, fun c l wr hc h => ?_, fun h => ?_, by rw [h5, h1]; exact iv.tu⟩
  · rw [h3] at h
    rw [h1]
    exact iv.ao c h
  · rw [h1] at hc
    rw [h3] at h
    obtain ⟨a1, a2, a3, -⟩ := iv.al c l wr hc h
    rw [h2]
    exact ⟨a1, a2, a3, hs c l wr hc h⟩
  · rw [h4] at h
    rw [h3, h5]
    exact iv.on h
theorem Iv.used {S : BS} {f : Nat → Nat} (iv : Iv S f) (i : Nat) (hi : i < S.nc) (a j : Nat) (hA : At ((S.c i).set ((S.c i).of a)) a j) : Iv (S.cput i ((S.c i).used ((S.c i).of a) j)) f := by
  have st := iv.co.st i hi
  obtain ⟨u, v⟩ := st.used ((S.c i).of a) j ((S.c i).of_lt a st.n) hA.1
  refine iv.put (iv.co.used i hi a j hA) rfl rfl rfl rfl rfl (fun c l wr hc h => ?_)
  obtain ⟨-, -, -, h1⟩ := iv.al c l wr hc h
  show (if c = i then _ else S.c c).st l ≤ 1
  by_cases e : c = i
  · subst e
    rw [if_pos rfl]
    exact Nat.le_trans (st_less st u l (fun e he _ => (v e).1 he)) h1
  · rw [if_neg e]
    exact h1
theorem fits16 {a z : Nat} (h : fits a z = true) : a % 16 + z ≤ 16 := by
  simp only [fits, Bool.or_eq_true, decide_eq_true_eq] at h
  omega
theorem Iv.wrt {S : BS} {f : Nat → Nat} (iv : Iv S f) (i : Nat) (hi : i < S.nc) (a j d z : Nat) (hA : At ((S.c i).set ((S.c i).of a)) a j) (h2 : 2 ≤ (((S.c i).set ((S.c i).of a)).getD j l0).s) (hz : a % 16 + z ≤ 16) : Iv (S.wrt i a j d z) (written f (a - 65536) z d) := by
  have st := iv.co.st i hi
  have co := iv.co.wrt i hi a j d z hA h2 hz
  refine iv.put co rfl rfl rfl rfl rfl (fun c l wr hc h => ?_)
  obtain ⟨l16, -, -, h1⟩ := iv.al c l wr hc h
  have ec : (S.wrt i a j d z).c c = if c = i then (S.c i).wrote ((S.c i).of a) j (a % 16) d z else S.c c := rfl
  rw [ec]
  by_cases e : c = i
  · subst e
    rw [if_pos rfl]
    obtain ⟨hL, hla⟩ := st.has a hA
    obtain ⟨e0, he0⟩ : ∃ e0, ((S.c c).set ((S.c c).of a)).getD j l0 = e0 := ⟨_, rfl⟩
    rw [he0] at hL hla h2
    have w := wr_is e0 (a % 16) d z
    obtain ⟨u, v⟩ := st.wrote ((S.c c).of a) j ((S.c c).of_lt a st.n) hA.1 (e0.wr (a % 16) d z) (by rw [w.1, he0])
    have ew : (S.c c).wrote ((S.c c).of a) j (a % 16) d z = (S.c c).put ((S.c c).of a) (rest ((S.c c).set ((S.c c).of a)) j ++ [e0.wr (a % 16) d z]) := by
      unfold CS.wrote
      rw [he0]
    rw [ew]
    refine Nat.le_trans (st_less st u l (fun e he hea => ?_)) h1
    rcases (v e).1 he with q | q
    · exact q.1
    · have h3 := st.st_is l hL (by rw [← hea, q, w.1])
      omega
  · rw [if_neg e]
    exact h1
section
variable {x y : World} {gp : Bn} {gr : Rn} {F : Nat → Prop} {N : Nat} {S : BS} {f : Nat → Nat}
theorem bu_below {x w' : World} {g : Bn} {G : Nat → Prop} {N : Nat} {S : BS} (h : Bu x g G N S) (b : Below x.heap.size x w') : Bu w' g G N S ∧ Turned (fun j => ¬ G j) x w' := ⟨h.below b, Turned.of_below b⟩
theorem kind0 (h : Two x gp gr F N S S) (iv : Iv S f) (hN : N < 1000000) (core : Int) (hc : i64 core) (a : Nat) (wr : Bool) (ha : a < 4294967296) : ∃ (E : Int) (S' : BS), Iv S' f ∧ S'.len = S.len ∧ Calls Tryd.prog 5 #[.pointer (some ⟨gp.p, 0, none⟩), .int .i64 core, .int .u32 a, .bool wr] x (fun e w' => e = .returned (errOf E) ∧ Two w' gp gr F (N + 1) S' S ∧ Turned (fun j => ¬ F j) x w') ∧ ∀ y, Two y gp gr F (N + 1) S' S → Calls Tryd.prog 6 #[.pointer (some ⟨gr.p, 0, none⟩), .int .i64 core, .int .i64 a, .bool wr] y (fun e w' => e = .returned (.int .i64 E) ∧ Two w' gp gr F (N + 1) S' S' ∧ Turned (fun j => ¬ F j) y w') := by
  cases hh : S.has core a
  · refine ⟨3, S, iv, rfl, ?_, fun y hy => ?_⟩
    · refine ((h.up (N' := N + 1) (by omega)).onP (P := fun e => e = .returned (errOf 3)) (N' := N + 1) (S' := S) (fun G hb => ?_))
      have hb0 := hb
      obtain ⟨V, kn, ka, k, -⟩ := hb
      refine (bask_no k core a wr ha hh).mono ?_
      rintro e w' ⟨rfl, rfl⟩
      exact ⟨by rw [errOf_ne (by decide)], hb0, Turned.refl _ _⟩
    · refine hy.onR (P := fun e => e = .returned (.int .i64 3)) (R' := S) (fun G hr => ?_)
      have hr0 := hr
      obtain ⟨rv, R, last, left, k, -⟩ := hr
      refine (rask_no k core a wr ha hh).mono ?_
      rintro e w' ⟨rfl, rfl⟩
      exact ⟨rfl, hr0, Turned.refl _ _⟩
  · by_cases hs : (S.ak core).isSome = true ∨ (if wr then 2 else 1) ≤ S.st core a
    · refine ⟨7, S, iv, rfl, ?_, fun y hy => ?_⟩
      · refine ((h.up (N' := N + 1) (by omega)).onP (P := fun e => e = .returned (errOf 7)) (N' := N + 1) (S' := S) (fun G hb => ?_))
        have hb0 := hb
        obtain ⟨V, kn, ka, k, -⟩ := hb
        refine (bask_state k core hc a wr ha hh hs).mono ?_
        rintro e w' ⟨rfl, b⟩
        exact ⟨by rw [errOf_ne (by decide)], bu_below hb0 b⟩
      · refine hy.onR (P := fun e => e = .returned (.int .i64 7)) (R' := S) (fun G hr => ?_)
        have hr0 := hr
        obtain ⟨rv, R, last, left, k, -⟩ := hr
        refine (rask_state k core a wr ha hh hs).mono ?_
        rintro e w' ⟨rfl, rfl⟩
        exact ⟨rfl, hr0, Turned.refl _ _⟩
    · have hb1 : (S.ak core).isSome = false := by
        cases q : (S.ak core).isSome
        · rfl
        · exact absurd (Or.inl q) hs
      have hb2 : S.st core a < (if wr then 2 else 1) := by
        rcases Nat.lt_or_ge (S.st core a) (if wr then 2 else 1) with q | q
        · exact q
        · exact absurd (Or.inr q) hs
      obtain ⟨i, rfl, hi, alo, ahi⟩ := has_core hh
      have iv' : Iv { S with ak := updO S.ak (i : Nat) (some (lineOf a, wr)) } f := by
        refine ⟨iv.co.same rfl rfl rfl rfl rfl, fun c h => ?_, fun c l w hc h => ?_, fun h => ?_, iv.tu⟩
        · have h : (updO S.ak (i : Nat) (some (lineOf a, wr)) c).isSome = true := h
          unfold updO at h
          split at h
          · rename_i e
            rw [e]
            exact ⟨by omega, by show (i : Int) < (S.nc : Int); omega⟩
          · exact iv.ao c h
        · have h9 : updO S.ak (i : Nat) (some (lineOf a, wr)) (c : Nat) = some (l, w) := h
          clear h
          unfold updO at h9
          split at h9
          · rename_i e
            have e : c = i := by omega
            subst e
            have e2 := Option.some.inj h9
            have e3 : lineOf a = l := congrArg Prod.fst e2
            rw [← e3]
            have hst : S.st (c : Nat) a = (S.c c).st a := st_has hh
            refine ⟨by unfold lineOf; omega, by unfold lineOf; omega, by show lineOf a < 65536 + S.len; unfold lineOf; omega, ?_⟩
            show (S.c c).st (lineOf a) ≤ 1
            rw [stl_line, ← hst]
            cases wr
            · simp at hb2
              omega
            · simp at hb2
              omega
          · exact iv.al c l w hc h9
        · show (updO S.ak (i : Nat) (some (lineOf a, wr)) (S.turn : Nat)).isSome = true
          unfold updO
          split
          · rfl
          · exact iv.on h
      refine ⟨0, { S with ak := updO S.ak (i : Nat) (some (lineOf a, wr)) }, iv', rfl, ?_, fun y hy => ?_⟩
      · refine h.onP (P := fun e => e = .returned (errOf 0)) (N' := N + 1) (S' := { S with ak := updO S.ak (i : Nat) (some (lineOf a, wr)) }) (fun G hb => ?_)
        refine (uask hb (by omega) (i : Nat) hc a wr ha hh hb1 hb2).mono ?_
        rintro e w' ⟨rfl, b, t⟩
        exact ⟨rfl, b, t⟩
      · refine hy.onR (P := fun e => e = .returned (.int .i64 0)) (R' := { S with ak := updO S.ak (i : Nat) (some (lineOf a, wr)) }) (fun G hr => ?_)
        obtain ⟨rv, R, last, left, k, hF⟩ := hr
        refine (rask_good hF k (i : Nat) a wr ha hh hb1 hb2).mono ?_
        rintro e w' ⟨rfl, b, t⟩
        exact ⟨rfl, b, t⟩
theorem kind2 (h : Two x gp gr F N S S) (iv : Iv S f) (core : Int) (a : Nat) (z : Int) (ha : a < 4294967296) : ∃ (v : Nat) (ok : Bool) (S' : BS), Iv S' f ∧ S'.len = S.len ∧ Calls Tryd.prog 11 #[.pointer (some ⟨gp.p, 0, none⟩), .int .i64 core, .int .u32 a, .int .i64 z] x (fun e w' => e = .returned (.tuple #[.int .u32 v, .bool ok]) ∧ Two w' gp gr F N S' S ∧ Turned (fun j => ¬ F j) x w') ∧ ∀ y, Two y gp gr F N S' S → Calls Tryd.prog 12 #[.pointer (some ⟨gr.p, 0, none⟩), .int .i64 core, .int .i64 a, .int .i64 z] y (fun e w' => e = .returned (.tuple #[.int .u32 v, .bool ok]) ∧ Two w' gp gr F N S' S' ∧ Turned (fun j => ¬ F j) y w') := by
  cases hh : S.has core a
  · refine ⟨0, false, S, iv, rfl, ?_, fun y hy => ?_⟩
    · refine h.onP (P := fun e => e = .returned (.tuple #[.int .u32 (0 : Nat), .bool false])) (N' := N) (S' := S) (fun G hb => ?_)
      have hb0 := hb
      obtain ⟨V, kn, ka, k, -⟩ := hb
      refine (bread_no k core a z ha hh).mono ?_
      rintro e w' ⟨rfl, rfl⟩
      exact ⟨rfl, hb0, Turned.refl _ _⟩
    · refine hy.onR (P := fun e => e = .returned (.tuple #[.int .u32 (0 : Nat), .bool false])) (R' := S) (fun G hr => ?_)
      refine (ruread_no hr core a z ha hh).mono ?_
      rintro e w' ⟨rfl, rfl⟩
      exact ⟨rfl, hr, Turned.refl _ _⟩
  · obtain ⟨i, rfl, hi, alo, ahi⟩ := has_core hh
    have miss : No ((S.c i).set ((S.c i).of a)) a ∨ fits a z = false → ∃ (v : Nat) (ok : Bool) (S' : BS), Iv S' f ∧ S'.len = S.len ∧ Calls Tryd.prog 11 #[.pointer (some ⟨gp.p, 0, none⟩), .int .i64 (i : Nat), .int .u32 a, .int .i64 z] x (fun e w' => e = .returned (.tuple #[.int .u32 v, .bool ok]) ∧ Two w' gp gr F N S' S ∧ Turned (fun j => ¬ F j) x w') ∧ ∀ y, Two y gp gr F N S' S → Calls Tryd.prog 12 #[.pointer (some ⟨gr.p, 0, none⟩), .int .i64 (i : Nat), .int .i64 a, .int .i64 z] y (fun e w' => e = .returned (.tuple #[.int .u32 v, .bool ok]) ∧ Two w' gp gr F N S' S' ∧ Turned (fun j => ¬ F j) y w') := fun hno => by
      refine ⟨0, false, S, iv, rfl, ?_, fun y hy => ?_⟩
      · refine h.onP (P := fun e => e = .returned (.tuple #[.int .u32 (0 : Nat), .bool false])) (N' := N) (S' := S) (fun G hb => ?_)
        have hb0 := hb
        obtain ⟨V, kn, ka, k, -⟩ := hb
        refine (bread_miss k i a z ha hh hno).mono ?_
        rintro e w' ⟨rfl, b⟩
        exact ⟨rfl, bu_below hb0 b⟩
      · refine hy.onR (P := fun e => e = .returned (.tuple #[.int .u32 (0 : Nat), .bool false])) (R' := S) (fun G hr => ?_)
        refine (ruread_miss hr i a z ha hh hno).mono ?_
        rintro e w' ⟨rfl, rfl⟩
        exact ⟨rfl, hr, Turned.refl _ _⟩
    rcases at_or_no ((S.c i).set ((S.c i).of a)) a with ⟨j, hj⟩ | hj
    · cases hf : fits a z
      · exact miss (Or.inr hf)
      · obtain ⟨zn, rfl⟩ : ∃ zn : Nat, z = zn := by
          simp only [fits, Bool.or_eq_true, decide_eq_true_eq] at hf
          exact ⟨z.toNat, by omega⟩
        have st := iv.co.st i hi
        have hl := (st.has a hj).1
        have hb8 := (iv.co.se.line i _ ⟨hi, hl⟩).2.2.2.2.2.2.2
        refine ⟨leN (fun t => (((S.c i).set ((S.c i).of a)).getD j l0).b (a % 16 + t)) zn, true, S.cput i ((S.c i).used ((S.c i).of a) j), iv.used i hi a j hj, rfl, ?_, fun y hy => ?_⟩
        · refine h.onP (P := fun e => e = .returned (.tuple #[.int .u32 (leN (fun t => (((S.c i).set ((S.c i).of a)).getD j l0).b (a % 16 + t)) zn : Nat), .bool true])) (N' := N) (S' := S.cput i ((S.c i).used ((S.c i).of a) j)) (fun G hb => ?_)
          exact uread hb i a zn j ha hh hj hf (fun t _ => hb8 t)
        · refine hy.onR (P := fun e => e = .returned (.tuple #[.int .u32 (leN (fun t => (((S.c i).set ((S.c i).of a)).getD j l0).b (a % 16 + t)) zn : Nat), .bool true])) (R' := S.cput i ((S.c i).used ((S.c i).of a) j)) (fun G hr => ?_)
          exact ruread_hit hr i a zn j ha hh hj hf
    · exact miss (Or.inl hj)
theorem kind3 (h : Two x gp gr F N S S) (iv : Iv S f) (hN : N < 1000000) (core : Int) (a : Nat) (z : Int) (d : Nat) (ha : a < 4294967296) (hd : d < 4294967296) : ∃ (ok : Bool) (S' : BS) (f' : Nat → Nat), Iv S' f' ∧ S'.len = S.len ∧ Calls Tryd.prog 13 #[.pointer (some ⟨gp.p, 0, none⟩), .int .i64 core, .int .u32 a, .int .i64 z, .int .u32 d] x (fun e w' => e = .returned (.bool ok) ∧ Two w' gp gr F (N + 1) S' S ∧ Turned (fun j => ¬ F j) x w') ∧ ∀ y, Two y gp gr F (N + 1) S' S → Calls Tryd.prog 14 #[.pointer (some ⟨gr.p, 0, none⟩), .int .i64 core, .int .i64 a, .int .i64 z, .int .u32 d] y (fun e w' => e = .returned (.bool ok) ∧ Two w' gp gr F (N + 1) S' S' ∧ Turned (fun j => ¬ F j) y w') := by
  have hup := h.up (N' := N + 1) (by omega)
  cases hh : S.has core a
  · refine ⟨false, S, f, iv, rfl, ?_, fun y hy => ?_⟩
    · refine hup.onP (P := fun e => e = .returned (.bool false)) (N' := N + 1) (S' := S) (fun G hb => ?_)
      refine (uwrite_no hb core a z d ha hh).mono ?_
      rintro e w' ⟨rfl, rfl⟩
      exact ⟨rfl, hb, Turned.refl _ _⟩
    · refine hy.onR (P := fun e => e = .returned (.bool false)) (R' := S) (fun G hr => ?_)
      refine (ruwrite_no hr core a z d ha hh).mono ?_
      rintro e w' ⟨rfl, rfl⟩
      exact ⟨rfl, hr, Turned.refl _ _⟩
  · obtain ⟨i, rfl, hi, alo, ahi⟩ := has_core hh
    have bad : (No ((S.c i).set ((S.c i).of a)) a ∨ fits a z = false ∨ ∃ j, At ((S.c i).set ((S.c i).of a)) a j ∧ (((S.c i).set ((S.c i).of a)).getD j l0).s = 1) → (No ((S.c i).set ((S.c i).of a)) a ∨ fits a z = false ∨ (S.c i).st a < 2) → ∃ (ok : Bool) (S' : BS) (f' : Nat → Nat), Iv S' f' ∧ S'.len = S.len ∧ Calls Tryd.prog 13 #[.pointer (some ⟨gp.p, 0, none⟩), .int .i64 (i : Nat), .int .u32 a, .int .i64 z, .int .u32 d] x (fun e w' => e = .returned (.bool ok) ∧ Two w' gp gr F (N + 1) S' S ∧ Turned (fun j => ¬ F j) x w') ∧ ∀ y, Two y gp gr F (N + 1) S' S → Calls Tryd.prog 14 #[.pointer (some ⟨gr.p, 0, none⟩), .int .i64 (i : Nat), .int .i64 a, .int .i64 z, .int .u32 d] y (fun e w' => e = .returned (.bool ok) ∧ Two w' gp gr F (N + 1) S' S' ∧ Turned (fun j => ¬ F j) y w') := fun h1 h2 => by
      refine ⟨false, S, f, iv, rfl, ?_, fun y hy => ?_⟩
      · refine hup.onP (P := fun e => e = .returned (.bool false)) (N' := N + 1) (S' := S) (fun G hb => ?_)
        refine (uwrite_bad hb i a z d ha hh h1).mono ?_
        rintro e w' ⟨rfl, b⟩
        exact ⟨rfl, bu_below hb b⟩
      · refine hy.onR (P := fun e => e = .returned (.bool false)) (R' := S) (fun G hr => ?_)
        refine (ruwrite_bad hr i a z d ha hh h2).mono ?_
        rintro e w' ⟨rfl, rfl⟩
        exact ⟨rfl, hr, Turned.refl _ _⟩
    rcases at_or_no ((S.c i).set ((S.c i).of a)) a with ⟨j, hj⟩ | hj
    · cases hf : fits a z
      · exact bad (Or.inr (Or.inl hf)) (Or.inr (Or.inl hf))
      · obtain ⟨zn, rfl⟩ : ∃ zn : Nat, z = zn := by
          simp only [fits, Bool.or_eq_true, decide_eq_true_eq] at hf
          exact ⟨z.toNat, by omega⟩
        have st := iv.co.st i hi
        have hl := (st.has a hj).1
        have ll := iv.co.se.line i _ ⟨hi, hl⟩
        have hb8 := ll.2.2.2.2.2.2.2
        have s13 := ll.2.2.2.2.1
        have h4 := iv.co.len.1
        by_cases hs : (((S.c i).set ((S.c i).of a)).getD j l0).s = 1
        · exact bad (Or.inr (Or.inr ⟨j, hj, hs⟩)) (Or.inr (Or.inr (by rw [CS.st_at hj]; omega)))
        · refine ⟨true, S.wrt i a j d zn, _, iv.wrt i hi a j d zn hj (by omega) (fits16 hf), rfl, ?_, fun y hy => ?_⟩
          · refine h.onP (P := fun e => e = .returned (.bool true)) (N' := N + 1) (S' := S.wrt i a j d zn) (fun G hb => ?_)
            exact uwrite hb (by omega) i a zn d j (by omega) hd hh hj hf hs st hb8
          · refine hy.onR (P := fun e => e = .returned (.bool true)) (R' := S.wrt i a j d zn) (fun G hr => ?_)
            exact ruwrite_good hr i a zn d j ha hh hj hf (by omega)
    · exact bad (Or.inl hj) (Or.inl hj)
theorem kind4s (h : Two x gp gr F N S S) (core : Int) (a : Nat) (ha : a < 4294967296) : Calls Tryd.prog 15 #[.pointer (some ⟨gp.p, 0, none⟩), .int .i64 core, .int .u32 a] x (fun e w' => e = .returned (.int .i64 (S.st core a : Nat)) ∧ Two w' gp gr F N S S ∧ Turned (fun j => ¬ F j) x w') ∧ ∀ y, Two y gp gr F N S S → Calls Tryd.prog 16 #[.pointer (some ⟨gr.p, 0, none⟩), .int .i64 core, .int .i64 a] y (fun e w' => e = .returned (.int .i64 (S.st core a : Nat)) ∧ Two w' gp gr F N S S ∧ Turned (fun j => ¬ F j) y w') := by
  constructor
  · refine h.onP (P := fun e => e = .returned (.int .i64 (S.st core a : Nat))) (N' := N) (S' := S) (fun G hb => ?_)
    refine (ustate hb core a ha).mono ?_
    rintro e w' ⟨rfl, b⟩
    exact ⟨rfl, bu_below hb b⟩
  · intro y hy
    refine hy.onR (P := fun e => e = .returned (.int .i64 (S.st core a : Nat))) (R' := S) (fun G hr => ?_)
    have hr0 := hr
    obtain ⟨rv, R, last, left, k, -⟩ := hr
    refine (rbstate_any k core a ha).mono ?_
    rintro e w' ⟨rfl, rfl⟩
    exact ⟨rfl, hr0, Turned.refl _ _⟩
theorem kind4b (h : Two x gp gr F N S S) (iv : Iv S f) (core : Int) (hc : i64 core) : Calls Tryd.prog 17 #[.pointer (some ⟨gp.p, 0, none⟩), .int .i64 core] x (fun e w' => e = .returned (.bool (S.ak core).isSome) ∧ Two w' gp gr F N S S ∧ Turned (fun j => ¬ F j) x w') ∧ ∀ y, Two y gp gr F N S S → Calls Tryd.prog 18 #[.pointer (some ⟨gr.p, 0, none⟩), .int .i64 core] y (fun e w' => e = .returned (.bool (S.ak core).isSome) ∧ Two w' gp gr F N S S ∧ Turned (fun j => ¬ F j) y w') := by
  constructor
  · refine h.onP (P := fun e => e = .returned (.bool (S.ak core).isSome)) (N' := N) (S' := S) (fun G hb => ?_)
    refine (ubusy hb core hc).mono ?_
    rintro e w' ⟨rfl, b⟩
    exact ⟨rfl, bu_below hb b⟩
  · intro y hy
    refine hy.onR (P := fun e => e = .returned (.bool (S.ak core).isSome)) (R' := S) (fun G hr => ?_)
    have hr0 := hr
    obtain ⟨rv, R, last, left, k, -⟩ := hr
    refine (rbusy_any k core iv.ao).mono ?_
    rintro e w' ⟨rfl, rfl⟩
    exact ⟨rfl, hr0, Turned.refl _ _⟩
/-- Data -/
theorem kind5 (h : Two x gp gr F N S S) (iv : Iv S f) (hm0 : S.len = 0 → gr.mq = none ∧ gr.mc = 0) : Calls Tryd.prog 19 #[.pointer (some ⟨gp.p, 0, none⟩)] x (fun e w' => e = .returned (.slice (some ⟨x.heap.size, 0, none⟩) S.len S.len) ∧ CellsAt S.len w' x.heap.size (fun o => .int .u8 (f o)) ∧ OwnG S.len w' x.heap.size x.heap.size ∧ Below x.heap.size x w' ∧ Two w' gp gr (fun j => F j ∨ j = x.heap.size) N S S) ∧ ∀ y G, Two y gp gr G N S S → Calls Tryd.prog 20 #[.pointer (some ⟨gr.p, 0, none⟩)] y (fun e w' => ∃ q cap, e = .returned (.slice q S.len cap) ∧ HandB w' q S.len f ∧ Below y.heap.size y w' ∧ (∀ c o, q = some ⟨c, o, none⟩ → y.heap.size ≤ c) ∧ Two w' gp gr (fun j => G j ∨ (y.heap.size ≤ j ∧ j < w'.heap.size)) N S S) := by
  constructor
  · have h0 := h
    obtain ⟨A, B, hb, -⟩ := h
    refine (udataG hb iv.co).mono ?_
    rintro e w' ⟨rfl, c, b, o⟩
    exact ⟨rfl, c, o, b, h0.turn (Q := fun _ => False) (Turned.of_below b) (fun _ q => q.elim) (fun z q => q.imp id (fun e => ⟨by omega, by rw [e]; exact c.here⟩))⟩
  · intro y G hy
    have hy0 := hy
    obtain ⟨A, B, -, hr, -⟩ := hy
    refine (rudata hr iv.co hm0).mono ?_
    rintro e w' ⟨q, cap, rfl, hh, b, hq⟩
    exact ⟨q, cap, rfl, hh, b, hq, hy0.turn (Q := fun _ => False) (Turned.of_below b) (fun _ q => q.elim) (fun z q => q)⟩
end
end Go.Proofs.YtlogdmnhngbkaaaDoor
