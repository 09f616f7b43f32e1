import Derived.Test.YtlogdmnhngbkaaaDoorY41
import Derived.Deep.CutBlock
import Derived.Deep.DeepCutAuto
import Derived.Deep.RegionWith
import Derived.BigQuiet
/-
  BUS' LAW BusSteps: Tick as two calls.
-/
namespace Go.Proofs.YtlogdmnhngbkaaaDoor
open Go Go.RowKit
theorem goes_is {S S2 : BS} (h : S.goes S2) : S2.nc = S.nc ∧ S2.len = S.len ∧ S2.c = S.c ∧ S2.mem = S.mem ∧ S2.nw = S.nw ∧ S2.ak = S.ak ∧ S2.cyc = S.cyc ∧ S2.on = true := by
  rcases h with ⟨h, rfl⟩ | ⟨-, i, -, -, -, rfl⟩
  · exact ⟨rfl, rfl, rfl, rfl, rfl, rfl, rfl, h⟩
  · exact ⟨rfl, rfl, rfl, rfl, rfl, rfl, rfl, rfl⟩
theorem Iv.goes {S S2 : BS} {f : Nat → Nat} (iv : Iv S f) (h : S.goes S2) : Iv S2 f := by
  obtain ⟨a1, a2, a3, a4, a5, a6, a7, a8⟩ := goes_is h
  refine ⟨iv.co.same a1 a2 a3 a4 a5, fun c q => ?_, fun c l wr hc q => ?_, fun _ => ?_, ?_⟩
  · rw [a6] at q
    rw [a1]
    exact iv.ao c q
  · rw [a1] at hc
    rw [a6] at q
    rw [a2, a3]
    exact iv.al c l wr hc q
  · rw [a6]
    rcases h with ⟨h, rfl⟩ | ⟨-, i, hi, b1, -, rfl⟩
    · exact iv.on h
    · exact b1
  · rcases h with ⟨h, rfl⟩ | ⟨-, i, hi, b1, -, rfl⟩
    · exact iv.tu
    · exact nxt_lt S i iv.co.nc.1
/-- how a line comes is the same, before the others let go of it and behind -/
theorem Cg.lowT {S : BS} {f : Nat → Nat} (h : Cg S f) (l : Nat) (hl : l % 16 = 0) : ∀ n, n ≤ S.nc → ∀ j, j < S.nc → (((S.lowN l 1 n).c j).st l ≠ 0 ↔ (S.c j).st l ≠ 0)
  | 0, _, j, _ => Iff.rfl
  | n + 1, hn, j, hj => by
    have ih := h.lowT l hl n (by omega) j hj
    obtain ⟨a1, -⟩ := h.lowN l 1 hl (by omega) n (by omega)
    obtain ⟨t1, t2, t3, t4⟩ := lowN_same S l 1 n
    have e2 : S.lowN l 1 (n + 1) = (S.lowN l 1 n).lowAt l 1 n := rfl
    rw [e2]
    obtain ⟨U, hU⟩ : ∃ U, S.lowN l 1 n = U := ⟨_, rfl⟩
    rw [hU] at ih a1 t2 ⊢
    by_cases e : j = n
    · subst e
      rw [← ih]
      unfold BS.lowAt
      split
      · rename_i c
        obtain ⟨c1, c2⟩ := c
        obtain ⟨q1, q2, q3, q4, q5⟩ := a1.low j (by rw [t2]; exact hj) l 1 hl (by omega) c2
        have ec : ((U.cput j ((U.c j).lowTo l 1)).wb ((U.c j).ln l)).c j = (U.c j).lowTo l 1 := if_pos rfl
        have st' : Stc ((U.c j).lowTo l 1) := by
          have := q1.st j (by show j < U.nc; rw [t2]; exact hj)
          rw [ec] at this
          exact this
        rw [ec]
        have h1 : ((U.c j).lowTo l 1).st l = 1 := by
          have := st'.st_is l ((q2 _).2 (Or.inr ⟨rfl, rfl⟩)) (by rw [lineOf_self hl]; exact q4)
          exact this
        constructor
        · intro _
          omega
        · intro _
          omega
      · exact Iff.rfl
    · rw [(lowAt_same U l 1 n).2.2.2 j e]
      exact ih
theorem do2_c (R : BS) (l j : Nat) (h : j ≠ R.turn) : (R.do2 l).c j = R.c j := by
  unfold BS.do2
  split
  · rfl
  · exact if_neg h
theorem then_is {S : BS} {f : Nat → Nat} (h : Cg S f) (l : Nat) (wr : Bool) (tw : Nat) (htw : tw = if wr then 0 else 1) (hl : l % 16 = 0) : S.toA l wr S.nc = ((S.lowN l tw S.nc).do2 l).then' l := by
  obtain ⟨t1, t2, t3, -⟩ := lowN_same S l tw S.nc
  obtain ⟨r1, r2, r3, -⟩ := h.lowN l tw hl (by rw [htw]; split <;> omega) S.nc (Nat.le_refl _)
  obtain ⟨n1, n2, n3⟩ := do2_same (S.lowN l tw S.nc) l
  rw [t1] at n1
  rw [t2] at n2
  unfold BS.toA BS.then'
  have key : (wr = false ∧ S.oth l S.nc) ↔ ((S.lowN l tw S.nc).do2 l).oth l ((S.lowN l tw S.nc).do2 l).nc := by
    rw [n2]
    unfold BS.oth
    rw [n1]
    cases wr
    · obtain rfl : tw = 1 := by simpa using htw
      constructor
      · rintro ⟨-, j, h1, h2, h3⟩
        refine ⟨j, h1, h2, ?_⟩
        rw [do2_c _ _ _ (by rw [t1]; exact h2)]
        exact (h.lowT l hl S.nc (Nat.le_refl _) j h1).2 h3
      · rintro ⟨j, h1, h2, h3⟩
        refine ⟨rfl, j, h1, h2, ?_⟩
        rw [do2_c _ _ _ (by rw [t1]; exact h2)] at h3
        exact (h.lowT l hl S.nc (Nat.le_refl _) j h1).1 h3
    · obtain rfl : tw = 0 := by simpa using htw
      constructor
      · rintro ⟨q, -⟩
        cases q
      · rintro ⟨j, h1, h2, h3⟩
        rw [do2_c _ _ _ (by rw [t1]; exact h2)] at h3
        have := r3 j h1 h2
        omega
  by_cases c : wr = false ∧ S.oth l S.nc
  · rw [if_pos c, if_pos (key.1 c)]
  · rw [if_neg c, if_neg (fun q => c (key.2 q))]
/-- what a transaction does: both alike -/
theorem both_do {S : BS} {f : Nat → Nat} (gp : Bn) (gr : Rn) (N : Nat) (co : Cg S f) (ht : S.turn < S.nc) (l : Nat) (wr : Bool) (h16 : l % 16 = 0) (hlo : 65536 ≤ l) (hhi : l < 65536 + S.len) (hown : (S.c S.turn).st l ≤ 1) : ∃ (D : BS) (T : List Snp), Cg D f ∧ D.ak = S.ak ∧ D.on = S.on ∧ D.nc = S.nc ∧ D.len = S.len ∧ D.turn = S.turn ∧ (∀ j, j ≠ S.turn → ∀ a, (D.c j).st a ≤ max 1 ((S.c j).st a)) ∧ T.length ≤ 4 ∧ (∀ e ∈ T, e.a < 4294967296) ∧ (∀ (y : World) (G : Nat → Prop), Bu y gp G N S → Calls Tryd.prog 29 #[.pointer (some ⟨gp.p, 0, none⟩), .agg #[.int .u32 l, .bool wr]] y (DoesT gp N D T y G)) ∧ (∀ (y : World) (G : Nat → Prop), Ru y gr G S → Calls Tryd.prog 30 #[.pointer (some ⟨gr.p, 0, none⟩), .int .i64 (S.turn : Nat), .int .i64 (l : Nat), .bool wr] y (DoesR gr D T y G)) := by
  have h4 := co.len.1
  have hl : l < 4294967296 := by omega
  have hh : hasB l S.len = true := by unfold hasB; simp; omega
  have h8 : ∀ i, i < S.nc → ∀ t, ((S.c i).ln l).b t < 256 := fun i hi => co.ln8 i hi l
  obtain ⟨tw, htw⟩ : ∃ tw, tw = if wr then 0 else 1 := ⟨_, rfl⟩
  have htw1 : tw ≤ 1 := by rw [htw]; split <;> omega
  obtain ⟨d1, d2, d3, d4, d5, d6, d7, d8, d9⟩ := co.does ht l tw h16 hlo hhi htw1 hown
  obtain ⟨t1, t2, t3, -⟩ := lowN_same S l tw S.nc
  obtain ⟨n1, n2, n3⟩ := do2_same (S.lowN l tw S.nc) l
  have hth := then_is co l wr tw htw h16
  have lf : (((S.lowN l tw S.nc).do2 l).c S.turn).full l = true → (∀ t, ((((S.lowN l tw S.nc).do2 l).c S.turn).left l).b t < 256) ∧ ((((S.lowN l tw S.nc).do2 l).c S.turn).left l).a < 4294967296 ∧ ((((S.lowN l tw S.nc).do2 l).c S.turn).left l).a % 16 = 0 ∧ hasB ((((S.lowN l tw S.nc).do2 l).c S.turn).left l).a S.len = true := fun hf => by
    have ll := d4.se.line S.turn _ ⟨by rw [n2, t2]; exact ht, d3 hf⟩
    have l3 := ll.2.2.1
    have l4 := ll.2.2.2.1
    rw [n3, t3] at l4
    exact ⟨ll.2.2.2.2.2.2.2, by omega, ll.2.1, by unfold hasB; simp; omega⟩
  have e4 : ∀ Q : BS, (Q.do4 l).nc = Q.nc ∧ (Q.do4 l).len = Q.len ∧ (Q.do4 l).turn = Q.turn := fun Q => by
    unfold BS.do4 BS.do3
    split <;> exact ⟨rfl, rfl, rfl⟩
  obtain ⟨m1, m2, m3⟩ := e4 ((S.lowN l tw S.nc).do2 l)
  have hTl : (S.toldN l tw S.nc).length ≤ 2 := Nat.le_trans (told_le S l tw S.nc) co.nc.2
  have hT1 : (((S.lowN l tw S.nc).do2 l).told4 l).length ≤ 1 := by unfold BS.told4; split <;> simp
  have hTa : ∀ e ∈ S.toldN l tw S.nc, e.a < 4294967296 := by
    have : ∀ n, ∀ e ∈ S.toldN l tw n, e.a = l := fun n => by
      induction n with
      | zero => intro e he; cases he
      | succ n ih =>
        intro e he
        have he : e ∈ S.toldN l tw n ++ S.toldAt l tw n := he
        rcases List.mem_append.1 he with q | q
        · exact ih e q
        · unfold BS.toldAt at q
          split at q
          · rw [List.mem_singleton.1 q]
          · cases q
    intro e he
    rw [this S.nc e he]
    exact hl
  refine ⟨_, S.toldN l tw S.nc ++ ((S.lowN l tw S.nc).do2 l).told4 l ++ [⟨S.turn, l, ((S.lowN l tw S.nc).c S.turn).st l, ((S.lowN l tw S.nc).do2 l).then' l⟩], d1, d6, d7, by rw [m1, n2, t2], by rw [m2, n3, t3], by rw [m3, n1, t1], d9, ?_, ?_, ?_, ?_⟩
  · simp only [List.length_append, List.length_singleton]
    omega
  · intro e he
    rcases List.mem_append.1 he with q | q
    · rcases List.mem_append.1 q with q | q
      · exact hTa e q
      · unfold BS.told4 at q
        split at q
        · rename_i hf
          rw [n1, t1] at hf
          rw [List.mem_singleton.1 q]
          show ((((S.lowN l tw S.nc).do2 l).c ((S.lowN l tw S.nc).do2 l).turn).left l).a < _
          rw [n1, t1]
          exact (lf hf).2.1
        · cases q
    · rw [List.mem_singleton.1 q]
      exact hl
  · intro y G hy
    refine udo hy l wr hl h16 hh (S.lowN l tw S.nc) (S.toldN l tw S.nc) ⟨t1, t2, t3⟩ (by omega) (fun y G hy => ?_) d2 (fun hf _ => lf hf)
    cases wr
    · obtain rfl : tw = 1 := by simpa using htw
      exact ulow_r hy l hl h16 hh h8
    · obtain rfl : tw = 0 := by simpa using htw
      exact ulow_w hy l hl h16 hh h8
  · intro y G hy
    cases wr
    · obtain rfl : tw = 1 := by simpa using htw
      exact rdone_f hy l hl h16 hh h8 d2 (fun hf _ => ⟨(lf hf).2.1, (lf hf).2.2.1, (lf hf).2.2.2, fun t _ => (lf hf).1 t⟩) hth
    · obtain rfl : tw = 0 := by simpa using htw
      exact rdone_t hy l hl h16 hh h8 d2 (fun hf _ => ⟨(lf hf).2.1, (lf hf).2.2.1, (lf hf).2.2.2, fun t _ => (lf hf).1 t⟩) hth
section
variable {x y : World} {gp : Bn} {gr : Rn} {F : Nat → Prop} {N : Nat} {S : BS} {f : Nat → Nat}
theorem goes_or (S : BS) : (S.on = false ∧ ∀ j, j < S.nc → (S.ak (S.nxt j : Nat)).isSome = false) ∨ ∃ S2, S.goes S2 := by
  cases hon : S.on
  · by_cases h : ∃ i, i < S.nc ∧ (S.ak (S.nxt i : Nat)).isSome = true
    · right
      obtain ⟨i, hi, ha⟩ := h
      induction i using Nat.strongRecOn with
      | ind i ih =>
        by_cases q : ∃ j, j < i ∧ (S.ak (S.nxt j : Nat)).isSome = true
        · obtain ⟨j, q1, q2⟩ := q
          exact ih j q1 (by omega) q2
        · refine ⟨_, Or.inr ⟨hon, i, hi, ha, fun j hj => ?_, rfl⟩⟩
          cases e : (S.ak (S.nxt j : Nat)).isSome
          · rfl
          · exact absurd ⟨j, hj, e⟩ q
    · left
      refine ⟨rfl, fun j hj => ?_⟩
      cases e : (S.ak (S.nxt j : Nat)).isSome
      · rfl
      · exact absurd ⟨j, hj, e⟩ h
  · exact Or.inr ⟨S, Or.inl ⟨hon, rfl⟩⟩
theorem nil_row (w : World) (B : Nat) (e : TypeId) : w.ownsRow B e 4 (.slice none 0 0) ([] : List Snp).length (flatS []) := World.ownsRow_nil _ _ _ _
theorem nil_rowT (w : World) (B : Nat) (e : TypeId) : w.ownsRow B e 4 (.slice none 0 0) ([] : List Snp).length (flatT []) := World.ownsRow_nil _ _ _ _
theorem does_nil {g : Bn} {x w' : World} {G : Nat → Prop} {N : Nat} {S' : BS} (h : Bu w' g G N S') (t : Turned (fun j => ¬ G j) x w') : DoesT g N S' [] x G (.returned (.slice none 0 0)) w' := ⟨_, rfl, nil_row _ _ _, h.less (fun z hz => hz.elim id (fun q => by simp [Value.ownBlock] at q)), t⟩
theorem doesR_nil {g : Rn} {x w' : World} {G : Nat → Prop} {S' : BS} (h : Ru w' g G S') (t : Turned (fun j => ¬ G j) x w') : DoesR g S' [] x G (.returned (.slice none 0 0)) w' := ⟨_, rfl, nil_rowT _ _ _, h.less (fun z hz => hz.elim id (fun q => by simp [Value.ownBlock] at q)), t⟩
theorem kind1 (h : Two x gp gr F N S S) (iv : Iv S f) : ∃ (T : List Snp) (S' : BS), Iv S' f ∧ S'.len = S.len ∧ T.length ≤ 4 ∧ (∀ e ∈ T, e.a < 4294967296) ∧ Calls Tryd.prog 8 #[.pointer (some ⟨gp.p, 0, none⟩)] x (fun e w' => ∃ v, e = .returned v ∧ w'.ownsRow x.heap.size 84 4 v T.length (flatS T) ∧ Two w' gp gr (fun j => F j ∨ v.ownBlock = some j) N S' S ∧ Turned (fun j => ¬ F j) x w') ∧ ∀ y G, Two y gp gr G N S' S → Calls Tryd.prog 9 #[.pointer (some ⟨gr.p, 0, none⟩)] y (fun e w' => ∃ v, e = .returned v ∧ w'.ownsRow y.heap.size 86 4 v T.length (flatT T) ∧ Two w' gp gr (fun j => G j ∨ v.ownBlock = some j) N S' S' ∧ Turned (fun j => ¬ G j) y w') := by
  rcases goes_or S with ⟨hon, hno⟩ | ⟨S2, hg⟩
  · refine ⟨[], S, iv, rfl, by simp, fun e he => (by cases he), h.onPT (fun G hb => ?_), fun y G hy => hy.onRT (fun G' hr => ?_)⟩
    · refine (utick_idle hb hon hno).mono ?_
      rintro e w' ⟨rfl, hb', t⟩
      exact does_nil hb' t
    · refine (rtick_idle hr hon hno).mono ?_
      rintro e w' ⟨rfl, rfl⟩
      exact doesR_nil hr (Turned.refl _ _)
  · have iv2 := iv.goes hg
    obtain ⟨a1, a2, a3, a4, a5, a6, a7, a8⟩ := goes_is hg
    by_cases hw : S2.tk < S2.cyc
    · have iv' : Iv { S2 with tk := S2.tk + 1 } f := iv2.put (iv2.co.same rfl rfl rfl rfl rfl) rfl rfl rfl rfl rfl (fun c l wr hc q => (iv2.al c l wr hc q).2.2.2)
      refine ⟨[], { S2 with tk := S2.tk + 1 }, iv', a2, by simp, fun e he => (by cases he), h.onPT (fun G hb => ?_), fun y G hy => hy.onRT (fun G' hr => ?_)⟩
      · refine (utick_wait hb hg hw).mono ?_
        rintro e w' ⟨rfl, hb', t⟩
        exact does_nil hb' t
      · refine (rtick_wait hr hg hw).mono ?_
        rintro e w' ⟨rfl, hr', t⟩
        exact doesR_nil hr' t
    · obtain ⟨⟨l, wr⟩, ha⟩ := Option.isSome_iff_exists.1 (iv2.on a8)
      obtain ⟨b1, b2, b3, b4⟩ := iv2.al S2.turn l wr iv2.tu ha
      have co3 : Cg { S2 with on := false, ak := updO S2.ak (S2.turn : Nat) none } f := iv2.co.same rfl rfl rfl rfl rfl
      obtain ⟨D, T, c1, c2, c3, c4, c5, c6, c7, c8, c9, c10, c11⟩ := both_do gp gr N co3 iv2.tu l wr b1 b2 b3 b4
      have hak : ∀ c : Int, D.ak c = if c = (S2.turn : Nat) then none else S2.ak c := fun c => by rw [c2]; rfl
      have iv' : Iv D f := by
        refine ⟨c1, fun c q => ?_, fun c l' w' hc q => ?_, fun q => ?_, by rw [c6, c4]; exact iv2.tu⟩
        · rw [hak] at q
          split at q
          · cases q
          · rw [c4]
            exact iv2.ao c q
        · rw [hak] at q
          split at q
          · cases q
          · rename_i hne
            rw [c4] at hc
            obtain ⟨e1, e2, e3, e4⟩ := iv2.al c l' w' hc q
            rw [c5]
            refine ⟨e1, e2, e3, ?_⟩
            have h1 : (D.c c).st l' ≤ max 1 ((S2.c c).st l') := c7 c (by show c ≠ S2.turn; omega) l'
            omega
        · rw [c3] at q
          cases q
      refine ⟨T, D, iv', c5.trans a2, c8, c9, h.onPT (fun G hb => utick_doT hb hg hw l wr ha c10), fun y G hy => hy.onRT (fun G' hr => rtick_do hr hg hw l wr ha c11)⟩
end
end Go.Proofs.YtlogdmnhngbkaaaDoor
/-
  BUS' LAW BusSteps: its own helpers: told, bytes.
-/
namespace Go.Proofs.YtlogdmnhngbkaaaDoor
open Go Go.RowKit
theorem ltoldB_nil (w : World) : Calls Tryd.prog 7 #[.nilIface, .int .i64 0] w fun e w' => e = .returned (.bool true) ∧ Below w.heap.size w w' := by
  go_enter Tryd.func7, Tryd.ntmps7
  go_wp2_with (go_at_call 27; refine (told_nil _).mono ?_; rintro e w1 ⟨rfl, hb⟩; have HB := Hid.in hb; clear hb)
  go_ret
  exact ⟨rfl, HB.out⟩
theorem ltoldB_err (k : Int) (w : World) (hg : handleAt w) : Calls Tryd.prog 7 #[errV k, .int .i64 k] w fun e w' => e = .returned (.bool true) ∧ Below w.heap.size w w' := by
  have HG := Hid.in hg
  clear hg
  unfold errV
  go_enter Tryd.func7, Tryd.ntmps7
  go_wp2_with (go_at_call 27; refine (told_err k _ HG.out).mono ?_; rintro e w1 ⟨rfl, hb⟩; have HB := Hid.in hb; clear hb)
  go_ret
  exact ⟨by simp, HB.out⟩
theorem ltoldB_of (er : Int) (w : World) (hg : handleAt w) : Calls Tryd.prog 7 #[errOf er, .int .i64 er] w fun e w' => e = .returned (.bool true) ∧ Below w.heap.size w w' := by
  unfold errOf
  split
  · rename_i e
    subst e
    exact ltoldB_nil w
  · exact ltoldB_err er w hg
theorem own_list {w : World} {B b n : Nat} {f : Nat → Nat} (h : OwnG n w B b) (c : CellsAt n w b (fun o => .int .u8 (f o : Nat))) : w.ownsRow B 5 1 (.slice (some ⟨b, 0, none⟩) n n) n ((List.range n).map fun i => .int .u8 (f i : Nat)) := by
  obtain ⟨xs, h⟩ := h
  have hl : xs.length = n := by
    have := h.1
    omega
  have e : xs = (List.range n).map fun i => .int .u8 (f i : Nat) := by
    apply List.ext_getElem?
    intro o
    by_cases ho : o < n
    · rw [List.getElem?_map, List.getElem?_range ho, ← World.ownsRow.cellAt h o (by omega), c.cell o ho]
      rfl
    · rw [List.getElem?_eq_none (by omega), List.getElem?_eq_none (by simp; omega)]
  rw [e] at h
  exact h
/-- a row has grown: it stands where it stood, or is new -/
def Fr (g v : Value) (B : Nat) : Prop := v.ownBlock = g.ownBlock ∨ ∃ j, v.ownBlock = some j ∧ B ≤ j
theorem app1 {x : World} {B n : Nat} {g : Value} {ls : List Value} (h : x.ownsRow B 5 1 g n ls) (hn : n ≤ 5000) (hB : B ≤ x.heap.size) (b : Int) : ∃ oq oc q' cap' Z, g = .slice oq n oc ∧ (Builtin.append_ #[23, 23] 23 #[g, .slice (some ⟨x.heap.size, 0, none⟩) 1 1]).run Tryd.prog (x.alloc (.cells #[.int .u8 b] 5)) = .ok (.slice q' (n + 1) cap') Z ∧ (∃ ls', Z.ownsRow B 5 1 (.slice q' (n + 1) cap') (n + 1) ls') ∧ Turned (fun j => g.ownBlock = some j) x Z ∧ Fr g (.slice q' (n + 1) cap') x.heap.size := by
  obtain ⟨i0, hi0, hz0, hz1, hz2⟩ := info_parts (show (Tryd.prog.info? 5).map (fun i => (i.zero, i.size, i.bytes)) = some (some (.int .u8 0), 1, 1) by kernel_rfl)
  obtain ⟨Y, hY⟩ : ∃ Y, x.alloc (.cells #[.int .u8 b] 5) = Y := ⟨_, rfl⟩
  have bY : Below x.heap.size x Y := by rw [← hY]; exact (Below.refl _ _).alloc (Nat.le_refl _) _
  have hnew : Y.cell? ⟨x.heap.size, 0, none⟩ = some (.int .u8 b) := by rw [← hY]; exact World.cell?_alloc_new x _ _ 0
  have hown := own_turned h (Turned.of_below (Q := fun _ => False) bY) (fun _ _ q => q)
  obtain ⟨v', Z, hrun, r1, r2, r3, r4⟩ := run_append_own_at (P := Tryd.prog) (w := Y) B 23 23 5 i0 (.int .u8 0) 1 1 Tryd.underlying23 hi0 hz0 hz1 hz2 rfl (by decide) g n _ hown ⟨x.heap.size, 0, none⟩ 1 1 [.int .u8 b] rfl (fun j y hj => by
    match j, hj with
    | 0, hj => rw [← Option.some.inj hj]; exact hnew) (by simp [Value.oneCell']) (by unfold maxLen; omega) (by omega) (Nat.le_trans hB bY.size)
  obtain ⟨q', cap', rfl⟩ : ∃ q' cap', v' = .slice q' (n + 1) cap' := by
    rcases r1.2 with ⟨h, h0⟩ | ⟨g, cp, cur, h, -⟩
    · omega
    · exact ⟨_, _, h⟩
  obtain ⟨oq, oc, rfl⟩ : ∃ oq oc, g = .slice oq n oc := by
    rcases hown.2 with ⟨h, h0⟩ | ⟨g, cp, cur, h, -⟩
    · exact ⟨none, 0, by rw [h, h0]⟩
    · exact ⟨_, _, h⟩
  rw [hY]
  refine ⟨oq, oc, q', cap', Z, rfl, hrun, ⟨_, r1⟩, (Turned.of_below bY).trans (turned_grown r2), ?_⟩
  rcases r4 with q | q
  · exact Or.inl q
  · exact Or.inr ⟨_, q, bY.size⟩
def ovr (mem : Nat → Nat) (len k : Nat) : List Value := (List.range len).map fun i => .int .u8 (if i < k then ((mem i : Int) + 101) % 256 else (mem i : Int))
theorem ovr_zero (mem : Nat → Nat) (len : Nat) : ovr mem len 0 = (List.range len).map fun i => .int .u8 (mem i : Nat) := by
  unfold ovr
  simp
theorem ovr_next (mem : Nat → Nat) (len k : Nat) (hk : k < len) : (ovr mem len k).set k (.int .u8 (((mem k : Int) + 101) % 256)) = ovr mem len (k + 1) := by
  apply List.ext_getElem?
  intro i
  unfold ovr
  rw [List.getElem?_set]
  by_cases e : k = i
  · subst e
    simp [hk]
  · rw [if_neg e, List.getElem?_map, List.getElem?_map]
    by_cases hi : i < len
    · rw [List.getElem?_range hi]
      simp only [Option.map_some]
      by_cases h1 : i < k
      · rw [if_pos h1, if_pos (by omega)]
      · rw [if_neg h1, if_neg (by omega)]
    · rw [List.getElem?_eq_none (by simpa using hi)]
      rfl
theorem own_at {w : World} {base : Nat} {e : TypeId} {g n cap : Nat} {xs : List Value} (h : w.ownsRow base e 1 (.slice (some ⟨g, 0, none⟩) n cap) n xs) (i : Nat) (hi : i < n) (v : Value) (hv : xs[i]? = some v) : w.cell? ⟨g, i, none⟩ = some v ∧ w.frozen? ⟨g, i, none⟩ = false ∧ g < w.heap.size := by
  rcases h.2 with ⟨q, _⟩ | ⟨b, cp, cur, h1, h2, h3, h4, h5, h6, h7⟩
  · cases q
  · obtain ⟨rfl, rfl⟩ : g = b ∧ cap = cp := by
      simp only [Value.slice.injEq, Option.some.injEq, Addr.mk.injEq] at h1
      exact ⟨h1.1.1, h1.2.2⟩
    refine ⟨?_, frz h3 i, ?_⟩
    · have e1 : (cur.toList.take (n * 1))[i]? = some v := by rw [h7]; exact hv
      rw [List.getElem?_take, if_pos (by omega)] at e1
      simp only [World.cell?, h3]
      simpa using e1
    · exact (Array.getElem?_eq_some_iff.1 h3).1
set_option maxRecDepth 100000 in
set_option maxHeartbeats 2000000 in
theorem bytes_any (q mq : Option Addr) (cap len B dc : Nat) (mem : Nat → Nat) (w : World) (ho : w.ownsRow B 5 1 (.slice q len cap) len ((List.range len).map fun i => .int .u8 (mem i : Nat))) (hw : HandB w mq len mem) (hm : ∀ o, o < len → mem o < 256) (hne : ∀ c o, mq = some ⟨c, o, none⟩ → (Value.slice q len cap).ownBlock ≠ some c) (hl : len ≤ 4096) (hB : B ≤ w.heap.size) : Calls Tryd.prog 21 #[.slice q len cap, .slice mq len dc] w fun e w' => e = .returned (.bool true) ∧ Turned (fun j => (Value.slice q len cap).ownBlock = some j) w w' := by
  have HO := Hid.in ho
  have HW := Hid.in hw
  have HM := Hid.in hm
  have HNE := Hid.in hne
  have HB := Hid.in hB
  clear ho hw hm hne hB
  go_enter Tryd.func21, Tryd.ntmps21
  go_wp2
  go_loopw [5] (fun i wr => ∃ k : Nat, i = .int .i64 k ∧ k ≤ len ∧ Turned (fun j => (Value.slice q len cap).ownBlock = some j) w wr ∧ wr.ownsRow B 5 1 (.slice q len cap) len (ovr mem len k)) (fun i _ => 5000 - (intOf i).toNat)
  case atStart => exact ⟨0, rfl, Nat.zero_le _, Turned.of_below (Below.refl _ _), by rw [ovr_zero]; exact HO.out⟩
  case round =>
    obtain ⟨k, rfl, hk, hT, hW⟩ := hrel
    have HT := Hid.in hT
    have HWR := Hid.in hW
    clear hT hW
    by_cases hlt : k < len
    · have hlt' : (k : Int) < (len : Int) := by omega
      have hk4 : k < 4096 := by omega
      obtain ⟨g, rfl⟩ : ∃ g, q = some ⟨g, 0, none⟩ := by
        rcases HWR.out.2 with ⟨h, h0⟩ | ⟨g, cp, cur, h, -⟩
        · omega
        · simp only [Value.slice.injEq] at h
          exact ⟨g, h.1⟩
      obtain ⟨d1, d2, d3⟩ := own_at HWR.out k hlt (.int .u8 (mem k : Nat)) (by unfold ovr; simp [hlt])
      obtain ⟨mc, mo, rfl, hmc, hmcell⟩ := HW.out k hlt
      have c1 : wr.cell? ⟨mc, mo + k, none⟩ = some (.int .u8 (mem k : Nat)) := HT.out.to_cell hmc (HNE.out mc mo rfl) hmcell
      have c2 := Nat.lt_of_lt_of_le hmc HT.out.size
      clear hmcell
      have hnx := ovr_next mem len k hlt
      have hm8 := HM.out k hlt
      obtain ⟨mk, hmk⟩ : ∃ mk, mem k = mk := ⟨_, rfl⟩
      rw [hmk] at d1 c1 hnx hm8
      have HNX := Hid.in hnx
      clear hmk hnx
      go_upto_region 6 with fail
      go_quiet (fail)
      go_wp2
      go_roundw
      case rel =>
        have bD : Below wr.heap.size wr (wr.drewN nq) := ⟨rfl, rfl, rfl, Nat.le_refl _, fun _ _ => rfl⟩
        refine ⟨k + 1, by simp, by omega, (HT.out.trans (Turned.of_below bD)).set rfl k _, ?_⟩
        rw [← HNX.out]
        exact own_set (own_turned HWR.out (Turned.of_below (Q := fun _ => False) bD) (fun _ _ q => q)) k _
      case measure =>
        simp [intOf]
        omega
    · obtain rfl : k = len := by omega
      have hlt' : ¬ (k : Int) < (k : Int) := by omega
      go_wp2
      go_loopw [6, 7] (fun gv i wx => ∃ (j : Nat) (oq : Option Addr) (oc : Nat) (ls : List Value), gv = .slice oq (k + j) oc ∧ i = .int .i64 j ∧ j ≤ 70 ∧ Fr (.slice q k cap) (.slice oq (k + j) oc) w.heap.size ∧ Turned (fun j => (Value.slice q k cap).ownBlock = some j) w wx ∧ wx.ownsRow B 5 1 (.slice oq (k + j) oc) (k + j) ls) (fun _ i _ => 100 - (intOf i).toNat)
      case atStart => exact ⟨0, q, cap, _, rfl, rfl, by omega, Or.inl rfl, HT.out, HWR.out⟩
      case round =>
        obtain ⟨j, oq, oc, ls, rfl, rfl, hj, hF, hT2, hW2⟩ := hrel
        by_cases hlt2 : j < 70
        · have hlt2' : (j : Int) < 70 := by omega
          obtain ⟨_, _, q', cap', Z, -, hrun, ⟨ls', hZ⟩, tZ, fZ⟩ := app1 hW2 (by omega) (Nat.le_trans HB.out hT2.size) 238
          have HRUN := Hid.in hrun
          have HZ := Hid.in hZ
          have HTZ := Hid.in tZ
          have HFZ := Hid.in fZ
          have HF := Hid.in hF
          have HT2 := Hid.in hT2
          clear hrun hZ tZ fZ hF hT2 hW2 HT HWR HO HW HM HNE
          go_wp2_with (at_builtin; refine wpList_append_run (v := .slice oq (k + j) oc) (u := .slice (some ⟨wr.heap.size, 0, none⟩) 1 1) rfl rfl rfl rfl HRUN.out ?_)
          go_roundw
          case rel =>
            refine ⟨j + 1, q', cap', ls', by rw [Nat.add_assoc], by simp, by omega, ?_, ?_, by rw [← Nat.add_assoc]; exact HZ.out⟩
            · rw [← Nat.add_assoc]
              rcases HFZ.out with h | ⟨g, h1, h2⟩
              · rcases HF.out with h' | ⟨g, h1, h2⟩
                · exact Or.inl (h.trans h')
                · exact Or.inr ⟨g, h.trans h1, h2⟩
              · exact Or.inr ⟨g, h1, Nat.le_trans HT2.out.size h2⟩
            · refine ⟨HTZ.out.os.trans HT2.out.os, HTZ.out.tape.trans HT2.out.tape, HTZ.out.output.trans HT2.out.output, Nat.le_trans HT2.out.size HTZ.out.size, fun b hb hn => (HTZ.out.block b (Nat.lt_of_lt_of_le hb HT2.out.size) (fun e => ?_)).trans (HT2.out.block b hb hn)⟩
              rcases HF.out with h' | ⟨g, h1, h2⟩
              · exact hn (h'.symm.trans e)
              · rw [h1] at e
                have := Option.some.inj e
                omega
          case measure =>
            simp [intOf]
            omega
        · obtain rfl : j = 70 := by omega
          have HT2 := Hid.in hT2
          clear hT2 hW2 hF HT HWR HO HW HM HNE
          go_wp2
          go_ret
          exact ⟨by simp, HT2.out⟩
end Go.Proofs.YtlogdmnhngbkaaaDoor
