/-
  LSQ's LAW LsqSteps: all its memory; each step, as two calls.
-/
import Derived.Test.YtelcckcfbpjcaaaDoorIb
import Derived.Test.YtelcckcfbpjcaaaDoorIa
import Derived.Test.YtelcckcfbpjcaaaDoorJm
namespace Go.Proofs.YtelcckcfbpjcaaaDoor
open Go Go.RowKit
structure Lz (w0 x : World) (p q : Nat) (v rv : Value) (S : QS) (R : RS) : Prop where
  qm : Qm x w0.heap.size p v S
  rm : Rm x w0.heap.size q rv R
  ap : ∀ j, rmine q rv j → ¬ qmine p v S j
  low : Below w0.heap.size w0 x
section
variable {w0 x y : World} {p q : Nat} {v v' rv rv' : Value} {S S' : QS} {R R' : RS}
theorem Lz.below (k : Lz w0 x p q v rv S R) (t : Below x.heap.size x y) : Lz w0 y p q v rv S R :=
  ⟨k.qm.below t, k.rm.below t, k.ap, k.low.trans (t.mono k.low.size)⟩
theorem Lz.onP (k : Lz w0 x p q v rv S R) (st : Step x y w0.heap.size p v S v' S') : Lz w0 y p q v' rv S' R :=
  ⟨st.q, k.rm.turned st.t k.ap, fun j hj e => (st.o j e).elim (k.ap j hj) (fun h => by have := (k.rm.low j hj).2; omega), k.low.trans (st.t.below k.low.size (fun j hj => (k.qm.low j hj).1))⟩
theorem Lz.onR (k : Lz w0 x p q v rv S R) (st : RStep x y w0.heap.size q rv rv' R') : Lz w0 y p q v rv' S R' :=
  ⟨k.qm.turned st.t (fun j hj e => k.ap j e hj), st.q, fun j hj e => (st.o j hj).elim (fun h => k.ap j h e) (fun h => by have := (k.qm.low j e).2; omega), k.low.trans (st.t.below k.low.size (fun j hj => (k.rm.low j hj).1))⟩
end
def Both (w0 : World) (p q : Nat) (S S' : QS) (R R' : RS) (x : World) (v rv : Value) (fp : FuncId) (ap : Array Value) (ep : Ending) (fr : FuncId) (ar : Array Value) (er : Ending) : Prop :=
  Calls Tryd.prog fp ap x (fun e y => e = ep ∧ ∃ v', Step x y w0.heap.size p v S v' S') ∧ ∀ y, Rm y w0.heap.size q rv R → Calls Tryd.prog fr ar y (fun e z => e = er ∧ ∃ rv', RStep y z w0.heap.size q rv rv' R')
theorem First.ex (f : Nat → Bool) : ∀ n, ∃ r, First f n r
  | 0 => ⟨-1, Or.inr ⟨fun j hj => by omega, rfl⟩⟩
  | n + 1 => by
    obtain ⟨r, h⟩ := First.ex f n
    rcases h with ⟨i, h1, h2, h3, h4⟩ | ⟨h1, h2⟩
    · exact ⟨r, Or.inl ⟨i, by omega, h2, h3, h4⟩⟩
    · cases e : f n
      · exact ⟨-1, Or.inr ⟨fun j hj => by
          rcases Nat.lt_or_ge j n with q | q
          · exact h1 j q
          · obtain rfl : j = n := by omega
            exact e, rfl⟩⟩
      · exact ⟨n, Or.inl ⟨n, by omega, e, h1, rfl⟩⟩
section
variable {w0 x : World} {p q : Nat} {v rv : Value} {S S' : QS} {R R' : RS} {fp fr : FuncId} {ap ar : Array Value} {ep er : Ending}
theorem Both.bad (k : Lz w0 x p q v rv S R) (hp : Calls Tryd.prog fp ap x fun e y => e = ep ∧ Below x.heap.size x y) (hr : ∀ y, Rm y w0.heap.size q rv R → Calls Tryd.prog fr ar y fun e z => e = er ∧ Below y.heap.size y z) : Both w0 p q S S R R x v rv fp ap ep fr ar er :=
  ⟨hp.mono fun _ _ a => ⟨a.1, v, Step.same k.qm a.2⟩, fun y k' => (hr y k').mono fun _ _ a => ⟨a.1, rv, RStep.same k' a.2⟩⟩
theorem below_of {x y : World} (h : y = x) : Below x.heap.size x y := by rw [h]; exact Below.refl _ _
theorem both_enter (k : Lz w0 x p q v rv S R) (H : Same S R) (I : S.Inv) (seq : Int) (hs : seq ≤ 9223372036854775807) (st : Bool) : ∃ (S' : QS) (R' : RS) (er : Int), Same S' R' ∧ S'.Inv ∧ Both w0 p q S S' R R' x v rv 8 #[.pointer (some ⟨p, 0, none⟩), .int .i64 seq, .bool st] (.returned (errOf er)) 9 #[.pointer (some ⟨q, 0, none⟩), .int .i64 seq, .bool st] (.returned (.int .i64 er)) := by
  by_cases h1 : seq < 0 ∨ seq ≤ S.young
  · exact ⟨S, R, 5, H, I, Both.bad k (enter_order _ p v S seq st x k.qm h1) fun y hy => renter_order _ q rv R seq st y hy (by rw [H.young]; exact h1)⟩
  · have h2 : ¬ (seq < 0 ∨ seq ≤ R.young) := by rw [H.young]; exact h1
    by_cases hf : S.on.length < S.size
    · refine ⟨_, _, 0, H.push seq st, I.push seq st (fun q => h1 (Or.inr q)) hf, ?_, fun y hy => ?_⟩
      · exact (enter_good _ p v S seq st x k.qm h1 hs hf).mono fun _ _ a => ⟨a.1, a.2⟩
      · exact (renter_good _ q rv R seq st y hy h2 hs (by rw [H.len, H.size]; exact hf)).mono fun _ _ a => ⟨a.1, a.2⟩
    · have := I.len
      exact ⟨S, R, 4, H, I, Both.bad k (enter_full _ p v S seq st x k.qm h1 (by omega)) fun y hy => renter_full _ q rv R seq st y hy h2 (by rw [H.len, H.size]; omega) (by rw [H.size]; exact I.pos)⟩
/-- where a number stands, in both -/
theorem look_both (H : Same S R) (I : S.Inv) (seq : Int) : (∃ i : Nat, i < S.on.length ∧ (S.at i).n = seq ∧ First (R.isN seq) R.on.length i ∧ ∀ f : Nat → Bool, (∀ j, j < S.on.length → f j = true → (S.at j).n = seq) → First f S.on.length (if f i then (i : Int) else -1)) ∨ (First (R.isN seq) R.on.length (-1) ∧ ∀ f : Nat → Bool, (∀ j, j < S.on.length → f j = true → (S.at j).n = seq) → First f S.on.length (-1)) := by
  rcases I.look seq with ⟨i, hi, hn, ho⟩ | ho
  · refine Or.inl ⟨i, hi, hn, ?_, fun f hf => ?_⟩
    · rw [H.len]
      refine first_one hi ?_ (fun j hj hne => ?_)
      · rw [H.isN seq i hi]
        exact decide_eq_true hn
      · rw [H.isN seq j hj]
        exact decide_eq_false (ho j hj hne)
    · have hz : ∀ j, j < S.on.length → j ≠ i → f j = false := fun j hj hne => by
        cases e : f j
        · rfl
        · exact absurd (hf j hj e) (ho j hj hne)
      cases e : f i
      · refine first_none fun j hj => ?_
        by_cases q : j = i
        · rw [q]; exact e
        · exact hz j hj q
      · exact first_one hi e hz
  · refine Or.inr ⟨?_, fun f hf => ?_⟩
    · rw [H.len]
      refine first_none fun j hj => ?_
      rw [H.isN seq j hj]
      exact decide_eq_false (ho j hj)
    · refine first_none fun j hj => ?_
      cases e : f j
      · rfl
      · exact absurd (hf j hj e) (ho j hj)
theorem pend_n (seq : Int) (j : Nat) (h : S.pend seq j = true) : (S.at j).n = seq := by
  unfold QS.pend at h
  rw [Bool.and_eq_true, decide_eq_true_eq] at h
  exact h.1
theorem plc_n (seq : Int) (j : Nat) (h : S.plc seq j = true) : (S.at j).n = seq := (plc_at h).1
theorem both_address (k : Lz w0 x p q v rv S R) (H : Same S R) (I : S.Inv) (seq : Int) (a : Nat) (z : Int) (ha : a < 4294967296) : ∃ (S' : QS) (R' : RS) (n er : Int), Same S' R' ∧ S'.Inv ∧ Both w0 p q S S' R R' x v rv 10 #[.pointer (some ⟨p, 0, none⟩), .int .i64 seq, .int .u32 a, .int .i64 z] (.returned (.tuple #[.int .i64 n, errOf er])) 11 #[.pointer (some ⟨q, 0, none⟩), .int .i64 seq, .int .i64 a, .int .i64 z] (.returned (.tuple #[.int .i64 n, .int .i64 er])) := by
  rcases look_both H I seq with ⟨i, hi, hn, hR, hS⟩ | ⟨hR, hS⟩
  · have hP := hS (S.pend seq) (fun j _ e => pend_n seq j e)
    have al := H.at' i hi
    by_cases hrt : (S.at i).rt = true
    · have e : S.pend seq i = false := by unfold QS.pend; rw [hrt]; simp
      rw [e] at hP
      refine ⟨S, R, -1, 7, H, I, Both.bad k (addr_state _ p v S seq (-1) z a x k.qm hP (fun q => q.1 rfl)) fun y hy => ?_⟩
      exact (raddr_state _ q rv R seq i z a y hy hR (fun q => by have := q.2.2; rw [Int.toNat_natCast, al.rt, hrt] at this; cases this)).mono fun _ _ b => ⟨b.1, below_of b.2⟩
    · have hrf : (S.at i).rt = false := by simpa using hrt
      have e : S.pend seq i = true := by unfold QS.pend; rw [hrf, hn]; simp
      rw [e] at hP
      have hP : First (S.pend seq) S.on.length i := hP
      by_cases hz : (S.at i).z = 0
      · have hpf : (R.at i).pl = false := by rw [al.pl]; unfold Ac.placed; rw [hz]; rfl
        by_cases hm : (z = 1 ∨ z = 2 ∨ z = 4) ∧ (a : Int) % z = 0
        · obtain ⟨zn, rfl⟩ : ∃ zn : Nat, z = zn := ⟨z.toNat, by omega⟩
          have hmn : (zn = 1 ∨ zn = 2 ∨ zn = 4) ∧ a % zn = 0 := ⟨by omega, by have := hm.2; omega⟩
          have hfr : (S.at i).fr = [] := List.eq_nil_of_length_eq_zero (by have := (k.qm.fit i hi).fz; omega)
          have oki := I.ok i hi
          have I' : (S.set i ((S.at i).put a zn)).Inv := I.set i hi rfl (Or.inl rfl) ⟨Or.inl hfr, fun q => by have q : (S.at i).rt = true := q; rw [hrf] at q; cases q⟩
          have al' : Alike ((S.at i).put a zn) ((R.at i).put a zn) := ⟨al.n, al.st, (decide_eq_true (show 0 < zn by omega)).symm, rfl, rfl, al.hv, al.d, al.ld, al.f, al.rt⟩
          have H' := H.set i hi al'
          have hRi : i < R.on.length := by rw [H.len]; exact hi
          have hRt : (R.at i).rt = false := by rw [al.rt]; exact hrf
          cases hst : (S.at i).st
          · refine ⟨_, _, -1, 0, H', I', ?_, fun y hy => ?_⟩
            · exact (addr_load _ p v S seq i a zn x k.qm hP hi hz hst ha hmn).mono fun _ _ b => ⟨b.1, v, b.2⟩
            · exact (raddr_load _ q rv R seq i a zn y hy hR hRi hpf hRt (by rw [al.st]; exact hst) ha hmn).mono fun _ _ b => ⟨b.1, rv, b.2⟩
          · obtain ⟨r, hr⟩ := First.ex ((S.set i ((S.at i).put a zn)).went ((S.at i).put a zn)) S.on.length
            have hl := S.set_len i ((S.at i).put a zn)
            have hr2 : First ((R.set i ((R.at i).put a zn)).bads i a zn seq) R.on.length r := by
              rw [H.len]
              refine hr.congr fun j hj => ?_
              have aj := H'.at' j (by omega)
              have okj := I'.ok j (by omega)
              unfold QS.went RS.bads
              have ea : ((R.set i ((R.at i).put a zn)).at j).bad a zn seq = ((S.set i ((S.at i).put a zn)).at j).early ((S.at i).put a zn) := by
                rw [← aj.early okj]
                show _ = Re.bad _ a zn (S.at i).n
                rw [hn]
              rw [ea]
              congr 1
              refine decide_eq_decide.2 ?_
              have hnj : ((S.set i ((S.at i).put a zn)).at j).n = (S.at j).n := by
                by_cases e : j = i
                · subst e; rw [S.at_set j _ hi]; rfl
                · rw [S.at_set' i j _ e]
              rw [hnj]
              show (S.at i).n < (S.at j).n ↔ i < j
              constructor
              · intro h
                rcases Nat.lt_or_ge i j with q | q
                · exact q
                · by_cases e : i = j
                  · subst e; omega
                  · have := I.asc j i (by omega) hi
                    omega
              · exact fun h => I.asc i j h hj
            refine ⟨_, _, (S.set i ((S.at i).put a zn)).num r, 0, H', I', ?_, fun y hy => ?_⟩
            · refine (addr_store _ p v S seq i a zn x k.qm hP hi hz hst ha hmn).mono fun _ _ b => ?_
              obtain ⟨r', b1, b2, b3⟩ := b
              obtain rfl := b1.uniq hr
              exact ⟨b2, v, b3⟩
            · refine (raddr_store _ q rv R seq i a zn y hy hR hRi hpf hRt (by rw [al.st]; exact hst) ha hmn).mono fun _ _ b => ?_
              obtain ⟨r', b1, b2, b3⟩ := b
              obtain rfl := b2.uniq hr2
              refine ⟨?_, rv, b3⟩
              rw [b1, H'.num r' (by rw [hl]; exact hr.range)]
        · refine ⟨S, R, -1, 3, H, I, Both.bad k (addr_range _ p v S seq z i a x k.qm hP hi hz ha hm) fun y hy => ?_⟩
          exact (raddr_range _ q rv R seq z i a y hy hR (by rw [H.len]; exact hi) hpf (by rw [al.rt]; exact hrf) hm).mono fun _ _ b => ⟨b.1, below_of b.2⟩
      · refine ⟨S, R, -1, 7, H, I, Both.bad k (addr_state _ p v S seq i z a x k.qm hP (fun q => hz (by have := q.2; rw [Int.toNat_natCast] at this; exact this))) fun y hy => ?_⟩
        refine (raddr_state _ q rv R seq i z a y hy hR (fun q => ?_)).mono fun _ _ b => ⟨b.1, below_of b.2⟩
        have := q.2.1
        rw [Int.toNat_natCast, al.pl] at this
        unfold Ac.placed at this
        rw [decide_eq_true (by omega)] at this
        cases this
  · have hP := hS (S.pend seq) (fun j _ e => pend_n seq j e)
    refine ⟨S, R, -1, 7, H, I, Both.bad k (addr_state _ p v S seq (-1) z a x k.qm hP (fun q => q.1 rfl)) fun y hy => ?_⟩
    exact (raddr_state _ q rv R seq (-1) z a y hy hR (fun q => q.1 rfl)).mono fun _ _ b => ⟨b.1, below_of b.2⟩
theorem both_value (k : Lz w0 x p q v rv S R) (H : Same S R) (I : S.Inv) (seq : Int) (d : Nat) (hd : d < 4294967296) : ∃ (S' : QS) (R' : RS) (er : Int), Same S' R' ∧ S'.Inv ∧ Both w0 p q S S' R R' x v rv 12 #[.pointer (some ⟨p, 0, none⟩), .int .i64 seq, .int .u32 d] (.returned (errOf er)) 13 #[.pointer (some ⟨q, 0, none⟩), .int .i64 seq, .int .u32 d] (.returned (.int .i64 er)) := by
  have bad : ∀ (r s : Int), First (S.pend seq) S.on.length r → ¬ S.mayV r → First (R.isN seq) R.on.length s → ¬ R.mayV s → ∃ (S' : QS) (R' : RS) (er : Int), Same S' R' ∧ S'.Inv ∧ Both w0 p q S S' R R' x v rv 12 #[.pointer (some ⟨p, 0, none⟩), .int .i64 seq, .int .u32 d] (.returned (errOf er)) 13 #[.pointer (some ⟨q, 0, none⟩), .int .i64 seq, .int .u32 d] (.returned (.int .i64 er)) := fun r s h1 h2 h3 h4 =>
    ⟨S, R, 7, H, I, Both.bad k (value_bad _ p v S seq r d x k.qm h1 h2) fun y hy => (rvalue_bad _ q rv R seq s d y hy h3 h4).mono fun _ _ b => ⟨b.1, below_of b.2⟩⟩
  rcases look_both H I seq with ⟨i, hi, hn, hR, hS⟩ | ⟨hR, hS⟩
  · have hP := hS (S.pend seq) (fun j _ e => pend_n seq j e)
    have al := H.at' i hi
    by_cases hrt : (S.at i).rt = true
    · have e : S.pend seq i = false := by unfold QS.pend; rw [hrt]; simp
      rw [e] at hP
      exact bad _ _ hP (fun q => q.1 rfl) hR (fun q => by have := q.2.2.2; rw [Int.toNat_natCast, al.rt, hrt] at this; cases this)
    · have hrf : (S.at i).rt = false := by simpa using hrt
      have e : S.pend seq i = true := by unfold QS.pend; rw [hrf, hn]; simp
      rw [e] at hP
      have hP : First (S.pend seq) S.on.length i := hP
      by_cases hv : (S.at i).st = true ∧ (S.at i).hv = false
      · refine ⟨_, _, 0, H.set i hi (y := { S.at i with d := d, hv := true }) (x := { R.at i with d := d, hv := true }) ⟨al.n, al.st, al.pl, al.a, al.z, rfl, rfl, al.ld, al.f, al.rt⟩, I.set i hi rfl (Or.inl rfl) ⟨(I.ok i hi).fz, fun q => by have q : (S.at i).rt = true := q; rw [hrf] at q; cases q⟩, ?_, fun y hy => ?_⟩
        · exact (value_good _ p v S seq i d x k.qm hP hi hv.1 hv.2 hd).mono fun _ _ b => ⟨b.1, v, b.2⟩
        · exact (rvalue_good _ q rv R seq i d y hy hR (by rw [H.len]; exact hi) (by rw [al.st]; exact hv.1) (by rw [al.hv]; exact hv.2) (by rw [al.rt]; exact hrf) hd).mono fun _ _ b => ⟨b.1, rv, b.2⟩
      · refine bad _ _ hP (fun q => hv ?_) hR (fun q => hv ?_)
        · have := q.2; rw [Int.toNat_natCast] at this; exact this
        · have := q.2; rw [Int.toNat_natCast, al.st, al.hv] at this; exact ⟨this.1, this.2.1⟩
  · have hP := hS (S.pend seq) (fun j _ e => pend_n seq j e)
    exact bad _ _ hP (fun q => q.1 rfl) hR (fun q => q.1 rfl)
theorem found_is (S : QS) (e : Ac) (bold : Bool) : ∃ (x : Bool) (y z : Int), S.found e bold = .agg #[.bool x, .int .i64 y, .int .u32 z] := by
  unfold QS.found
  split
  · exact ⟨_, _, _, rfl⟩
  · exact ⟨_, _, _, rfl⟩
theorem not_mayS {seq : Int} {i : Nat} (al : Alike (S.at i) (R.at i)) (hn : (S.at i).n = seq) (e : S.plc seq i = false) : ¬ R.mayS i := fun q => by
  have := q.2
  rw [Int.toNat_natCast, al.st, al.pl] at this
  unfold QS.plc at e
  rw [this.1, this.2, hn] at e
  simp at e
theorem both_search (k : Lz w0 x p q v rv S R) (H : Same S R) (I : S.Inv) (seq : Int) (bold : Bool) : ∃ (b : Bool) (m u er : Int), Both w0 p q S S R R x v rv 14 #[.pointer (some ⟨p, 0, none⟩), .int .i64 seq, .bool bold] (.returned (.tuple #[.agg #[.bool b, .int .i64 m, .int .u32 u], errOf er])) 15 #[.pointer (some ⟨q, 0, none⟩), .int .i64 seq, .bool bold] (.returned (.tuple #[.agg #[.bool b, .int .i64 m, .int .u32 u], .int .i64 er])) := by
  rcases look_both H I seq with ⟨i, hi, hn, hR, hS⟩ | ⟨hR, hS⟩
  · have hP := hS (S.plc seq) (fun j _ e => plc_n seq j e)
    have al := H.at' i hi
    cases e : S.plc seq i
    · rw [e] at hP
      exact ⟨false, 0, 0, 7, Both.bad k (search_bad _ p v S seq bold x k.qm hP) fun y hy => rsearch_bad _ q rv R seq i bold y hy hR (not_mayS al hn e)⟩
    · rw [e] at hP
      have hP : First (S.plc seq) S.on.length i := hP
      obtain ⟨-, hst, hz⟩ := plc_at e
      obtain ⟨b, m, u, hF⟩ := found_is S (S.at i) bold
      have h1 := search_good _ p v S seq bold i x k.qm hi hP
      rw [hF] at h1
      refine ⟨b, m, u, 0, Both.bad k h1 fun y hy => ?_⟩
      have h2 := rsearch_good _ q rv R seq bold i y hy (by rw [H.len]; exact hi) hR (by rw [al.st]; exact hst) (by rw [al.pl]; exact decide_eq_true hz) (by rw [al.a, al.z]; exact (k.qm.fit i hi).az)
      rw [H.found I i hi, hF] at h2
      exact h2
  · have hP := hS (S.plc seq) (fun j _ e => plc_n seq j e)
    exact ⟨false, 0, 0, 7, Both.bad k (search_bad _ p v S seq bold x k.qm hP) fun y hy => rsearch_bad _ q rv R seq (-1) bold y hy hR (fun q => q.1 rfl)⟩
theorem both_loaded (k : Lz w0 x p q v rv S R) (H : Same S R) (I : S.Inv) (seq : Int) : ∃ (er : Int), (er ≠ 0 ∧ Both w0 p q S S R R x v rv 17 #[.pointer (some ⟨p, 0, none⟩), .int .i64 seq] (.returned (errOf er)) 18 #[.pointer (some ⟨q, 0, none⟩), .int .i64 seq] (.returned (.int .i64 er))) ∨ (er = 0 ∧ Calls Tryd.prog 17 #[.pointer (some ⟨p, 0, none⟩), .int .i64 seq] x (fun e y => e = .returned (errOf er) ∧ ∃ S' v', Step x y w0.heap.size p v S v' S' ∧ S'.Inv ∧ ∃ R', Same S' R' ∧ ∀ y, Rm y w0.heap.size q rv R → Calls Tryd.prog 18 #[.pointer (some ⟨q, 0, none⟩), .int .i64 seq] y (fun e z => e = .returned (.int .i64 er) ∧ ∃ rv', RStep y z w0.heap.size q rv rv' R'))) := by
  rcases look_both H I seq with ⟨i, hi, hn, hR, hS⟩ | ⟨hR, hS⟩
  · have hP := hS (S.plc seq) (fun j _ e => plc_n seq j e)
    have al := H.at' i hi
    cases e : S.plc seq i
    · rw [e] at hP
      exact ⟨7, Or.inl ⟨by decide, Both.bad k (loaded_bad _ p v S seq (-1) x k.qm hP (Or.inl rfl)) fun y hy => rtake_no _ q rv R seq i y hy hR (not_mayS al hn e)⟩⟩
    · rw [e] at hP
      have hP : First (S.plc seq) S.on.length i := hP
      obtain ⟨-, hst, hz⟩ := plc_at e
      have hRi : i < R.on.length := by rw [H.len]; exact hi
      have r1 : (R.at i).st = false := by rw [al.st]; exact hst
      have r2 : (R.at i).pl = true := by rw [al.pl]; exact decide_eq_true hz
      have r3 : (R.at i).a + (R.at i).z ≤ 4294967296 := by rw [al.a, al.z]; exact (k.qm.fit i hi).az
      by_cases hld : (S.at i).loaded = true
      · exact ⟨7, Or.inl ⟨by decide, Both.bad k (loaded_bad _ p v S seq i x k.qm hP (Or.inr (by rw [Int.toNat_natCast]; exact hld))) fun y hy => rtake_bad _ q rv R seq i y hy hRi hR r1 r2 r3 (Or.inr (by rw [al.ld]; exact hld))⟩⟩
      · have hlf : (S.at i).loaded = false := by simpa using hld
        have hfr : (S.at i).fr = [] := by
          unfold Ac.loaded at hlf
          rw [decide_eq_false_iff_not] at hlf
          exact List.eq_nil_of_length_eq_zero (by omega)
        have h1 := loaded_any _ p v S seq i x k.qm hP hi hfr
        by_cases hk : S.lacks (S.at i) = true
        · rw [hk] at h1
          exact ⟨7, Or.inl ⟨by decide, Both.bad k h1 fun y hy => rtake_bad _ q rv R seq i y hy hRi hR r1 r2 r3 (Or.inl (by rw [H.lacks I i hi]; exact hk))⟩⟩
        · have hkf : S.lacks (S.at i) = false := by simpa using hk
          rw [hkf] at h1
          have hz4 : (S.at i).z ≤ 4 := by have := (k.qm.fit i hi).z; omega
          refine ⟨0, Or.inr ⟨rfl, h1.mono fun _ y b => ?_⟩⟩
          obtain ⟨b1, fb, fc, b2⟩ := (show _ ∧ _ from b)
          refine ⟨b1, _, v, b2, I.set i hi rfl (Or.inl rfl) ⟨Or.inr (by show (S.nums (S.at i)).length = (S.at i).z; rw [S.nums_len]), (I.ok i hi).ret⟩, _, H.set i hi (H.take I i hi hz hz4 fb fc), fun y hy => ?_⟩
          exact (rtake_good _ q rv R seq i y hy hRi hR r1 r2 r3 (by rw [H.lacks I i hi]; exact hkf) (by rw [al.ld]; exact hlf)).mono fun _ _ b => ⟨b.1, rv, b.2⟩
  · have hP := hS (S.plc seq) (fun j _ e => plc_n seq j e)
    exact ⟨7, Or.inl ⟨by decide, Both.bad k (loaded_bad _ p v S seq (-1) x k.qm hP (Or.inl rfl)) fun y hy => rtake_no _ q rv R seq (-1) y hy hR (fun q => q.1 rfl)⟩⟩
theorem both_retire (k : Lz w0 x p q v rv S R) (H : Same S R) (I : S.Inv) (seq : Int) : ∃ (S' : QS) (R' : RS) (er : Int), Same S' R' ∧ S'.Inv ∧ Both w0 p q S S' R R' x v rv 20 #[.pointer (some ⟨p, 0, none⟩), .int .i64 seq] (.returned (errOf er)) 21 #[.pointer (some ⟨q, 0, none⟩), .int .i64 seq] (.returned (.int .i64 er)) := by
  obtain ⟨r, hr⟩ := First.ex S.act S.on.length
  have hr2 : First R.act R.on.length r := by
    rw [H.len]
    exact hr.congr fun j hj => H.act j hj
  by_cases h1 : r = -1 ∨ (S.at r.toNat).n ≠ seq
  · refine ⟨S, R, 5, H, I, Both.bad k (retire_order _ p v S seq r x k.qm hr h1) fun y hy => ?_⟩
    refine (rretire_order _ q rv R seq r y hy hr2 ?_).mono fun _ _ b => ⟨b.1, below_of b.2⟩
    by_cases e : r = -1
    · exact Or.inl e
    · obtain ⟨i, hi, -, rfl⟩ := hr.some e
      exact h1.imp id (fun h => by rw [Int.toNat_natCast] at h ⊢; rw [(H.at' i hi).n]; exact h)
  · have h2 : r ≠ -1 := fun e => h1 (Or.inl e)
    obtain ⟨i, hi, -, rfl⟩ := hr.some h2
    have hn : (S.at i).n = seq := by
      by_cases e : (S.at i).n = seq
      · exact e
      · exact absurd (Or.inr (by rw [Int.toNat_natCast]; exact e)) h1
    have al := H.at' i hi
    have hRi : i < R.on.length := by rw [H.len]; exact hi
    have hRn : (R.at i).n = seq := by rw [al.n]; exact hn
    cases hd : (S.at i).done
    · exact ⟨S, R, 7, H, I, Both.bad k (retire_state _ p v S seq i x k.qm hr hi hn hd) fun y hy => rretire_state _ q rv R seq i y hy hr2 hRi hRn (by rw [al.done]; exact hd)⟩
    · cases hst : (S.at i).st
      · refine ⟨_, _, 0, H.del i hi, I.del i hi, ?_, fun y hy => ?_⟩
        · exact (retire_load _ p v S seq i x k.qm hr hi hn hd hst).mono fun _ _ b => ⟨b.1, b.2⟩
        · refine (rretire_load _ q rv R seq i y hy hr2 hRi hRn (by rw [al.st]; exact hst) ?_).mono fun _ _ b => ⟨b.1, b.2⟩
          rw [al.ld]
          unfold Ac.done at hd
          rw [hst] at hd
          exact hd
      · have hd2 := hd
        unfold Ac.done at hd2
        rw [hst, if_pos rfl, Bool.and_eq_true] at hd2
        have hz : 0 < (S.at i).z := by
          have := hd2.1
          unfold Ac.placed at this
          exact of_decide_eq_true this
        have hpre : ∀ j, j < i → (S.at j).rt = true := fun j hj => by
          rcases hr with ⟨i', a1, a2, a3, a4⟩ | ⟨a1, a2⟩
          · obtain rfl : i = i' := by omega
            have := a3 j hj
            unfold QS.act at this
            simpa using this
          · omega
        refine ⟨_, _, 0, H.set i hi (y := { S.at i with rt := true }) (x := { R.at i with rt := true }) ⟨al.n, al.st, al.pl, al.a, al.z, al.hv, al.d, al.ld, al.f, rfl⟩, I.set i hi rfl (Or.inr ⟨rfl, hpre⟩) ⟨(I.ok i hi).fz, fun _ => ⟨hst, hz, hd2.2⟩⟩, ?_, fun y hy => ?_⟩
        · exact (retire_store _ p v S seq i x k.qm hr hi hn hd hst).mono fun _ _ b => ⟨b.1, v, b.2⟩
        · exact (rretire_store _ q rv R seq i y hy hr2 hRi hRn (by rw [al.st]; exact hst) (by rw [al.pl]; exact hd2.1) (by rw [al.hv]; exact hd2.2)).mono fun _ _ b => ⟨b.1, rv, b.2⟩
theorem both_drain (k : Lz w0 x p q v rv S R) (H : Same S R) (I : S.Inv) : ∃ (S' : QS) (R' : RS) (b : Bool), Same S' R' ∧ S'.Inv ∧ Both w0 p q S S' R R' x v rv 22 #[.pointer (some ⟨p, 0, none⟩)] (.returned (errOf (if b then 0 else 7))) 23 #[.pointer (some ⟨q, 0, none⟩)] (.returned (.bool b)) := by
  cases h : S.top
  · exact ⟨S, R, false, H, I, Both.bad k (drain_bad _ p v S x k.qm h) fun y hy => (rdrain_bad _ q rv R y hy (by rw [H.top]; exact h)).mono fun _ _ b => ⟨b.1, below_of b.2⟩⟩
  · have h2 := h
    unfold QS.top at h2
    rw [Bool.and_eq_true, decide_eq_true_eq] at h2
    refine ⟨_, _, true, H.drained h2.1 (fun i hi => (k.qm.fit i hi).f), I.drained h2.1, ?_, fun y hy => ?_⟩
    · exact (drain_good _ p v S x k.qm h ((I.ok 0 h2.1).ret h2.2).2.1).mono fun _ _ b => ⟨b.1, b.2⟩
    · exact (rdrain_good _ q rv R y hy (by rw [H.top]; exact h)).mono fun _ _ b => ⟨b.1, b.2⟩
theorem both_spoil (k : Lz w0 x p q v rv S R) (H : Same S R) (I : S.Inv) (y : Nat) (hy : y < 4294967296) : ∃ n : Int, Both w0 p q S S R R x v rv 25 #[.pointer (some ⟨p, 0, none⟩), .int .u32 y] (.returned (.int .i64 n)) 26 #[.pointer (some ⟨q, 0, none⟩), .int .i64 y] (.returned (.int .i64 n)) := by
  obtain ⟨r, hr⟩ := First.ex (S.spo y) S.on.length
  have hr2 : First (fun i => (R.at i).spo ((y : Int) - (y : Int) % 16)) R.on.length r := by
    rw [H.len]
    exact hr.congr fun j hj => ((H.at' j hj).spo (I.ok j hj) y).symm
  refine ⟨S.num r, Both.bad k ?_ fun x' hx' => ?_⟩
  · refine (spoil_any _ p v S y x k.qm hy).mono fun _ _ b => ?_
    obtain ⟨r', b1, b2, b3⟩ := b
    obtain rfl := b2.uniq hr
    exact ⟨b1, b3⟩
  · refine (rspoil_any _ q rv R y x' hx' hy).mono fun _ _ b => ?_
    obtain ⟨r', b1, b2, b3⟩ := b
    obtain rfl := b2.uniq hr2
    exact ⟨by rw [b1, H.num r' hr.range], b3⟩
theorem both_squash (k : Lz w0 x p q v rv S R) (H : Same S R) (I : S.Inv) (af : Int) : ∃ (S' : QS) (R' : RS), Same S' R' ∧ S'.Inv ∧ Both w0 p q S S' R R' x v rv 27 #[.pointer (some ⟨p, 0, none⟩), .int .i64 af] (.returned (.tuple #[])) 28 #[.pointer (some ⟨q, 0, none⟩), .int .i64 af] (.returned (.tuple #[])) := by
  obtain ⟨i, hi, h1, h2⟩ := I.where' af
  refine ⟨_, _, H.cut i hi, I.cut i hi, squash_any _ p v S af i x k.qm hi h1 h2, fun y hy => ?_⟩
  refine rsquash_any _ q rv R af i y hy (by rw [H.len]; exact hi) (fun h0 => ?_) (fun j a1 a2 => ?_)
  · rw [H.squ af (i - 1) (by omega)]
    exact h1 _ (by omega)
  · rw [H.squ af j (by rw [← H.len]; exact a2)]
    exact h2 j a1 (by rw [← H.len]; exact a2)
end
end Go.Proofs.YtelcckcfbpjcaaaDoor
