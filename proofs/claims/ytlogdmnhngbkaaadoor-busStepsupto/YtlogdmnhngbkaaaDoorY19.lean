import Derived.Test.YtlogdmnhngbkaaaDoorY18
import Derived.Test.YtlogdmnhngbkaaaDoorY12
/-
  BUS: Write, Read.
-/
namespace Go.Proofs.YtlogdmnhngbkaaaDoor
open Go Go.RowKit
theorem wrote_last {T : CS} (h : Stc T) (a j q d z : Nat) (hA : At (T.set (T.of a)) a j) (e : Ln) (he : ((T.set (T.of a)).getD j l0).wr q d z = e) : (T.wrote (T.of a) j q d z).set ((T.wrote (T.of a) j q d z).of (lineOf a)) = rest (T.set (T.of a)) j ++ [e] ∧ At (rest (T.set (T.of a)) j ++ [e]) (lineOf a) ((rest (T.set (T.of a)) j ++ [e]).length - 1) ∧ (rest (T.set (T.of a)) j ++ [e]).getD ((rest (T.set (T.of a)) j ++ [e]).length - 1) l0 = e := by
  have hq : T.of a < T.n := T.of_lt a h.n
  have e1 : (T.wrote (T.of a) j q d z).of (lineOf a) = T.of a := of_lineOf T a
  have e2 : (T.wrote (T.of a) j q d z).set (T.of a) = rest (T.set (T.of a)) j ++ [e] := by
    rw [← he]
    exact upd_same _ _ _
  have hl : (rest (T.set (T.of a)) j ++ [e]).length - 1 = (rest (T.set (T.of a)) j).length := by rw [List.length_append]; simp
  have hg : (rest (T.set (T.of a)) j ++ [e]).getD (rest (T.set (T.of a)) j).length l0 = e := by
    rw [List.getD_eq_getElem?_getD, List.getElem?_append_right (Nat.le_refl _)]
    simp
  have ll : lineOf (lineOf a) = lineOf a := lineOf_self (by unfold lineOf; omega)
  have ea : e.a = lineOf a := by rw [← he, (wr_is _ q d z).1]; exact hA.2.1
  rw [e1, e2, hl]
  refine ⟨rfl, ⟨by rw [List.length_append]; simp, by rw [hg, ll]; exact ea, fun i hi => ?_⟩, hg⟩
  have hm : (rest (T.set (T.of a)) j ++ [e]).getD i l0 ∈ rest (T.set (T.of a)) j := by
    rw [List.getD_eq_getElem?_getD, List.getElem?_append_left hi, List.getElem?_eq_getElem hi]
    exact List.getElem_mem hi
  rw [ll, ← hA.2.1]
  exact (apart_rest _ j hA.1 (h.one _ hq)).2 _ hm
section
variable {x : World} {g : Bn} {F : Nat → Prop} {N : Nat} {S : BS}
def BS.wrt (S : BS) (i a j d z : Nat) : BS := { S.cput i ((S.c i).wrote ((S.c i).of a) j (a % 16) d z) with nw := updO S.nw (lineOf a : Nat) (some (((((S.c i).set ((S.c i).of a)).getD j l0).wr (a % 16) d z).b)) }
set_option maxRecDepth 100000 in
set_option maxHeartbeats 2000000 in
theorem uwrite (h : Bu x g F N S) (hN : N < 9000000000000000000) (i a z d j : Nat) (ha : a + 16 < 4294967296) (hd : d < 4294967296) (hh : S.has i a = true) (hA : At ((S.c i).set ((S.c i).of a)) a j) (hz : fits a z = true) (hs1 : (((S.c i).set ((S.c i).of a)).getD j l0).s ≠ 1) (hst : Stc (S.c i)) (h8 : ∀ q, (((S.c i).set ((S.c i).of a)).getD j l0).b q < 256) : Calls Tryd.prog 13 #[.pointer (some ⟨g.p, 0, none⟩), .int .i64 i, .int .u32 a, .int .i64 z, .int .u32 d] x fun e w' => e = .returned (.bool true) ∧ Bu w' g F (N + 1) (S.wrt i a j d z) ∧ Turned (fun j => ¬ F j) x w' := by
  obtain ⟨V, kn, ka, k, h1, h2, h3⟩ := h
  obtain ⟨i', hii, hi, -, -⟩ := has_core hh
  obtain rfl : i = i' := by omega
  have HH := Hid.in (bhas_any k i a (by omega))
  rw [hh] at HH
  obtain ⟨w1, w2, w3⟩ := wrote_last hst a j (a % 16) d z hA _ rfl
  have HWR := Hid.in ((write_at g.B (g.P i) (g.H i) (g.C i) (V i) (S.c i) a z d j x (k.ch i hi) (by omega) hd hA hz hs1).mono (R' := fun e w' => e = .returned (.bool true) ∧ g.M w' kn ka V (S.cput i ((S.c i).wrote ((S.c i).of a) j (a % 16) d z)) ∧ Turned (mine (g.P i) (g.H i) (S.c i).n (V i)) x w') fun e w' hq => ⟨hq.1, k.cache1 i hi rfl hq.2.1 hq.2.2, hq.2.2⟩)
  have e8 : ∀ q, ((((S.c i).set ((S.c i).of a)).getD j l0).wr (a % 16) d z).b q < 256 := fun q => by
    rw [(wr_is _ _ _ _).2.2 q]
    split
    · exact Nat.mod_lt _ (by decide)
    · exact h8 q
  have HNT : Hid (∀ y, g.M y kn ka V (S.cput i ((S.c i).wrote ((S.c i).of a) j (a % 16) d z)) → Turned (mine (g.P i) (g.H i) (S.c i).n (V i)) x y → Calls Tryd.prog 34 #[.pointer (some ⟨g.p, 0, none⟩), .int .i64 i, .int .u32 (lineOf a : Nat)] y fun r w' => r = .returned (.tuple #[]) ∧ Bu w' g F (N + 1) (S.wrt i a j d z) ∧ Turned (fun j => ¬ F j) x w') := fun y ky ty => by
    have ec : (S.cput i ((S.c i).wrote ((S.c i).of a) j (a % 16) d z)).c i = (S.c i).wrote ((S.c i).of a) j (a % 16) d z := if_pos rfl
    have al : lineOf a ≤ a := Nat.sub_le _ _
    refine (bnote_any ky i (lineOf a) hi (by unfold lineOf; omega) (by omega) (by rw [ec, w1]; exact w2) ((((S.c i).set ((S.c i).of a)).getD j l0).wr (a % 16) d z) (by rw [ec, w1]; exact w3) e8 (by unfold maxLen; omega)).mono ?_
    rintro r w' ⟨rfl, k', t⟩
    have tt : Turned (fun z => mine (g.P i) (g.H i) (S.c i).n (V i) z ∨ z = g.nb) x w' := (ty.mono (fun z q => Or.inl q)).trans (t.mono (fun z q => by
      rw [ec] at q
      exact q))
    refine ⟨rfl, Bu.step h3 k' (by omega) (by omega) rfl (fun j' => ?_) (fun _ _ _ _ _ q => Or.inl q) tt (fun z hz => ?_)⟩
    · show (if j' = i then _ else S.c j').n = _
      by_cases e : j' = i
      · rw [if_pos e, e]; rfl
      · rw [if_neg e]
    · rcases hz with hz | hz
      · exact Or.inr ⟨i, hi, hz⟩
      · exact Or.inl (Or.inr (Or.inr (Or.inr (Or.inl hz))))
  have HLO : Hid (∀ y, Calls Tryd.prog 25 #[.int .u32 a] y fun e w' => e = .returned (.int .u32 (lineOf a : Nat)) ∧ w' = y) := fun y => blineOf_any a y (by omega)
  have c0 : x.cell? ⟨g.p, 0, none⟩ = some (.slice (some ⟨g.rb, 0, none⟩) S.nc g.rc) := k.c.cell 0 (by decide)
  have r0 : x.cell? ⟨g.rb, i, none⟩ = some (.pointer (some ⟨g.P i, 0, none⟩)) := k.row.cell i hi
  have hp := k.c.here
  have hrr := k.row.here
  have hi' : (i : Int) < (S.nc : Int) := by omega
  clear k hh hA hz hs1 hst h8 e8 w1 w2 w3 hii hi h1 h2 h3 ha hd hN
  go_enter Tryd.func13, Tryd.ntmps13
  go_wp2_with (first
    | (go_at_call 24; refine HH.out.mono ?_; rintro e y ⟨rfl, hy⟩; have hy2 := hy.symm; clear hy; subst hy2)
    | (go_at_call 33; refine HWR.out.mono ?_; rintro e y ⟨rfl, hk, ht⟩; have HK := Hid.in hk; have HT := Hid.in ht; clear hk ht)
    | (go_at_call 25; refine (HLO.out _).mono ?_; rintro e y' ⟨rfl, hy⟩; have hy2 := hy.symm; clear hy; subst hy2)
    | (go_at_call 34; refine (HNT.out _ HK.out HT.out).mono ?_; rintro e y2 ⟨rfl, hq⟩; have HQ := Hid.in hq; clear hq))
  go_ret
  exact ⟨rfl, HQ.out⟩
theorem uread (h : Bu x g F N S) (i a z j : Nat) (ha : a < 4294967296) (hh : S.has i a = true) (hA : At ((S.c i).set ((S.c i).of a)) a j) (hz : fits a z = true) (hb : ∀ t, t < 16 → (((S.c i).set ((S.c i).of a)).getD j l0).b t < 256) : Calls Tryd.prog 11 #[.pointer (some ⟨g.p, 0, none⟩), .int .i64 i, .int .u32 a, .int .i64 z] x fun e w' => e = .returned (.tuple #[.int .u32 (leN (fun t => (((S.c i).set ((S.c i).of a)).getD j l0).b (a % 16 + t)) z : Nat), .bool true]) ∧ Bu w' g F N (S.cput i ((S.c i).used ((S.c i).of a) j)) ∧ Turned (fun j => ¬ F j) x w' := by
  obtain ⟨V, kn, ka, k, h1, h2, h3⟩ := h
  obtain ⟨i', hii, hi, -, -⟩ := has_core hh
  obtain rfl : i = i' := by omega
  refine (bread_hit k i a z j ha hh hA hz hb).mono ?_
  rintro e w' ⟨rfl, k', t⟩
  refine ⟨rfl, Bu.step h3 k' h1 h2 rfl (fun j' => ?_) (fun _ _ _ _ _ q => Or.inl q) t (fun z hz => Or.inr ⟨i, hi, hz⟩)⟩
  show (if j' = i then _ else S.c j').n = _
  by_cases e : j' = i
  · rw [if_pos e, e]; rfl
  · rw [if_neg e]
end
end Go.Proofs.YtlogdmnhngbkaaaDoor
/-
  BUS: the answer's bus in memory, over the same plain bus.
-/
namespace Go.Proofs.YtlogdmnhngbkaaaDoor
open Go Go.RowKit
/-- where the answer's bus stands -/
structure Rn where
  B : Nat
  p : Nat
  cb : Nat
  cc : Nat
  mq : Option Addr
  mb : Nat
  mc : Nat
  ab : Nat
  ac : Nat
  q : Nat → Nat
def akv (o : Option (Nat × Bool)) (r : Nat) : Value :=
  match o with
  | none => if r = 1 then .int .i64 0 else .bool false
  | some a => if r = 0 then .bool true else if r = 1 then .int .i64 a.1 else .bool a.2
def akc (f : Int → Option (Nat × Bool)) (o : Nat) : Value := akv (f ((o / 3 : Nat) : Int)) (o % 3)
def BS.now (S : BS) : Int := if S.on then (S.turn : Int) else -1
def rbv (g : Rn) (S : BS) (last left : Int) : Nat → Value
  | 0 => .slice (some ⟨g.cb, 0, none⟩) S.nc g.cc
  | 1 => .int .i64 S.cyc
  | 2 => .slice g.mq S.len g.mc
  | 3 => .slice (some ⟨g.ab, 0, none⟩) S.nc g.ac
  | 4 => .int .i64 last
  | 5 => .int .i64 S.now
  | _ => .int .i64 left
/-- the blocks of the answer's bus that are none of its caches' -/
def own4 (g : Rn) (len : Nat) (z : Nat) : Prop := z = g.p ∨ z = g.cb ∨ z = g.ab ∨ (0 < len ∧ z = g.mb)
def rmine (q : Nat) (v : Value) (z : Nat) : Prop := z = q ∨ v.ownBlock = some z
structure Rb (x : World) (g : Rn) (rv : Nat → Value) (R : Nat → List Ln) (last left : Int) (S : BS) : Prop where
  c : CellsAt 7 x g.p (rbv g S last left)
  row : CellsAt S.nc x g.cb (fun i => .pointer (some ⟨g.q i, 0, none⟩))
  rc : ∀ i, i < S.nc → RC x g.B (g.q i) (rv i) (S.c i).n (S.c i).ways (R i)
  sm : ∀ i, i < S.nc → Same (S.c i) (R i)
  m : 0 < S.len → g.mq = some ⟨g.mb, 0, none⟩ ∧ CellsAt S.len x g.mb (fun o => .int .u8 (S.mem o))
  ak : CellsAt (3 * S.nc) x g.ab (akc S.ak)
  ls : (S.on = false → last = S.turn) ∧ (S.on = true → left = (S.cyc : Int) - S.tk)
  d0 : g.p ≠ g.cb ∧ g.p ≠ g.ab ∧ g.cb ≠ g.ab ∧ (0 < S.len → g.mb ≠ g.p ∧ g.mb ≠ g.cb ∧ g.mb ≠ g.ab)
  d1 : ∀ i, i < S.nc → ∀ z, own4 g S.len z → ¬ rmine (g.q i) (rv i) z
  d2 : ∀ i j, i < S.nc → j < S.nc → i ≠ j → ∀ z, rmine (g.q i) (rv i) z → ¬ rmine (g.q j) (rv j) z
  sz : 1 ≤ S.nc ∧ S.nc ≤ 2 ∧ S.cyc ≤ 10 ∧ S.len ≤ 4096 ∧ S.len % 16 = 0 ∧ S.turn < S.nc ∧ S.tk ≤ 10
  rm : S.nc ≤ g.cc ∧ g.cc ≤ 9223372036854775807 ∧ S.nc ≤ g.ac ∧ g.ac ≤ 9223372036854775807 ∧ S.len ≤ g.mc ∧ g.mc ≤ 9223372036854775807
  m8 : ∀ o, S.mem o < 256
def Rn.its (g : Rn) (rv : Nat → Value) (S : BS) (z : Nat) : Prop := own4 g S.len z ∨ ∃ i, i < S.nc ∧ rmine (g.q i) (rv i) z
def Ru (x : World) (g : Rn) (F : Nat → Prop) (S : BS) : Prop := ∃ rv R last left, Rb x g rv R last left S ∧ ∀ z, F z → z < x.heap.size ∧ ¬ g.its rv S z
section
variable {x y : World} {g : Rn} {F : Nat → Prop} {rv : Nat → Value} {R : Nat → List Ln} {last left : Int} {S : BS}
theorem rmine_lt {q n ways B : Nat} {v : Value} {T : List Ln} (k : RC x B q v n ways T) : ∀ z, rmine q v z → z < x.heap.size := by
  rintro z (rfl | h)
  · exact k.c.here
  · exact (own_base k.l z h).2
theorem Rb.at (k : Rb x g rv R last left S) : ∀ z, own4 g S.len z → z < x.heap.size := by
  rintro z (rfl | rfl | rfl | ⟨h, rfl⟩)
  · exact k.c.here
  · exact k.row.here
  · exact k.ak.here
  · exact (k.m h).2.here
theorem rits_lt (k : Rb x g rv R last left S) {z : Nat} (h : g.its rv S z) : z < x.heap.size := by
  rcases h with h | ⟨i, hi, h⟩
  · exact k.at z h
  · exact rmine_lt (k.rc i hi) z h
theorem RC.off {Q : Nat → Prop} {q n ways B : Nat} {v : Value} {T : List Ln} (k : RC x B q v n ways T) (t : Turned Q x y) (hq : ∀ z, rmine q v z → ¬ Q z) : RC y B q v n ways T :=
  k.turned t (hq q (Or.inl rfl)) (fun j hj => hq j (Or.inr hj))
theorem Rb.turn {Q : Nat → Prop} (k : Rb x g rv R last left S) (t : Turned Q x y) (hq : ∀ z, Q z → ¬ g.its rv S z) : Rb y g rv R last left S := by
  have n4 : ∀ j, own4 g S.len j → ¬ Q j := fun j hj e => hq j e (Or.inl hj)
  exact ⟨t.cells k.c (n4 _ (Or.inl rfl)), t.cells k.row (n4 _ (Or.inr (Or.inl rfl))), fun i hi => (k.rc i hi).off t (fun j hj e => hq j e (Or.inr ⟨i, hi, hj⟩)), k.sm, fun h => ⟨(k.m h).1, t.cells (k.m h).2 (n4 _ (Or.inr (Or.inr (Or.inr ⟨h, rfl⟩))))⟩, t.cells k.ak (n4 _ (Or.inr (Or.inr (Or.inl rfl)))), k.ls, k.d0, k.d1, k.d2, k.sz, k.rm, k.m8⟩
theorem Rb.below (k : Rb x g rv R last left S) (t : Below x.heap.size x y) : Rb y g rv R last left S := k.turn (Q := fun _ => False) (Turned.of_below t) (fun _ q => q.elim)
/-- something outside has changed, or is new -/
theorem Ru.turn {Q : Nat → Prop} (h : Ru x g F S) (t : Turned Q x y) (hq : ∀ z, Q z → z < x.heap.size → F z) : Ru y g (fun j => F j ∨ (x.heap.size ≤ j ∧ j < y.heap.size)) S := by
  obtain ⟨rv, R, last, left, k, hF⟩ := h
  refine ⟨rv, R, last, left, k.turn t (fun z hz hi => (hF z (hq z hz (rits_lt k hi))).2 hi), fun z hz => ?_⟩
  rcases hz with hz | hz
  · exact ⟨Nat.lt_of_lt_of_le (hF z hz).1 t.size, (hF z hz).2⟩
  · exact ⟨hz.2, fun hi => by have := rits_lt k hi; omega⟩
theorem Ru.less {F' : Nat → Prop} (h : Ru x g F S) (hF : ∀ z, F' z → F z) : Ru x g F' S := by
  obtain ⟨rv, R, last, left, k, h3⟩ := h
  exact ⟨rv, R, last, left, k, fun z hz => h3 z (hF z hz)⟩
theorem Ru.fresh (h : Ru x g F S) (t : Below x.heap.size x y) : Ru y g (fun j => F j ∨ (x.heap.size ≤ j ∧ j < y.heap.size)) S := h.turn (Q := fun _ => False) (Turned.of_below t) (fun _ q => q.elim)
theorem Ru.below (h : Ru x g F S) (t : Below x.heap.size x y) : Ru y g F S := (h.fresh t).less (fun _ q => Or.inl q)
/-- the bus itself has changed -/
theorem Ru.step {Q : Nat → Prop} {rv' : Nat → Value} {R' : Nat → List Ln} {last' left' : Int} {S' : BS} (hF : ∀ z, F z → z < x.heap.size ∧ ¬ g.its rv S z) (k' : Rb y g rv' R' last' left' S') (hnc : S'.nc = S.nc) (hlen : S'.len = S.len) (hv : ∀ i q, i < S.nc → (rv' i).ownBlock = some q → (rv i).ownBlock = some q ∨ x.heap.size ≤ q) (t : Turned Q x y) (hQ : ∀ z, Q z → g.its rv S z ∨ x.heap.size ≤ z) : Ru y g F S' ∧ Turned (fun j => ¬ F j) x y := by
  refine ⟨⟨rv', R', last', left', k', fun z hz => ⟨Nat.lt_of_lt_of_le (hF z hz).1 t.size, ?_⟩⟩, t.mono (fun z hz hf => ?_)⟩
  · rintro (h | ⟨i, hi, h⟩)
    · rw [hlen] at h
      exact (hF z hz).2 (Or.inl h)
    · rw [hnc] at hi
      rcases h with h | h
      · exact (hF z hz).2 (Or.inr ⟨i, hi, Or.inl h⟩)
      · rcases hv i z hi h with q | q
        · exact (hF z hz).2 (Or.inr ⟨i, hi, Or.inr q⟩)
        · have := (hF z hz).1
          omega
  · rcases hQ z hz with h | h
    · exact (hF z hf).2 h
    · have := (hF z hf).1
      omega
theorem Ru.here (h : Ru x g F S) {z : Nat} (hz : F z) : z < x.heap.size := by
  obtain ⟨rv, R, last, left, k, h3⟩ := h
  exact (h3 z hz).1
/-- what is newer, is nothing to the answer -/
theorem Rb.nw (k : Rb x g rv R last left S) (f : Int → Option (Nat → Nat)) : Rb x g rv R last left { S with nw := f } := ⟨k.c, k.row, k.rc, k.sm, k.m, k.ak, k.ls, k.d0, k.d1, k.d2, k.sz, k.rm, k.m8⟩
theorem Ru.nw (h : Ru x g F S) (f : Int → Option (Nat → Nat)) : Ru x g F { S with nw := f } := by
  obtain ⟨rv, R, last, left, k, h3⟩ := h
  exact ⟨rv, R, last, left, k.nw f, h3⟩
/-- one of its caches has changed -/
theorem Rb.cache (k : Rb x g rv R last left S) (i : Nat) (hi : i < S.nc) {T : CS} {v : Value} {L : List Ln} (hn : T.n = (S.c i).n) (hw : T.ways = (S.c i).ways) (rc : RC y g.B (g.q i) v T.n T.ways L) (sm : Same T L) (hv : ∀ z, v.ownBlock = some z → (rv i).ownBlock = some z ∨ x.heap.size ≤ z) (t : Turned (fun z => rmine (g.q i) (rv i) z) x y) : Rb y g (fun j => if j = i then v else rv j) (fun j => if j = i then L else R j) last left (S.cput i T) := by
  have h4 : ∀ z, own4 g S.len z → ¬ rmine (g.q i) (rv i) z := k.d1 i hi
  have hm : ∀ z, rmine (g.q i) v z → rmine (g.q i) (rv i) z ∨ x.heap.size ≤ z := by
    rintro z (h | h)
    · exact Or.inl (Or.inl h)
    · exact (hv z h).imp Or.inr id
  refine ⟨t.cells k.c (h4 _ (Or.inl rfl)), t.cells k.row (h4 _ (Or.inr (Or.inl rfl))), fun j hj => ?_, fun j hj => ?_, fun h => ⟨(k.m h).1, t.cells (k.m h).2 (h4 _ (Or.inr (Or.inr (Or.inr ⟨h, rfl⟩))))⟩, t.cells k.ak (h4 _ (Or.inr (Or.inr (Or.inl rfl)))), k.ls, k.d0, fun j hj z hz => ?_, fun a b ha hb hab z hz => ?_, k.sz, k.rm, k.m8⟩
  · show RC y g.B (g.q j) (if j = i then v else rv j) (if j = i then T else S.c j).n (if j = i then T else S.c j).ways (if j = i then L else R j)
    by_cases e : j = i
    · subst e
      rw [if_pos rfl, if_pos rfl, if_pos rfl]
      exact rc
    · rw [if_neg e, if_neg e, if_neg e]
      exact (k.rc j hj).off t (k.d2 j i hj hi e)
  · show Same (if j = i then T else S.c j) (if j = i then L else R j)
    by_cases e : j = i
    · rw [if_pos e, if_pos e]
      exact sm
    · rw [if_neg e, if_neg e]
      exact k.sm j hj
  · show ¬ rmine (g.q j) (if j = i then v else rv j) z
    by_cases e : j = i
    · subst e
      rw [if_pos rfl]
      intro q
      rcases hm z q with h | h
      · exact h4 z hz h
      · have := k.at z hz
        omega
    · rw [if_neg e]
      exact k.d1 j hj z hz
  · show ¬ rmine (g.q b) (if b = i then v else rv b) z
    have hz2 : rmine (g.q a) (if a = i then v else rv a) z := hz
    clear hz
    by_cases ea : a = i
    · subst ea
      rw [if_pos rfl] at hz2
      rw [if_neg (fun e => hab e.symm)]
      rcases hm z hz2 with h | h
      · exact k.d2 a b ha hb hab z h
      · intro q
        have := rmine_lt (k.rc b hb) z q
        omega
    · rw [if_neg ea] at hz2
      by_cases eb : b = i
      · subst eb
        rw [if_pos rfl]
        intro q
        rcases hm z q with h | h
        · exact k.d2 a b ha hb hab z hz2 h
        · have := rmine_lt (k.rc a ha) z hz2
          omega
      · rw [if_neg eb]
        exact k.d2 a b ha hb hab z hz2
/-- the same, of the whole -/
theorem ru_cache (hF : ∀ z, F z → z < x.heap.size ∧ ¬ g.its rv S z) (k : Rb x g rv R last left S) (i : Nat) (hi : i < S.nc) {T : CS} {v : Value} {L : List Ln} (hn : T.n = (S.c i).n) (hw : T.ways = (S.c i).ways) (rc : RC y g.B (g.q i) v T.n T.ways L) (sm : Same T L) (hv : ∀ z, v.ownBlock = some z → (rv i).ownBlock = some z ∨ x.heap.size ≤ z) (t : Turned (fun z => rmine (g.q i) (rv i) z) x y) : Ru y g F (S.cput i T) ∧ Turned (fun j => ¬ F j) x y := by
  refine Ru.step (S' := S.cput i T) hF (k.cache i hi hn hw rc sm hv t) rfl rfl (fun j q hj hq => ?_) t (fun z hz => Or.inl (Or.inr ⟨i, hi, hz⟩))
  by_cases e : j = i
  · subst e
    have hq : v.ownBlock = some q := by simpa using hq
    exact hv q hq
  · left
    simpa [e] using hq
theorem Same.st_at {T : CS} {L : List Ln} (h : Same T L) {a j : Nat} (hj : At L a j) : T.st a = (L.getD j l0).s := by
  rcases at_or_no (T.set (T.of a)) a with ⟨i, hi⟩ | hi
  · obtain ⟨X, e, Y, -, -, h3, h4, -⟩ := h.at hi hj
    rw [CS.st_at hi, h4, h3]
  · exact absurd hj.2.1 ((h.no a).1 hi j hj.1)
theorem Same.st_no {T : CS} {L : List Ln} (h : Same T L) {a : Nat} (hj : No L a) : T.st a = 0 := CS.st_no ((h.no a).2 hj)
theorem Same.both {T : CS} {L : List Ln} (h : Same T L) {a i : Nat} (hi : At (T.set (T.of a)) a i) : ∃ j, At L a j := by
  rcases at_or_no L a with ⟨j, hj⟩ | hj
  · exact ⟨j, hj⟩
  · exact absurd hi.2.1 ((h.no a).2 hj i hi.1)
theorem rcst_any {B q : Nat} {v : Value} {T : CS} {L : List Ln} (k : RC x B q v T.n T.ways L) (h : Same T L) (a : Nat) (ha : a < 4294967296) : Calls Tryd.prog 37 #[.pointer (some ⟨q, 0, none⟩), .int .i64 a] x fun e w' => e = .returned (.int .i64 (T.st a : Nat)) ∧ w' = x := by
  rcases at_or_no L a with ⟨j, hj⟩ | hj
  · rw [h.st_at hj]
    exact rstate_at B q v T.n T.ways L a j x k ha hj
  · rw [h.st_no hj]
    exact rstate_no B q v T.n T.ways L a x k ha hj
end
end Go.Proofs.YtlogdmnhngbkaaaDoor
/-
  BUS: the answer's within, Busy, State, Ask.
-/
namespace Go.Proofs.YtlogdmnhngbkaaaDoor
open Go Go.RowKit
section
variable {x y : World} {g : Rn} {F : Nat → Prop} {rv : Nat → Value} {R : Nat → List Ln} {last left : Int} {S : BS}
set_option maxRecDepth 100000 in
set_option maxHeartbeats 1000000 in
theorem rwithin_any (k : Rb x g rv R last left S) (core : Int) (a : Nat) (_ha : a < 4294967296) : Calls Tryd.prog 26 #[.pointer (some ⟨g.p, 0, none⟩), .int .i64 core, .int .i64 a] x fun e w' => e = .returned (.bool (S.has core a)) ∧ w' = x := by
  have c0 : x.cell? ⟨g.p, 0, none⟩ = some (.slice (some ⟨g.cb, 0, none⟩) S.nc g.cc) := k.c.cell 0 (by decide)
  have c2 : x.cell? ⟨g.p, 2, none⟩ = some (.slice g.mq S.len g.mc) := k.c.cell 2 (by decide)
  have hp := k.c.here
  have hl := k.sz.2.2.2.1
  have hu : undef = Value.tuple #[] := rfl
  obtain ⟨len, hlen⟩ : ∃ len, S.len = len := ⟨_, rfl⟩
  have hw : wrap64 (65536 + (len : Int)) = 65536 + (len : Int) := by unfold wrap64; omega
  unfold BS.has hasB
  rw [hlen] at c2 hl ⊢
  clear k hlen
  by_cases h0 : 0 ≤ core
  · have q0 : decide (0 ≤ core) = true := decide_eq_true h0
    by_cases h1 : core < (S.nc : Int)
    · have q1 : decide (core < (S.nc : Int)) = true := decide_eq_true h1
      by_cases h2 : 65536 ≤ a
      · have q2 : decide ((65536 : Int) ≤ (a : Int)) = true := decide_eq_true (by omega)
        by_cases h3 : a < 65536 + len
        · have q3 : decide ((a : Int) < 65536 + (len : Int)) = true := decide_eq_true (by omega)
          rw [q0, q1, decide_eq_true (And.intro h2 h3)]
          have h2' : (65536 : Int) ≤ (a : Int) := by omega
          have h3' : (a : Int) < 65536 + (len : Int) := by omega
          clear h2 h3
          go_enter Tryd.func26, Tryd.ntmps26
          go_wp2
          go_ret
          exact ⟨rfl, rfl⟩
        · have q3 : decide ((a : Int) < 65536 + (len : Int)) = false := decide_eq_false (by omega)
          rw [q0, q1, decide_eq_false (fun q => h3 q.2)]
          have h2' : (65536 : Int) ≤ (a : Int) := by omega
          have h3' : ¬ (a : Int) < 65536 + (len : Int) := by omega
          clear h2 h3
          go_enter Tryd.func26, Tryd.ntmps26
          go_wp2
          go_ret
          exact ⟨rfl, rfl⟩
      · have q2 : decide ((65536 : Int) ≤ (a : Int)) = false := decide_eq_false (by omega)
        rw [q0, q1, decide_eq_false (fun q => h2 q.1)]
        have h2' : ¬ (65536 : Int) ≤ (a : Int) := by omega
        clear h2
        go_enter Tryd.func26, Tryd.ntmps26
        go_wp2
        go_ret
        exact ⟨rfl, rfl⟩
    · have q1 : decide (core < (S.nc : Int)) = false := decide_eq_false h1
      rw [q0, q1]
      go_enter Tryd.func26, Tryd.ntmps26
      go_wp2
      go_ret
      exact ⟨rfl, rfl⟩
  · have q0 : decide (0 ≤ core) = false := decide_eq_false h0
    rw [q0]
    go_enter Tryd.func26, Tryd.ntmps26
    go_wp2
    go_ret
    exact ⟨rfl, rfl⟩
theorem akc_0 (f : Int → Option (Nat × Bool)) (i : Nat) : akc f (i * 3) = .bool (f i).isSome := by
  have e1 : i * 3 / 3 = i := by omega
  have e2 : i * 3 % 3 = 0 := by omega
  unfold akc akv
  rw [e1, e2]
  cases f (i : Int) <;> rfl
theorem akc_1 (f : Int → Option (Nat × Bool)) (i l : Nat) (b : Bool) (h : f i = some (l, b)) : akc f (i * 3) = .bool true ∧ akc f (i * 3 + 1) = .int .i64 l ∧ akc f (i * 3 + 2) = .bool b := by
  have e0 : i * 3 / 3 = i := by omega
  have e1 : (i * 3 + 1) / 3 = i := by omega
  have e2 : (i * 3 + 2) / 3 = i := by omega
  have f0 : i * 3 % 3 = 0 := by omega
  have f1 : (i * 3 + 1) % 3 = 1 := by omega
  have f2 : (i * 3 + 2) % 3 = 2 := by omega
  unfold akc akv
  rw [e0, e1, e2, f0, f1, f2, h]
  exact ⟨rfl, rfl, rfl⟩
set_option maxRecDepth 100000 in
set_option maxHeartbeats 1000000 in
theorem rbusy_any (k : Rb x g rv R last left S) (core : Int) (ho : ∀ c, (S.ak c).isSome = true → 0 ≤ c ∧ c < S.nc) : Calls Tryd.prog 18 #[.pointer (some ⟨g.p, 0, none⟩), .int .i64 core] x fun e w' => e = .returned (.bool (S.ak core).isSome) ∧ w' = x := by
  have c3 : x.cell? ⟨g.p, 3, none⟩ = some (.slice (some ⟨g.ab, 0, none⟩) S.nc g.ac) := k.c.cell 3 (by decide)
  have hp := k.c.here
  have ha := k.ak.here
  have hu : undef = Value.tuple #[] := rfl
  by_cases h0 : 0 ≤ core
  · by_cases h1 : core < (S.nc : Int)
    · obtain ⟨i, rfl⟩ : ∃ i : Nat, core = i := ⟨core.toNat, by omega⟩
      have hi : i < S.nc := by omega
      have ca : x.cell? ⟨g.ab, i * 3, none⟩ = some (.bool (S.ak i).isSome) := by
        have := k.ak.cell (i * 3) (by omega)
        rw [akc_0] at this
        exact this
      have q0 : decide ((0 : Int) ≤ (i : Int)) = true := decide_eq_true h0
      have q1 : decide ((i : Int) < (S.nc : Int)) = true := decide_eq_true h1
      generalize (S.ak i).isSome = b at ca
      clear k ho
      go_enter Tryd.func18, Tryd.ntmps18
      go_wp2
      go_ret
      exact ⟨rfl, rfl⟩
    · have e : (S.ak core).isSome = false := by
        cases h : (S.ak core).isSome
        · rfl
        · exact absurd (ho core h).2 h1
      rw [e]
      have q0 : decide (0 ≤ core) = true := decide_eq_true h0
      have q1 : decide (core < (S.nc : Int)) = false := decide_eq_false h1
      clear k ho e
      go_enter Tryd.func18, Tryd.ntmps18
      go_wp2
      go_ret
      exact ⟨rfl, rfl⟩
  · have e : (S.ak core).isSome = false := by
      cases h : (S.ak core).isSome
      · rfl
      · exact absurd (ho core h).1 h0
    rw [e]
    have q0 : decide (0 ≤ core) = false := decide_eq_false h0
    clear k ho e
    go_enter Tryd.func18, Tryd.ntmps18
    go_wp2
    go_ret
    exact ⟨rfl, rfl⟩
set_option maxRecDepth 100000 in
theorem rbstate_any (k : Rb x g rv R last left S) (core : Int) (a : Nat) (ha : a < 4294967296) : Calls Tryd.prog 16 #[.pointer (some ⟨g.p, 0, none⟩), .int .i64 core, .int .i64 a] x fun e w' => e = .returned (.int .i64 (S.st core a : Nat)) ∧ w' = x := by
  have HH := Hid.in (rwithin_any k core a ha)
  cases hh : S.has core a
  · have e : S.st core a = 0 := by unfold BS.st; rw [hh]; rfl
    rw [e]
    rw [hh] at HH
    clear k ha
    go_enter Tryd.func16, Tryd.ntmps16
    go_wp2_with (go_at_call 26; refine HH.out.mono ?_; rintro e y ⟨rfl, hy⟩; have hy2 := hy.symm; clear hy; subst hy2)
    go_ret
    exact ⟨rfl, rfl⟩
  · obtain ⟨i, rfl, hi, -, -⟩ := has_core hh
    have e : S.st i a = (S.c i).st a := by unfold BS.st; rw [hh]; rfl
    rw [e]
    rw [hh] at HH
    have HS := Hid.in (rcst_any (k.rc i hi) (k.sm i hi) a ha)
    have c0 : x.cell? ⟨g.p, 0, none⟩ = some (.slice (some ⟨g.cb, 0, none⟩) S.nc g.cc) := k.c.cell 0 (by decide)
    have r0 : x.cell? ⟨g.cb, i, none⟩ = some (.pointer (some ⟨g.q i, 0, none⟩)) := k.row.cell i hi
    have hp := k.c.here
    have hr := k.row.here
    have hi' : (i : Int) < (S.nc : Int) := by omega
    clear k ha hh e
    go_enter Tryd.func16, Tryd.ntmps16
    go_wp2_with (first
      | (go_at_call 26; refine HH.out.mono ?_; rintro e y ⟨rfl, hy⟩; have hy2 := hy.symm; clear hy; subst hy2)
      | (go_at_call 37; refine HS.out.mono ?_; rintro e y ⟨rfl, hy⟩; have hy2 := hy.symm; clear hy; subst hy2))
    go_ret
    exact ⟨rfl, rfl⟩
set_option maxRecDepth 100000 in
set_option maxHeartbeats 1000000 in
theorem rask_no (k : Rb x g rv R last left S) (core : Int) (a : Nat) (wr : Bool) (ha : a < 4294967296) (hh : S.has core a = false) : Calls Tryd.prog 6 #[.pointer (some ⟨g.p, 0, none⟩), .int .i64 core, .int .i64 a, .bool wr] x fun e w' => e = .returned (.int .i64 3) ∧ w' = x := by
  have HH := Hid.in (rwithin_any k core a ha)
  rw [hh] at HH
  clear k ha hh
  go_enter Tryd.func6, Tryd.ntmps6
  go_wp2_with (go_at_call 26; refine HH.out.mono ?_; rintro e y ⟨rfl, hy⟩; have hy2 := hy.symm; clear hy; subst hy2)
  go_ret
  exact ⟨rfl, rfl⟩
set_option maxRecDepth 100000 in
set_option maxHeartbeats 1000000 in
theorem rask_state (k : Rb x g rv R last left S) (core : Int) (a : Nat) (wr : Bool) (ha : a < 4294967296) (hh : S.has core a = true) (hs : (S.ak core).isSome = true ∨ (if wr then 2 else 1) ≤ S.st core a) : Calls Tryd.prog 6 #[.pointer (some ⟨g.p, 0, none⟩), .int .i64 core, .int .i64 a, .bool wr] x fun e w' => e = .returned (.int .i64 7) ∧ w' = x := by
  have HH := Hid.in (rwithin_any k core a ha)
  rw [hh] at HH
  have HS := Hid.in (rbstate_any k core a ha)
  obtain ⟨i, rfl, hi, -, -⟩ := has_core hh
  have c3 : x.cell? ⟨g.p, 3, none⟩ = some (.slice (some ⟨g.ab, 0, none⟩) S.nc g.ac) := k.c.cell 3 (by decide)
  have hp := k.c.here
  have hab := k.ak.here
  have hu : undef = Value.tuple #[] := rfl
  have ca : x.cell? ⟨g.ab, i * 3, none⟩ = some (.bool (S.ak i).isSome) := by
    have := k.ak.cell (i * 3) (by omega)
    rw [akc_0] at this
    exact this
  have hi' : (i : Int) < (S.nc : Int) := by omega
  generalize S.st i a = st at HS hs
  cases hb : (S.ak i).isSome
  · rw [hb] at ca hs
    have hs2 : (if wr then 2 else 1) ≤ st := hs.elim (fun h => by cases h) id
    clear hs k hh ha hb
    cases wr
    · have hs3 : (0 : Int) < (st : Int) := by simp at hs2; omega
      have q3 : decide ((0 : Int) < (st : Int)) = true := decide_eq_true hs3
      clear hs2
      go_enter Tryd.func6, Tryd.ntmps6
      go_wp2_with (first
        | (go_at_call 26; refine HH.out.mono ?_; rintro e y ⟨rfl, hy⟩; have hy2 := hy.symm; clear hy; subst hy2)
        | (go_at_call 16; refine HS.out.mono ?_; rintro e y ⟨rfl, hy⟩; have hy2 := hy.symm; clear hy; subst hy2))
      go_ret
      exact ⟨rfl, rfl⟩
    · have hs3 : (2 : Int) ≤ (st : Int) := by simp at hs2; omega
      have q3 : decide ((2 : Int) ≤ (st : Int)) = true := decide_eq_true hs3
      clear hs2
      go_enter Tryd.func6, Tryd.ntmps6
      go_wp2_with (first
        | (go_at_call 26; refine HH.out.mono ?_; rintro e y ⟨rfl, hy⟩; have hy2 := hy.symm; clear hy; subst hy2)
        | (go_at_call 16; refine HS.out.mono ?_; rintro e y ⟨rfl, hy⟩; have hy2 := hy.symm; clear hy; subst hy2))
      go_ret
      exact ⟨rfl, rfl⟩
  · rw [hb] at ca
    clear hs k hh ha hb
    go_enter Tryd.func6, Tryd.ntmps6
    go_wp2_with (first
      | (go_at_call 26; refine HH.out.mono ?_; rintro e y ⟨rfl, hy⟩; have hy2 := hy.symm; clear hy; subst hy2)
      | (go_at_call 16; refine HS.out.mono ?_; rintro e y ⟨rfl, hy⟩; have hy2 := hy.symm; clear hy; subst hy2))
    go_ret
    exact ⟨rfl, rfl⟩
end
end Go.Proofs.YtlogdmnhngbkaaaDoor
