import Derived.Test.YtlogdmnhngbkaaaDoorY16
import Derived.Test.YtlogdmnhngbkaaaDoorY07
/-
  BUS: note.
-/
namespace Go.Proofs.YtlogdmnhngbkaaaDoor
open Go Go.RowKit
theorem used_last (T : CS) (i : Nat) (h : 0 < (T.set i).length) : T.used i ((T.set i).length - 1) = T := by
  unfold CS.used CS.put
  have e : rest (T.set i) ((T.set i).length - 1) ++ [(T.set i).getD ((T.set i).length - 1) l0] = T.set i := by
    unfold rest
    rw [List.drop_eq_nil_of_le (by omega), List.append_nil]
    have h2 := cut_at (T.set i) ((T.set i).length - 1) (by omega)
    rw [List.drop_eq_nil_of_le (by omega)] at h2
    exact h2.symm
  rw [e]
  have : upd T.set i (T.set i) = T.set := by
    funext j
    unfold upd
    split
    · rename_i q; rw [q]
    · rfl
  rw [this]
theorem leN_one (b : Nat → Nat) : leN b 1 = b 0 := by simp [leN]
theorem cput_same (S : BS) (i : Nat) : S.cput i (S.c i) = S := by
  unfold BS.cput
  rw [if_same i S.c]
section
variable {x : World} {B p rb rc mb mc nb ab kn ka : Nat} {P H C : Nat → Nat} {V : Nat → Nat → Value} {S : BS}
/-- one byte of a line that stands last in its set is read: nothing changes -/
theorem read_last (k : Bm x B p rb rc mb mc nb ab kn ka P H C V S) (i L t : Nat) (hi : i < S.nc) (h16 : L % 16 = 0) (ht : t < 16) (hL : L + 16 < 4294967296) (hA : At ((S.c i).set ((S.c i).of L)) L (((S.c i).set ((S.c i).of L)).length - 1)) (e : Ln) (he : ((S.c i).set ((S.c i).of L)).getD (((S.c i).set ((S.c i).of L)).length - 1) l0 = e) (h8 : ∀ q, e.b q < 256) : Calls Tryd.prog 31 #[.pointer (some ⟨P i, 0, none⟩), .int .u32 ((L + t : Nat) : Int), .int .i64 1] x fun r w' => r = .returned (.tuple #[.int .u32 (e.b t : Nat), .bool true]) ∧ Bm w' B p rb rc mb mc nb ab kn ka P H C V S ∧ Turned (mine (P i) (H i) (S.c i).n (V i)) x w' := by
  have hlo : lineOf (L + t) = lineOf L := by unfold lineOf; omega
  have hof : (S.c i).of (L + t) = (S.c i).of L := of_line _ _ _ hlo
  have hA' : At ((S.c i).set ((S.c i).of (L + t))) (L + t) (((S.c i).set ((S.c i).of L)).length - 1) := by
    rw [hof]
    refine ⟨hA.1, ?_, fun j hj => ?_⟩
    · rw [hlo]; exact hA.2.1
    · rw [hlo]; exact hA.2.2 j hj
  have hr := read_at B (P i) (H i) (C i) (V i) (S.c i) (L + t) 1 (((S.c i).set ((S.c i).of L)).length - 1) x (k.ch i hi) (by omega) hA' (by unfold fits; simp) (fun j _ => by rw [hof, he]; exact h8 j)
  refine hr.mono fun r w' h => ?_
  obtain ⟨h1, h2, h3⟩ := h
  rw [hof] at h2
  rw [used_last _ _ (by have := hA.1; omega)] at h2
  have kk := k.cache1 i hi rfl h2 h3
  rw [cput_same] at kk
  refine ⟨?_, kk, h3⟩
  rw [h1, hof, he, leN_one]
  have : (L + t) % 16 + 0 = t := by omega
  rw [this]
end
end Go.Proofs.YtlogdmnhngbkaaaDoor
/-
  BUS: note.
-/
namespace Go.Proofs.YtlogdmnhngbkaaaDoor
open Go Go.RowKit
section
variable {x y : World} {B p rb rc mb mc nb ab kn ka : Nat} {P H C : Nat → Nat} {V : Nat → Nat → Value} {S : BS}
theorem Bm.other {z : Nat} (k : Bm x B p rb rc mb mc nb ab kn ka P H C V S) (t : Turned (fun j => j = z) x y) (h5 : ¬ own5 p rb mb nb ab z) (hm : ∀ i, i < S.nc → ¬ mine (P i) (H i) (S.c i).n (V i) z) : Bm y B p rb rc mb mc nb ab kn ka P H C V S := by
  have n5 : ∀ j, own5 p rb mb nb ab j → ¬ j = z := fun j hj e => h5 (by rw [← e]; exact hj)
  exact ⟨t.cells k.c (n5 p (Or.inl rfl)), t.cells k.row (n5 rb (Or.inr (Or.inl rfl))), fun i hi => (k.ch i hi).off t (fun j hj e => hm i hi (by rw [← e]; exact hj)), t.cells k.m (n5 mb (Or.inr (Or.inr (Or.inl rfl)))), k.nw.turned t (n5 nb (Or.inr (Or.inr (Or.inr (Or.inl rfl))))), k.ak.turned t (n5 ab (Or.inr (Or.inr (Or.inr (Or.inr rfl))))), k.d0, k.d1, k.d2, k.lo, k.sz, k.rm, k.m8⟩
theorem arr_load {w : World} {g : Nat} {b : Nat → Nat} (h : CellsAt 16 w g (fun j => .int .u8 (b j : Nat))) : w.rangeAt g 0 (bvs b) := by
  have := range_row (L := 0) (m := b) h (by omega)
  simpa using this
set_option maxRecDepth 100000 in
set_option maxHeartbeats 1000000 in
theorem bnote_any (k : Bm x B p rb rc mb mc nb ab kn ka P H C V S) (i L : Nat) (hi : i < S.nc) (h16 : L % 16 = 0) (hL : L + 16 < 4294967296) (hA : At ((S.c i).set ((S.c i).of L)) L (((S.c i).set ((S.c i).of L)).length - 1)) (e : Ln) (he : ((S.c i).set ((S.c i).of L)).getD (((S.c i).set ((S.c i).of L)).length - 1) l0 = e) (h8 : ∀ q, e.b q < 256) (hkn : kn < maxLen) : Calls Tryd.prog 34 #[.pointer (some ⟨p, 0, none⟩), .int .i64 i, .int .u32 L] x fun r w' => r = .returned (.tuple #[]) ∧ Bm w' B p rb rc mb mc nb ab (kn + 1) ka P H C V { S with nw := updO S.nw (L : Nat) (some e.b) } ∧ Turned (fun j => mine (P i) (H i) (S.c i).n (V i) j ∨ j = nb) x w' := by
  have hmn : ∀ j, j < S.nc → ¬ mine (P j) (H j) (S.c j).n (V j) x.heap.size := fun j hj q => by have := (mine_lt (k.ch j hj) _ q).1; omega
  have h5n : ¬ own5 p rb mb nb ab x.heap.size := fun q => by have := k.at _ q; omega
  obtain ⟨W, hW⟩ : ∃ W, x.alloc (.cells z16 98) = W := ⟨_, rfl⟩
  have b1 : Below x.heap.size x W := by rw [← hW]; exact (Below.refl _ _).alloc (Nat.le_refl _) _
  have cW : CellsAt 16 W x.heap.size (fun _ => .int .u8 0) := by
    rw [← hW]
    refine ⟨by simp, fun o ho => ?_, fun o => World.frozen?_alloc_at _ _ _ _ rfl⟩
    rw [World.cell?_alloc_new, Array.getElem?_eq_getElem (by show o < 16; exact ho)]
    match o, ho with
    | 0, _ => rfl
    | 1, _ => rfl
    | 2, _ => rfl
    | 3, _ => rfl
    | 4, _ => rfl
    | 5, _ => rfl
    | 6, _ => rfl
    | 7, _ => rfl
    | 8, _ => rfl
    | 9, _ => rfl
    | 10, _ => rfl
    | 11, _ => rfl
    | 12, _ => rfl
    | 13, _ => rfl
    | 14, _ => rfl
    | 15, _ => rfl
    | q + 16, h => exact absurd h (by omega)
  have HKW := Hid.in (k.below b1)
  have HTW : Hid (Turned (fun j => mine (P i) (H i) (S.c i).n (V i) j) x W) := Turned.of_below b1
  have HCW := Hid.in cW
  have HMN := Hid.in hmn
  have H5N := Hid.in h5n
  have HRD : Hid (∀ (z : World) (t : Nat), t < 16 → Bm z B p rb rc mb mc nb ab kn ka P H C V S → Calls Tryd.prog 31 #[.pointer (some ⟨P i, 0, none⟩), .int .u32 ((L : Int) + (t : Int)), .int .i64 1] z fun r w' => r = .returned (.tuple #[.int .u32 (e.b t : Nat), .bool true]) ∧ Bm w' B p rb rc mb mc nb ab kn ka P H C V S ∧ Turned (mine (P i) (H i) (S.c i).n (V i)) z w') := fun z t ht kz => by
    have := read_last kz i L t hi h16 ht hL hA e he h8
    rw [Int.natCast_add] at this
    exact this
  have H8 := Hid.in h8
  have HKN := Hid.in hkn
  have HII := Hid.in hi
  have hnc : S.nc ≤ 2 := k.sz.2.1
  have hi' : (i : Int) < (S.nc : Int) := by omega
  obtain ⟨nb6, hn6⟩ : ∃ g, x.heap.size = g := ⟨_, rfl⟩
  rw [hn6] at HCW HMN H5N
  unfold z16 at hW
  clear k hA he h8 hkn h16 b1 cW hmn h5n
  go_enter Tryd.func34, Tryd.ntmps34
  go_wp2
  try rw [hW, hn6]
  clear hW
  go_loopw [10] (fun iv wr => ∃ t : Nat, iv = .int .i64 t ∧ t ≤ 16 ∧ Bm wr B p rb rc mb mc nb ab kn ka P H C V S ∧ Turned (fun j => mine (P i) (H i) (S.c i).n (V i) j) x wr ∧ CellsAt 16 wr nb6 (fun j => .int .u8 (if j < t then e.b j else 0 : Nat))) (fun iv _ => 17 - (intOf iv).toNat)
  case atStart => exact ⟨0, rfl, by omega, HKW.out, HTW.out, HCW.out.here, fun o ho => by rw [HCW.out.cell o ho]; simp, HCW.out.free⟩
  case round =>
    obtain ⟨t, rfl, ht, hK, hT, hC⟩ := hrel
    have HK := Hid.in hK
    have HT := Hid.in hT
    have HC := Hid.in hC
    clear hK hT hC HKW HTW HCW
    by_cases hlt : t < 16
    · have hlt' : (t : Int) < 16 := by omega
      have c0 : wr.cell? ⟨p, 0, none⟩ = some (.slice (some ⟨rb, 0, none⟩) S.nc rc) := HK.out.c.cell 0 (by decide)
      have r0 : wr.cell? ⟨rb, i, none⟩ = some (.pointer (some ⟨P i, 0, none⟩)) := HK.out.row.cell i HII.out
      have hp := HK.out.c.here
      have hr := HK.out.row.here
      have a1 : (t : Int) % 4294967296 = (t : Int) := by omega
      have a2 : ((L : Int) + (t : Int)) % 4294967296 = (L : Int) + (t : Int) := by omega
      have a3 : ((e.b t : Nat) : Int) % 256 = ((e.b t : Nat) : Int) := by have := H8.out t; omega
      go_upto_region 5 with (go_at_call 31; refine (HRD.out _ t hlt HK.out).mono ?_; rintro r z ⟨rfl, hz1, hz2⟩; have HZ1 := Hid.in hz1; have HZ2 := Hid.in hz2; clear hz1 hz2)
      have HCZ := Hid.in (HZ2.out.cells HC.out (HMN.out i HII.out))
      have e1 := HCZ.out.cell t hlt
      have e2 := HCZ.out.free t
      have e3 := HCZ.out.here
      obtain ⟨u, hu⟩ : ∃ u : Int, ((if t < t then e.b t else 0 : Nat) : Int) = u := ⟨_, rfl⟩
      simp only [hu] at e1
      clear hu c0 r0 hp hr
      go_wp2
      go_roundw
      case rel =>
        refine ⟨t + 1, by simp, by omega, HZ1.out.other ((Turned.refl (fun j => j = nb6) z).set rfl t _) H5N.out HMN.out, (HT.out.trans HZ2.out).trans2' ((Turned.refl (fun j => j = nb6) z).set rfl t _) (fun j hj => by have hj : j = nb6 := hj; omega), ?_⟩
        have h := HCZ.out.set t hlt (.int .u8 (e.b t : Nat))
        refine ⟨h.here, fun o ho => ?_, h.free⟩
        rw [h.cell o ho]
        unfold upd
        by_cases q : o = t
        · rw [if_pos q, if_pos (by omega), q]
        · have q3 : o < t + 1 ↔ o < t := by omega
          simp only [if_neg q, q3]
      case measure =>
        simp [intOf]
        omega
    · obtain rfl : t = 16 := by omega
      have bD : Below wr.heap.size wr wr.drew := ⟨rfl, rfl, rfl, Nat.le_refl _, fun _ _ => rfl⟩
      have kD := HK.out.below bD
      have cE : CellsAt 16 wr nb6 (fun j => .int .u8 (e.b j : Nat)) := ⟨HC.out.here, fun o ho => by rw [HC.out.cell o ho, if_pos ho], HC.out.free⟩
      have q0 : wr.cell? ⟨nb6, 0, none⟩ = some (.int .u8 (e.b 0 : Nat)) := cE.cell 0 (by decide)
      have q1 : wr.cell? ⟨nb6, 1, none⟩ = some (.int .u8 (e.b 1 : Nat)) := cE.cell 1 (by decide)
      have q2 : wr.cell? ⟨nb6, 2, none⟩ = some (.int .u8 (e.b 2 : Nat)) := cE.cell 2 (by decide)
      have q3 : wr.cell? ⟨nb6, 3, none⟩ = some (.int .u8 (e.b 3 : Nat)) := cE.cell 3 (by decide)
      have q4 : wr.cell? ⟨nb6, 4, none⟩ = some (.int .u8 (e.b 4 : Nat)) := cE.cell 4 (by decide)
      have q5 : wr.cell? ⟨nb6, 5, none⟩ = some (.int .u8 (e.b 5 : Nat)) := cE.cell 5 (by decide)
      have q6 : wr.cell? ⟨nb6, 6, none⟩ = some (.int .u8 (e.b 6 : Nat)) := cE.cell 6 (by decide)
      have q7 : wr.cell? ⟨nb6, 7, none⟩ = some (.int .u8 (e.b 7 : Nat)) := cE.cell 7 (by decide)
      have q8 : wr.cell? ⟨nb6, 8, none⟩ = some (.int .u8 (e.b 8 : Nat)) := cE.cell 8 (by decide)
      have q9 : wr.cell? ⟨nb6, 9, none⟩ = some (.int .u8 (e.b 9 : Nat)) := cE.cell 9 (by decide)
      have q10 : wr.cell? ⟨nb6, 10, none⟩ = some (.int .u8 (e.b 10 : Nat)) := cE.cell 10 (by decide)
      have q11 : wr.cell? ⟨nb6, 11, none⟩ = some (.int .u8 (e.b 11 : Nat)) := cE.cell 11 (by decide)
      have q12 : wr.cell? ⟨nb6, 12, none⟩ = some (.int .u8 (e.b 12 : Nat)) := cE.cell 12 (by decide)
      have q13 : wr.cell? ⟨nb6, 13, none⟩ = some (.int .u8 (e.b 13 : Nat)) := cE.cell 13 (by decide)
      have q14 : wr.cell? ⟨nb6, 14, none⟩ = some (.int .u8 (e.b 14 : Nat)) := cE.cell 14 (by decide)
      have q15 : wr.cell? ⟨nb6, 15, none⟩ = some (.int .u8 (e.b 15 : Nat)) := cE.cell 15 (by decide)
      have ebv : (bvs e.b).toArray = #[.int .u8 (e.b 0 : Nat), .int .u8 (e.b 1 : Nat), .int .u8 (e.b 2 : Nat), .int .u8 (e.b 3 : Nat), .int .u8 (e.b 4 : Nat), .int .u8 (e.b 5 : Nat), .int .u8 (e.b 6 : Nat), .int .u8 (e.b 7 : Nat), .int .u8 (e.b 8 : Nat), .int .u8 (e.b 9 : Nat), .int .u8 (e.b 10 : Nat), .int .u8 (e.b 11 : Nat), .int .u8 (e.b 12 : Nat), .int .u8 (e.b 13 : Nat), .int .u8 (e.b 14 : Nat), .int .u8 (e.b 15 : Nat)] := rfl
      obtain ⟨Y, hrun, hmap, htu⟩ := kD.nw.put Tryd.underlying31 Tryd.underlying68 HKN.out (wf_u32 (a := L) (by omega)) (.agg (bvs e.b).toArray)
      have HF := Hid.in (kD.newer htu (f := updO S.nw (L : Nat) (some e.b)) (by rw [encN_upd]; exact hmap))
      have HTF : Hid (Turned (fun j => mine (P i) (H i) (S.c i).n (V i) j ∨ j = nb) x Y) := ((HT.out.mono (fun j e => Or.inl e)).trans (Turned.of_below bD)).trans (htu.mono (fun j e => Or.inr e))
      have n3 : wr.cell? ⟨p, 3, none⟩ = some (.map (some nb)) := HK.out.c.cell 3 (by decide)
      have hp := HK.out.c.here
      have h6 := HC.out.here
      rw [ebv] at hrun
      clear bD kD cE hmap htu ebv
      go_upto_region 7 with fail
      go_region
      exact bodyPost_end (results_none Tryd.results34 _ _ _) rfl ⟨rfl, HF.out, HTF.out⟩
end
end Go.Proofs.YtlogdmnhngbkaaaDoor
/-
  BUS' LAW BusCoheres: what lasts, plainly: lines of a cache as a set.
-/
namespace Go.Proofs.YtlogdmnhngbkaaaDoor
open Go Go.RowKit
/-- a cache whose lines stand in their sets, each once -/
structure Stc (T : CS) : Prop where
  n : 1 ≤ T.n
  ways : 1 ≤ T.ways
  at' : ∀ q, q < T.n → ∀ e ∈ T.set q, T.of e.a = q ∧ e.a % 16 = 0
  one : ∀ q, q < T.n → Apart (T.set q)
def CS.L (T : CS) (e : Ln) : Prop := ∃ q, q < T.n ∧ e ∈ T.set q
theorem apart_uni {l : List Ln} (h : Apart l) {e e' : Ln} (a : e ∈ l) (b : e' ∈ l) (q : e.a = e'.a) : e = e' := by
  induction l with
  | nil => cases a
  | cons x l ih =>
    obtain ⟨h1, h2⟩ := List.pairwise_cons.1 h
    rcases List.mem_cons.1 a with a | a <;> rcases List.mem_cons.1 b with b | b
    · rw [a, b]
    · exact absurd (by rw [← a]; exact q) (h1 e' b)
    · exact absurd (by rw [← b]; exact q.symm) (h1 e a)
    · exact ih h2 a b
theorem Stc.uni {T : CS} (h : Stc T) {e e' : Ln} (a : T.L e) (b : T.L e') (q : e.a = e'.a) : e = e' := by
  obtain ⟨x, hx, mx⟩ := a
  obtain ⟨y, hy, my⟩ := b
  have e1 := (h.at' x hx e mx).1
  have e2 := (h.at' y hy e' my).1
  rw [q, e2] at e1
  subst e1
  exact apart_uni (h.one _ hy) mx my q
theorem Stc.put {T : CS} (h : Stc T) (q : Nat) (hq : q < T.n) (l : List Ln) (hl : ∀ e ∈ l, T.of e.a = q ∧ e.a % 16 = 0) (hp : Apart l) : Stc (T.put q l) ∧ ∀ e, (T.put q l).L e ↔ (e ∈ l ∨ (T.L e ∧ T.of e.a ≠ q)) := by
  have hs : ∀ j, (T.put q l).set j = if j = q then l else T.set j := fun j => by
    show upd T.set q l j = _
    by_cases e : j = q
    · rw [if_pos e, e, upd_same]
    · rw [if_neg e, upd_other _ _ _ _ e]
  refine ⟨⟨h.n, h.ways, fun j hj e he => ?_, fun j hj => ?_⟩, fun e => ⟨?_, ?_⟩⟩
  · rw [hs] at he
    by_cases x : j = q
    · rw [if_pos x] at he
      rw [x]
      exact hl e he
    · rw [if_neg x] at he
      exact h.at' j hj e he
  · rw [hs]
    by_cases x : j = q
    · rw [if_pos x]; exact hp
    · rw [if_neg x]; exact h.one j hj
  · rintro ⟨j, hj, he⟩
    rw [hs] at he
    by_cases x : j = q
    · rw [if_pos x] at he; exact Or.inl he
    · rw [if_neg x] at he
      exact Or.inr ⟨⟨j, hj, he⟩, by rw [(h.at' j hj e he).1]; exact x⟩
  · rintro (he | ⟨⟨j, hj, he⟩, x⟩)
    · exact ⟨q, hq, by rw [hs, if_pos rfl]; exact he⟩
    · rw [(h.at' j hj e he).1] at x
      exact ⟨j, hj, by rw [hs, if_neg x]; exact he⟩
theorem Stc.L_of {T : CS} (h : Stc T) {q : Nat} (hq : q < T.n) (e : Ln) : e ∈ T.set q ↔ (T.L e ∧ T.of e.a = q) :=
  ⟨fun he => ⟨⟨q, hq, he⟩, (h.at' q hq e he).1⟩, fun ⟨⟨j, hj, he⟩, x⟩ => by rw [(h.at' j hj e he).1] at x; rw [← x]; exact he⟩
theorem rest_iff {l : List Ln} (h : Apart l) {k : Nat} (hk : k < l.length) (e : Ln) : e ∈ rest l k ↔ (e ∈ l ∧ e.a ≠ (l.getD k l0).a) := by
  constructor
  · intro he
    exact ⟨mem_rest l k e he, (apart_rest l k hk h).2 e he⟩
  · rintro ⟨he, hn⟩
    rcases mem_split l k e hk he with q | q
    · exact q
    · exact absurd (by rw [q]) hn
theorem Stc.rem {T : CS} (h : Stc T) (q k : Nat) (hq : q < T.n) (hk : k < (T.set q).length) : Stc (T.put q (rest (T.set q) k)) ∧ ∀ e, (T.put q (rest (T.set q) k)).L e ↔ (T.L e ∧ e.a ≠ ((T.set q).getD k l0).a) := by
  have hr := rest_iff (h.one q hq) hk
  obtain ⟨a, b⟩ := h.put q hq (rest (T.set q) k) (fun e he => h.at' q hq e ((hr e).1 he).1) (apart_rest _ k hk (h.one q hq)).1
  refine ⟨a, fun e => ?_⟩
  rw [b e, hr e, h.L_of hq]
  have g := (h.L_of hq ((T.set q).getD k l0)).1 (getD_mem _ k hk)
  constructor
  · rintro (⟨⟨x, y⟩, z⟩ | ⟨x, y⟩)
    · exact ⟨x, z⟩
    · exact ⟨x, fun e' => y (by rw [e']; exact g.2)⟩
  · rintro ⟨x, y⟩
    by_cases z : T.of e.a = q
    · exact Or.inl ⟨⟨x, z⟩, y⟩
    · exact Or.inr ⟨x, z⟩
theorem Stc.wrote {T : CS} (h : Stc T) (q k : Nat) (hq : q < T.n) (hk : k < (T.set q).length) (x : Ln) (hx : x.a = ((T.set q).getD k l0).a) : Stc (T.put q (rest (T.set q) k ++ [x])) ∧ ∀ e, (T.put q (rest (T.set q) k ++ [x])).L e ↔ ((T.L e ∧ e.a ≠ x.a) ∨ e = x) := by
  have hr := rest_iff (h.one q hq) hk
  have g := (h.L_of hq ((T.set q).getD k l0)).1 (getD_mem _ k hk)
  have g2 := h.at' q hq _ (getD_mem _ k hk)
  have ap := apart_rest _ k hk (h.one q hq)
  obtain ⟨a, b⟩ := h.put q hq (rest (T.set q) k ++ [x]) (fun e he => by
    rcases List.mem_append.1 he with he | he
    · exact h.at' q hq e ((hr e).1 he).1
    · rw [List.mem_singleton.1 he, hx]
      exact g2) (List.pairwise_append.2 ⟨ap.1, List.pairwise_singleton _ _, fun e he y hy => by
      rw [List.mem_singleton.1 hy, hx]
      exact ap.2 e he⟩)
  refine ⟨a, fun e => ?_⟩
  rw [b e, List.mem_append, hr e, List.mem_singleton, h.L_of hq, hx]
  constructor
  · rintro ((⟨⟨u, y⟩, z⟩ | u) | ⟨u, y⟩)
    · exact Or.inl ⟨u, z⟩
    · exact Or.inr u
    · exact Or.inl ⟨u, fun e' => y (by rw [e']; exact g.2)⟩
  · rintro (⟨u, y⟩ | u)
    · by_cases z : T.of e.a = q
      · exact Or.inl (Or.inl ⟨⟨u, z⟩, y⟩)
      · exact Or.inr ⟨u, z⟩
    · exact Or.inl (Or.inr u)
theorem Stc.used {T : CS} (h : Stc T) (q k : Nat) (hq : q < T.n) (hk : k < (T.set q).length) : Stc (T.used q k) ∧ ∀ e, (T.used q k).L e ↔ T.L e := by
  have g := (h.L_of hq ((T.set q).getD k l0)).1 (getD_mem _ k hk)
  obtain ⟨a, b⟩ := h.wrote q k hq hk ((T.set q).getD k l0) rfl
  refine ⟨a, fun e => (b e).trans ⟨?_, fun u => ?_⟩⟩
  · rintro (u | u)
    · exact u.1
    · rw [u]; exact g.1
  · by_cases z : e.a = ((T.set q).getD k l0).a
    · exact Or.inr (h.uni u g.1 z)
    · exact Or.inl ⟨u, z⟩
theorem mem_setL (l : List Ln) (k : Nat) (hk : k < l.length) (x e : Ln) : e ∈ l.set k x ↔ (e ∈ rest l k ∨ e = x) := by
  have : l.set k x = l.take k ++ x :: l.drop (k + 1) := List.set_eq_take_append_cons_drop .. |>.trans (by rw [if_pos hk])
  rw [this, List.mem_append, List.mem_cons]
  show _ ↔ (e ∈ l.take k ++ l.drop (k + 1) ∨ _)
  rw [List.mem_append]
  constructor
  · rintro (u | u | u)
    · exact Or.inl (Or.inl u)
    · exact Or.inr u
    · exact Or.inl (Or.inr u)
  · rintro ((u | u) | u)
    · exact Or.inl u
    · exact Or.inr (Or.inr u)
    · exact Or.inr (Or.inl u)
theorem apart_setL (l : List Ln) (k : Nat) (hk : k < l.length) (x : Ln) (hx : x.a = (l.getD k l0).a) (h : Apart l) : Apart (l.set k x) := by
  have : l.set k x = l.take k ++ x :: l.drop (k + 1) := List.set_eq_take_append_cons_drop .. |>.trans (by rw [if_pos hk])
  rw [this]
  have h2 : Apart (l.take k ++ l.getD k l0 :: l.drop (k + 1)) := by rw [← cut_at l k hk]; exact h
  obtain ⟨a1, a2, a3⟩ := List.pairwise_append.1 h2
  obtain ⟨b1, b2⟩ := List.pairwise_cons.1 a2
  refine List.pairwise_append.2 ⟨a1, List.pairwise_cons.2 ⟨fun y hy => by rw [hx]; exact b1 y hy, b2⟩, fun y hy z hz => ?_⟩
  rcases List.mem_cons.1 hz with hz | hz
  · rw [hz, hx]; exact a3 y hy _ List.mem_cons_self
  · exact a3 y hy z (List.mem_cons_of_mem _ hz)
theorem Stc.low {T : CS} (h : Stc T) (q k : Nat) (hq : q < T.n) (hk : k < (T.set q).length) (x : Ln) (hx : x.a = ((T.set q).getD k l0).a) : Stc (T.put q ((T.set q).set k x)) ∧ ∀ e, (T.put q ((T.set q).set k x)).L e ↔ ((T.L e ∧ e.a ≠ x.a) ∨ e = x) := by
  have hr := rest_iff (h.one q hq) hk
  have hm := mem_setL (T.set q) k hk x
  have g := (h.L_of hq ((T.set q).getD k l0)).1 (getD_mem _ k hk)
  have g2 := h.at' q hq _ (getD_mem _ k hk)
  obtain ⟨a, b⟩ := h.put q hq ((T.set q).set k x) (fun e he => by
    rcases (hm e).1 he with he | he
    · exact h.at' q hq e ((hr e).1 he).1
    · rw [he, hx]
      exact g2) (apart_setL _ k hk x hx (h.one q hq))
  refine ⟨a, fun e => ?_⟩
  rw [b e, hm e, hr e, h.L_of hq, hx]
  constructor
  · rintro ((⟨⟨u, y⟩, z⟩ | u) | ⟨u, y⟩)
    · exact Or.inl ⟨u, z⟩
    · exact Or.inr u
    · exact Or.inl ⟨u, fun e' => y (by rw [e']; exact g.2)⟩
  · rintro (⟨u, y⟩ | u)
    · by_cases z : T.of e.a = q
      · exact Or.inl (Or.inl ⟨⟨u, z⟩, y⟩)
      · exact Or.inr ⟨u, z⟩
    · exact Or.inl (Or.inr u)
theorem lineOf_self {a : Nat} (h : a % 16 = 0) : lineOf a = a := by unfold lineOf; omega
theorem Stc.no {T : CS} (h : Stc T) (a : Nat) : No (T.set (T.of a)) a ↔ ∀ e, T.L e → e.a ≠ lineOf a := by
  have hq : T.of a < T.n := T.of_lt a h.n
  constructor
  · intro hn e he q
    refine no_mem hn e ((h.L_of hq e).2 ⟨he, ?_⟩) q
    rw [q, of_lineOf]
  · intro hn
    exact no_of fun e he => hn e ((h.L_of hq e).1 he).1
theorem Stc.has {T : CS} (h : Stc T) (a : Nat) {i : Nat} (hA : At (T.set (T.of a)) a i) : T.L ((T.set (T.of a)).getD i l0) ∧ ((T.set (T.of a)).getD i l0).a = lineOf a :=
  ⟨((h.L_of (T.of_lt a h.n) _).1 (at_mem hA).1).1, (at_mem hA).2⟩
theorem Stc.find {T : CS} (h : Stc T) (a : Nat) {e : Ln} (he : T.L e) (hea : e.a = lineOf a) : ∃ i, At (T.set (T.of a)) a i ∧ (T.set (T.of a)).getD i l0 = e := by
  rcases at_or_no (T.set (T.of a)) a with ⟨i, hi⟩ | hn
  · obtain ⟨u, v⟩ := h.has a hi
    exact ⟨i, hi, h.uni u he (by rw [v, hea])⟩
  · exact absurd hea ((h.no a).1 hn e he)
/-- a line's state -/
theorem Stc.st_is {T : CS} (h : Stc T) (a : Nat) {e : Ln} (he : T.L e) (hea : e.a = lineOf a) : T.st a = e.s := by
  obtain ⟨i, hi, rfl⟩ := h.find a he hea
  exact CS.st_at hi
theorem Stc.st_zero {T : CS} (h : Stc T) (a : Nat) (hn : ∀ e, T.L e → e.a ≠ lineOf a) : T.st a = 0 := CS.st_no ((h.no a).2 hn)
theorem Stc.st_some {T : CS} (h : Stc T) (a : Nat) (hs : T.st a ≠ 0) : ∃ i, At (T.set (T.of a)) a i ∧ T.L ((T.set (T.of a)).getD i l0) ∧ ((T.set (T.of a)).getD i l0).a = lineOf a ∧ T.st a = ((T.set (T.of a)).getD i l0).s := by
  rcases at_or_no (T.set (T.of a)) a with ⟨i, hi⟩ | hn
  · exact ⟨i, hi, (h.has a hi).1, (h.has a hi).2, CS.st_at hi⟩
  · exact absurd (CS.st_no hn) hs
theorem Stc.fill {T : CS} (h : Stc T) (a s : Nat) (b : Nat → Nat) (h16 : a % 16 = 0) (hN : No (T.set (T.of a)) a) : (Stc (T.fill a s b) ∧ ∀ e, (T.fill a s b).L e ↔ ((T.L e ∧ (T.full a = true → e.a ≠ (T.left a).a)) ∨ e = ⟨a, s, b⟩)) ∧ (T.full a = true → T.L (T.left a)) := by
  have hq : T.of a < T.n := T.of_lt a h.n
  have hno : ∀ e ∈ T.set (T.of a), e.a ≠ a := fun e he => by rw [← lineOf_self h16]; exact no_mem hN e he
  have hk : ∀ e, e ∈ T.kept a ↔ (e ∈ T.set (T.of a) ∧ (T.full a = true → e.a ≠ (T.left a).a)) := by
    intro e
    unfold CS.kept CS.left
    cases hf : T.full a
    · simp
    · have hlen : 0 < (T.set (T.of a)).length := by
        have := h.ways
        unfold CS.full at hf
        have := of_decide_eq_true hf
        omega
      simp only [if_pos]
      rw [rest_iff (h.one _ hq) hlen e]
      simp
  have hap : Apart (T.kept a) := by
    unfold CS.kept
    cases hf : T.full a
    · simpa using h.one _ hq
    · have hlen : 0 < (T.set (T.of a)).length := by
        have := h.ways
        unfold CS.full at hf
        have := of_decide_eq_true hf
        omega
      simpa using (apart_rest _ 0 hlen (h.one _ hq)).1
  refine ⟨?_, fun hf => ?_⟩
  · obtain ⟨x, y⟩ := h.put (T.of a) hq (T.kept a ++ [⟨a, s, b⟩]) (fun e he => by
      rcases List.mem_append.1 he with he | he
      · exact h.at' _ hq e ((hk e).1 he).1
      · rw [List.mem_singleton.1 he]
        exact ⟨rfl, h16⟩) (List.pairwise_append.2 ⟨hap, List.pairwise_singleton _ _, fun e he z hz => by
        rw [List.mem_singleton.1 hz]
        exact hno e ((hk e).1 he).1⟩)
    refine ⟨x, fun e => (y e).trans ?_⟩
    rw [List.mem_append, hk e, List.mem_singleton, h.L_of hq]
    constructor
    · rintro ((⟨⟨u, v⟩, z⟩ | u) | ⟨u, v⟩)
      · exact Or.inl ⟨u, z⟩
      · exact Or.inr u
      · refine Or.inl ⟨u, fun hf e' => v ?_⟩
        have hlen : 0 < (T.set (T.of a)).length := by
          have := h.ways
          unfold CS.full at hf
          have := of_decide_eq_true hf
          omega
        rw [e']
        unfold CS.left
        rw [if_pos hf]
        exact (h.at' _ hq _ (getD_mem _ 0 hlen)).1
    · rintro (⟨u, v⟩ | u)
      · by_cases z : T.of e.a = T.of a
        · exact Or.inl (Or.inl ⟨⟨u, z⟩, v⟩)
        · exact Or.inr ⟨u, z⟩
      · exact Or.inl (Or.inr u)
  · have hlen : 0 < (T.set (T.of a)).length := by
      have := h.ways
      have h2 := hf
      unfold CS.full at h2
      have := of_decide_eq_true h2
      omega
    unfold CS.left
    rw [if_pos hf]
    exact ((h.L_of hq _).1 (getD_mem _ 0 hlen)).1
end Go.Proofs.YtlogdmnhngbkaaaDoor
