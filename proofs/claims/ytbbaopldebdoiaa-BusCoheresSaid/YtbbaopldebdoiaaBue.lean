/-
  BUS: note.
-/
import Derived.Test.YtbbaopldebdoiaaBud
namespace Go.Proofs.Ytbbaopldebdoiaa
open Go Go.RowKit
section
variable {x y : World} {B p rb rc mb mc nb ab kn ka : Nat} {P H C : Nat → Nat} {V : Nat → Nat → Value} {S : BS}
theorem Bm.other {z : Nat} (k : Bm x B p rb rc mb mc nb ab kn ka P H C V S) (t : Turned (fun j => j = z) x y) (h5 : ¬ own5 p rb mb nb ab z) (hm : ∀ i, i < S.nc → ¬ mine (P i) (H i) (S.c i).n (V i) z) : Bm y B p rb rc mb mc nb ab kn ka P H C V S := by
  have n5 : ∀ j, own5 p rb mb nb ab j → ¬ j = z := fun j hj e => h5 (by rw [← e]; exact hj)
  exact ⟨t.cells k.c (n5 p (Or.inl rfl)), t.cells k.row (n5 rb (Or.inr (Or.inl rfl))), fun i hi => (k.ch i hi).off t (fun j hj e => hm i hi (by rw [← e]; exact hj)), t.cells k.m (n5 mb (Or.inr (Or.inr (Or.inl rfl)))), k.nw.turned t (n5 nb (Or.inr (Or.inr (Or.inr (Or.inl rfl))))), k.ak.turned t (n5 ab (Or.inr (Or.inr (Or.inr (Or.inr rfl))))), k.d0, k.d1, k.d2, k.lo, k.sz, k.rm, k.m8⟩
theorem arr_load {w : World} {g : Nat} {b : Nat → Nat} (h : CellsAt 16 w g (fun j => .int .u8 (b j : Nat))) : w.rangeAt g 0 (bvs b) := by
  have := range_row (L := 0) (m := b) h (by omega)
  simpa using this
set_option maxRecDepth 100000 in
set_option maxHeartbeats 1000000 in
theorem bnote_any (k : Bm x B p rb rc mb mc nb ab kn ka P H C V S) (i L : Nat) (hi : i < S.nc) (h16 : L % 16 = 0) (hL : L + 16 < 4294967296) (hA : At ((S.c i).set ((S.c i).of L)) L (((S.c i).set ((S.c i).of L)).length - 1)) (e : Ln) (he : ((S.c i).set ((S.c i).of L)).getD (((S.c i).set ((S.c i).of L)).length - 1) l0 = e) (h8 : ∀ q, e.b q < 256) (hkn : kn < maxLen) : Calls Try.prog 23 #[.pointer (some ⟨p, 0, none⟩), .int .i64 i, .int .u32 L] x fun r w' => r = .returned (.tuple #[]) ∧ Bm w' B p rb rc mb mc nb ab (kn + 1) ka P H C V { S with nw := updO S.nw (L : Nat) (some e.b) } ∧ Turned (fun j => mine (P i) (H i) (S.c i).n (V i) j ∨ j = nb) x w' := by
  have hmn : ∀ j, j < S.nc → ¬ mine (P j) (H j) (S.c j).n (V j) x.heap.size := fun j hj q => by have := (mine_lt (k.ch j hj) _ q).1; omega
  have h5n : ¬ own5 p rb mb nb ab x.heap.size := fun q => by have := k.at _ q; omega
  obtain ⟨W, hW⟩ : ∃ W, x.alloc (.cells z16 73) = W := ⟨_, rfl⟩
  have b1 : Below x.heap.size x W := by rw [← hW]; exact (Below.refl _ _).alloc (Nat.le_refl _) _
  have cW : CellsAt 16 W x.heap.size (fun _ => .int .u8 0) := by
    rw [← hW]
    refine ⟨by simp, fun o ho => ?_, fun o => World.frozen?_alloc_at _ _ _ _ rfl⟩
    rw [World.cell?_alloc_new, Array.getElem?_eq_getElem (by show o < 16; exact ho)]
    match o, ho with
    | 0, _ => rfl
    | 1, _ => rfl
    | 2, _ => rfl
    | 3, _ => rfl
    | 4, _ => rfl
    | 5, _ => rfl
    | 6, _ => rfl
    | 7, _ => rfl
    | 8, _ => rfl
    | 9, _ => rfl
    | 10, _ => rfl
    | 11, _ => rfl
    | 12, _ => rfl
    | 13, _ => rfl
    | 14, _ => rfl
    | 15, _ => rfl
    | q + 16, h => exact absurd h (by omega)
  have HKW := Hid.in (k.below b1)
  have HTW : Hid (Turned (fun j => mine (P i) (H i) (S.c i).n (V i) j) x W) := Turned.of_below b1
  have HCW := Hid.in cW
  have HMN := Hid.in hmn
  have H5N := Hid.in h5n
  have HRD : Hid (∀ (z : World) (t : Nat), t < 16 → Bm z B p rb rc mb mc nb ab kn ka P H C V S → Calls Try.prog 24 #[.pointer (some ⟨P i, 0, none⟩), .int .u32 ((L : Int) + (t : Int)), .int .i64 1] z fun r w' => r = .returned (.tuple #[.int .u32 (e.b t : Nat), .bool true]) ∧ Bm w' B p rb rc mb mc nb ab kn ka P H C V S ∧ Turned (mine (P i) (H i) (S.c i).n (V i)) z w') := fun z t ht kz => by
    have := read_last kz i L t hi h16 ht hL hA e he h8
    rw [Int.natCast_add] at this
    exact this
  have H8 := Hid.in h8
  have HKN := Hid.in hkn
  have HII := Hid.in hi
  have hnc : S.nc ≤ 2 := k.sz.2.1
  have hi' : (i : Int) < (S.nc : Int) := by omega
  obtain ⟨nb6, hn6⟩ : ∃ g, x.heap.size = g := ⟨_, rfl⟩
  rw [hn6] at HCW HMN H5N
  unfold z16 at hW
  clear k hA he h8 hkn h16 b1 cW hmn h5n
  go_enter Try.func23, Try.ntmps23
  go_wp2
  try rw [hW, hn6]
  clear hW
  go_loopw [10] (fun iv wr => ∃ t : Nat, iv = .int .i64 t ∧ t ≤ 16 ∧ Bm wr B p rb rc mb mc nb ab kn ka P H C V S ∧ Turned (fun j => mine (P i) (H i) (S.c i).n (V i) j) x wr ∧ CellsAt 16 wr nb6 (fun j => .int .u8 (if j < t then e.b j else 0 : Nat))) (fun iv _ => 17 - (intOf iv).toNat)
  case atStart => exact ⟨0, rfl, by omega, HKW.out, HTW.out, HCW.out.here, fun o ho => by rw [HCW.out.cell o ho]; simp, HCW.out.free⟩
  case round =>
    obtain ⟨t, rfl, ht, hK, hT, hC⟩ := hrel
    have HK := Hid.in hK
    have HT := Hid.in hT
    have HC := Hid.in hC
    clear hK hT hC HKW HTW HCW
    by_cases hlt : t < 16
    · have hlt' : (t : Int) < 16 := by omega
      have c0 : wr.cell? ⟨p, 0, none⟩ = some (.slice (some ⟨rb, 0, none⟩) S.nc rc) := HK.out.c.cell 0 (by decide)
      have r0 : wr.cell? ⟨rb, i, none⟩ = some (.pointer (some ⟨P i, 0, none⟩)) := HK.out.row.cell i HII.out
      have hp := HK.out.c.here
      have hr := HK.out.row.here
      have a1 : (t : Int) % 4294967296 = (t : Int) := by omega
      have a2 : ((L : Int) + (t : Int)) % 4294967296 = (L : Int) + (t : Int) := by omega
      have a3 : ((e.b t : Nat) : Int) % 256 = ((e.b t : Nat) : Int) := by have := H8.out t; omega
      go_upto_region 5 with (go_at_call 24; refine (HRD.out _ t hlt HK.out).mono ?_; rintro r z ⟨rfl, hz1, hz2⟩; have HZ1 := Hid.in hz1; have HZ2 := Hid.in hz2; clear hz1 hz2)
      have HCZ := Hid.in (HZ2.out.cells HC.out (HMN.out i HII.out))
      have e1 := HCZ.out.cell t hlt
      have e2 := HCZ.out.free t
      have e3 := HCZ.out.here
      obtain ⟨u, hu⟩ : ∃ u : Int, ((if t < t then e.b t else 0 : Nat) : Int) = u := ⟨_, rfl⟩
      simp only [hu] at e1
      clear hu c0 r0 hp hr
      go_wp2
      go_roundw
      case rel =>
        refine ⟨t + 1, by simp, by omega, HZ1.out.other ((Turned.refl (fun j => j = nb6) z).set rfl t _) H5N.out HMN.out, (HT.out.trans HZ2.out).trans2' ((Turned.refl (fun j => j = nb6) z).set rfl t _) (fun j hj => by have hj : j = nb6 := hj; omega), ?_⟩
        have h := HCZ.out.set t hlt (.int .u8 (e.b t : Nat))
        refine ⟨h.here, fun o ho => ?_, h.free⟩
        rw [h.cell o ho]
        unfold upd
        by_cases q : o = t
        · rw [if_pos q, if_pos (by omega), q]
        · have q3 : o < t + 1 ↔ o < t := by omega
          simp only [if_neg q, q3]
      case measure =>
        simp [intOf]
        omega
    · obtain rfl : t = 16 := by omega
      have bD : Below wr.heap.size wr wr.drew := ⟨rfl, rfl, rfl, Nat.le_refl _, fun _ _ => rfl⟩
      have kD := HK.out.below bD
      have cE : CellsAt 16 wr nb6 (fun j => .int .u8 (e.b j : Nat)) := ⟨HC.out.here, fun o ho => by rw [HC.out.cell o ho, if_pos ho], HC.out.free⟩
      have q0 : wr.cell? ⟨nb6, 0, none⟩ = some (.int .u8 (e.b 0 : Nat)) := cE.cell 0 (by decide)
      have q1 : wr.cell? ⟨nb6, 1, none⟩ = some (.int .u8 (e.b 1 : Nat)) := cE.cell 1 (by decide)
      have q2 : wr.cell? ⟨nb6, 2, none⟩ = some (.int .u8 (e.b 2 : Nat)) := cE.cell 2 (by decide)
      have q3 : wr.cell? ⟨nb6, 3, none⟩ = some (.int .u8 (e.b 3 : Nat)) := cE.cell 3 (by decide)
      have q4 : wr.cell? ⟨nb6, 4, none⟩ = some (.int .u8 (e.b 4 : Nat)) := cE.cell 4 (by decide)
      have q5 : wr.cell? ⟨nb6, 5, none⟩ = some (.int .u8 (e.b 5 : Nat)) := cE.cell 5 (by decide)
      have q6 : wr.cell? ⟨nb6, 6, none⟩ = some (.int .u8 (e.b 6 : Nat)) := cE.cell 6 (by decide)
      have q7 : wr.cell? ⟨nb6, 7, none⟩ = some (.int .u8 (e.b 7 : Nat)) := cE.cell 7 (by decide)
      have q8 : wr.cell? ⟨nb6, 8, none⟩ = some (.int .u8 (e.b 8 : Nat)) := cE.cell 8 (by decide)
      have q9 : wr.cell? ⟨nb6, 9, none⟩ = some (.int .u8 (e.b 9 : Nat)) := cE.cell 9 (by decide)
      have q10 : wr.cell? ⟨nb6, 10, none⟩ = some (.int .u8 (e.b 10 : Nat)) := cE.cell 10 (by decide)
      have q11 : wr.cell? ⟨nb6, 11, none⟩ = some (.int .u8 (e.b 11 : Nat)) := cE.cell 11 (by decide)
      have q12 : wr.cell? ⟨nb6, 12, none⟩ = some (.int .u8 (e.b 12 : Nat)) := cE.cell 12 (by decide)
      have q13 : wr.cell? ⟨nb6, 13, none⟩ = some (.int .u8 (e.b 13 : Nat)) := cE.cell 13 (by decide)
      have q14 : wr.cell? ⟨nb6, 14, none⟩ = some (.int .u8 (e.b 14 : Nat)) := cE.cell 14 (by decide)
      have q15 : wr.cell? ⟨nb6, 15, none⟩ = some (.int .u8 (e.b 15 : Nat)) := cE.cell 15 (by decide)
      have ebv : (bvs e.b).toArray = #[.int .u8 (e.b 0 : Nat), .int .u8 (e.b 1 : Nat), .int .u8 (e.b 2 : Nat), .int .u8 (e.b 3 : Nat), .int .u8 (e.b 4 : Nat), .int .u8 (e.b 5 : Nat), .int .u8 (e.b 6 : Nat), .int .u8 (e.b 7 : Nat), .int .u8 (e.b 8 : Nat), .int .u8 (e.b 9 : Nat), .int .u8 (e.b 10 : Nat), .int .u8 (e.b 11 : Nat), .int .u8 (e.b 12 : Nat), .int .u8 (e.b 13 : Nat), .int .u8 (e.b 14 : Nat), .int .u8 (e.b 15 : Nat)] := rfl
      obtain ⟨Y, hrun, hmap, htu⟩ := kD.nw.put Try.underlying33 Try.underlying51 HKN.out (wf_u32 (a := L) (by omega)) (.agg (bvs e.b).toArray)
      have HF := Hid.in (kD.newer htu (f := updO S.nw (L : Nat) (some e.b)) (by rw [encN_upd]; exact hmap))
      have HTF : Hid (Turned (fun j => mine (P i) (H i) (S.c i).n (V i) j ∨ j = nb) x Y) := ((HT.out.mono (fun j e => Or.inl e)).trans (Turned.of_below bD)).trans (htu.mono (fun j e => Or.inr e))
      have n3 : wr.cell? ⟨p, 3, none⟩ = some (.map (some nb)) := HK.out.c.cell 3 (by decide)
      have hp := HK.out.c.here
      have h6 := HC.out.here
      rw [ebv] at hrun
      clear bD kD cE hmap htu ebv
      go_upto_region 7 with fail
      go_region
      exact bodyPost_end (results_none Try.results23 _ _ _) rfl ⟨rfl, HF.out, HTF.out⟩
end
end Go.Proofs.Ytbbaopldebdoiaa
