/-
  BUS: writeBack.
-/
import Derived.Test.YtbbaopldebdoiaaBub
namespace Go.Proofs.Ytbbaopldebdoiaa
open Go Go.RowKit
theorem cells_setCells {n : Nat} {b : Nat} : ∀ (vs : List Value) (o : Nat) (w : World) (c : Nat → Value), CellsAt n w b c → o + vs.length ≤ n → CellsAt n (w.setCells b o vs) b (fun i => if o ≤ i ∧ i < o + vs.length then vs.getD (i - o) (c i) else c i)
  | [], o, w, c, h, _ => h.ext fun i _ => by rw [if_neg (by simp)]
  | v :: r, o, w, c, h, hl => by
    have hl' : o + (r.length + 1) ≤ n := by simpa using hl
    refine (cells_setCells r (o + 1) _ _ (h.set o (by omega) v) (by omega)).ext fun i hi => ?_
    rw [List.length_cons]
    by_cases e : i = o
    · subst e
      rw [if_neg (by omega), if_pos (by omega), upd_same, Nat.sub_self]
      rfl
    · by_cases q : o + 1 ≤ i ∧ i < o + 1 + r.length
      · rw [if_pos q, if_pos (by omega), show i - o = (i - (o + 1)) + 1 by omega, List.getD_cons_succ, upd_other _ _ _ _ e]
      · rw [if_neg q, if_neg (by omega), upd_other _ _ _ _ e]
theorem bytes_range {w : World} {g : Nat} {e : Ln} (h : w.rangeAt g 0 e.vs) : w.rangeAt g 2 (bvs e.b) := by
  intro j v hv
  have := h (2 + j) v (by rw [Nat.add_comm]; exact hv)
  rwa [Nat.zero_add] at this
/-- memory, a line's bytes laid into it -/
def wbm (m : Nat → Nat) (e : Ln) : Nat → Nat := fun o => if e.a - 65536 ≤ o ∧ o < e.a - 65536 + 16 then e.b (o - (e.a - 65536)) else m o
section
variable {x : World} {B p rb rc mb mc nb ab kn ka : Nat} {P H C : Nat → Nat} {V : Nat → Nat → Value} {S : BS}
set_option maxRecDepth 100000 in
set_option maxHeartbeats 1000000 in
theorem wback_no (e : Ln) (w : World) (p : Nat) (hs : ¬ e.s = 3) : Calls Try.prog 35 #[.pointer (some ⟨p, 0, none⟩), .agg e.vs.toArray] w fun r w' => r = .returned (.tuple #[]) ∧ Below w.heap.size w w' := by
  have c1 : (w.alloc (.cells e.vs.toArray 86)).cell? ⟨w.heap.size, 1, none⟩ = some (.int .i64 e.s) := by rw [World.cell?_alloc_new]; rfl
  have bA : Below w.heap.size w (w.alloc (.cells e.vs.toArray 86)) := (Below.refl _ _).alloc (Nat.le_refl _) _
  have HB := Hid.in bA
  have hs' : ((e.s : Int) == 3) = false := by simp; omega
  clear hs bA
  go_enter Try.func35, Try.ntmps35
  go_wp2
  exact bodyPost_end (results_none Try.results35 _ _ _) rfl ⟨rfl, HB.out⟩
set_option maxRecDepth 100000 in
set_option maxHeartbeats 1000000 in
theorem wback_yes (k : Bm x B p rb rc mb mc nb ab kn ka P H C V S) (e : Ln) (hs : e.s = 3) (he8 : ∀ t, e.b t < 256) (ha : e.a < 4294967296) (h16 : e.a % 16 = 0) (hh : hasB e.a S.len = true) : Calls Try.prog 35 #[.pointer (some ⟨p, 0, none⟩), .agg e.vs.toArray] x fun r w' => r = .returned (.tuple #[]) ∧ Bm w' B p rb rc mb mc nb ab kn ka P H C V { S with mem := wbm S.mem e, nw := updO S.nw (e.a : Nat) none } ∧ Turned (fun j => j = mb ∨ j = nb) x w' := by
  have hb : 65536 ≤ e.a ∧ e.a < 65536 + S.len := by simpa [hasB] using hh
  obtain ⟨W, hW⟩ : ∃ W, x.alloc (.cells e.vs.toArray 86) = W := ⟨_, rfl⟩
  have b1 : Below x.heap.size x W := by rw [← hW]; exact (Below.refl _ _).alloc (Nat.le_refl _) _
  have s1 : x.heap.size < W.heap.size := by rw [← hW]; simp
  have rW : W.rangeAt x.heap.size 0 e.vs := by rw [← hW]; exact range_new x e _
  have c0 : W.cell? ⟨x.heap.size, 0, none⟩ = some (.int .u32 e.a) := rW 0 _ rfl
  have c1 : W.cell? ⟨x.heap.size, 1, none⟩ = some (.int .i64 e.s) := rW 1 _ rfl
  have kW := k.below b1
  have hlen := kW.sz
  have m2 : W.cell? ⟨p, 2, none⟩ = some (.slice (some ⟨mb, 0, none⟩) S.len mc) := kW.c.cell 2 (by decide)
  have hp := kW.c.here
  have hcp := copy16 W.drew 3 mb (e.a - 65536) x.heap.size 2 16 16 e.b 16 16 rfl ((World.rangeAt_drew _ _ _ _).2 (bytes_range rW)) ((World.there_drew _ _ _ _).2 (there_row kW.m (by omega)))
  obtain ⟨X, hX⟩ : ∃ X, W.drew.setCells mb (e.a - 65536) (bvs e.b) = X := ⟨_, rfl⟩
  rw [hX] at hcp
  have tX : Turned (fun q => q = mb) W X := by rw [← hX]; exact ((Turned.refl _ W).drew).trans (turned_setCells _ _ _)
  have cX : CellsAt S.len X mb (fun o => .int .u8 (wbm S.mem e o)) := by
    have bD : Below W.heap.size W W.drew := ⟨rfl, rfl, rfl, Nat.le_refl _, fun _ _ => rfl⟩
    have h := cells_setCells (bvs e.b) (e.a - 65536) W.drew _ (kW.m.below bD) (by rw [bvs_len]; omega)
    rw [hX] at h
    refine ⟨h.here, fun o ho => ?_, h.free⟩
    rw [h.cell o ho, bvs_len]
    unfold wbm
    by_cases q : e.a - 65536 ≤ o ∧ o < e.a - 65536 + 16
    · rw [if_pos q, if_pos q, List.getD_eq_getElem?_getD, bvs_at _ _ (by omega)]
      rfl
    · rw [if_neg q, if_neg q]
  have kX := kW.mems tX cX (fun o => by unfold wbm; split; exact he8 _; exact k.m8 _)
  have xb : x.heap.size ≠ mb := fun q => by have := k.m.here; omega
  have d0 : X.cell? ⟨x.heap.size, 0, none⟩ = some (.int .u32 e.a) := (World.cell?_of_block (tX.block x.heap.size s1 xb)).trans c0
  have n3 : X.cell? ⟨p, 3, none⟩ = some (.map (some nb)) := kX.c.cell 3 (by decide)
  have xp := kX.c.here
  have xs : x.heap.size < X.heap.size := Nat.lt_of_lt_of_le s1 tX.size
  have bD2 : Below X.heap.size X X.drew := ⟨rfl, rfl, rfl, Nat.le_refl _, fun _ _ => rfl⟩
  have kD := kX.below bD2
  obtain ⟨Y, hrun, hmap, htu⟩ := kD.nw.del Try.underlying33 Try.underlying51 (wf_u32 ha) 0
  have HF := Hid.in (kD.newer htu (f := updO S.nw (e.a : Nat) none) (by rw [encN_upd]; exact hmap))
  have HT : Hid (Turned (fun j => j = mb ∨ j = nb) x Y) := (((Turned.of_below b1).trans (tX.mono (fun j e => Or.inl e))).trans (Turned.of_below bD2)).trans (htu.mono (fun j e => Or.inr e))
  have HLN : Hid (∀ y, Calls Try.prog 25 #[.slice (some ⟨mb, 0, none⟩) S.len mc, .int .u32 e.a] y fun e' w' => e' = .returned (.slice (some ⟨mb, e.a - 65536, none⟩) 16 16) ∧ w' = y) := fun y => mline_any mb e.a S.len mc y ha h16 hh hlen.2.2.2.1 hlen.2.2.2.2.1 k.rm.2.1
  have hs' : ((e.s : Int) == 3) = true := by rw [hs]; rfl
  clear hlen kW kX kD tX cX hb hh h16 ha he8 hs hmap htu bD2 hX k b1 rW
  go_enter Try.func35, Try.ntmps35
  go_upto_region 2 with fail
  try rw [hW]
  clear hW
  go_region_with (go_at_call 25; refine (HLN.out _).mono ?_; rintro e' y ⟨rfl, hy⟩; have hy2 := hy.symm; clear hy; subst hy2)
  all_goals
    go_upto_region 3 with fail
    go_region
    exact bodyPost_end (results_none Try.results35 _ _ _) rfl ⟨rfl, HF.out, HT.out⟩
end
end Go.Proofs.Ytbbaopldebdoiaa
