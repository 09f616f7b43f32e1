/-
  BUS: Tick.
-/
import Derived.Test.YtbbaopldebdoiaaBw1
namespace Go.Proofs.Ytbbaopldebdoiaa
open Go Go.RowKit
section
variable {x : World} {g : Bn} {F : Nat → Prop} {N : Nat} {S : BS}
theorem Bu.tick (h : Bu x g F N S) (ht : S.tk + 1 ≤ 10) : Bu (x.setCell ⟨g.p, 7, none⟩ (.int .i64 ((S.tk : Int) + 1))) g F N { S with tk := S.tk + 1 } ∧ Turned (fun j => ¬ F j) x (x.setCell ⟨g.p, 7, none⟩ (.int .i64 ((S.tk : Int) + 1))) := by
  obtain ⟨V, kn, ka, k, h1, h2, h3⟩ := h
  have t : Turned (fun j => j = g.p) x (x.setCell ⟨g.p, 7, none⟩ (.int .i64 ((S.tk : Int) + 1))) := (Turned.refl (fun j => j = g.p) x).set rfl _ _
  have c := k.c.set 7 (by decide) (.int .i64 ((S.tk : Int) + 1))
  refine Bu.step h3 (Bm.own (tu := S.turn) (tk := S.tk + 1) (on := S.on) k t ⟨c.here, fun o ho => ?_, c.free⟩ k.sz.2.2.2.2.2.1 ht) h1 h2 rfl (fun _ => rfl) (fun _ _ _ _ _ q => Or.inl q) t (fun z hz => Or.inl (Or.inl hz))
  rw [c.cell o ho]
  match o, ho with
  | 0, _ => rfl
  | 1, _ => rfl
  | 2, _ => rfl
  | 3, _ => rfl
  | 4, _ => rfl
  | 5, _ => rfl
  | 6, _ => rfl
  | 7, _ => simp [upd, bv]
  | q + 8, h => exact absurd h (by omega)
theorem Bu.off (h : Bu x g F N S) : Bu (x.setCell ⟨g.p, 6, none⟩ (.bool false)) g F N { S with on := false } ∧ Turned (fun j => ¬ F j) x (x.setCell ⟨g.p, 6, none⟩ (.bool false)) := by
  obtain ⟨V, kn, ka, k, h1, h2, h3⟩ := h
  have t : Turned (fun j => j = g.p) x (x.setCell ⟨g.p, 6, none⟩ (.bool false)) := (Turned.refl (fun j => j = g.p) x).set rfl _ _
  have c := k.c.set 6 (by decide) (.bool false)
  refine Bu.step h3 (Bm.own (tu := S.turn) (tk := S.tk) (on := false) k t ⟨c.here, fun o ho => ?_, c.free⟩ k.sz.2.2.2.2.2.1 k.sz.2.2.2.2.2.2) h1 h2 rfl (fun _ => rfl) (fun _ _ _ _ _ q => Or.inl q) t (fun z hz => Or.inl (Or.inl hz))
  rw [c.cell o ho]
  match o, ho with
  | 0, _ => rfl
  | 1, _ => rfl
  | 2, _ => rfl
  | 3, _ => rfl
  | 4, _ => rfl
  | 5, _ => rfl
  | 6, _ => rfl
  | 7, _ => rfl
  | q + 8, h => exact absurd h (by omega)
/-- does a transaction go on in this tick, and whose? -/
def BS.goes (S S' : BS) : Prop := (S.on = true ∧ S' = S) ∨ (S.on = false ∧ ∃ i, i < S.nc ∧ (S.ak (S.nxt i : Nat)).isSome = true ∧ (∀ j, j < i → (S.ak (S.nxt j : Nat)).isSome = false) ∧ S' = { S with turn := S.nxt i, on := true, tk := 0 })
theorem nxt_lt (S : BS) (i : Nat) (h : 1 ≤ S.nc) : S.nxt i < S.nc := Nat.mod_lt _ h
theorem ubegin_yes {S' : BS} (h : Bu x g F N S) (hon : S.on = false) (hg : S.goes S') : Calls Try.prog 20 #[.pointer (some ⟨g.p, 0, none⟩)] x fun e w' => e = .returned (.bool true) ∧ Bu w' g F N S' ∧ Turned (fun j => ¬ F j) x w' := by
  rcases hg with ⟨q, -⟩ | ⟨-, i, hi, a1, a2, rfl⟩
  · rw [hon] at q; cases q
  · refine (ubegin h).mono ?_
    rintro e w' ⟨⟨j, hj, b1, b2, rfl, k⟩ | ⟨b1, rfl, k⟩, t⟩
    · have : i = j := by
        rcases Nat.lt_trichotomy i j with c | c | c
        · have := b2 i c
          rw [a1] at this; cases this
        · exact c
        · have := a2 j c
          rw [b1] at this; cases this
      subst this
      exact ⟨rfl, k, t⟩
    · have := b1 i hi
      rw [a1] at this
      cases this
set_option maxRecDepth 100000 in
set_option maxHeartbeats 2000000 in
theorem utick_wait {S' : BS} (h : Bu x g F N S) (hg : S.goes S') (hw : S'.tk < S'.cyc) : Calls Try.prog 9 #[.pointer (some ⟨g.p, 0, none⟩)] x fun e w' => e = .returned (.slice none 0 0) ∧ Bu w' g F N { S' with tk := S'.tk + 1 } ∧ Turned (fun j => ¬ F j) x w' := by
  obtain ⟨o1, -, -, o4, -⟩ := h.own
  have p6 : x.cell? ⟨g.p, 6, none⟩ = some (.bool S.on) := o1.cell 6 (by decide)
  have hp := o1.here
  have HW := Hid.in hw
  cases hon : S.on
  · rw [hon] at p6
    have HBE := Hid.in (ubegin_yes h hon hg)
    clear h hg o1 o4 hw hon
    go_enter Try.func9, Try.ntmps9
    go_upto_region 3 with (go_at_call 20; refine HBE.out.mono ?_; rintro e y ⟨rfl, hu, ht⟩; have HU := Hid.in hu; have HT := Hid.in ht; clear hu ht)
    clear p6 hp
    obtain ⟨o1, -, -, o4, -⟩ := HU.out.own
    have p7 : y.cell? ⟨g.p, 7, none⟩ = some (.int .i64 S'.tk) := o1.cell 7 (by decide)
    have p1 : y.cell? ⟨g.p, 1, none⟩ = some (.int .i64 S'.cyc) := o1.cell 1 (by decide)
    have hp := o1.here
    have f7 := o1.free 7
    have hlt : (S'.tk : Int) < (S'.cyc : Int) := by have := HW.out; omega
    have hb : (S'.tk : Int) ≤ 10 := by have := o4.2.2.2.2.2.2; omega
    have HTK := Hid.in (Bu.tick (HU.out.below (y := y.drew) ⟨rfl, rfl, rfl, Nat.le_refl _, fun _ _ => rfl⟩) (by have := o4.2.2.1; have := HW.out; omega))
    clear o1 o4
    go_region
    go_wp2
    go_ret
    exact ⟨rfl, HTK.out.1, (HT.out.drew).trans HTK.out.2⟩
  · rw [hon] at p6
    obtain rfl : S' = S := by
      rcases hg with q | q
      · exact q.2
      · have := q.1
        rw [hon] at this
        cases this
    have p7 : x.cell? ⟨g.p, 7, none⟩ = some (.int .i64 S'.tk) := o1.cell 7 (by decide)
    have p1 : x.cell? ⟨g.p, 1, none⟩ = some (.int .i64 S'.cyc) := o1.cell 1 (by decide)
    have f7 := o1.free 7
    have hlt : (S'.tk : Int) < (S'.cyc : Int) := by have := HW.out; omega
    have hb : (S'.tk : Int) ≤ 10 := by have := o4.2.2.2.2.2.2; omega
    have HTK := Hid.in (Bu.tick (h.below (y := x.drew) ⟨rfl, rfl, rfl, Nat.le_refl _, fun _ _ => rfl⟩) (by have := o4.2.2.1; have := HW.out; omega))
    have HT : Hid (Turned (fun j => ¬ F j) x x.drew) := (Turned.refl _ x).drew
    clear h hg o1 o4 hw hon
    go_enter Try.func9, Try.ntmps9
    go_upto_region 3 with fail
    go_region
    go_wp2
    go_ret
    exact ⟨rfl, HTK.out.1, HT.out.trans HTK.out.2⟩
end
end Go.Proofs.Ytbbaopldebdoiaa
