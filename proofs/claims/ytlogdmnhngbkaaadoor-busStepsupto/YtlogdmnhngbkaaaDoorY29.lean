import Derived.Test.YtlogdmnhngbkaaaDoorY28
/-
  BUS: Tick, where the transaction is done.
-/
namespace Go.Proofs.YtlogdmnhngbkaaaDoor
open Go Go.RowKit
section
variable {x : World} {g : Bn} {F : Nat → Prop} {N : Nat} {S : BS}
theorem Bu.askEq (h : Bu x g F N S) (core : Int) (hc : i64 core) {l : Nat} {b : Bool} (ha : S.ak core = some (l, b)) : (Instr.lookup 69 (.map (some g.ab)) (.int .i64 core) false).run Tryd.prog x = .ok (.agg #[.int .u32 l, .bool b]) x := by
  obtain ⟨V, kn, ka, k, -⟩ := h
  obtain ⟨l', b', -, q2, q3⟩ := ask_look k core hc
  have := q3 _ ha
  simp only [Prod.mk.injEq] at this
  obtain ⟨rfl, rfl⟩ := this
  exact q2
theorem Bu.askDel (h : Bu x g F N S) (core : Int) (hc : i64 core) : ∃ y, (Builtin.delete_ #[69, 3] 0 #[.map (some g.ab), .int .i64 core]).run Tryd.prog x = .ok (.tuple #[]) y ∧ Bu y g F N { S with ak := updO S.ak core none } ∧ Turned (fun j => ¬ F j) x y := by
  obtain ⟨V, kn, ka, k, h1, h2, h3⟩ := h
  obtain ⟨y, hrun, hmap, htu⟩ := k.ak.del Tryd.underlying3 Tryd.underlying69 (wf_i64 hc) 0
  exact ⟨y, hrun, Bu.step h3 (k.asks htu (f := updO S.ak core none) (by rw [encA_upd]; exact hmap)) h1 h2 rfl (fun _ => rfl) (fun _ _ _ _ _ q => Or.inl q) htu (fun z hz => Or.inl (Or.inr (Or.inr (Or.inr (Or.inr hz)))))⟩
theorem box_new4 (x : World) (l : Nat) (wr : Bool) : CellsAt 2 (x.alloc (.cells #[.int .u32 l, .bool wr] 65)) x.heap.size (fun j => if j = 0 then .int .u32 l else .bool wr) := by
  refine ⟨by simp, fun o ho => ?_, fun o => World.frozen?_alloc_at _ _ _ _ rfl⟩
  rw [World.cell?_alloc_new, Array.getElem?_eq_getElem (by show o < 2; exact ho)]
  match o, ho with
  | 0, _ => rfl
  | 1, _ => rfl
  | q + 2, h => exact absurd h (by omega)
/-- what do leaves, as Tick hands it on -/
def Does (g : Bn) (N : Nat) (D : BS) (y : World) (G : Nat → Prop) (e : Ending) (w' : World) : Prop := ∃ v, e = .returned v ∧ (∃ T' : List Snp, w'.ownsRow y.heap.size 84 4 v T'.length (flatS T')) ∧ Bu w' g (fun j => G j ∨ v.ownBlock = some j) N D ∧ Turned (fun j => ¬ G j) y w'
set_option maxRecDepth 100000 in
set_option maxHeartbeats 2000000 in
theorem utick_do {S' D : BS} (h : Bu x g F N S) (hg : S.goes S') (hw : ¬ S'.tk < S'.cyc) (l : Nat) (wr : Bool) (ha : S'.ak (S'.turn : Nat) = some (l, wr)) (hdo : ∀ (y : World) (G : Nat → Prop), Bu y g G N { S' with on := false, ak := updO S'.ak (S'.turn : Nat) none } → Calls Tryd.prog 29 #[.pointer (some ⟨g.p, 0, none⟩), .agg #[.int .u32 l, .bool wr]] y (Does g N D y G)) : Calls Tryd.prog 8 #[.pointer (some ⟨g.p, 0, none⟩)] x (Does g N D x F) := by
  obtain ⟨o1, -, -, o4, -⟩ := h.own
  have p6 : x.cell? ⟨g.p, 6, none⟩ = some (.bool S.on) := o1.cell 6 (by decide)
  have hp := o1.here
  have HW := Hid.in hw
  have HA := Hid.in ha
  have HDO := Hid.in hdo
  have HF : Hid (∀ j, F j → j < x.heap.size) := fun j hj => h.here hj
  have HTU : Hid (S'.turn < 2) := by
    show S'.turn < 2
    have n1 := o4.1
    have n2 := o4.2.1
    rcases hg with q | ⟨-, i, -, -, -, q⟩
    · rw [q.2]; have := o4.2.2.2.2.2.1; omega
    · rw [q]; have := nxt_lt S i n1; show S.nxt i < 2; omega
  have rest : ∀ y, Bu y g F N S' → Turned (fun j => ¬ F j) x y → ∃ z1 : World, y.drew.setCell ⟨g.p, 6, none⟩ (.bool false) = z1 ∧ z1.cell? ⟨g.p, 4, none⟩ = some (.map (some g.ab)) ∧ z1.cell? ⟨g.p, 5, none⟩ = some (.int .i64 S'.turn) ∧ g.p < z1.heap.size ∧ x.heap.size ≤ z1.heap.size ∧ (Instr.lookup 69 (.map (some g.ab)) (.int .i64 S'.turn) false).run Tryd.prog z1.drew = .ok (.agg #[.int .u32 l, .bool wr]) z1.drew ∧ (Instr.lookup 69 (.map (some g.ab)) (.int .i64 S'.turn) false).run Tryd.prog (z1.alloc (.cells #[.int .u32 0, .bool false] 65)).drew = .ok (.agg #[.int .u32 l, .bool wr]) (z1.alloc (.cells #[.int .u32 0, .bool false] 65)).drew ∧ (∀ z2, Below z1.heap.size z1 z2 → ∃ z3, z2.cell? ⟨g.p, 4, none⟩ = some (.map (some g.ab)) ∧ z2.cell? ⟨g.p, 5, none⟩ = some (.int .i64 S'.turn) ∧ g.p < z2.heap.size ∧ (Builtin.delete_ #[69, 3] 0 #[.map (some g.ab), .int .i64 S'.turn]).run Tryd.prog z2.drew = .ok (.tuple #[]) z3 ∧ (∀ b o v, z1.heap.size ≤ b → z2.cell? ⟨b, o, none⟩ = some v → b < z2.heap.size → z3.cell? ⟨b, o, none⟩ = some v ∧ b < z3.heap.size) ∧ Calls Tryd.prog 29 #[.pointer (some ⟨g.p, 0, none⟩), .agg #[.int .u32 l, .bool wr]] z3 (Does g N D x F)) := by
    intro y hu ht
    have hc : i64 (S'.turn : Nat) := by have := HTU.out; unfold i64; omega
    obtain ⟨u1, t1⟩ := Bu.off (hu.below (y := y.drew) ⟨rfl, rfl, rfl, Nat.le_refl _, fun _ _ => rfl⟩)
    refine ⟨_, rfl, u1.own.1.cell 4 (by decide), u1.own.1.cell 5 (by decide), u1.own.1.here, ?_, ?_, ?_, fun z2 hz => ?_⟩
    · exact Nat.le_trans ht.size t1.size
    · exact Bu.askEq (S := { S' with on := false }) (u1.below (y := (y.drew.setCell ⟨g.p, 6, none⟩ (.bool false)).drew) ⟨rfl, rfl, rfl, Nat.le_refl _, fun _ _ => rfl⟩) _ hc HA.out
    · exact Bu.askEq (S := { S' with on := false }) (u1.below (y := ((y.drew.setCell ⟨g.p, 6, none⟩ (.bool false)).alloc (.cells #[.int .u32 0, .bool false] 65)).drew) (((Below.refl _ _).alloc (Nat.le_refl _) _).drew)) _ hc HA.out
    · have u2 := u1.fresh hz
      have u2d := u2.below (y := z2.drew) ⟨rfl, rfl, rfl, Nat.le_refl _, fun _ _ => rfl⟩
      obtain ⟨z3, hrun, u3, t3⟩ := Bu.askDel u2d (S'.turn : Nat) hc
      refine ⟨z3, u2.own.1.cell 4 (by decide), u2.own.1.cell 5 (by decide), u2.own.1.here, hrun, fun b o v hb hv hlt => ⟨?_, Nat.lt_of_lt_of_le hlt t3.size⟩, ?_⟩
      · exact t3.to_cell hlt (fun q => q (Or.inr ⟨hb, hlt⟩)) hv
      · refine (HDO.out z3 F (u3.less (fun j hj => Or.inl hj))).mono ?_
        rintro e w' ⟨v, rfl, ⟨T', hr⟩, hu', ht'⟩
        have tx : Turned (fun j => ¬ F j) x z3 := ((((ht.drew).trans t1).trans (Turned.of_below hz)).drew).trans (t3.mono (fun j q f => q (Or.inl f)))
        exact ⟨v, rfl, ⟨T', own_lower hr tx.size⟩, hu', tx.trans ht'⟩
  have HREST := Hid.in rest
  clear rest hdo ha
  cases hon : S.on
  · rw [hon] at p6
    have HBE := Hid.in (ubegin_yes h hon hg)
    clear h hg o1 o4 hw hon
    go_enter Tryd.func8, Tryd.ntmps8
    go_upto_region 3 with (go_at_call 28; refine HBE.out.mono ?_; rintro e y ⟨rfl, hu, ht⟩; have HU := Hid.in hu; have HT := Hid.in ht; clear hu ht)
    clear p6 hp
    obtain ⟨o1, -, -, o4, -⟩ := HU.out.own
    have p7 : y.cell? ⟨g.p, 7, none⟩ = some (.int .i64 S'.tk) := o1.cell 7 (by decide)
    have p1 : y.cell? ⟨g.p, 1, none⟩ = some (.int .i64 S'.cyc) := o1.cell 1 (by decide)
    have hp := o1.here
    have p6 : y.cell? ⟨g.p, 6, none⟩ = some (.bool S'.on) := o1.cell 6 (by decide)
    have f6 := o1.free 6
    have hlt : ¬ ((S'.tk : Int) < (S'.cyc : Int)) := by have := HW.out; omega
    obtain ⟨z1, hz1, a1, a2, a3, a4, a5, a5', a6⟩ := HREST.out y HU.out HT.out
    have HA6 := Hid.in a6
    clear o1 o4 a6
    go_region
    go_upto_region 7 with fail
    try rw [hz1]
    clear hz1 p7 p1 hp f6 p6
    go_region
    all_goals
      obtain ⟨z2, hz2⟩ : ∃ z2, (z1.alloc (.cells #[.int .u32 l, .bool wr] 65)).drew = z2 := ⟨_, rfl⟩
      have cN := box_new4 z1 l wr
      have c0 : z2.cell? ⟨z1.heap.size, 0, none⟩ = some (.int .u32 l) := by rw [← hz2]; exact cN.cell 0 (by decide)
      have c1 : z2.cell? ⟨z1.heap.size, 1, none⟩ = some (.bool wr) := by rw [← hz2]; exact cN.cell 1 (by decide)
      have ch : z1.heap.size < z2.heap.size := by rw [← hz2]; exact cN.here
      obtain ⟨z3, b1, b2, b3, b4, b5, b6⟩ := HA6.out z2 (by rw [← hz2]; exact ((Below.refl _ _).alloc (Nat.le_refl _) _).drew)
      obtain ⟨e0, eh⟩ := b5 _ 0 _ (Nat.le_refl _) c0 ch
      obtain ⟨e1, -⟩ := b5 _ 1 _ (Nat.le_refl _) c1 ch
      have HB6 := Hid.in b6
      try rw [hz2]
      clear hz2 cN b5 b6 a5 a5' a1 a2
      go_upto_region 8 with fail
      go_region
      go_wp2_with (go_at_call 29; refine HB6.out.mono ?_; rintro e w' ⟨v, rfl, hq⟩; have HQ := Hid.in hq; clear hq)
      go_ret
      exact ⟨v, rfl, HQ.out⟩
  · rw [hon] at p6
    obtain rfl : S' = S := by
      rcases hg with q | q
      · exact q.2
      · have := q.1
        rw [hon] at this
        cases this
    have p7 : x.cell? ⟨g.p, 7, none⟩ = some (.int .i64 S'.tk) := o1.cell 7 (by decide)
    have p1 : x.cell? ⟨g.p, 1, none⟩ = some (.int .i64 S'.cyc) := o1.cell 1 (by decide)
    have f6 := o1.free 6
    have hlt : ¬ ((S'.tk : Int) < (S'.cyc : Int)) := by have := HW.out; omega
    have HX := Hid.in h
    obtain ⟨z1, hz1, a1, a2, a3, a4, a5, a5', a6⟩ := HREST.out x HX.out (Turned.refl _ x)
    have HA6 := Hid.in a6
    clear o1 o4 a6 h hg hw hon
    go_enter Tryd.func8, Tryd.ntmps8
    go_upto_region 3 with fail
    go_region
    go_upto_region 7 with fail
    try rw [hz1]
    clear hz1 p7 p1 hp f6 p6
    go_region
    all_goals
      obtain ⟨z2, hz2⟩ : ∃ z2, (z1.alloc (.cells #[.int .u32 l, .bool wr] 65)).drew = z2 := ⟨_, rfl⟩
      have cN := box_new4 z1 l wr
      have c0 : z2.cell? ⟨z1.heap.size, 0, none⟩ = some (.int .u32 l) := by rw [← hz2]; exact cN.cell 0 (by decide)
      have c1 : z2.cell? ⟨z1.heap.size, 1, none⟩ = some (.bool wr) := by rw [← hz2]; exact cN.cell 1 (by decide)
      have ch : z1.heap.size < z2.heap.size := by rw [← hz2]; exact cN.here
      obtain ⟨z3, b1, b2, b3, b4, b5, b6⟩ := HA6.out z2 (by rw [← hz2]; exact ((Below.refl _ _).alloc (Nat.le_refl _) _).drew)
      obtain ⟨e0, eh⟩ := b5 _ 0 _ (Nat.le_refl _) c0 ch
      obtain ⟨e1, -⟩ := b5 _ 1 _ (Nat.le_refl _) c1 ch
      have HB6 := Hid.in b6
      try rw [hz2]
      clear hz2 cN b5 b6 a5 a5' a1 a2
      go_upto_region 8 with fail
      go_region
      go_wp2_with (go_at_call 29; refine HB6.out.mono ?_; rintro e w' ⟨v, rfl, hq⟩; have HQ := Hid.in hq; clear hq)
      go_ret
      exact ⟨v, rfl, HQ.out⟩
end
end Go.Proofs.YtlogdmnhngbkaaaDoor
