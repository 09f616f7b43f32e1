import Derived.Test.YtemamhkhjijdlaaGreatDoorY00
import Derived.Test.YtemamhkhjijdlaaGreatDoorY07
import Derived.Laws.MakeOwn
import Derived.OwnWalk
import Derived.Test.YtemamhkhjijdlaaGreatDoorY08
/-
  COMPONENTS SIDE BY SIDE: each block has an owner; a step of one leaves the others alone.
-/
namespace Go.Proofs.YtemamhkhjijdlaaGreatDoor
open Go Go.RowKit
/-- blocks that are there and another's -/
def Othr (o : Nat → Nat) (x : World) (i : Nat) : Nat → Prop := fun z => z < x.heap.size ∧ o z ≠ i
/-- what a component is: a claim on a world and a set of blocks that are not its own -/
structure Comp (C : World → (Nat → Prop) → Prop) : Prop where
  turn : ∀ (x y : World) (F Q : Nat → Prop), C x F → Turned Q x y → (∀ z, Q z → z < x.heap.size → F z) → C y (fun z => F z ∨ (x.heap.size ≤ z ∧ z < y.heap.size))
  less : ∀ (x : World) (F G : Nat → Prop), C x F → (∀ z, G z → F z) → C x G
/-- new blocks are i's -/
def nextO (o : Nat → Nat) (x : World) (i : Nat) : Nat → Nat := fun z => if z < x.heap.size then o z else i
theorem apart_self {o : Nat → Nat} {x y : World} {i z : Nat} (h : Othr (nextO o x i) y i z) : Othr o x i z := by
  obtain ⟨_, h2⟩ := h
  unfold nextO at h2
  by_cases q : z < x.heap.size
  · rw [if_pos q] at h2
    exact ⟨q, h2⟩
  · rw [if_neg q] at h2
    exact absurd rfl h2
theorem apart_other {o : Nat → Nat} {x y : World} {i j z : Nat} (h : Othr (nextO o x i) y j z) : Othr o x j z ∨ (x.heap.size ≤ z ∧ z < y.heap.size) := by
  obtain ⟨h1, h2⟩ := h
  unfold nextO at h2
  by_cases q : z < x.heap.size
  · rw [if_pos q] at h2
    exact Or.inl ⟨q, h2⟩
  · exact Or.inr ⟨by omega, h1⟩
def Side (C : Nat → World → (Nat → Prop) → Prop) (x : World) : Prop := ∃ o, ∀ k, C k x (Othr o x k)
/-- i has taken a step -/
theorem Side.went {C D : Nat → World → (Nat → Prop) → Prop} {x y : World} {o : Nat → Nat} (i : Nat) (hC : ∀ k, Comp (C k)) (h : ∀ k, C k x (Othr o x k)) (hD : Comp (D i)) (he : ∀ k, k ≠ i → D k = C k) (hi : D i y (Othr o x i)) (t : Turned (fun z => ¬ Othr o x i z) x y) : ∀ k, D k y (Othr (nextO o x i) y k) := fun k => by
  by_cases q : k = i
  · subst q
    exact hD.less y _ _ hi (fun z hz => apart_self hz)
  · rw [he k q]
    refine (hC k).less y _ _ ((hC k).turn x y _ _ (h k) t (fun z hz hl => ?_)) (fun z hz => apart_other hz)
    refine ⟨hl, fun e => hz ⟨hl, ?_⟩⟩
    rw [e]
    exact q
theorem Side.step {C D : Nat → World → (Nat → Prop) → Prop} {x : World} {fn : FuncId} {args : Array Value} {P : Ending → World → Prop} (i : Nat) (hC : ∀ k, Comp (C k)) (hD : Comp (D i)) (he : ∀ k, k ≠ i → D k = C k) (h : Side C x) (hs : ∀ F, C i x F → Calls Tryz.prog fn args x fun e w' => P e w' ∧ D i w' F ∧ Turned (fun z => ¬ F z) x w') : Calls Tryz.prog fn args x fun e w' => P e w' ∧ Side D w' := by
  obtain ⟨o, h⟩ := h
  refine (hs _ (h i)).mono ?_
  rintro e w' ⟨hp, hd, t⟩
  exact ⟨hp, nextO o x i, Side.went i hC h hD he hd t⟩
/-- something that nobody of them holds is new -/
theorem Side.below {C : Nat → World → (Nat → Prop) → Prop} {x y : World} (i : Nat) (hC : ∀ k, Comp (C k)) (h : Side C x) (b : Below x.heap.size x y) : Side C y := by
  obtain ⟨o, h⟩ := h
  refine ⟨nextO o x i, fun k => (hC k).less y _ _ ((hC k).turn x y _ (fun _ => False) (h k) ⟨b.os, b.tape, b.output, b.size, fun j hj _ => b.block j hj⟩ (fun _ q => q.elim)) (fun z hz => apart_other hz)⟩
end Go.Proofs.YtemamhkhjijdlaaGreatDoor
/-
  WINDOW: New; Enter of what does not go in.
-/
namespace Go.Proofs.YtemamhkhjijdlaaGreatDoor
open Go Go.RowKit
theorem make_run_win {P : Program} (t e : TypeId) (z : Value) (bytes : Nat) (ht : P.underlying t = some (.slice e)) (hi : (P.info? e).map (fun i => (i.zero, i.size, i.bytes)) = some (some z, 1, bytes)) (hz : z.cells = #[z]) (n : Nat) (hb : (bytes : Int) * n ≤ 281474976710656) (hn : n ≤ 9223372036854775807) : ∀ u : World, (Instr.makeSlice t (.int .i64 n) (.int .i64 n)).run P u = .ok (.slice (some ⟨u.heap.size, 0, none⟩) n n) (u.alloc (.cells (madeCells #[z] n) e)) := fun u => by
  obtain ⟨i, h1, h2, h3, h4⟩ := info_parts hi
  have q := run_make (P := P) u t e i z ht h1 h2 .i64 .i64 n n (by omega) (Int.le_refl _) (by rw [h4]; exact hb) (by omega)
  simpa [h3, hz] using q
theorem made_cell_win (z : Value) (n i : Nat) (h : i < n) : (madeCells #[z] n)[i]? = some z := by
  simp [madeCells, h, Nat.mod_one]
def newW (n r : Nat) : WS := ⟨n, 0, [], r, fun _ => false⟩
set_option maxHeartbeats 1000000 in
theorem new_good_win (n r : Nat) (w : World) (hn : 2 ≤ n ∧ n ≤ 64) (hr : 34 ≤ r ∧ r ≤ 128) : Calls Tryz.prog 36 #[.int .i64 n, .int .i64 r] w fun e w' => e = .returned (.tuple #[.pointer (some ⟨w.heap.size + 1, 0, none⟩), .nilIface]) ∧ Win w' w.heap.size (w.heap.size + 1) w.heap.size r (.slice none 0 0) (newW n r) ∧ Below w.heap.size w w' := by
  have hmk := make_run_win (P := Tryz.prog) 180 4 (.bool false) 1 Tryz.underlying180 (by kernel_rfl) rfl r (by omega) (by omega)
  have g1 : decide ((n : Int) < 2) = false := by simp; omega
  have g2 : decide ((n : Int) > 64) = false := by simp; omega
  have g3 : decide ((r : Int) < 34) = false := by simp; omega
  obtain ⟨hn1, hn2⟩ := hn
  obtain ⟨hr1, hr2⟩ := hr
  go_enter Tryz.func36, Tryz.ntmps36
  go_wp2
  go_ret2
  refine ⟨rfl, ?_, ((Below.refl _ w).alloc (Nat.le_refl _) _).alloc (by simp) _⟩
  have c1 : CellsAt r (w.alloc (.cells (madeCells #[.bool false] r) 4)) w.heap.size (fun o => .bool ((fun _ => false) o)) := cells_new w fun i hi => made_cell_win _ _ _ hi
  have c2 := cells_new (n := 4) (c := #[.int .i64 n, .int .i64 0, .slice none 0 0, .slice (some ⟨w.heap.size, 0, none⟩) r r]) (t := 190) (g := wv n 0 (.slice none 0 0) w.heap.size r r) (w.alloc (.cells (madeCells #[.bool false] r) 4)) (fun i hi => by
    match i, hi with
    | 0, _ => rfl
    | 1, _ => rfl
    | 2, _ => rfl
    | 3, _ => rfl)
  rw [World.size_alloc] at c2
  exact ⟨c2, World.ownsRow_nil _ _ _ _, c1.alloc _, by omega, by simp [Value.ownBlock], by simp [Value.ownBlock], ⟨by simp [newW], hr2, by simp [newW], hn2⟩, ⟨by omega, Nat.le_refl _⟩, fun i hi => by simp [newW] at hi⟩
end Go.Proofs.YtemamhkhjijdlaaGreatDoor
/-
  WINDOW: what the program refuses; Again; Squash.
-/
namespace Go.Proofs.YtemamhkhjijdlaaGreatDoor
open Go Go.RowKit
theorem own_ints {x : World} {B : Nat} {e : TypeId} {v : Value} {l : List Int} (h : x.ownsRow B e 1 v l.length (ints l)) : ∃ q cap, v = .slice q l.length cap ∧ (l.length ≤ cap ∧ cap ≤ 9223372036854775807) ∧ ∀ i, i < l.length → ∃ g, q = some ⟨g, 0, none⟩ ∧ g < x.heap.size ∧ x.cell? ⟨g, i, none⟩ = some (.int .i64 (l.getD i 0)) := by
  have h0 := h
  obtain ⟨h1, h2⟩ := h
  rcases h2 with ⟨hv, hn⟩ | ⟨g, cap, cur, rfl, b2, b3, b4, b5, b6, b7⟩
  · exact ⟨none, 0, by rw [hv, hn], ⟨by omega, by omega⟩, fun i hi => by omega⟩
  · unfold maxLen at b5
    refine ⟨_, cap, rfl, ⟨b4, by omega⟩, fun i hi => ⟨g, rfl, (own_base_win h0 g rfl).2, ?_⟩⟩
    have q := World.ownsRow.cells h0 rfl i (.int .i64 (l.getD i 0)) (by
      unfold ints
      rw [List.getElem?_map, List.getElem?_eq_getElem hi, List.getD_eq_getElem?_getD, List.getElem?_eq_getElem hi]
      rfl)
    rwa [Addr.add_lit, Nat.zero_add] at q
set_option maxHeartbeats 1000000 in
theorem new_bad_win (n r : Int) (w : World) (hn : ¬ ((2 ≤ n ∧ n ≤ 64) ∧ 34 ≤ r ∧ r ≤ 128)) : Calls Tryz.prog 36 #[.int .i64 n, .int .i64 r] w fun e w' => e = .returned (.tuple #[.pointer none, errV 2]) ∧ w' = w := by
  have hu : undef = Value.tuple #[] := rfl
  unfold errV
  by_cases h1 : n < 2
  · go_enter Tryz.func36, Tryz.ntmps36
    go_wp2
    go_ret2
    exact ⟨rfl, rfl⟩
  · have g1 : decide (n < 2) = false := by simp; omega
    by_cases h2 : n > 64
    · go_enter Tryz.func36, Tryz.ntmps36
      go_wp2
      go_ret2
      exact ⟨rfl, rfl⟩
    · have g2 : decide (n > 64) = false := by simp; omega
      by_cases h3 : r < 34
      · go_enter Tryz.func36, Tryz.ntmps36
        go_wp2
        go_ret2
        exact ⟨rfl, rfl⟩
      · have g3 : decide (r < 34) = false := by simp; omega
        have h4 : r > 128 := by omega
        clear hu
        go_enter Tryz.func36, Tryz.ntmps36
        go_wp2
        go_ret2
        exact ⟨rfl, rfl⟩
theorem Win.cut {x : World} {B p h c cap : Nat} {q : Option Addr} {S : WS} (k : Win x B p h c (.slice q S.on.length cap) S) (m : Nat) (hm : m ≤ S.on.length) : Win (x.setCell ⟨p, 2, none⟩ (.slice q m cap)) B p h c (.slice q m cap) { S with on := S.on.take m } := by
  have hl : (S.on.take m).length = m := by rw [List.length_take]; omega
  have ho : (Value.slice q m cap).ownBlock = (Value.slice q S.on.length cap).ownBlock := by cases q <;> rfl
  refine ⟨(k.c.set 2 (by omega) _).ext fun o ho => ?_, ?_, k.a.setOther _ _ (fun e => k.ne e.symm), k.ne, by rw [ho]; exact k.vp, by rw [ho]; exact k.vh, ⟨by rw [hl]; have := k.small.1; omega, k.small.2⟩, k.lo, fun j hj => ?_⟩
  · match o, ho with
    | 0, _ => rfl
    | 1, _ => rfl
    | 2, _ => rfl
    | 3, _ => rfl
  · rw [hl]
    exact own_turned_win (own_cut_win k.l hm) ((Turned.refl (fun k => k = p) x).set (b := p) rfl _ _) (fun j hj e => k.vp (by rw [← ho, hj, e]))
  · rw [hl] at hj
    show ((S.on.take m).getD j e0).s1 < S.nr ∧ ((S.on.take m).getD j e0).s2 < S.nr
    have e : (S.on.take m).getD j e0 = S.on.getD j e0 := by
      simp only [List.getD_eq_getElem?_getD]
      rw [List.getElem?_take, if_pos hj]
    rw [e]
    exact k.fit j (by omega)
theorem wrap_small (n : Nat) (h : n ≤ 64) : IntKind.i64.wrap (n : Int) = n := by
  simp [IntKind.wrap, IntKind.bits, IntKind.signed]
  omega
theorem gone_le (S : WS) (af : Int) : (S.gone af).length ≤ S.on.length := tl_le _ _ _ _
set_option maxRecDepth 100000 in
set_option maxHeartbeats 2000000 in
theorem squash_any (B p h c : Nat) (v : Value) (S : WS) (af : Int) (w : World) (k : Win w B p h c v S) : Calls Tryz.prog 185 #[.pointer (some ⟨p, 0, none⟩), .int .i64 af] w fun e w' => ∃ u v', e = .returned u ∧ w'.ownsRow w.heap.size 3 1 u (S.gone af).length (ints (S.gone af)) ∧ v'.ownBlock = v.ownBlock ∧ Win w' B p h c v' (S.squash af) ∧ Turned (fun k => k = p) w w' := by
  have hp := k.c.here
  have hs := k.small.1
  obtain ⟨q, cap, rfl, hcap, -⟩ := own_ents k.l
  have hgl := gone_le S af
  obtain ⟨gl, hgl2⟩ : ∃ gl, (S.gone af).length = gl := ⟨_, rfl⟩
  rw [hgl2] at hgl
  have HGL := Hid.in hgl2
  have hcap2 : cap ≤ 9223372036854775807 := by have := hcap.2; unfold maxLen at this; omega
  obtain ⟨V, hV⟩ : ∃ V, (w.alloc (.cells #[.pointer (some ⟨p, 0, none⟩)] 133)).alloc (.cells #[.int .i64 af] 3) = V := ⟨_, rfl⟩
  have hb : Below w.heap.size w V := by
    rw [← hV]
    exact ((Below.refl _ w).alloc (Nat.le_refl _) _).alloc (by simp) _
  have b0 : V.cell? ⟨w.heap.size, 0, none⟩ = some (.pointer (some ⟨p, 0, none⟩)) := by rw [← hV]; exact ((Boxed.new w _ _).alloc _).cell
  have b1 : V.cell? ⟨w.heap.size + 1, 0, none⟩ = some (.int .i64 af) := by
    have := (Boxed.new (w.alloc (.cells #[.pointer (some ⟨p, 0, none⟩)] 133)) 3 (.int .i64 af)).cell
    rw [World.size_alloc, hV] at this
    exact this
  have hVs : w.heap.size + 2 = V.heap.size := by rw [← hV]; simp
  have kV := k.below hb
  obtain ⟨hpV, -, -, c2, -, -⟩ := kV.cells
  have HKV := Hid.in kV
  have HB := Hid.in hb
  have HV := Hid.in hV
  clear k hb kV hgl2 hV
  go_enter Tryz.func185, Tryz.ntmps185
  go_wp2
  rw [HV.out]
  go_region_held3 (fun w' => w'.cell? ⟨w.heap.size, 0, none⟩ = some (.pointer (some ⟨p, 0, none⟩)) ∧ w'.cell? ⟨p, 2, none⟩ = some (.slice q S.on.length cap)) (go_keep) ((go_at_call 138; refine (numbersY_any B p h c _ S af w.heap.size (w.heap.size + 1) V.drew (HKV.out.below (Below.refl _ _).drew) b0 b1).mono ?_; rintro e w1 ⟨u, rfl, hr, hb1⟩; obtain ⟨uq, ucap, hu1, -, -⟩ := own_ints hr; have hb1' := belowU hb1; rw [HGL.out] at hu1; have HU := Hid.in hu1; rw [hu1]; have x0 := (hb1'.cell (p := ⟨w.heap.size, 0, none⟩) (cell_here b0)).trans b0; have x1 := (hb1'.cell (p := ⟨p, 2, none⟩) hpV).trans c2; have HR := Hid.in hr; have HB1 := Hid.in hb1'; clear hr hb1 hb1' hu1))
  all_goals
    obtain ⟨rl, hrl⟩ : ∃ rl, S.on.length - gl = rl := ⟨_, rfl⟩
    have hrl2 : (S.on.length : Int) - (gl : Int) = (rl : Int) := by omega
    have hrl3 : rl ≤ S.on.length := by omega
    have HRL := Hid.in hrl
    clear hrl
    have k1 := HKV.out.below HB1.out
    have hpw : p < w1.heap.size := k1.c.here
    have f2 := k1.c.free 2
    have HK1 := Hid.in k1
    have hz1 := HB1.out.size
    have xc : (w1.drew.setCell ⟨p, 2, none⟩ (.slice q rl cap)).cell? ⟨w.heap.size, 0, none⟩ = some (.pointer (some ⟨p, 0, none⟩)) := (World.cell?_setCell_other _ _ _ _ (by intro q; have := congrArg Addr.block q; simp at this; omega)).trans x0
    clear k1
    have FIN : Hid (∃ u v', Ending.returned (.slice uq gl ucap) = .returned u ∧ (w1.drew.setCell ⟨p, 2, none⟩ (.slice q rl cap)).ownsRow w.heap.size 3 1 u (S.gone af).length (ints (S.gone af)) ∧ v'.ownBlock = (Value.slice q S.on.length cap).ownBlock ∧ Win (w1.drew.setCell ⟨p, 2, none⟩ (.slice q rl cap)) B p h c v' (S.squash af) ∧ Turned (fun k => k = p) w (w1.drew.setCell ⟨p, 2, none⟩ (.slice q rl cap))) := by
      have kw := (HK1.out.below (Below.refl _ _).drew).cut rl hrl3
      have T : Turned (fun k => k = p) w1 (w1.drew.setCell ⟨p, 2, none⟩ (.slice q rl cap)) := ((Turned.refl (fun k => k = p) w1).drew).set (b := p) rfl _ _
      refine ⟨.slice uq gl ucap, .slice q rl cap, rfl, ?_, by cases q <;> rfl, ?_, ((Turned.of_below HB.out).trans (Turned.of_below HB1.out)).trans T⟩
      · have hr := HR.out
        rw [HU.out] at hr
        refine own_low (own_turned_win hr T (fun k hk e => ?_)) (show w.heap.size ≤ V.drew.heap.size from HB.out.size)
        have q1 : V.heap.size ≤ k := (own_base_win hr k hk).1
        omega
      · have e : S.squash af = { S with on := S.on.take rl } := by
          unfold WS.squash
          rw [HGL.out, HRL.out]
        rw [e]
        exact kw
    go_wp2
    rename_i Qx Kx hx
    refine wp_region_held_drew (S := fun w' => w'.cell? ⟨w.heap.size, 0, none⟩ = some (.pointer (some ⟨p, 0, none⟩))) (by kernel_rfl) x0 (fun hHeld => ?_)
    refine wpAnyH_take (i := 0) (v := .pointer (some ⟨p, 0, none⟩)) rfl (by kernel_rfl) (by kernel_rfl) (by kernel_rfl) (fun _ _ _ h => h) (Or.inl ⟨by rfl, fun w hSw => by dsimp only at hSw; go_simp⟩) hHeld ?_
    refine wpAnyH_take (i := 1) (v := .pointer (some ⟨p, 0, none⟩)) rfl (by kernel_rfl) (by kernel_rfl) (by kernel_rfl) (fun _ _ _ h => h) (Or.inl ⟨by rfl, fun w hSw => by dsimp only at hSw; go_simp⟩) hHeld ?_
    refine wpAnyH_take (i := 2) (v := .pointer (some ⟨p, 0, none⟩)) rfl (by kernel_rfl) (by kernel_rfl) (by kernel_rfl) (fun _ _ _ h => h) (Or.inl ⟨by rfl, fun w hSw => by go_simp⟩) hHeld ?_
    refine wpAnyH_take (i := 3) (v := .pointer (some ⟨p, 2, none⟩)) rfl (by kernel_rfl) (by kernel_rfl) (by kernel_rfl) (fun _ _ _ h => h) (Or.inl ⟨by rfl, fun w hSw => by go_simp⟩) hHeld ?_
    refine wpAnyH_take (i := 5) (v := .pointer (some ⟨p, 0, none⟩)) rfl (by kernel_rfl) (by kernel_rfl) (by kernel_rfl) (fun _ _ _ h => h) (Or.inl ⟨by rfl, fun w hSw => by dsimp only at hSw; go_simp⟩) hHeld ?_
    refine wpAnyH_take (i := 6) (v := .pointer (some ⟨p, 0, none⟩)) rfl (by kernel_rfl) (by kernel_rfl) (by kernel_rfl) (fun _ _ _ h => h) (Or.inl ⟨by rfl, fun w hSw => by go_simp⟩) hHeld ?_
    refine wpAnyH_take (i := 7) (v := .pointer (some ⟨p, 2, none⟩)) rfl (by kernel_rfl) (by kernel_rfl) (by kernel_rfl) (fun _ _ _ h => h) (Or.inl ⟨by rfl, fun w hSw => by go_simp⟩) hHeld ?_
    refine wpAnyH_take (i := 10) (v := .slice uq gl ucap) rfl (by kernel_rfl) (by kernel_rfl) (by kernel_rfl) (fun _ _ _ h => h) (Or.inl ⟨by rfl, fun w hSw => by go_simp⟩) hHeld ?_
    refine wpAnyH_take (i := 11) (v := .int .i64 gl) rfl (by kernel_rfl) (by kernel_rfl) (by kernel_rfl) (fun _ _ _ h => h) (Or.inl ⟨by rfl, fun w hSw => by go_simp⟩) hHeld ?_
    refine wpAnyH_ready (rs := [4, 8]) (by kernel_rfl) (by simp) ?_
    refine AllReadyH.cons rfl (fun K hK => ?_) ?_
    · skip
      go_simp
      refine hK.out _ _ hHeld (fun hHeld => ?_)
      clear hK K
      refine wpAnyH_ready (rs := [8]) (by kernel_rfl) (by simp) ?_
      refine AllReadyH.cons rfl (fun K hK => ?_) AllReadyH.nil
      go_simp
      refine hK.out _ _ hHeld (fun hHeld => ?_)
      clear hK K
      refine wpAnyH_take (i := 9) (v := .int .i64 S.on.length) rfl (by kernel_rfl) (by kernel_rfl) (by kernel_rfl) (fun _ _ _ h => h) (Or.inl ⟨by rfl, fun w hSw => by go_simp⟩) hHeld ?_
      refine wpAnyH_take (i := 12) (v := .int .i64 rl) rfl (by kernel_rfl) (by kernel_rfl) (by kernel_rfl) (fun _ _ _ h => h) (Or.inl ⟨by rfl, fun w hSw => by go_simp; exact wrap_small _ (by omega)⟩) hHeld ?_
      refine wpAnyH_take (i := 13) (v := .slice q rl cap) rfl (by kernel_rfl) (by kernel_rfl) (by kernel_rfl) (fun _ _ _ h => h) (Or.inl ⟨by rfl, fun w hSw => by go_simp; intro q; omega⟩) hHeld ?_
      refine wpAnyH_take (i := 14) (v := .pointer (some ⟨p, 0, none⟩)) rfl (by kernel_rfl) (by kernel_rfl) (by kernel_rfl) (fun _ _ _ h => h) (Or.inl ⟨by rfl, fun w hSw => by go_simp⟩) hHeld ?_
      refine wpAnyH_take (i := 15) (v := .pointer (some ⟨p, 2, none⟩)) rfl (by kernel_rfl) (by kernel_rfl) (by kernel_rfl) (fun _ _ _ h => h) (Or.inl ⟨by rfl, fun w hSw => by go_simp⟩) hHeld ?_
      refine wpAnyH_ready (rs := [16]) (by kernel_rfl) (by simp) ?_
      refine AllReadyH.cons rfl (fun K hK => ?_) AllReadyH.nil
      go_simp
      refine hK.out _ _ xc (fun hHeld => ?_)
      clear hK K
      refine wpAnyH_done (by kernel_rfl) ?_ _
      refine hx _ _ ?_
      clear hx Kx hHeld
      go_wp2
      go_ret
      exact FIN.out
    refine AllReadyH.cons rfl (fun K hK => ?_) AllReadyH.nil
    go_simp
    refine hK.out _ _ hHeld (fun hHeld => ?_)
    clear hK K
    refine wpAnyH_take (i := 9) (v := .int .i64 S.on.length) rfl (by kernel_rfl) (by kernel_rfl) (by kernel_rfl) (fun _ _ _ h => h) (Or.inl ⟨by rfl, fun w hSw => by go_simp⟩) hHeld ?_
    refine wpAnyH_take (i := 12) (v := .int .i64 rl) rfl (by kernel_rfl) (by kernel_rfl) (by kernel_rfl) (fun _ _ _ h => h) (Or.inl ⟨by rfl, fun w hSw => by go_simp; exact wrap_small _ (by omega)⟩) hHeld ?_
    refine wpAnyH_ready (rs := [4]) (by kernel_rfl) (by simp) ?_
    refine AllReadyH.cons rfl (fun K hK => ?_) AllReadyH.nil
    go_simp
    refine hK.out _ _ hHeld (fun hHeld => ?_)
    clear hK K
    refine wpAnyH_take (i := 13) (v := .slice q rl cap) rfl (by kernel_rfl) (by kernel_rfl) (by kernel_rfl) (fun _ _ _ h => h) (Or.inl ⟨by rfl, fun w hSw => by go_simp; intro q; omega⟩) hHeld ?_
    refine wpAnyH_take (i := 14) (v := .pointer (some ⟨p, 0, none⟩)) rfl (by kernel_rfl) (by kernel_rfl) (by kernel_rfl) (fun _ _ _ h => h) (Or.inl ⟨by rfl, fun w hSw => by go_simp⟩) hHeld ?_
    refine wpAnyH_take (i := 15) (v := .pointer (some ⟨p, 2, none⟩)) rfl (by kernel_rfl) (by kernel_rfl) (by kernel_rfl) (fun _ _ _ h => h) (Or.inl ⟨by rfl, fun w hSw => by go_simp⟩) hHeld ?_
    refine wpAnyH_ready (rs := [16]) (by kernel_rfl) (by simp) ?_
    refine AllReadyH.cons rfl (fun K hK => ?_) AllReadyH.nil
    go_simp
    refine hK.out _ _ xc (fun hHeld => ?_)
    clear hK K
    refine wpAnyH_done (by kernel_rfl) ?_ _
    refine hx _ _ ?_
    clear hx Kx hHeld
    go_wp2
    go_ret
    exact FIN.out
end Go.Proofs.YtemamhkhjijdlaaGreatDoor
/-
  CORE: its window, among others.
-/
namespace Go.Proofs.YtemamhkhjijdlaaGreatDoor
open Go Go.RowKit
/-- the window; F: blocks that are not its own -/
def WinC (p : Nat) (S : WS) (x : World) (F : Nat → Prop) : Prop := ∃ B h c v, Win x B p h c v S ∧ ∀ z, F z → z < x.heap.size ∧ z ≠ p ∧ z ≠ h ∧ v.ownBlock ≠ some z
theorem winC_comp (p : Nat) (S : WS) : Comp (WinC p S) := by
  refine ⟨fun x y F Q h t hq => ?_, fun x F G h hG => ?_⟩
  · obtain ⟨B, h, c, v, k, hF⟩ := h
    have hp := k.c.here
    have hh := k.a.here
    have hv : ∀ j, v.ownBlock = some j → j < x.heap.size := fun j hj => (own_base_win k.l j hj).2
    refine ⟨B, h, c, v, k.turned t (fun q => (hF _ (hq _ q hp)).2.1 rfl) (fun q => (hF _ (hq _ q hh)).2.2.1 rfl) (fun j hj q => (hF _ (hq _ q (hv j hj))).2.2.2 hj), fun z hz => ?_⟩
    rcases hz with hz | hz
    · obtain ⟨a, b⟩ := hF z hz
      exact ⟨Nat.lt_of_lt_of_le a t.size, b⟩
    · refine ⟨hz.2, by omega, by omega, fun e => ?_⟩
      have := hv z e
      omega
  · obtain ⟨B, h', c, v, k, hF⟩ := h
    exact ⟨B, h', c, v, k, fun z hz => hF z (hG z hz)⟩
section
variable {x : World} {p : Nat} {S : WS} {F : Nat → Prop}
theorem WinC.stay (h : WinC p S x F) {y : World} (b : Below x.heap.size x y) : WinC p S y F ∧ Turned (fun z => ¬ F z) x y :=
  ⟨(winC_comp p S).less y _ _ ((winC_comp p S).turn x y F (fun _ => False) h ⟨b.os, b.tape, b.output, b.size, fun j hj _ => b.block j hj⟩ (fun _ q => q.elim)) (fun _ hz => Or.inl hz), ⟨b.os, b.tape, b.output, b.size, fun j hj _ => b.block j hj⟩⟩
theorem wlen (h : WinC p S x F) : Calls Tryz.prog 159 #[.pointer (some ⟨p, 0, none⟩)] x fun e w' => e = .returned (.int .i64 S.on.length) ∧ WinC p S w' F ∧ Turned (fun z => ¬ F z) x w' := by
  have h0 := h
  obtain ⟨B, h, c, v, k, hF⟩ := h
  refine (len_any_win B p h c v S x k).mono ?_
  rintro e w' ⟨rfl, rfl⟩
  exact ⟨rfl, h0, Turned.refl _ _⟩
theorem wready (h : WinC p S x F) (cl most : Int) : Calls Tryz.prog 82 #[.pointer (some ⟨p, 0, none⟩), .int .i64 cl, .int .i64 most] x fun e w' => (∃ u, e = .returned u ∧ w'.ownsRow x.heap.size 3 1 u (S.ready cl most).length (ints (S.ready cl most))) ∧ WinC p S w' F ∧ Turned (fun z => ¬ F z) x w' := by
  have h0 := h
  obtain ⟨B, h, c, v, k, hF⟩ := h
  refine (ready_any B p h c v S cl most x k).mono ?_
  rintro e w' ⟨u, rfl, hr, b⟩
  exact ⟨⟨u, rfl, hr⟩, h0.stay b⟩
theorem wissue (h : WinC p S x F) (num : Int) (i : Nat) (hA : S.At num i) (hm : S.may i = true) : Calls Tryz.prog 156 #[.pointer (some ⟨p, 0, none⟩), .int .i64 num] x fun e w' => e = .returned .nilIface ∧ WinC p (S.setSt i 1) w' F ∧ Turned (fun z => ¬ F z) x w' := by
  obtain ⟨B, h, c, v, k, hF⟩ := h
  refine (issue_good B p h c v S num i x k hA hm).mono ?_
  rintro e w' ⟨rfl, k', t⟩
  exact ⟨rfl, ⟨B, h, c, v, k', fun z hz => ⟨Nat.lt_of_lt_of_le (hF z hz).1 t.size, (hF z hz).2⟩⟩, t.mono (fun z q f => (hF z f).2.2.2 q)⟩
theorem wdone (h : WinC p S x F) (num : Int) (i : Nat) (hA : S.At num i) (hm : S.st i = 1) : Calls Tryz.prog 126 #[.pointer (some ⟨p, 0, none⟩), .int .i64 num] x fun e w' => e = .returned .nilIface ∧ WinC p (S.setSt i 2) w' F ∧ Turned (fun z => ¬ F z) x w' := by
  obtain ⟨B, h, c, v, k, hF⟩ := h
  refine (done_good B p h c v S num i x k hA hm).mono ?_
  rintro e w' ⟨rfl, k', t⟩
  exact ⟨rfl, ⟨B, h, c, v, k', fun z hz => ⟨Nat.lt_of_lt_of_le (hF z hz).1 t.size, (hF z hz).2⟩⟩, t.mono (fun z q f => (hF z f).2.2.2 q)⟩
theorem wretire (h : WinC p S x F) (hn : 0 < S.on.length) (hd : S.st 0 = 2) : Calls Tryz.prog 134 #[.pointer (some ⟨p, 0, none⟩)] x fun e w' => e = .returned (.tuple #[.int .i64 (S.num 0), .nilIface]) ∧ WinC p S.pop w' F ∧ Turned (fun z => ¬ F z) x w' := by
  obtain ⟨B, h, c, v, k, hF⟩ := h
  refine (retire_good B p h c v S x k hn hd).mono ?_
  rintro e w' ⟨rfl, v', ho, k', t⟩
  refine ⟨rfl, ⟨B, h, c, v', k', fun z hz => ⟨Nat.lt_of_lt_of_le (hF z hz).1 t.size, (hF z hz).2.1, (hF z hz).2.2.1, by rw [ho]; exact (hF z hz).2.2.2⟩⟩, t.mono (fun z q f => ?_)⟩
  rcases q with q | q
  · exact (hF z f).2.1 q
  · exact (hF z f).2.2.2 q
theorem wenter (h : WinC p S x F) (cl s1 s2 d : Int) (hc : 0 ≤ cl ∧ cl ≤ 7) (h1 : -1 ≤ s1 ∧ s1 < S.nr) (h2 : -1 ≤ s2 ∧ s2 < S.nr) (h3 : -1 ≤ d ∧ d < S.nr) (hroom : S.on.length < S.size) (hnx : S.next < 1000000) : Calls Tryz.prog 166 #[.pointer (some ⟨p, 0, none⟩), .agg #[.int .i64 cl, .int .i64 s1, .int .i64 s2, .int .i64 d]] x fun e w' => e = .returned (.tuple #[.int .i64 S.next, .nilIface]) ∧ WinC p (S.enter cl s1 s2 d) w' F ∧ Turned (fun z => ¬ F z) x w' := by
  obtain ⟨B, h, c, v, k, hF⟩ := h
  refine (enter_good_win B p h c v S cl s1 s2 d x k hc h1 h2 h3 hroom hnx).mono ?_
  rintro e w' ⟨rfl, v', ho, k', t⟩
  refine ⟨rfl, ⟨B, h, c, v', k', fun z hz => ⟨Nat.lt_of_lt_of_le (hF z hz).1 t.size, (hF z hz).2.1, (hF z hz).2.2.1, fun e => ?_⟩⟩, t.mono (fun z q f => ?_)⟩
  · rcases ho with ho | ⟨j, hj, hl⟩
    · rw [ho] at e
      exact (hF z hz).2.2.2 e
    · rw [hj] at e
      have := (hF z hz).1
      have e := Option.some.inj e
      omega
  · rcases q with q | q | q
    · exact (hF z f).2.1 q
    · exact (hF z f).2.2.1 q
    · exact (hF z f).2.2.2 q
theorem wsquash (h : WinC p S x F) (af : Int) : Calls Tryz.prog 185 #[.pointer (some ⟨p, 0, none⟩), .int .i64 af] x fun e w' => (∃ u, e = .returned u ∧ w'.ownsRow x.heap.size 3 1 u (S.gone af).length (ints (S.gone af))) ∧ WinC p (S.squash af) w' F ∧ Turned (fun z => ¬ F z) x w' := by
  obtain ⟨B, h, c, v, k, hF⟩ := h
  refine (squash_any B p h c v S af x k).mono ?_
  rintro e w' ⟨u, v', rfl, hr, ho, k', t⟩
  exact ⟨⟨u, rfl, hr⟩, ⟨B, h, c, v', k', fun z hz => ⟨Nat.lt_of_lt_of_le (hF z hz).1 t.size, (hF z hz).2.1, (hF z hz).2.2.1, by rw [ho]; exact (hF z hz).2.2.2⟩⟩, t.mono (fun z q f => (hF z f).2.1 q)⟩
end
end Go.Proofs.YtemamhkhjijdlaaGreatDoor
/-
  LSQ: Address.
-/
namespace Go.Proofs.YtemamhkhjijdlaaGreatDoor
open Go Go.RowKit
/-- what holds of a row wherever only new blocks are made -/
theorem Qm.rows {w : World} {B p : Nat} {v : Value} {S : QS} (k : Qm w B p v S) (i : Nat) (hi : i < S.on.length) : ∃ g cap, v = .slice (some ⟨g, 0, none⟩) S.on.length cap ∧ p ≠ g ∧ ∀ w2, Below w.heap.size w w2 → w2.cell? ⟨p, 1, none⟩ = some (.slice (some ⟨g, 0, none⟩) S.on.length cap) ∧ w2.rangeAt g (i * 8) (S.at i).vs ∧ (∀ o, w2.frozen? ⟨g, o, none⟩ = false) ∧ g < w2.heap.size := by
  obtain ⟨g, cap, hv, hg, hr, hf, -⟩ := k.row i hi
  refine ⟨g, cap, hv, fun e => k.vp (by rw [hv, e]; rfl), fun w2 hb => ?_⟩
  have t := Turned.of_below (Q := fun _ => False) hb
  refine ⟨?_, range_turned_lsq hr t hg (fun q => q), fun o => (World.frozen?_of_block (t.block g hg (fun q => q))).trans (hf o), Nat.lt_of_lt_of_le hg hb.size⟩
  have := (k.below hb).cells.2.2.1
  rw [hv] at this
  exact this
def Ac.put (e : Ac) (a z : Nat) : Ac := { e with a := a, z := z }
end Go.Proofs.YtemamhkhjijdlaaGreatDoor
/-
  LSQ: Oldest, fromMemory.
-/
namespace Go.Proofs.YtemamhkhjijdlaaGreatDoor
open Go Go.RowKit
theorem results_wr {fn : Func} {p u : Tmp} (h : fn.results = #[.cell p 203, .tmp u]) (tmps : Array Value) (w : World) (g : Nat) (x y z t : Value) (hp : tmps.getD p undef = .pointer (some ⟨g, 0, none⟩)) (ht : tmps.getD u undef = t) (h0 : w.cell? ⟨g, 0, none⟩ = some x) (h1 : w.cell? ⟨g, 1, none⟩ = some y) (h2 : w.cell? ⟨g, 2, none⟩ = some z) : (results fn tmps).run Tryz.prog w = .ok (.tuple #[.agg #[x, y, z], t]) w := by
  have hp' : tmps[p]?.getD undef = .pointer (some ⟨g, 0, none⟩) := by simpa using hp
  have ht' : tmps[u]?.getD undef = t := by simpa using ht
  have hl := run_loadVar_mid (P := Tryz.prog) w g 0 203 [x, y, z] _ (fun j v hv => by
    match j, hv with
    | 0, hv => rw [← Option.some.inj hv]; exact h0
    | 1, hv => rw [← Option.some.inj hv]; exact h1
    | 2, hv => rw [← Option.some.inj hv]; exact h2) Tryz.underlying203 rfl (by kernel_rfl)
  simp [results, h, hp', ht', asAddr, hl]
def wrt (a z d : Nat) : Nat → Value
  | 0 => .int .u32 a
  | 1 => .int .i64 z
  | _ => .int .u32 d
/-- is the oldest one a store that has retired? -/
def QS.top (S : QS) : Bool := decide (0 < S.on.length) && (S.at 0).rt
theorem boxW (w : World) : ∃ X, w.alloc (.cells #[.int .u32 0, .int .i64 0, .int .u32 0] 203) = X ∧ Below w.heap.size w X ∧ CellsAt 3 X w.heap.size (wrt 0 0 0) ∧ X.heap.size = w.heap.size + 1 := by
  refine ⟨_, rfl, (Below.refl _ _).alloc (Nat.le_refl _) _, cells_new w (fun i hi => ?_), by simp⟩
  match i, hi with
  | 0, _ => rfl
  | 1, _ => rfl
  | 2, _ => rfl
set_option maxRecDepth 100000 in
set_option maxHeartbeats 1000000 in
theorem oldest_no (B p : Nat) (v : Value) (S : QS) (w : World) (k : Qm w B p v S) (h : S.top = false) : Calls Tryz.prog 65 #[.pointer (some ⟨p, 0, none⟩)] w fun e w' => e = .returned (.tuple #[.agg #[.int .u32 0, .int .i64 0, .int .u32 0], .bool false]) ∧ Below w.heap.size w w' := by
  obtain ⟨X, hX, hb, cX, hsX⟩ := boxW w
  have kX := k.below hb
  have HX := Hid.in hX
  have HB := Hid.in hb
  have HCX := Hid.in cX
  have y0 := cX.cell 0 (by decide)
  have y1 := cX.cell 1 (by decide)
  have y2 := cX.cell 2 (by decide)
  have f0 := cX.free 0
  have f1 := cX.free 1
  have f2 := cX.free 2
  simp only [wrt] at y0 y1 y2
  obtain ⟨hp, -, c1, -⟩ := kX.cells
  have fin : ∀ (w2 : World), w2 = ((X.setCell ⟨w.heap.size, 0, none⟩ (.int .u32 0)).setCell ⟨w.heap.size, 1, none⟩ (.int .i64 0)).setCell ⟨w.heap.size, 2, none⟩ (.int .u32 0) → CellsAt 3 w2 w.heap.size (upd (upd (upd (wrt 0 0 0) 0 (.int .u32 0)) 1 (.int .i64 0)) 2 (.int .u32 0)) ∧ Below w.heap.size w w2 := by
    rintro w2 rfl
    have t : Turned (fun j => w.heap.size ≤ j) w X := Turned.of_below hb
    exact ⟨((cX.set 0 (by decide) (.int .u32 0)).set 1 (by decide) (.int .i64 0)).set 2 (by decide) (.int .u32 0), (((t.set (b := w.heap.size) (Nat.le_refl _) 0 _).set (b := w.heap.size) (Nat.le_refl _) 1 _).set (b := w.heap.size) (Nat.le_refl _) 2 _).below (Nat.le_refl _) (fun j e => e)⟩
  have HFIN := Hid.in fin
  by_cases hl : S.on.length = 0
  · obtain ⟨q, cap, rfl, -, -⟩ := own_row kX.l
    rw [hl] at c1
    clear k kX hX hb cX h fin
    go_enter Tryz.func65, Tryz.ntmps65
    go_upto_region 1 with fail
    rw [HX.out]
    go_wp2
    obtain ⟨z, zb⟩ := HFIN.out _ rfl
    refine bodyPost_ret (results_wr Tryz.results65 _ _ w.heap.size _ _ _ _ rfl rfl (z.cell 0 (by decide)) (z.cell 1 (by decide)) (z.cell 2 (by decide))) rfl ⟨rfl, zb⟩
  · have hl0 : 0 < S.on.length := by omega
    have hrt : (S.at 0).rt = false := by
      unfold QS.top at h
      rw [decide_eq_true hl0] at h
      simpa using h
    obtain ⟨g, cap, hv, hpg, hrow⟩ := kX.rows 0 hl0
    obtain ⟨x1, x2, x3, x4⟩ := hrow X (Below.refl _ _)
    obtain ⟨-, -, -, -, -, -, y6, -⟩ := row_cells x2
    rw [hrt] at y6
    simp only [Nat.zero_mul, Nat.zero_add] at y6
    have hlz : ((S.on.length : Int) == 0) = false := by
      rw [beq_eq_false_iff_ne]
      omega
    clear k kX hX hb cX h fin hrow x2 x3 c1 hv
    go_enter Tryz.func65, Tryz.ntmps65
    go_upto_region 1 with fail
    rw [HX.out]
    go_wp2
    obtain ⟨z, zb⟩ := HFIN.out _ rfl
    refine bodyPost_ret (results_wr Tryz.results65 _ _ w.heap.size _ _ _ _ rfl rfl (z.cell 0 (by decide)) (z.cell 1 (by decide)) (z.cell 2 (by decide))) rfl ⟨rfl, zb⟩
end Go.Proofs.YtemamhkhjijdlaaGreatDoor
/-
  CORE: its queue, among others.
-/
namespace Go.Proofs.YtemamhkhjijdlaaGreatDoor
open Go Go.RowKit
/-- the queue; F: blocks that are not its own -/
def QueC (p : Nat) (S : QS) (x : World) (F : Nat → Prop) : Prop := ∃ B v, Qm x B p v S ∧ ∀ z, F z → z < x.heap.size ∧ ¬ qmine p v S z
theorem queC_comp (p : Nat) (S : QS) : Comp (QueC p S) := by
  refine ⟨fun x y F Q h t hq => ?_, fun x F H h hG => ?_⟩
  · obtain ⟨B, v, k, hF⟩ := h
    refine ⟨B, v, k.turned t (fun j hj q => (hF j (hq j q (k.low j hj).2)).2 hj), fun z hz => ?_⟩
    rcases hz with hz | hz
    · obtain ⟨a, b⟩ := hF z hz
      exact ⟨Nat.lt_of_lt_of_le a t.size, b⟩
    · refine ⟨hz.2, fun q => ?_⟩
      have := (k.low z q).2
      omega
  · obtain ⟨B, v, k, hF⟩ := h
    exact ⟨B, v, k, fun z hz => hF z (hG z hz)⟩
section
variable {x : World} {p : Nat} {S : QS} {F : Nat → Prop}
theorem QueC.stay (h : QueC p S x F) {y : World} (b : Below x.heap.size x y) : QueC p S y F ∧ Turned (fun z => ¬ F z) x y :=
  ⟨(queC_comp p S).less y _ _ ((queC_comp p S).turn x y F (fun _ => False) h ⟨b.os, b.tape, b.output, b.size, fun j hj _ => b.block j hj⟩ (fun _ q => q.elim)) (fun _ hz => Or.inl hz), ⟨b.os, b.tape, b.output, b.size, fun j hj _ => b.block j hj⟩⟩
theorem qoldest (h : QueC p S x F) (ht : S.top = false) : Calls Tryz.prog 65 #[.pointer (some ⟨p, 0, none⟩)] x fun e w' => e = .returned (.tuple #[.agg #[.int .u32 0, .int .i64 0, .int .u32 0], .bool false]) ∧ QueC p S w' F ∧ Turned (fun z => ¬ F z) x w' := by
  have h0 := h
  obtain ⟨B, v, k, hF⟩ := h
  refine (oldest_no B p v S x k ht).mono ?_
  rintro e w' ⟨rfl, b⟩
  exact ⟨rfl, h0.stay b⟩
theorem qsquash {n : Nat} (h : QueC p ⟨n, []⟩ x F) (af : Int) : Calls Tryz.prog 187 #[.pointer (some ⟨p, 0, none⟩), .int .i64 af] x fun e w' => e = .returned (.tuple #[]) ∧ QueC p ⟨n, []⟩ w' F ∧ Turned (fun z => ¬ F z) x w' := by
  obtain ⟨B, v, k, hF⟩ := h
  refine (squash_none_lsq B p v ⟨n, []⟩ af 0 x k (fun j hj => absurd hj (by omega)) rfl).mono ?_
  rintro e w' ⟨rfl, v', st⟩
  refine ⟨rfl, ⟨B, v', st.q, fun z hz => ⟨Nat.lt_of_lt_of_le (hF z hz).1 st.t.size, fun q => ?_⟩⟩, st.t.mono (fun z q f => (hF z f).2 q)⟩
  rcases st.o z q with a | a
  · exact (hF z hz).2 a
  · have := (hF z hz).1
    omega
end
end Go.Proofs.YtemamhkhjijdlaaGreatDoor
