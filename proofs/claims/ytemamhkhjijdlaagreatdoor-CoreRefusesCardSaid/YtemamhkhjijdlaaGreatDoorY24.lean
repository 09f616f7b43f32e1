import Derived.Test.YtemamhkhjijdlaaGreatDoorY22
import Derived.Laws.OwnMore
import Derived.Test.YtemamhkhjijdlaaGreatDoorY23
/-
  BUS: New, of two shapes.
-/
namespace Go.Proofs.YtemamhkhjijdlaaGreatDoor
open Go Go.RowKit
theorem app_ptr {B : Nat} (x : World) (v : Value) (xs : List Value) (q : Nat) (hr : x.ownsRow B 169 1 v xs.length xs) (hl : xs.length ≤ 1000000) (hB : B ≤ x.heap.size) : ∃ g cap z, (Builtin.append_ #[147, 147] 147 #[v, .slice (some ⟨x.heap.size, 0, none⟩) 1 1]).run Tryz.prog (x.alloc (.cells #[.pointer (some ⟨q, 0, none⟩)] 169)) = .ok (.slice (some ⟨g, 0, none⟩) (xs.length + 1) cap) z ∧ z.ownsRow B 169 1 (.slice (some ⟨g, 0, none⟩) (xs.length + 1) cap) (xs.length + 1) (xs ++ [.pointer (some ⟨q, 0, none⟩)]) ∧ Turned (fun j => v.ownBlock = some j) x z ∧ (some g = v.ownBlock ∨ x.heap.size ≤ g) := by
  obtain ⟨i0, hi0, hz0, hz1, hz2⟩ := info_parts_bus (show (Tryz.prog.info? 169).map (fun i => (i.zero, i.size, i.bytes)) = some (some (.pointer none), 1, 8) by kernel_rfl)
  obtain ⟨v', w1, hrun, r1, r2, r3, r4⟩ := run_append_own_at (P := Tryz.prog) (w := x.alloc (.cells #[.pointer (some ⟨q, 0, none⟩)] 169)) B 147 147 169 i0 (.pointer none) 1 8 Tryz.underlying147 hi0 hz0 hz1 hz2 rfl (by decide) v xs.length xs (hr.alloc _) ⟨x.heap.size, 0, none⟩ 1 1 [.pointer (some ⟨q, 0, none⟩)] rfl (cell_one_new _ _ _) (by simp [Value.oneCell']) (by unfold maxLen; omega) (by omega) (by simp; omega)
  obtain ⟨g, cap, rfl⟩ := own_succ r1
  refine ⟨g, cap, w1, hrun, r1, (((Turned.refl _ x).alloc _).trans (turned_grown_bus r2)), ?_⟩
  rcases r4 with q | q
  · exact Or.inl q
  · right
    simp [Value.ownBlock] at q
    omega
def ptrs (P : Nat → Nat) : Nat → List Value
  | 0 => []
  | n + 1 => ptrs P n ++ [.pointer (some ⟨P n, 0, none⟩)]
theorem ptrs_len (P : Nat → Nat) : ∀ n, (ptrs P n).length = n
  | 0 => rfl
  | n + 1 => by
    show (ptrs P n ++ _).length = n + 1
    rw [List.length_append, ptrs_len P n]
    rfl
theorem ptrs_congr (P Q : Nat → Nat) : ∀ n, (∀ i, i < n → P i = Q i) → ptrs P n = ptrs Q n
  | 0, _ => rfl
  | n + 1, h => by
    show ptrs P n ++ _ = ptrs Q n ++ _
    rw [ptrs_congr P Q n (fun i hi => h i (by omega)), h n (by omega)]
theorem ptrs_at (P : Nat → Nat) : ∀ n i, i < n → (ptrs P n)[i]? = some (.pointer (some ⟨P i, 0, none⟩))
  | 0, _, h => by omega
  | n + 1, i, h => by
    show (ptrs P n ++ _)[i]? = _
    by_cases c : i < n
    · rw [List.getElem?_append_left (by rw [ptrs_len]; exact c)]
      exact ptrs_at P n i c
    · obtain rfl : i = n := by omega
      rw [List.getElem?_append_right (by rw [ptrs_len]; exact Nat.le_refl _), ptrs_len]
      simp
/-- a bus' own block, while it is made -/
def nv (v m : Value) (cyc nb ab : Nat) : Nat → Value
  | 0 => v
  | 1 => .int .i64 cyc
  | 2 => m
  | 3 => .map (some nb)
  | 4 => .map (some ab)
  | 5 => .int .i64 1
  | 6 => .bool false
  | _ => .int .i64 0
structure NewI (x w : World) (cyc : Nat) (n ws : Nat → Nat) (k : Nat) (v : Value) (P H : Nat → Nat) : Prop where
  c : CellsAt 8 w (x.heap.size + 2) (nv v (.slice none 0 0) cyc x.heap.size (x.heap.size + 1))
  nw : MapAt w 43 .u32 x.heap.size 0 (fun _ => none)
  ak : MapAt w 3 .i64 (x.heap.size + 1) 0 (fun _ => none)
  row : w.ownsRow (x.heap.size + 3) 169 1 v k (ptrs P k)
  ch : ∀ i, i < k → Ch w x.heap.size (P i) (H i) (n i) (fun _ => .slice none 0 0) ⟨ws i, n i, fun _ => []⟩
  hi : ∀ i, i < k → x.heap.size + 2 < P i ∧ x.heap.size + 2 < H i ∧ v.ownBlock ≠ some (P i) ∧ v.ownBlock ≠ some (H i)
  dis : ∀ i j, i < k → j < k → i ≠ j → P i ≠ P j ∧ P i ≠ H j ∧ H i ≠ H j
  b : Below x.heap.size x w
theorem ch_off {Q : Nat → Prop} {x y : World} {B p h c n k : Nat} (d : Ch x B p h c (fun _ => .slice none 0 0) ⟨k, n, fun _ => []⟩) (t : Turned Q x y) (h1 : ¬ Q p) (h2 : ¬ Q h) : Ch y B p h c (fun _ => .slice none 0 0) ⟨k, n, fun _ => []⟩ := d.turned t h1 h2 (fun i j _ hj => by simp [Value.ownBlock] at hj)
theorem NewI.below {x w y : World} {cyc : Nat} {n ws : Nat → Nat} {k : Nat} {v : Value} {P H : Nat → Nat} (d : NewI x w cyc n ws k v P H) (b : Below w.heap.size w y) : NewI x y cyc n ws k v P H :=
  ⟨d.c.below b, d.nw.below b, d.ak.below b, own_turned_bus d.row (Turned.of_below (Q := fun _ => False) b) (fun _ _ q => q), fun i hi => (d.ch i hi).below b, d.hi, d.dis, d.b.trans (b.mono d.b.size)⟩
/-- one cache more -/
theorem NewI.add {x w y : World} {cyc : Nat} {n ws : Nat → Nat} {k p h g cap : Nat} {v : Value} {P H : Nat → Nat} (d : NewI x w cyc n ws k v P H) (hp : x.heap.size + 2 < p) (hh : x.heap.size + 2 < h) (hlp : p < w.heap.size) (hlh : h < w.heap.size) (hvp : v.ownBlock ≠ some p) (hvh : v.ownBlock ≠ some h) (ch : Ch w x.heap.size p h (n k) (fun _ => .slice none 0 0) ⟨ws k, n k, fun _ => []⟩) (hd : ∀ i, i < k → P i ≠ p ∧ P i ≠ h ∧ H i ≠ p ∧ H i ≠ h) (t : Turned (fun j => v.ownBlock = some j) w y) (r : y.ownsRow (x.heap.size + 3) 169 1 (.slice (some ⟨g, 0, none⟩) (k + 1) cap) (k + 1) (ptrs P k ++ [.pointer (some ⟨p, 0, none⟩)])) (hg : some g = v.ownBlock ∨ w.heap.size ≤ g) : NewI x (y.setCell ⟨x.heap.size + 2, 0, none⟩ (.slice (some ⟨g, 0, none⟩) (k + 1) cap)) cyc n ws (k + 1) (.slice (some ⟨g, 0, none⟩) (k + 1) cap) (upd P k p) (upd H k h) := by
  have hw2 := d.c.here
  have vb : ∀ j, v.ownBlock = some j → x.heap.size + 3 ≤ j ∧ j < w.heap.size := own_base_bus d.row
  have gb : x.heap.size + 3 ≤ g := (own_base_bus r g rfl).1
  have tS : Turned (fun j => j = x.heap.size + 2) y (y.setCell ⟨x.heap.size + 2, 0, none⟩ (.slice (some ⟨g, 0, none⟩) (k + 1) cap)) := (Turned.refl (fun j => j = x.heap.size + 2) y).set rfl _ _
  have nv2 : ∀ j, j ≤ x.heap.size + 2 → ¬ v.ownBlock = some j := fun j hj q => by have := (vb j q).1; omega
  have cY := t.cells d.c (nv2 _ (by omega))
  have cS := cY.set 0 (by decide) (.slice (some ⟨g, 0, none⟩) (k + 1) cap)
  have hgn : ∀ j, j < w.heap.size → v.ownBlock ≠ some j → g ≠ j := fun j hj hv e => by
    rcases hg with q | q
    · exact hv (by rw [← q, e])
    · omega
  refine ⟨⟨cS.here, fun o ho => ?_, cS.free⟩, ?_, ?_, ?_, fun i hi => ?_, fun i hi => ?_, fun i j hi hj hij => ?_, ?_⟩
  · rw [cS.cell o ho]
    match o, ho with
    | 0, _ => rfl
    | 1, _ => rfl
    | 2, _ => rfl
    | 3, _ => rfl
    | 4, _ => rfl
    | 5, _ => rfl
    | 6, _ => rfl
    | 7, _ => rfl
    | q + 8, h => exact absurd h (by omega)
  · exact (d.nw.turned t (nv2 _ (by omega))).turned tS (by omega)
  · exact (d.ak.turned t (nv2 _ (by omega))).turned tS (by omega)
  · have : ptrs (upd P k p) (k + 1) = ptrs P k ++ [.pointer (some ⟨p, 0, none⟩)] := by
      show ptrs (upd P k p) k ++ [.pointer (some ⟨upd P k p k, 0, none⟩)] = _
      rw [upd_same, ptrs_congr (upd P k p) P k (fun i hi => upd_other _ _ _ _ (by omega))]
    rw [this]
    exact own_turned_bus r tS (fun j hj q => by
      have hj : g = j := by simpa [Value.ownBlock] using hj
      omega)
  · by_cases c : i = k
    · subst c
      rw [upd_same, upd_same]
      exact ch_off (ch_off ch t hvp hvh) tS (by omega) (by omega)
    · have hi' : i < k := by omega
      obtain ⟨e1, e2, e3, e4⟩ := d.hi i hi'
      rw [upd_other _ _ _ _ c, upd_other _ _ _ _ c]
      exact ch_off (ch_off (d.ch i hi') t e3 e4) tS (by omega) (by omega)
  · by_cases c : i = k
    · subst c
      rw [upd_same, upd_same]
      exact ⟨hp, hh, fun q => hgn p hlp hvp (by simpa [Value.ownBlock] using q), fun q => hgn h hlh hvh (by simpa [Value.ownBlock] using q)⟩
    · have hi' : i < k := by omega
      obtain ⟨e1, e2, e3, e4⟩ := d.hi i hi'
      rw [upd_other _ _ _ _ c, upd_other _ _ _ _ c]
      exact ⟨e1, e2, fun q => hgn _ (d.ch i hi').c.here e3 (by simpa [Value.ownBlock] using q), fun q => hgn _ (d.ch i hi').v.here e4 (by simpa [Value.ownBlock] using q)⟩
  · by_cases c : i = k <;> by_cases c' : j = k
    · omega
    · subst c
      obtain ⟨e1, e2, e3, e4⟩ := hd j (by omega)
      rw [upd_same, upd_same, upd_other _ _ _ _ c', upd_other _ _ _ _ c']
      exact ⟨e1.symm, e3.symm, e4.symm⟩
    · subst c'
      obtain ⟨e1, e2, e3, e4⟩ := hd i (by omega)
      rw [upd_same, upd_same, upd_other _ _ _ _ c, upd_other _ _ _ _ c]
      exact ⟨e1, e2, e4⟩
    · rw [upd_other _ _ _ _ c, upd_other _ _ _ _ c, upd_other _ _ _ _ c', upd_other _ _ _ _ c']
      exact d.dis i j (by omega) (by omega) hij
  · refine d.b.trans ?_
    refine (t.below d.b.size (fun j hj => by have := (vb j hj).1; omega)).trans ?_
    exact (tS.below (by have := t.size; have := d.b.size; omega) (fun j hj => by omega))
theorem isData_any (q : Option Addr) (n cc : Nat) (w : World) (h16 : n % 16 = 0) (hn : n ≤ 4096) : Calls Tryz.prog 58 #[.slice q n cc] w fun e w' => e = .returned (.bool true) ∧ w' = w := by
  have h1 : (n : Int) % 16 = 0 := by omega
  have h1' : (n : Int).tmod 16 = 0 := by
    rw [Int.tmod_eq_emod_of_nonneg (by omega)]
    exact h1
  have h2 : (n : Int) ≤ 4096 := by omega
  clear h16 hn
  go_enter Tryz.func58, Tryz.ntmps58
  go_wp2
  go_ret
  exact ⟨by simp, rfl⟩
end Go.Proofs.YtemamhkhjijdlaaGreatDoor
/-
  BUS: New, the walk.
-/
namespace Go.Proofs.YtemamhkhjijdlaaGreatDoor
open Go Go.RowKit
/-- a bus that is new -/
def newB (cyc : Nat) (n ws : Nat → Nat) (m : Nat → Nat) : BS := ⟨2, cyc, fun i => ⟨ws i, n i, fun _ => []⟩, 256, m, fun _ => none, fun _ => none, 1, false, 0⟩
theorem NewI.fin {x w y : World} {cyc : Nat} {n ws : Nat → Nat} {v : Value} {P H : Nat → Nat} {m : Nat → Nat} (d : NewI x w cyc n ws 2 v P H) (b : Below w.heap.size w y) (cm : CellsAt 256 y w.heap.size (fun i => .int .u8 (m i))) (hc : cyc ≤ 10) (hm : ∀ o, m o < 256) : ∃ g : Bn, g.p = x.heap.size + 2 ∧ Bu (y.setCell ⟨x.heap.size + 2, 2, none⟩ (.slice (some ⟨w.heap.size, 0, none⟩) 256 256)) g (fun j => j < x.heap.size) 0 (newB cyc n ws m) ∧ Below x.heap.size x (y.setCell ⟨x.heap.size + 2, 2, none⟩ (.slice (some ⟨w.heap.size, 0, none⟩) 256 256)) := by
  obtain ⟨rb, cap, rfl⟩ := own_succ d.row
  have e := d.below b
  have hw2 := d.c.here
  have rbw := own_base_bus d.row rb rfl
  have ecap : 2 ≤ cap ∧ cap ≤ 9223372036854775807 := by
    rcases d.row.2 with ⟨q, -⟩ | ⟨g, c, cur, q, -, -, q1, q2, -⟩
    · cases q
    · simp at q
      obtain ⟨-, rfl⟩ := q
      unfold maxLen at q2
      exact ⟨q1, q2⟩
  have tS : Turned (fun j => j = x.heap.size + 2) y (y.setCell ⟨x.heap.size + 2, 2, none⟩ (.slice (some ⟨w.heap.size, 0, none⟩) 256 256)) := (Turned.refl (fun j => j = x.heap.size + 2) y).set rfl _ _
  have cS := e.c.set 2 (by decide) (.slice (some ⟨w.heap.size, 0, none⟩) 256 256)
  have hY : w.heap.size ≤ y.heap.size := b.size
  have mn : ∀ i z, mine (P i) (H i) (n i) (fun _ => Value.slice none 0 0) z → z = P i ∨ z = H i := by
    rintro i z (q | q | ⟨j, -, q⟩)
    · exact Or.inl q
    · exact Or.inr q
    · simp [Value.ownBlock] at q
  have hP : ∀ i, i < 2 → P i < w.heap.size ∧ H i < w.heap.size := fun i hi => ⟨(d.ch i hi).c.here, (d.ch i hi).v.here⟩
  have hq := d.hi
  have bx : Below x.heap.size x (y.setCell ⟨x.heap.size + 2, 2, none⟩ (.slice (some ⟨w.heap.size, 0, none⟩) 256 256)) := e.b.trans (tS.below e.b.size (fun j hj => by omega))
  have key : Bm (y.setCell ⟨x.heap.size + 2, 2, none⟩ (.slice (some ⟨w.heap.size, 0, none⟩) 256 256)) x.heap.size (x.heap.size + 2) rb cap w.heap.size 256 x.heap.size (x.heap.size + 1) 0 0 P H n (fun _ _ => .slice none 0 0) (newB cyc n ws m) := by
    refine ⟨⟨cS.here, fun o ho => ?_, cS.free⟩, ?_, fun i hi => ?_, tS.cells cm (by omega), e.nw.turned tS (by omega), e.ak.turned tS (by omega), ?_, fun i hi z hz hmz => ?_, fun i j hi hj hij z h1 h2 => ?_, fun z hz => ?_, ?_, ?_, hm⟩
    · rw [cS.cell o ho]
      match o, ho with
      | 0, _ => rfl
      | 1, _ => rfl
      | 2, _ => rfl
      | 3, _ => rfl
      | 4, _ => rfl
      | 5, _ => rfl
      | 6, _ => rfl
      | 7, _ => rfl
      | q + 8, h => exact absurd h (by omega)
    · have r := own_turned_bus e.row tS (fun j hj q => by
        have hj : rb = j := by simpa [Value.ownBlock] using hj
        omega)
      refine ⟨(own_base_bus r rb rfl).2, fun o ho => ?_, fun o => World.ownsRow.frozenAt r o⟩
      rw [World.ownsRow.cellAt r o (by show o < 2 * 1; have : o < 2 := ho; omega)]
      exact ptrs_at P 2 o ho
    · have hi : i < 2 := hi
      obtain ⟨q1, q2, -, -⟩ := hq i hi
      exact ch_off (e.ch i hi) tS (by omega) (by omega)
    · refine ⟨by omega, by omega, by omega, by omega, by omega, by omega, by omega, by omega, by omega, by omega⟩
    · have hi : i < 2 := hi
      obtain ⟨q1, q2, q3, q4⟩ := hq i hi
      obtain ⟨p1, p2⟩ := hP i hi
      have q3 : rb ≠ P i := fun e => q3 (by simp [Value.ownBlock, e])
      have q4 : rb ≠ H i := fun e => q4 (by simp [Value.ownBlock, e])
      rcases mn i z hmz with e1 | e1 <;> rcases hz with e2 | e2 | e2 | e2 | e2 <;> omega
    · have hi : i < 2 := hi
      have hj : j < 2 := hj
      obtain ⟨r1, r2, r3⟩ := d.dis i j hi hj hij
      obtain ⟨s1, s2, s3⟩ := d.dis j i hj hi (fun e => hij e.symm)
      rcases mn i z h1 with e1 | e1 <;> rcases mn j z h2 with e2 | e2
      · exact r1 (e1.symm.trans e2)
      · exact r2 (e1.symm.trans e2)
      · exact s2 (e2.symm.trans e1)
      · exact r3 (e1.symm.trans e2)
    · rcases hz with e2 | e2 | e2 | e2 | e2 <;> omega
    · exact ⟨by show 1 ≤ 2; omega, by show 2 ≤ 2; omega, hc, by show 256 ≤ 4096; omega, by show 256 % 16 = 0; decide, by show 1 < 2; omega, by show 0 ≤ 10; omega⟩
    · exact ⟨ecap.1, Nat.le_refl _, ecap.2, by omega⟩
  refine ⟨⟨x.heap.size, x.heap.size + 2, rb, cap, w.heap.size, 256, x.heap.size, x.heap.size + 1, P, H, n⟩, rfl, ⟨fun _ _ => .slice none 0 0, 0, 0, key, Nat.le_refl _, Nat.le_refl _, fun z hz => ⟨Nat.lt_of_lt_of_le hz bx.size, ?_⟩⟩, bx⟩
  rintro (q | ⟨i, hi, q⟩)
  · have := key.lo z q
    omega
  · have := (mine_lt (key.ch i hi) z q).2
    omega
end Go.Proofs.YtemamhkhjijdlaaGreatDoor
/-
  BUS: New, of any number of caches and bytes.
-/
namespace Go.Proofs.YtemamhkhjijdlaaGreatDoor
open Go Go.RowKit
def nvg (v m : Value) (cyc nb ab tn : Nat) : Nat → Value
  | 0 => v
  | 1 => .int .i64 cyc
  | 2 => m
  | 3 => .map (some nb)
  | 4 => .map (some ab)
  | 5 => .int .i64 tn
  | 6 => .bool false
  | _ => .int .i64 0
structure NewG (x w : World) (nn cyc : Nat) (n ws : Nat → Nat) (k : Nat) (v : Value) (P H : Nat → Nat) : Prop where
  c : CellsAt 8 w (x.heap.size + 2) (nvg v (.slice none 0 0) cyc x.heap.size (x.heap.size + 1) (nn - 1))
  nw : MapAt w 43 .u32 x.heap.size 0 (fun _ => none)
  ak : MapAt w 3 .i64 (x.heap.size + 1) 0 (fun _ => none)
  row : w.ownsRow (x.heap.size + 3) 169 1 v k (ptrs P k)
  ch : ∀ i, i < k → Ch w x.heap.size (P i) (H i) (n i) (fun _ => .slice none 0 0) ⟨ws i, n i, fun _ => []⟩
  hi : ∀ i, i < k → x.heap.size + 2 < P i ∧ x.heap.size + 2 < H i ∧ v.ownBlock ≠ some (P i) ∧ v.ownBlock ≠ some (H i)
  dis : ∀ i j, i < k → j < k → i ≠ j → P i ≠ P j ∧ P i ≠ H j ∧ H i ≠ H j
  b : Below x.heap.size x w
theorem NewG.below {x w y : World} {nn cyc : Nat} {n ws : Nat → Nat} {k : Nat} {v : Value} {P H : Nat → Nat} (d : NewG x w nn cyc n ws k v P H) (b : Below w.heap.size w y) : NewG x y nn cyc n ws k v P H :=
  ⟨d.c.below b, d.nw.below b, d.ak.below b, own_turned_bus d.row (Turned.of_below (Q := fun _ => False) b) (fun _ _ q => q), fun i hi => (d.ch i hi).below b, d.hi, d.dis, d.b.trans (b.mono d.b.size)⟩
/-- one cache more -/
theorem NewG.add {x w y : World} {nn cyc : Nat} {n ws : Nat → Nat} {k p h g cap : Nat} {v : Value} {P H : Nat → Nat} (d : NewG x w nn cyc n ws k v P H) (hp : x.heap.size + 2 < p) (hh : x.heap.size + 2 < h) (hlp : p < w.heap.size) (hlh : h < w.heap.size) (hvp : v.ownBlock ≠ some p) (hvh : v.ownBlock ≠ some h) (ch : Ch w x.heap.size p h (n k) (fun _ => .slice none 0 0) ⟨ws k, n k, fun _ => []⟩) (hd : ∀ i, i < k → P i ≠ p ∧ P i ≠ h ∧ H i ≠ p ∧ H i ≠ h) (t : Turned (fun j => v.ownBlock = some j) w y) (r : y.ownsRow (x.heap.size + 3) 169 1 (.slice (some ⟨g, 0, none⟩) (k + 1) cap) (k + 1) (ptrs P k ++ [.pointer (some ⟨p, 0, none⟩)])) (hg : some g = v.ownBlock ∨ w.heap.size ≤ g) : NewG x (y.setCell ⟨x.heap.size + 2, 0, none⟩ (.slice (some ⟨g, 0, none⟩) (k + 1) cap)) nn cyc n ws (k + 1) (.slice (some ⟨g, 0, none⟩) (k + 1) cap) (upd P k p) (upd H k h) := by
  have hw2 := d.c.here
  have vb : ∀ j, v.ownBlock = some j → x.heap.size + 3 ≤ j ∧ j < w.heap.size := own_base_bus d.row
  have gb : x.heap.size + 3 ≤ g := (own_base_bus r g rfl).1
  have tS : Turned (fun j => j = x.heap.size + 2) y (y.setCell ⟨x.heap.size + 2, 0, none⟩ (.slice (some ⟨g, 0, none⟩) (k + 1) cap)) := (Turned.refl (fun j => j = x.heap.size + 2) y).set rfl _ _
  have nv2 : ∀ j, j ≤ x.heap.size + 2 → ¬ v.ownBlock = some j := fun j hj q => by have := (vb j q).1; omega
  have cY := t.cells d.c (nv2 _ (by omega))
  have cS := cY.set 0 (by decide) (.slice (some ⟨g, 0, none⟩) (k + 1) cap)
  have hgn : ∀ j, j < w.heap.size → v.ownBlock ≠ some j → g ≠ j := fun j hj hv e => by
    rcases hg with q | q
    · exact hv (by rw [← q, e])
    · omega
  refine ⟨⟨cS.here, fun o ho => ?_, cS.free⟩, ?_, ?_, ?_, fun i hi => ?_, fun i hi => ?_, fun i j hi hj hij => ?_, ?_⟩
  · rw [cS.cell o ho]
    match o, ho with
    | 0, _ => rfl
    | 1, _ => rfl
    | 2, _ => rfl
    | 3, _ => rfl
    | 4, _ => rfl
    | 5, _ => rfl
    | 6, _ => rfl
    | 7, _ => rfl
    | q + 8, h => exact absurd h (by omega)
  · exact (d.nw.turned t (nv2 _ (by omega))).turned tS (by omega)
  · exact (d.ak.turned t (nv2 _ (by omega))).turned tS (by omega)
  · have : ptrs (upd P k p) (k + 1) = ptrs P k ++ [.pointer (some ⟨p, 0, none⟩)] := by
      show ptrs (upd P k p) k ++ [.pointer (some ⟨upd P k p k, 0, none⟩)] = _
      rw [upd_same, ptrs_congr (upd P k p) P k (fun i hi => upd_other _ _ _ _ (by omega))]
    rw [this]
    exact own_turned_bus r tS (fun j hj q => by
      have hj : g = j := by simpa [Value.ownBlock] using hj
      omega)
  · by_cases c : i = k
    · subst c
      rw [upd_same, upd_same]
      exact ch_off (ch_off ch t hvp hvh) tS (by omega) (by omega)
    · have hi' : i < k := by omega
      obtain ⟨e1, e2, e3, e4⟩ := d.hi i hi'
      rw [upd_other _ _ _ _ c, upd_other _ _ _ _ c]
      exact ch_off (ch_off (d.ch i hi') t e3 e4) tS (by omega) (by omega)
  · by_cases c : i = k
    · subst c
      rw [upd_same, upd_same]
      exact ⟨hp, hh, fun q => hgn p hlp hvp (by simpa [Value.ownBlock] using q), fun q => hgn h hlh hvh (by simpa [Value.ownBlock] using q)⟩
    · have hi' : i < k := by omega
      obtain ⟨e1, e2, e3, e4⟩ := d.hi i hi'
      rw [upd_other _ _ _ _ c, upd_other _ _ _ _ c]
      exact ⟨e1, e2, fun q => hgn _ (d.ch i hi').c.here e3 (by simpa [Value.ownBlock] using q), fun q => hgn _ (d.ch i hi').v.here e4 (by simpa [Value.ownBlock] using q)⟩
  · by_cases c : i = k <;> by_cases c' : j = k
    · omega
    · subst c
      obtain ⟨e1, e2, e3, e4⟩ := hd j (by omega)
      rw [upd_same, upd_same, upd_other _ _ _ _ c', upd_other _ _ _ _ c']
      exact ⟨e1.symm, e3.symm, e4.symm⟩
    · subst c'
      obtain ⟨e1, e2, e3, e4⟩ := hd i (by omega)
      rw [upd_same, upd_same, upd_other _ _ _ _ c, upd_other _ _ _ _ c]
      exact ⟨e1, e2, e4⟩
    · rw [upd_other _ _ _ _ c, upd_other _ _ _ _ c, upd_other _ _ _ _ c', upd_other _ _ _ _ c']
      exact d.dis i j (by omega) (by omega) hij
  · refine d.b.trans ?_
    refine (t.below d.b.size (fun j hj => by have := (vb j hj).1; omega)).trans ?_
    exact (tS.below (by have := t.size; have := d.b.size; omega) (fun j hj => by omega))
/-- a bus that is new -/
def newG (nn cyc : Nat) (n ws : Nat → Nat) (len : Nat) (m : Nat → Nat) : BS := ⟨nn, cyc, fun i => ⟨ws i, n i, fun _ => []⟩, len, m, fun _ => none, fun _ => none, nn - 1, false, 0⟩
theorem NewG.fin {x w y : World} {nn cyc : Nat} {n ws : Nat → Nat} {v : Value} {P H : Nat → Nat} {len : Nat} {m : Nat → Nat} (hlen : len ≤ 4096 ∧ len % 16 = 0) (hnn : 1 ≤ nn ∧ nn ≤ 2) (d : NewG x w nn cyc n ws nn v P H) (b : Below w.heap.size w y) (cm : CellsAt len y w.heap.size (fun i => .int .u8 (m i))) (hc : cyc ≤ 10) (hm : ∀ o, m o < 256) : ∃ g : Bn, g.p = x.heap.size + 2 ∧ Bu (y.setCell ⟨x.heap.size + 2, 2, none⟩ (.slice (some ⟨w.heap.size, 0, none⟩) len len)) g (fun j => j < x.heap.size) 0 (newG nn cyc n ws len m) ∧ Below x.heap.size x (y.setCell ⟨x.heap.size + 2, 2, none⟩ (.slice (some ⟨w.heap.size, 0, none⟩) len len)) := by
  obtain ⟨n1, hn1⟩ : ∃ n1, nn = n1 + 1 := ⟨nn - 1, by omega⟩
  obtain ⟨rb, cap, hv⟩ := own_succ (n := n1) (by rw [← hn1]; exact d.row)
  rw [← hn1] at hv
  subst hv
  have e := d.below b
  have hw2 := d.c.here
  have rbw := own_base_bus d.row rb rfl
  have ecap : nn ≤ cap ∧ cap ≤ 9223372036854775807 := by
    rcases d.row.2 with ⟨q, -⟩ | ⟨g, c, cur, q, -, -, q1, q2, -⟩
    · cases q
    · simp at q
      obtain ⟨-, rfl⟩ := q
      unfold maxLen at q2
      exact ⟨q1, q2⟩
  have tS : Turned (fun j => j = x.heap.size + 2) y (y.setCell ⟨x.heap.size + 2, 2, none⟩ (.slice (some ⟨w.heap.size, 0, none⟩) len len)) := (Turned.refl (fun j => j = x.heap.size + 2) y).set rfl _ _
  have cS := e.c.set 2 (by decide) (.slice (some ⟨w.heap.size, 0, none⟩) len len)
  have hY : w.heap.size ≤ y.heap.size := b.size
  have mn : ∀ i z, mine (P i) (H i) (n i) (fun _ => Value.slice none 0 0) z → z = P i ∨ z = H i := by
    rintro i z (q | q | ⟨j, -, q⟩)
    · exact Or.inl q
    · exact Or.inr q
    · simp [Value.ownBlock] at q
  have hP : ∀ i, i < nn → P i < w.heap.size ∧ H i < w.heap.size := fun i hi => ⟨(d.ch i hi).c.here, (d.ch i hi).v.here⟩
  have hq := d.hi
  have bx : Below x.heap.size x (y.setCell ⟨x.heap.size + 2, 2, none⟩ (.slice (some ⟨w.heap.size, 0, none⟩) len len)) := e.b.trans (tS.below e.b.size (fun j hj => by omega))
  have key : Bm (y.setCell ⟨x.heap.size + 2, 2, none⟩ (.slice (some ⟨w.heap.size, 0, none⟩) len len)) x.heap.size (x.heap.size + 2) rb cap w.heap.size len x.heap.size (x.heap.size + 1) 0 0 P H n (fun _ _ => .slice none 0 0) (newG nn cyc n ws len m) := by
    refine ⟨⟨cS.here, fun o ho => ?_, cS.free⟩, ?_, fun i hi => ?_, tS.cells cm (by omega), e.nw.turned tS (by omega), e.ak.turned tS (by omega), ?_, fun i hi z hz hmz => ?_, fun i j hi hj hij z h1 h2 => ?_, fun z hz => ?_, ?_, ?_, hm⟩
    · rw [cS.cell o ho]
      match o, ho with
      | 0, _ => rfl
      | 1, _ => rfl
      | 2, _ => rfl
      | 3, _ => rfl
      | 4, _ => rfl
      | 5, _ => rfl
      | 6, _ => rfl
      | 7, _ => rfl
      | q + 8, h => exact absurd h (by omega)
    · have r := own_turned_bus e.row tS (fun j hj q => by
        have hj : rb = j := by simpa [Value.ownBlock] using hj
        omega)
      refine ⟨(own_base_bus r rb rfl).2, fun o ho => ?_, fun o => World.ownsRow.frozenAt r o⟩
      rw [World.ownsRow.cellAt r o (by show o < nn * 1; have : o < nn := ho; omega)]
      exact ptrs_at P nn o ho
    · have hi : i < nn := hi
      obtain ⟨q1, q2, -, -⟩ := hq i hi
      exact ch_off (e.ch i hi) tS (by omega) (by omega)
    · refine ⟨by omega, by omega, by omega, by omega, by omega, by omega, by omega, by omega, by omega, by omega⟩
    · have hi : i < nn := hi
      obtain ⟨q1, q2, q3, q4⟩ := hq i hi
      obtain ⟨p1, p2⟩ := hP i hi
      have q3 : rb ≠ P i := fun e => q3 (by simp [Value.ownBlock, e])
      have q4 : rb ≠ H i := fun e => q4 (by simp [Value.ownBlock, e])
      rcases mn i z hmz with e1 | e1 <;> rcases hz with e2 | e2 | e2 | e2 | e2 <;> omega
    · have hi : i < nn := hi
      have hj : j < nn := hj
      obtain ⟨r1, r2, r3⟩ := d.dis i j hi hj hij
      obtain ⟨s1, s2, s3⟩ := d.dis j i hj hi (fun e => hij e.symm)
      rcases mn i z h1 with e1 | e1 <;> rcases mn j z h2 with e2 | e2
      · exact r1 (e1.symm.trans e2)
      · exact r2 (e1.symm.trans e2)
      · exact s2 (e2.symm.trans e1)
      · exact r3 (e1.symm.trans e2)
    · rcases hz with e2 | e2 | e2 | e2 | e2 <;> omega
    · exact ⟨hnn.1, hnn.2, hc, hlen.1, hlen.2, by show nn - 1 < nn; omega, by show 0 ≤ 10; omega⟩
    · exact ⟨ecap.1, Nat.le_refl _, ecap.2, by show len ≤ _; omega⟩
  refine ⟨⟨x.heap.size, x.heap.size + 2, rb, cap, w.heap.size, len, x.heap.size, x.heap.size + 1, P, H, n⟩, rfl, ⟨fun _ _ => .slice none 0 0, 0, 0, key, Nat.le_refl _, Nat.le_refl _, fun z hz => ⟨Nat.lt_of_lt_of_le hz bx.size, ?_⟩⟩, bx⟩
  rintro (q | ⟨i, hi, q⟩)
  · have := key.lo z q
    omega
  · have := (mine_lt (key.ch i hi) z q).2
    omega
/-- may a cache have such a shape? -/
def shOk (fs fw : Nat → Int) (i : Nat) : Prop := isN (fs i) ∧ 1 ≤ fw i ∧ fw i ≤ 4
def toN (f : Nat → Int) (i : Nat) : Nat := (f i).toNat
theorem sh_nat {fs fw : Nat → Int} {i : Nat} (h : shOk fs fw i) : fs i = (toN fs i : Nat) ∧ fw i = (toN fw i : Nat) ∧ (toN fs i = 1 ∨ toN fs i = 2 ∨ toN fs i = 4 ∨ toN fs i = 8 ∨ toN fs i = 16) ∧ 1 ≤ toN fw i ∧ toN fw i ≤ 4 := by
  obtain ⟨h1, h2, h3⟩ := h
  unfold isN at h1
  unfold toN
  omega
def dOk (n : Nat) : Prop := n % 16 = 0 ∧ n ≤ 4096
theorem isData_bad (q : Option Addr) (n cc : Nat) (w : World) (h : ¬ dOk n) : Calls Tryz.prog 58 #[.slice q n cc] w fun e w' => e = .returned (.bool false) ∧ w' = w := by
  have hu : undef = Value.tuple #[] := rfl
  unfold dOk at h
  have hmod : (n : Int).tmod 16 = ((n % 16 : Nat) : Int) := by rw [Int.tmod_eq_emod_of_nonneg (by omega)]; omega
  have hmod2 : (n : Int) % 16 = ((n % 16 : Nat) : Int) := by omega
  obtain ⟨r, hr⟩ : ∃ r, n % 16 = r := ⟨_, rfl⟩
  rw [hr] at hmod hmod2 h
  by_cases h0 : r = 0
  · subst h0
    have h2 : ¬ (n : Int) ≤ 4096 := by omega
    have h3 : decide ((n : Int) ≤ 4096) = false := decide_eq_false h2
    clear h hr
    go_enter Tryz.func58, Tryz.ntmps58
    go_wp2
    go_ret
    exact ⟨by simp, rfl⟩
  · have h2 : ¬ (r : Int) = 0 := by omega
    have h3 : decide ((r : Int) = 0) = false := decide_eq_false h2
    have h4 : ((r : Int) == 0) = false := by simp; omega
    clear h hr
    go_enter Tryz.func58, Tryz.ntmps58
    go_wp2
    go_ret
    exact ⟨by simp, rfl⟩
end Go.Proofs.YtemamhkhjijdlaaGreatDoor
/-
  BUS: New, the walk, of any number of caches and bytes.
-/
namespace Go.Proofs.YtemamhkhjijdlaaGreatDoor
open Go Go.RowKit
/-- what New leaves -/
def NewP (x : World) (nn : Nat) (fs fw : Nat → Int) (cyc len : Nat) (m : Nat → Nat) (e : Ending) (w' : World) : Prop := Below x.heap.size x w' ∧ (((∃ i, i < nn ∧ ¬ shOk fs fw i) ∧ e = .returned (.tuple #[.pointer none, errV 2])) ∨ ((∀ i, i < nn → shOk fs fw i) ∧ ¬ dOk len ∧ e = .returned (.tuple #[.pointer none, errV 1])) ∨ ((∀ i, i < nn → shOk fs fw i) ∧ dOk len ∧ ∃ g : Bn, e = .returned (.tuple #[.pointer (some ⟨g.p, 0, none⟩), .nilIface]) ∧ Bu w' g (fun j => j < x.heap.size) 0 (newG nn cyc (toN fs) (toN fw) len m)))
set_option maxRecDepth 100000 in
set_option maxHeartbeats 1000000 in
theorem unew_conf (x : World) (q0 : Option Addr) (nn sc : Nat) (cyc : Int) (q : Option Addr) (len dc : Nat) (h : ¬ (1 ≤ nn ∧ nn ≤ 2 ∧ 0 ≤ cyc ∧ cyc ≤ 10)) : Calls Tryz.prog 32 #[.slice q0 nn sc, .int .i64 cyc, .slice q len dc] x fun e w' => e = .returned (.tuple #[.pointer none, errV 2]) ∧ w' = x := by
  have hu : undef = Value.tuple #[] := rfl
  have done : ∀ (v : Value), v = errV 2 → v = errV 2 := fun _ h => h
  clear done
  unfold errV
  by_cases h1 : (nn : Int) < 1
  · have q1 : decide ((nn : Int) < 1) = true := decide_eq_true h1
    clear h
    go_enter Tryz.func32, Tryz.ntmps32
    go_wp2
    exact bodyPost_ret (v := .tuple #[.pointer none, errV 2]) (by simp [results, Tryz.results32, go_sem, errV]) rfl ⟨rfl, rfl⟩
  · have q1 : decide ((nn : Int) < 1) = false := decide_eq_false h1
    by_cases h2 : (nn : Int) > 2
    · have q2 : decide ((2 : Int) < (nn : Int)) = true := decide_eq_true h2
      clear h
      go_enter Tryz.func32, Tryz.ntmps32
      go_wp2
      exact bodyPost_ret (v := .tuple #[.pointer none, errV 2]) (by simp [results, Tryz.results32, go_sem, errV]) rfl ⟨rfl, rfl⟩
    · have q2 : decide ((2 : Int) < (nn : Int)) = false := decide_eq_false h2
      by_cases h3 : cyc < 0
      · have q3 : decide (cyc < 0) = true := decide_eq_true h3
        clear h
        go_enter Tryz.func32, Tryz.ntmps32
        go_wp2
        exact bodyPost_ret (v := .tuple #[.pointer none, errV 2]) (by simp [results, Tryz.results32, go_sem, errV]) rfl ⟨rfl, rfl⟩
      · have q3 : decide (cyc < 0) = false := decide_eq_false h3
        have h4 : cyc > 10 := by omega
        have q4 : decide ((10 : Int) < cyc) = true := decide_eq_true h4
        clear h
        go_enter Tryz.func32, Tryz.ntmps32
        go_wp2
        exact bodyPost_ret (v := .tuple #[.pointer none, errV 2]) (by simp [results, Tryz.results32, go_sem, errV]) rfl ⟨rfl, rfl⟩
set_option maxRecDepth 100000 in
set_option maxHeartbeats 4000000 in
theorem unewG (x : World) (sb sc nn : Nat) (fs fw : Nat → Int) (cyc : Nat) (q : Option Addr) (len dc : Nat) (m : Nat → Nat) (hnn : 1 ≤ nn ∧ nn ≤ 2) (hs : ∀ i, i < nn → x.cell? ⟨sb, i * 2, none⟩ = some (.int .i64 (fs i)) ∧ x.cell? ⟨sb, i * 2 + 1, none⟩ = some (.int .i64 (fw i))) (h64 : ∀ i, i < nn → -9223372036854775808 ≤ fs i ∧ fs i ≤ 9223372036854775807) (hsb : sb < x.heap.size) (hc : cyc ≤ 10) (hD : HandB x q len m) (hq0 : q = none → dc = 0) (hm : ∀ o, m o < 256) : Calls Tryz.prog 32 #[.slice (some ⟨sb, 0, none⟩) nn sc, .int .i64 cyc, .slice q len dc] x (NewP x nn fs fw cyc len m) := by
  obtain ⟨n, hn⟩ : ∃ n, toN fs = n := ⟨_, rfl⟩
  obtain ⟨ws, hws⟩ : ∃ ws, toN fw = ws := ⟨_, rfl⟩
  have e5 : (nn : Int) - 1 = ((nn - 1 : Nat) : Int) := by omega
  obtain ⟨W, hW⟩ : ∃ W, ((x.alloc (.map #[] 0)).alloc (.map #[] 0)).alloc (.cells #[.slice none 0 0, .int .i64 cyc, .slice none 0 0, .map (some x.heap.size), .map (some (x.heap.size + 1)), .int .i64 ((nn : Int) - 1), .bool false, .int .i64 0] 152) = W := ⟨_, rfl⟩
  have d0 : NewG x W nn cyc n ws 0 (.slice none 0 0) (fun _ => 0) (fun _ => 0) := by
    have b1 : Below x.heap.size x (x.alloc (.map #[] 0)) := (Below.refl _ _).alloc (Nat.le_refl _) _
    have s1 : (x.alloc (.map #[] 0)).heap.size = x.heap.size + 1 := by simp
    have b2 : Below (x.alloc (.map #[] 0)).heap.size (x.alloc (.map #[] 0)) ((x.alloc (.map #[] 0)).alloc (.map #[] 0)) := (Below.refl _ _).alloc (Nat.le_refl _) _
    have s2 : ((x.alloc (.map #[] 0)).alloc (.map #[] 0)).heap.size = x.heap.size + 2 := by simp
    have b3 : Below ((x.alloc (.map #[] 0)).alloc (.map #[] 0)).heap.size ((x.alloc (.map #[] 0)).alloc (.map #[] 0)) W := by rw [← hW]; exact (Below.refl _ _).alloc (Nat.le_refl _) _
    have m1 := ((map_made x 43 .u32).below b2).below b3
    have m2 := (map_made (x.alloc (.map #[] 0)) 3 .i64).below b3
    rw [s1] at m2
    refine ⟨?_, m1, m2, World.ownsRow_nil _ _ _ _, fun i hi => absurd hi (by omega), fun i hi => absurd hi (by omega), fun i j hi => absurd hi (by omega), (b1.trans (b2.mono (by omega))).trans (b3.mono (by omega))⟩
    rw [← hW, ← s2]
    refine ⟨by simp, fun o ho => ?_, fun o => World.frozen?_alloc_at _ _ _ _ rfl⟩
    rw [World.cell?_alloc_new, Array.getElem?_eq_getElem (by show o < 8; exact ho)]
    match o, ho with
    | 0, _ => rfl
    | 1, _ => rfl
    | 2, _ => rfl
    | 3, _ => rfl
    | 4, _ => rfl
    | 5, _ => show some (Value.int .i64 ((nn : Int) - 1)) = some (Value.int .i64 ((nn - 1 : Nat) : Int)); rw [e5]
    | 6, _ => rfl
    | 7, _ => rfl
    | q + 8, h => exact absurd h (by omega)
  have HD0 := Hid.in d0
  have HS := Hid.in hs
  have HSB := Hid.in hsb
  have H64 := Hid.in h64
  have HN := Hid.in hn
  have HWS := Hid.in hws
  have c2 : ¬ ((nn : Int) < 1) := by omega
  have c3 : ¬ ((nn : Int) > 2) := by omega
  have E5 := Hid.in e5
  have HC := Hid.in hc
  have HDD := Hid.in hD
  have HQ0 := Hid.in hq0
  have HM := Hid.in hm
  have c0 : ¬ ((cyc : Int) < 0) := by omega
  have c1 : ¬ ((cyc : Int) > 10) := by omega
  have hmm : ∀ (t : TypeId) (u : World), (Instr.makeMap t none).run Tryz.prog u = .ok (.map (some u.heap.size)) (u.alloc (.map #[] 0)) := fun _ _ => rfl
  clear d0 hs hsb hn hws hc hD hq0 hm h64 e5
  go_enter Tryz.func32, Tryz.ntmps32
  go_upto_region 4 with fail
  try rw [hW]
  clear hW
  go_wp2
  go_loopw [40] (fun iv wr => ∃ (k : Nat) (v : Value) (P H : Nat → Nat), iv = .int .i64 k ∧ k ≤ nn ∧ (∀ i, i < k → shOk fs fw i) ∧ NewG x wr nn cyc n ws k v P H) (fun iv _ => 3 - (intOf iv).toNat)
  case atStart => exact ⟨0, _, _, _, rfl, by omega, fun i hi => absurd hi (by omega), HD0.out⟩
  case round =>
    obtain ⟨k, v, P, H, rfl, hk, hok, hI⟩ := hrel
    have HOK := Hid.in hok
    clear hok
    have HI := Hid.in hI
    clear hI HD0
    by_cases hlt : k < nn
    · have hlt' : (k : Int) < (nn : Int) := by omega
      have b0 := HI.out.b
      have s0 : wr.cell? ⟨sb, k * 2, none⟩ = some (.int .i64 (fs k)) := (b0.cell (p := ⟨sb, k * 2, none⟩) HSB.out).trans (HS.out k hlt).1
      have s1 : wr.cell? ⟨sb, k * 2 + 1, none⟩ = some (.int .i64 (fw k)) := (b0.cell (p := ⟨sb, k * 2 + 1, none⟩) HSB.out).trans (HS.out k hlt).2
      have sh := Nat.lt_of_lt_of_le HSB.out b0.size
      obtain ⟨X, hX⟩ : ∃ X, wr.alloc (.cells #[.int .i64 (fs k), .int .i64 (fw k)] 27) = X := ⟨_, rfl⟩
      have x0 : X.cell? ⟨wr.heap.size, 0, none⟩ = some (.int .i64 (fs k)) := by rw [← hX]; exact World.cell?_alloc_new wr _ _ 0
      have x1 : X.cell? ⟨wr.heap.size, 1, none⟩ = some (.int .i64 (fw k)) := by rw [← hX]; exact World.cell?_alloc_new wr _ _ 1
      have xh : wr.heap.size < X.heap.size := by rw [← hX]; simp
      have dX := HI.out.below (y := X) (by rw [← hX]; exact (Below.refl _ _).alloc (Nat.le_refl _) _)
      have HDX := Hid.in dX
      go_upto_region 7 with fail
      try rw [hX]
      clear hX s0 s1 sh
      by_cases hsk : shOk fs fw k
      · obtain ⟨g1, g2, g3, g4, g5⟩ := sh_nat hsk
        rw [HN.out] at g1 g3
        rw [HWS.out] at g2 g4 g5
        have HNG := Hid.in (new_good_bus x.heap.size (n k) (ws k) X dX.b.size g3 ⟨g4, g5⟩)
        rw [← g1, ← g2] at HNG
        have HSK := Hid.in hsk
        clear b0 dX g1 g2 g3 g4 g5 hsk
        go_upto_region 10 with (go_at_call 57; refine HNG.out.mono ?_; rintro e y ⟨p, h, rfl, hch, hb, hp, hh⟩; have HCH := Hid.in hch; have HB := Hid.in hb; have HPH := Hid.in (And.intro hp hh); clear hch hb hp hh)
        have dY := HDX.out.below HB.out
        have y0 : y.cell? ⟨x.heap.size + 2, 0, none⟩ = some v := dY.c.cell 0 (by decide)
        have yh := dY.c.here
        have yr := dY.row
        have el := ptrs_len P k
        obtain ⟨g2, cap, z, hrun, r1, r2, r3⟩ := app_ptr (B := x.heap.size + 3) y v (ptrs P k) p (by rw [el]; exact yr) (by rw [el]; omega) (by omega)
        rw [el] at hrun r1
        have z0 : z.cell? ⟨x.heap.size + 2, 0, none⟩ = some v := r2.to_cell yh (fun q => by have := (own_base_bus yr _ q).1; omega) y0
        have zf : z.frozen? ⟨x.heap.size + 2, 0, none⟩ = false := (World.frozen?_of_block (r2.block (x.heap.size + 2) yh (fun q : v.ownBlock = some (x.heap.size + 2) => by have := (own_base_bus yr _ q).1; omega))).trans (dY.c.free 0)
        have zh := Nat.lt_of_lt_of_le yh r2.size
        have xw : x.heap.size + 2 < X.heap.size := HDX.out.c.here
        have vX : ∀ j, v.ownBlock = some j → j < X.heap.size := fun j hj => (own_base_bus HDX.out.row j hj).2
        have hadd := NewG.add dY (p := p) (h := h) (by have := HPH.out.1; omega) (by have := HPH.out.2; omega) HCH.out.c.here HCH.out.v.here (fun q => by have := vX _ q; have := HPH.out.1; omega) (fun q => by have := vX _ q; have := HPH.out.2; omega) HCH.out (fun i hi => by
          have h1 := (HDX.out.ch i hi).c.here
          have h2 := (HDX.out.ch i hi).v.here
          have h3 := HPH.out.1
          have h4 := HPH.out.2
          omega) r2 r1 r3
        have HADD := Hid.in hadd
        clear hadd r1 r2 r3 yr dY el xw vX x0 x1 xh
        go_wp2_with (at_builtin; refine wpList_append_run rfl rfl rfl rfl hrun ?_)
        go_roundw
        case rel => exact ⟨k + 1, _, _, _, by simp, by omega, fun i hi => by
            by_cases e : i = k
            · rw [e]; exact HSK.out
            · exact HOK.out i (by omega), HADD.out⟩
        case measure =>
          simp [intOf]
          omega
      · have HNB := Hid.in (new_bad_bus (fs k) (fw k) X (H64.out k hlt) hsk)
        have HSK := Hid.in hsk
        clear b0 dX hsk
        unfold errV at HNB
        go_wp2_with (go_at_call 57; refine HNB.out.mono ?_; rintro e y ⟨rfl, hb⟩; have HB := Hid.in hb; clear hb)
        refine bodyPost_ret (v := .tuple #[.pointer none, errV 2]) (by simp [results, Tryz.results32, go_sem, errV]) rfl ⟨HDX.out.b.trans (HB.out.mono HDX.out.b.size), Or.inl ⟨⟨k, hlt, HSK.out⟩, rfl⟩⟩
    · obtain rfl : k = nn := by omega
      have hlt' : ¬ (k : Int) < (k : Int) := by omega
      by_cases hdo : dOk len
      · have HDO := Hid.in hdo
        have HNN := Hid.in hnn
        have HCP := Hid.in (copied_any q len dc m wr (HDD.out.below HI.out.b) HQ0.out hdo.2)
        go_wp2_with (first
          | (go_at_call 58; refine (isData_any q len dc _ HDO.out.1 HDO.out.2).mono ?_; rintro e y ⟨rfl, hy⟩; have hy2 := hy.symm; clear hy; subst hy2)
          | (go_at_call 54; refine HCP.out.mono ?_; rintro e y ⟨rfl, hb, hcm⟩; have HB := Hid.in hb; have HCM := Hid.in hcm; have y2 : y.cell? ⟨x.heap.size + 2, 2, none⟩ = some (.slice none 0 0) := (HI.out.below hb).c.cell 2 (by decide); have yf := (HI.out.below hb).c.free 2; have yh := (HI.out.below hb).c.here; clear hb hcm))
        obtain ⟨g, g1, g2, g3⟩ := HI.out.fin ⟨HDO.out.2, HDO.out.1⟩ HNN.out HB.out HCM.out HC.out HM.out
        refine bodyPost_ret (v := .tuple #[.pointer (some ⟨x.heap.size + 2, 0, none⟩), .nilIface]) (by simp [results, Tryz.results32, go_sem]) rfl ⟨g3, Or.inr (Or.inr ⟨HOK.out, HDO.out, g, by rw [g1], by rw [HN.out, HWS.out]; exact g2⟩)⟩
      · have HDO := Hid.in hdo
        clear hdo
        go_wp2_with (go_at_call 58; refine (isData_bad q len dc _ HDO.out).mono ?_; rintro e y ⟨rfl, hy⟩; have hy2 := hy.symm; clear hy; subst hy2)
        refine bodyPost_ret (v := .tuple #[.pointer none, errV 1]) (by simp [results, Tryz.results32, go_sem, errV]) rfl ⟨HI.out.b, Or.inr (Or.inl ⟨HOK.out, HDO.out, rfl⟩)⟩
end Go.Proofs.YtemamhkhjijdlaaGreatDoor
