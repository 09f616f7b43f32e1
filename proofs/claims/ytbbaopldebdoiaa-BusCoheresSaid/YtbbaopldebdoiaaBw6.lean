/-
  BUS: New, of two shapes.
-/
import Derived.Test.YtbbaopldebdoiaaBw1
namespace Go.Proofs.Ytbbaopldebdoiaa
open Go Go.RowKit
theorem app_ptr {B : Nat} (x : World) (v : Value) (xs : List Value) (q : Nat) (hr : x.ownsRow B 57 1 v xs.length xs) (hl : xs.length ≤ 1000000) (hB : B ≤ x.heap.size) : ∃ g cap z, (Builtin.append_ #[53, 53] 53 #[v, .slice (some ⟨x.heap.size, 0, none⟩) 1 1]).run Try.prog (x.alloc (.cells #[.pointer (some ⟨q, 0, none⟩)] 57)) = .ok (.slice (some ⟨g, 0, none⟩) (xs.length + 1) cap) z ∧ z.ownsRow B 57 1 (.slice (some ⟨g, 0, none⟩) (xs.length + 1) cap) (xs.length + 1) (xs ++ [.pointer (some ⟨q, 0, none⟩)]) ∧ Turned (fun j => v.ownBlock = some j) x z ∧ (some g = v.ownBlock ∨ x.heap.size ≤ g) := by
  obtain ⟨i0, hi0, hz0, hz1, hz2⟩ := info_parts (show (Try.prog.info? 57).map (fun i => (i.zero, i.size, i.bytes)) = some (some (.pointer none), 1, 8) by kernel_rfl)
  obtain ⟨v', w1, hrun, r1, r2, r3, r4⟩ := run_append_own_at (P := Try.prog) (w := x.alloc (.cells #[.pointer (some ⟨q, 0, none⟩)] 57)) B 53 53 57 i0 (.pointer none) 1 8 Try.underlying53 hi0 hz0 hz1 hz2 rfl (by decide) v xs.length xs (hr.alloc _) ⟨x.heap.size, 0, none⟩ 1 1 [.pointer (some ⟨q, 0, none⟩)] rfl (cell_one_new _ _ _) (by simp [Value.oneCell']) (by unfold maxLen; omega) (by omega) (by simp; omega)
  obtain ⟨g, cap, rfl⟩ := own_succ r1
  refine ⟨g, cap, w1, hrun, r1, (((Turned.refl _ x).alloc _).trans (turned_grown r2)), ?_⟩
  rcases r4 with q | q
  · exact Or.inl q
  · right
    simp [Value.ownBlock] at q
    omega
def ptrs (P : Nat → Nat) : Nat → List Value
  | 0 => []
  | n + 1 => ptrs P n ++ [.pointer (some ⟨P n, 0, none⟩)]
theorem ptrs_len (P : Nat → Nat) : ∀ n, (ptrs P n).length = n
  | 0 => rfl
  | n + 1 => by
    show (ptrs P n ++ _).length = n + 1
    rw [List.length_append, ptrs_len P n]
    rfl
theorem ptrs_congr (P Q : Nat → Nat) : ∀ n, (∀ i, i < n → P i = Q i) → ptrs P n = ptrs Q n
  | 0, _ => rfl
  | n + 1, h => by
    show ptrs P n ++ _ = ptrs Q n ++ _
    rw [ptrs_congr P Q n (fun i hi => h i (by omega)), h n (by omega)]
theorem ptrs_at (P : Nat → Nat) : ∀ n i, i < n → (ptrs P n)[i]? = some (.pointer (some ⟨P i, 0, none⟩))
  | 0, _, h => by omega
  | n + 1, i, h => by
    show (ptrs P n ++ _)[i]? = _
    by_cases c : i < n
    · rw [List.getElem?_append_left (by rw [ptrs_len]; exact c)]
      exact ptrs_at P n i c
    · obtain rfl : i = n := by omega
      rw [List.getElem?_append_right (by rw [ptrs_len]; exact Nat.le_refl _), ptrs_len]
      simp
/-- a bus' own block, while it is made -/
def nv (v m : Value) (cyc nb ab : Nat) : Nat → Value
  | 0 => v
  | 1 => .int .i64 cyc
  | 2 => m
  | 3 => .map (some nb)
  | 4 => .map (some ab)
  | 5 => .int .i64 1
  | 6 => .bool false
  | _ => .int .i64 0
structure NewI (x w : World) (cyc : Nat) (n ws : Nat → Nat) (k : Nat) (v : Value) (P H : Nat → Nat) : Prop where
  c : CellsAt 8 w (x.heap.size + 2) (nv v (.slice none 0 0) cyc x.heap.size (x.heap.size + 1))
  nw : MapAt w 33 .u32 x.heap.size 0 (fun _ => none)
  ak : MapAt w 3 .i64 (x.heap.size + 1) 0 (fun _ => none)
  row : w.ownsRow (x.heap.size + 3) 57 1 v k (ptrs P k)
  ch : ∀ i, i < k → Ch w x.heap.size (P i) (H i) (n i) (fun _ => .slice none 0 0) ⟨ws i, n i, fun _ => []⟩
  hi : ∀ i, i < k → x.heap.size + 2 < P i ∧ x.heap.size + 2 < H i ∧ v.ownBlock ≠ some (P i) ∧ v.ownBlock ≠ some (H i)
  dis : ∀ i j, i < k → j < k → i ≠ j → P i ≠ P j ∧ P i ≠ H j ∧ H i ≠ H j
  b : Below x.heap.size x w
theorem ch_off {Q : Nat → Prop} {x y : World} {B p h c n k : Nat} (d : Ch x B p h c (fun _ => .slice none 0 0) ⟨k, n, fun _ => []⟩) (t : Turned Q x y) (h1 : ¬ Q p) (h2 : ¬ Q h) : Ch y B p h c (fun _ => .slice none 0 0) ⟨k, n, fun _ => []⟩ := d.turned t h1 h2 (fun i j _ hj => by simp [Value.ownBlock] at hj)
theorem NewI.below {x w y : World} {cyc : Nat} {n ws : Nat → Nat} {k : Nat} {v : Value} {P H : Nat → Nat} (d : NewI x w cyc n ws k v P H) (b : Below w.heap.size w y) : NewI x y cyc n ws k v P H :=
  ⟨d.c.below b, d.nw.below b, d.ak.below b, own_turned d.row (Turned.of_below (Q := fun _ => False) b) (fun _ _ q => q), fun i hi => (d.ch i hi).below b, d.hi, d.dis, d.b.trans (b.mono d.b.size)⟩
/-- one cache more -/
theorem NewI.add {x w y : World} {cyc : Nat} {n ws : Nat → Nat} {k p h g cap : Nat} {v : Value} {P H : Nat → Nat} (d : NewI x w cyc n ws k v P H) (hp : x.heap.size + 2 < p) (hh : x.heap.size + 2 < h) (hlp : p < w.heap.size) (hlh : h < w.heap.size) (hvp : v.ownBlock ≠ some p) (hvh : v.ownBlock ≠ some h) (ch : Ch w x.heap.size p h (n k) (fun _ => .slice none 0 0) ⟨ws k, n k, fun _ => []⟩) (hd : ∀ i, i < k → P i ≠ p ∧ P i ≠ h ∧ H i ≠ p ∧ H i ≠ h) (t : Turned (fun j => v.ownBlock = some j) w y) (r : y.ownsRow (x.heap.size + 3) 57 1 (.slice (some ⟨g, 0, none⟩) (k + 1) cap) (k + 1) (ptrs P k ++ [.pointer (some ⟨p, 0, none⟩)])) (hg : some g = v.ownBlock ∨ w.heap.size ≤ g) : NewI x (y.setCell ⟨x.heap.size + 2, 0, none⟩ (.slice (some ⟨g, 0, none⟩) (k + 1) cap)) cyc n ws (k + 1) (.slice (some ⟨g, 0, none⟩) (k + 1) cap) (upd P k p) (upd H k h) := by
  have hw2 := d.c.here
  have vb : ∀ j, v.ownBlock = some j → x.heap.size + 3 ≤ j ∧ j < w.heap.size := own_base d.row
  have gb : x.heap.size + 3 ≤ g := (own_base r g rfl).1
  have tS : Turned (fun j => j = x.heap.size + 2) y (y.setCell ⟨x.heap.size + 2, 0, none⟩ (.slice (some ⟨g, 0, none⟩) (k + 1) cap)) := (Turned.refl (fun j => j = x.heap.size + 2) y).set rfl _ _
  have nv2 : ∀ j, j ≤ x.heap.size + 2 → ¬ v.ownBlock = some j := fun j hj q => by have := (vb j q).1; omega
  have cY := t.cells d.c (nv2 _ (by omega))
  have cS := cY.set 0 (by decide) (.slice (some ⟨g, 0, none⟩) (k + 1) cap)
  have hgn : ∀ j, j < w.heap.size → v.ownBlock ≠ some j → g ≠ j := fun j hj hv e => by
    rcases hg with q | q
    · exact hv (by rw [← q, e])
    · omega
  refine ⟨⟨cS.here, fun o ho => ?_, cS.free⟩, ?_, ?_, ?_, fun i hi => ?_, fun i hi => ?_, fun i j hi hj hij => ?_, ?_⟩
  · rw [cS.cell o ho]
    match o, ho with
    | 0, _ => rfl
    | 1, _ => rfl
    | 2, _ => rfl
    | 3, _ => rfl
    | 4, _ => rfl
    | 5, _ => rfl
    | 6, _ => rfl
    | 7, _ => rfl
    | q + 8, h => exact absurd h (by omega)
  · exact (d.nw.turned t (nv2 _ (by omega))).turned tS (by omega)
  · exact (d.ak.turned t (nv2 _ (by omega))).turned tS (by omega)
  · have : ptrs (upd P k p) (k + 1) = ptrs P k ++ [.pointer (some ⟨p, 0, none⟩)] := by
      show ptrs (upd P k p) k ++ [.pointer (some ⟨upd P k p k, 0, none⟩)] = _
      rw [upd_same, ptrs_congr (upd P k p) P k (fun i hi => upd_other _ _ _ _ (by omega))]
    rw [this]
    exact own_turned r tS (fun j hj q => by
      have hj : g = j := by simpa [Value.ownBlock] using hj
      omega)
  · by_cases c : i = k
    · subst c
      rw [upd_same, upd_same]
      exact ch_off (ch_off ch t hvp hvh) tS (by omega) (by omega)
    · have hi' : i < k := by omega
      obtain ⟨e1, e2, e3, e4⟩ := d.hi i hi'
      rw [upd_other _ _ _ _ c, upd_other _ _ _ _ c]
      exact ch_off (ch_off (d.ch i hi') t e3 e4) tS (by omega) (by omega)
  · by_cases c : i = k
    · subst c
      rw [upd_same, upd_same]
      exact ⟨hp, hh, fun q => hgn p hlp hvp (by simpa [Value.ownBlock] using q), fun q => hgn h hlh hvh (by simpa [Value.ownBlock] using q)⟩
    · have hi' : i < k := by omega
      obtain ⟨e1, e2, e3, e4⟩ := d.hi i hi'
      rw [upd_other _ _ _ _ c, upd_other _ _ _ _ c]
      exact ⟨e1, e2, fun q => hgn _ (d.ch i hi').c.here e3 (by simpa [Value.ownBlock] using q), fun q => hgn _ (d.ch i hi').v.here e4 (by simpa [Value.ownBlock] using q)⟩
  · by_cases c : i = k <;> by_cases c' : j = k
    · omega
    · subst c
      obtain ⟨e1, e2, e3, e4⟩ := hd j (by omega)
      rw [upd_same, upd_same, upd_other _ _ _ _ c', upd_other _ _ _ _ c']
      exact ⟨e1.symm, e3.symm, e4.symm⟩
    · subst c'
      obtain ⟨e1, e2, e3, e4⟩ := hd i (by omega)
      rw [upd_same, upd_same, upd_other _ _ _ _ c, upd_other _ _ _ _ c]
      exact ⟨e1, e2, e4⟩
    · rw [upd_other _ _ _ _ c, upd_other _ _ _ _ c, upd_other _ _ _ _ c', upd_other _ _ _ _ c']
      exact d.dis i j (by omega) (by omega) hij
  · refine d.b.trans ?_
    refine (t.below d.b.size (fun j hj => by have := (vb j hj).1; omega)).trans ?_
    exact (tS.below (by have := t.size; have := d.b.size; omega) (fun j hj => by omega))
theorem isData_any (q : Option Addr) (n cc : Nat) (w : World) (h16 : n % 16 = 0) (hn : n ≤ 4096) : Calls Try.prog 15 #[.slice q n cc] w fun e w' => e = .returned (.bool true) ∧ w' = w := by
  have h1 : (n : Int) % 16 = 0 := by omega
  have h1' : (n : Int).tmod 16 = 0 := by
    rw [Int.tmod_eq_emod_of_nonneg (by omega)]
    exact h1
  have h2 : (n : Int) ≤ 4096 := by omega
  clear h16 hn
  go_enter Try.func15, Try.ntmps15
  go_wp2
  go_ret
  exact ⟨by simp, rfl⟩
end Go.Proofs.Ytbbaopldebdoiaa
