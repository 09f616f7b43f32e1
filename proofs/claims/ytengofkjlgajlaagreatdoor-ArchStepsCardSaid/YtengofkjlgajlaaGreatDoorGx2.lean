import Derived.Test.YtengofkjlgajlaaGreatDoorGx1
import Derived.Test.YtengofkjlgajlaaGreatDoorGh7
import Derived.Shelf.Abstract
/-
  THE PROGRAM's HART: how a control register is set; bits.
-/
namespace Go.Proofs.YtengofkjlgajlaaGreatDoor
open Go Go.RowKit
theorem bv32 (x : Int) (h : U32 x) : (BitVec.ofInt 32 x).toNat = x.toNat := by
  rw [BitVec.toNat_ofInt]
  have h1 := h.1
  have h2 := h.2
  omega
theorem bits_nat (op : BinOp) (a b : Int) (y : BitVec 32) (h : bits op .u32 a b = IntKind.u32.wrap (y.toNat : Int)) : bits op .u32 a b = (y.toNat : Int) := by
  rw [h]
  exact wraps_u32 _ (by omega) (by exact_mod_cast y.isLt)
theorem and_parts (y m : BitVec 32) : (y &&& ~~~m).toNat + (y &&& m).toNat = y.toNat := by
  have h1 : (y &&& ~~~m) &&& (y &&& m) = 0#32 := by ext i hi; simp; cases y[i] <;> cases m[i] <;> simp
  have h2 := BitVec.toNat_add_of_and_eq_zero h1
  have h3 : (y &&& ~~~m) + (y &&& m) = y := by
    rw [BitVec.add_eq_or_of_and_eq_zero _ _ h1]
    ext i hi
    simp
    cases y[i] <;> cases m[i] <;> simp
  rw [h3] at h2
  exact h2.symm
theorem and_high (x : Int) (h : U32 x) : bits .and .u32 x 4294967292 = x - x % 4 := by
  have e := bits_nat .and x 4294967292 (BitVec.ofInt 32 x &&& BitVec.ofInt 32 4294967292) rfl
  rw [e]
  have hx := bv32 x h
  generalize BitVec.ofInt 32 x = y at hx ⊢
  have e2 : BitVec.ofInt 32 4294967292 = ~~~(3#32) := by decide
  rw [e2]
  have h2 := and_parts y 3#32
  have h4 : (y &&& 3#32).toNat = y.toNat % 4 := by
    rw [BitVec.toNat_and]
    exact Nat.and_two_pow_sub_one_eq_mod y.toNat 2
  have := h.1
  omega
theorem andNot_one (x : Int) (h : U32 x) : bits .andNot .u32 x 1 = x / 2 * 2 := by
  have e := bits_nat .andNot x 1 (BitVec.ofInt 32 x &&& ~~~(BitVec.ofInt 32 1)) rfl
  rw [e]
  have hx := bv32 x h
  generalize BitVec.ofInt 32 x = y at hx ⊢
  have e2 : BitVec.ofInt 32 1 = 1#32 := by decide
  rw [e2]
  have h2 := and_parts y 1#32
  have h4 : (y &&& 1#32).toNat = y.toNat % 2 := by
    rw [BitVec.toNat_and]
    exact Nat.and_two_pow_sub_one_eq_mod y.toNat 1
  have := h.1
  omega
theorem and_all (x : Int) (h : U32 x) : bits .and .u32 x 4294967295 = x := by
  have e := bits_mask .u32 32 (by decide) wraps_u32 32 (by decide) x h.1 (by have := h.2; omega)
  have e2 : bits .and .u32 x 4294967295 = x % 4294967296 := e
  rw [e2]
  have := h.1
  have := h.2
  omega
theorem mret_bits (x : Int) (h : U32 x) : bits .or .u32 128 (bits .and .u32 x 128 / 16) = bits .or .u32 (bits .and .u32 (x / 16) 8) 128 := by
  have hx := bv32 x h
  have hx2 : (BitVec.ofInt 32 (x / 16)).toNat = x.toNat / 16 := by
    rw [bv32 (x / 16) ⟨by have := h.1; omega, by have := h.2; omega⟩]
    have := h.1
    omega
  have e1 := bits_nat .and x 128 (BitVec.ofInt 32 x &&& BitVec.ofInt 32 128) rfl
  have e2 := bits_nat .and (x / 16) 8 (BitVec.ofInt 32 (x / 16) &&& BitVec.ofInt 32 8) rfl
  have n1 : (BitVec.ofInt 32 x &&& BitVec.ofInt 32 128).toNat = x.toNat &&& 128 := by rw [BitVec.toNat_and, hx]; rfl
  have n2 : (BitVec.ofInt 32 (x / 16) &&& BitVec.ofInt 32 8).toNat = x.toNat / 16 &&& 8 := by rw [BitVec.toNat_and, hx2]; rfl
  rw [e1, e2, n1, n2]
  have n3 : (x.toNat &&& 128) / 16 = x.toNat / 16 &&& 8 := by
    have := Nat.shiftRight_and_distrib (a := x.toNat) (b := 128) (i := 4)
    simpa [Nat.shiftRight_eq_div_pow] using this
  have n4 : (((x.toNat &&& 128 : Nat) : Int)) / 16 = ((x.toNat / 16 &&& 8 : Nat) : Int) := by
    rw [← n3]
    omega
  rw [n4]
  generalize ((x.toNat / 16 &&& 8 : Nat) : Int) = z
  have f1 := bits_nat .or 128 z (BitVec.ofInt 32 128 ||| BitVec.ofInt 32 z) rfl
  have f2 := bits_nat .or z 128 (BitVec.ofInt 32 z ||| BitVec.ofInt 32 128) rfl
  rw [f1, f2, BitVec.or_comm]
end Go.Proofs.YtengofkjlgajlaaGreatDoor
/-
  THE PROGRAM's HART: how a control register is set.
-/
namespace Go.Proofs.YtengofkjlgajlaaGreatDoor
open Go Go.RowKit
theorem settings_made (w : World) : Calls Tryz.prog 110 #[] w fun e w' => e = .returned (.slice (some ⟨w.heap.size, 0, none⟩) 6 6) ∧ (∀ i, w'.cell? ⟨w.heap.size, i, none⟩ = setA[i]?) ∧ w.heap.size < w'.heap.size ∧ Below w.heap.size w w' := by
  refine (settings_any w).mono ?_
  rintro e w1 ⟨rfl, rfl⟩
  exact ⟨rfl, fun i => World.cell?_alloc_new w _ _ i, by simp, (Below.refl _ _).alloc (Nat.le_refl _) _⟩
set_option maxHeartbeats 1000000 in
theorem pset_62 (p k : Nat) (n a old : Int) (c : Nat → Value) (w : World) (h : CellsAt 45 w p c) (hk45 : k < 45) (hk : csrK n = some k) (hold : c k = .int .u32 old) : Calls Tryz.prog 85 #[.pointer (some ⟨p, 0, none⟩), .int .i64 62, .int .i64 n, .int .u32 a] w fun e w' => e = .returned (.tuple #[]) ∧ CellsAt 45 w' p (upd c k (.int .u32 (bits .and .u32 (a) (wrI n)))) ∧ Only p w w' := by
  have ck : w.cell? ⟨p, k, none⟩ = some (.int .u32 old) := (h.cell k hk45).trans (congrArg some hold)
  have fk := h.free k
  have h3 := h.here
  have h5 : p < w.heap.size + 1 := by omega
  have HH : Hid (CellsAt 45 w p c) := h
  clear h
  have hf : setA[0]? = some (.func (.func 151) #[] #[]) := rfl
  have hw : IntKind.i64.wrap 0 = 0 := by decide
  obtain ⟨x, hx⟩ : ∃ x, wrI n = x := ⟨_, rfl⟩
  rw [hx]
  go_enter Tryz.func85, Tryz.ntmps85
  go_wp2_with (go_at_call 69; refine (at_any p n _).mono ?_; rintro e w1 ⟨rfl, hw1⟩; have hw2 := hw1.symm; clear hw1; subst hw2; rw [hk])
  go_region_with (first
    | (go_at_call 110; refine (settings_made _).mono ?_; rintro e w2 ⟨rfl, c2, z2, hb2⟩; have c3 : w2.cell? ⟨w.heap.size, 0, none⟩ = some (.func (.func 151) #[] #[]) := (c2 0).trans hf; have ck2 : w2.cell? ⟨p, k, none⟩ = some (.int .u32 old) := (hb2.cell (p := ⟨p, k, none⟩) h3).trans ck; have fk2 : w2.frozen? ⟨p, k, none⟩ = false := (hb2.frozen (p := ⟨p, k, none⟩) h3).trans fk; have h32 := Nat.lt_of_lt_of_le h3 hb2.size)
    | (go_at_call 151; refine (sett_1 _ _ _).mono ?_; rintro e w1 ⟨rfl, rfl⟩)
    | (go_at_call 101; refine (wr_any n _).mono ?_; rintro e w1 ⟨rfl, rfl⟩; rw [hx]))
  all_goals (try go_wp2)
  all_goals exact bodyPost_end (results_none Tryz.results85 _ _ _) rfl ⟨rfl, (HH.out.below (belowU hb2)).set k hk45 _, (Only.of_below (belowU hb2)).set _ _⟩
set_option maxHeartbeats 1000000 in
theorem pset_63 (p k : Nat) (n a old : Int) (c : Nat → Value) (w : World) (h : CellsAt 45 w p c) (hk45 : k < 45) (hk : csrK n = some k) (hold : c k = .int .u32 old) : Calls Tryz.prog 85 #[.pointer (some ⟨p, 0, none⟩), .int .i64 63, .int .i64 n, .int .u32 a] w fun e w' => e = .returned (.tuple #[]) ∧ CellsAt 45 w' p (upd c k (.int .u32 (bits .and .u32 (bits .or .u32 old a) (wrI n)))) ∧ Only p w w' := by
  have ck : w.cell? ⟨p, k, none⟩ = some (.int .u32 old) := (h.cell k hk45).trans (congrArg some hold)
  have fk := h.free k
  have h3 := h.here
  have h5 : p < w.heap.size + 1 := by omega
  have HH : Hid (CellsAt 45 w p c) := h
  clear h
  have hf : setA[1]? = some (.func (.func 152) #[] #[]) := rfl
  have hw : IntKind.i64.wrap 1 = 1 := by decide
  obtain ⟨x, hx⟩ : ∃ x, wrI n = x := ⟨_, rfl⟩
  rw [hx]
  go_enter Tryz.func85, Tryz.ntmps85
  go_wp2_with (go_at_call 69; refine (at_any p n _).mono ?_; rintro e w1 ⟨rfl, hw1⟩; have hw2 := hw1.symm; clear hw1; subst hw2; rw [hk])
  go_region_with (first
    | (go_at_call 110; refine (settings_made _).mono ?_; rintro e w2 ⟨rfl, c2, z2, hb2⟩; have c3 : w2.cell? ⟨w.heap.size, 1, none⟩ = some (.func (.func 152) #[] #[]) := (c2 1).trans hf; have ck2 : w2.cell? ⟨p, k, none⟩ = some (.int .u32 old) := (hb2.cell (p := ⟨p, k, none⟩) h3).trans ck; have fk2 : w2.frozen? ⟨p, k, none⟩ = false := (hb2.frozen (p := ⟨p, k, none⟩) h3).trans fk; have h32 := Nat.lt_of_lt_of_le h3 hb2.size)
    | (go_at_call 152; refine (sett_2 _ _ _).mono ?_; rintro e w1 ⟨rfl, rfl⟩)
    | (go_at_call 101; refine (wr_any n _).mono ?_; rintro e w1 ⟨rfl, rfl⟩; rw [hx]))
  all_goals (try go_wp2)
  all_goals exact bodyPost_end (results_none Tryz.results85 _ _ _) rfl ⟨rfl, (HH.out.below (belowU hb2)).set k hk45 _, (Only.of_below (belowU hb2)).set _ _⟩
set_option maxHeartbeats 1000000 in
theorem pset_64 (p k : Nat) (n a old : Int) (c : Nat → Value) (w : World) (h : CellsAt 45 w p c) (hk45 : k < 45) (hk : csrK n = some k) (hold : c k = .int .u32 old) : Calls Tryz.prog 85 #[.pointer (some ⟨p, 0, none⟩), .int .i64 64, .int .i64 n, .int .u32 a] w fun e w' => e = .returned (.tuple #[]) ∧ CellsAt 45 w' p (upd c k (.int .u32 (bits .and .u32 (bits .andNot .u32 old a) (wrI n)))) ∧ Only p w w' := by
  have ck : w.cell? ⟨p, k, none⟩ = some (.int .u32 old) := (h.cell k hk45).trans (congrArg some hold)
  have fk := h.free k
  have h3 := h.here
  have h5 : p < w.heap.size + 1 := by omega
  have HH : Hid (CellsAt 45 w p c) := h
  clear h
  have hf : setA[2]? = some (.func (.func 153) #[] #[]) := rfl
  have hw : IntKind.i64.wrap 2 = 2 := by decide
  obtain ⟨x, hx⟩ : ∃ x, wrI n = x := ⟨_, rfl⟩
  rw [hx]
  go_enter Tryz.func85, Tryz.ntmps85
  go_wp2_with (go_at_call 69; refine (at_any p n _).mono ?_; rintro e w1 ⟨rfl, hw1⟩; have hw2 := hw1.symm; clear hw1; subst hw2; rw [hk])
  go_region_with (first
    | (go_at_call 110; refine (settings_made _).mono ?_; rintro e w2 ⟨rfl, c2, z2, hb2⟩; have c3 : w2.cell? ⟨w.heap.size, 2, none⟩ = some (.func (.func 153) #[] #[]) := (c2 2).trans hf; have ck2 : w2.cell? ⟨p, k, none⟩ = some (.int .u32 old) := (hb2.cell (p := ⟨p, k, none⟩) h3).trans ck; have fk2 : w2.frozen? ⟨p, k, none⟩ = false := (hb2.frozen (p := ⟨p, k, none⟩) h3).trans fk; have h32 := Nat.lt_of_lt_of_le h3 hb2.size)
    | (go_at_call 153; refine (sett_3 _ _ _).mono ?_; rintro e w1 ⟨rfl, rfl⟩)
    | (go_at_call 101; refine (wr_any n _).mono ?_; rintro e w1 ⟨rfl, rfl⟩; rw [hx]))
  all_goals (try go_wp2)
  all_goals exact bodyPost_end (results_none Tryz.results85 _ _ _) rfl ⟨rfl, (HH.out.below (belowU hb2)).set k hk45 _, (Only.of_below (belowU hb2)).set _ _⟩
set_option maxHeartbeats 1000000 in
theorem pset_65 (p k : Nat) (n a old : Int) (c : Nat → Value) (w : World) (h : CellsAt 45 w p c) (hk45 : k < 45) (hk : csrK n = some k) (hold : c k = .int .u32 old) : Calls Tryz.prog 85 #[.pointer (some ⟨p, 0, none⟩), .int .i64 65, .int .i64 n, .int .u32 a] w fun e w' => e = .returned (.tuple #[]) ∧ CellsAt 45 w' p (upd c k (.int .u32 (bits .and .u32 (a) (wrI n)))) ∧ Only p w w' := by
  have ck : w.cell? ⟨p, k, none⟩ = some (.int .u32 old) := (h.cell k hk45).trans (congrArg some hold)
  have fk := h.free k
  have h3 := h.here
  have h5 : p < w.heap.size + 1 := by omega
  have HH : Hid (CellsAt 45 w p c) := h
  clear h
  have hf : setA[3]? = some (.func (.func 151) #[] #[]) := rfl
  have hw : IntKind.i64.wrap 3 = 3 := by decide
  obtain ⟨x, hx⟩ : ∃ x, wrI n = x := ⟨_, rfl⟩
  rw [hx]
  go_enter Tryz.func85, Tryz.ntmps85
  go_wp2_with (go_at_call 69; refine (at_any p n _).mono ?_; rintro e w1 ⟨rfl, hw1⟩; have hw2 := hw1.symm; clear hw1; subst hw2; rw [hk])
  go_region_with (first
    | (go_at_call 110; refine (settings_made _).mono ?_; rintro e w2 ⟨rfl, c2, z2, hb2⟩; have c3 : w2.cell? ⟨w.heap.size, 3, none⟩ = some (.func (.func 151) #[] #[]) := (c2 3).trans hf; have ck2 : w2.cell? ⟨p, k, none⟩ = some (.int .u32 old) := (hb2.cell (p := ⟨p, k, none⟩) h3).trans ck; have fk2 : w2.frozen? ⟨p, k, none⟩ = false := (hb2.frozen (p := ⟨p, k, none⟩) h3).trans fk; have h32 := Nat.lt_of_lt_of_le h3 hb2.size)
    | (go_at_call 151; refine (sett_1 _ _ _).mono ?_; rintro e w1 ⟨rfl, rfl⟩)
    | (go_at_call 101; refine (wr_any n _).mono ?_; rintro e w1 ⟨rfl, rfl⟩; rw [hx]))
  all_goals (try go_wp2)
  all_goals exact bodyPost_end (results_none Tryz.results85 _ _ _) rfl ⟨rfl, (HH.out.below (belowU hb2)).set k hk45 _, (Only.of_below (belowU hb2)).set _ _⟩
set_option maxHeartbeats 1000000 in
theorem pset_66 (p k : Nat) (n a old : Int) (c : Nat → Value) (w : World) (h : CellsAt 45 w p c) (hk45 : k < 45) (hk : csrK n = some k) (hold : c k = .int .u32 old) : Calls Tryz.prog 85 #[.pointer (some ⟨p, 0, none⟩), .int .i64 66, .int .i64 n, .int .u32 a] w fun e w' => e = .returned (.tuple #[]) ∧ CellsAt 45 w' p (upd c k (.int .u32 (bits .and .u32 (bits .or .u32 old a) (wrI n)))) ∧ Only p w w' := by
  have ck : w.cell? ⟨p, k, none⟩ = some (.int .u32 old) := (h.cell k hk45).trans (congrArg some hold)
  have fk := h.free k
  have h3 := h.here
  have h5 : p < w.heap.size + 1 := by omega
  have HH : Hid (CellsAt 45 w p c) := h
  clear h
  have hf : setA[4]? = some (.func (.func 152) #[] #[]) := rfl
  have hw : IntKind.i64.wrap 4 = 4 := by decide
  obtain ⟨x, hx⟩ : ∃ x, wrI n = x := ⟨_, rfl⟩
  rw [hx]
  go_enter Tryz.func85, Tryz.ntmps85
  go_wp2_with (go_at_call 69; refine (at_any p n _).mono ?_; rintro e w1 ⟨rfl, hw1⟩; have hw2 := hw1.symm; clear hw1; subst hw2; rw [hk])
  go_region_with (first
    | (go_at_call 110; refine (settings_made _).mono ?_; rintro e w2 ⟨rfl, c2, z2, hb2⟩; have c3 : w2.cell? ⟨w.heap.size, 4, none⟩ = some (.func (.func 152) #[] #[]) := (c2 4).trans hf; have ck2 : w2.cell? ⟨p, k, none⟩ = some (.int .u32 old) := (hb2.cell (p := ⟨p, k, none⟩) h3).trans ck; have fk2 : w2.frozen? ⟨p, k, none⟩ = false := (hb2.frozen (p := ⟨p, k, none⟩) h3).trans fk; have h32 := Nat.lt_of_lt_of_le h3 hb2.size)
    | (go_at_call 152; refine (sett_2 _ _ _).mono ?_; rintro e w1 ⟨rfl, rfl⟩)
    | (go_at_call 101; refine (wr_any n _).mono ?_; rintro e w1 ⟨rfl, rfl⟩; rw [hx]))
  all_goals (try go_wp2)
  all_goals exact bodyPost_end (results_none Tryz.results85 _ _ _) rfl ⟨rfl, (HH.out.below (belowU hb2)).set k hk45 _, (Only.of_below (belowU hb2)).set _ _⟩
set_option maxHeartbeats 1000000 in
theorem pset_67 (p k : Nat) (n a old : Int) (c : Nat → Value) (w : World) (h : CellsAt 45 w p c) (hk45 : k < 45) (hk : csrK n = some k) (hold : c k = .int .u32 old) : Calls Tryz.prog 85 #[.pointer (some ⟨p, 0, none⟩), .int .i64 67, .int .i64 n, .int .u32 a] w fun e w' => e = .returned (.tuple #[]) ∧ CellsAt 45 w' p (upd c k (.int .u32 (bits .and .u32 (bits .andNot .u32 old a) (wrI n)))) ∧ Only p w w' := by
  have ck : w.cell? ⟨p, k, none⟩ = some (.int .u32 old) := (h.cell k hk45).trans (congrArg some hold)
  have fk := h.free k
  have h3 := h.here
  have h5 : p < w.heap.size + 1 := by omega
  have HH : Hid (CellsAt 45 w p c) := h
  clear h
  have hf : setA[5]? = some (.func (.func 153) #[] #[]) := rfl
  have hw : IntKind.i64.wrap 5 = 5 := by decide
  obtain ⟨x, hx⟩ : ∃ x, wrI n = x := ⟨_, rfl⟩
  rw [hx]
  go_enter Tryz.func85, Tryz.ntmps85
  go_wp2_with (go_at_call 69; refine (at_any p n _).mono ?_; rintro e w1 ⟨rfl, hw1⟩; have hw2 := hw1.symm; clear hw1; subst hw2; rw [hk])
  go_region_with (first
    | (go_at_call 110; refine (settings_made _).mono ?_; rintro e w2 ⟨rfl, c2, z2, hb2⟩; have c3 : w2.cell? ⟨w.heap.size, 5, none⟩ = some (.func (.func 153) #[] #[]) := (c2 5).trans hf; have ck2 : w2.cell? ⟨p, k, none⟩ = some (.int .u32 old) := (hb2.cell (p := ⟨p, k, none⟩) h3).trans ck; have fk2 : w2.frozen? ⟨p, k, none⟩ = false := (hb2.frozen (p := ⟨p, k, none⟩) h3).trans fk; have h32 := Nat.lt_of_lt_of_le h3 hb2.size)
    | (go_at_call 153; refine (sett_3 _ _ _).mono ?_; rintro e w1 ⟨rfl, rfl⟩)
    | (go_at_call 101; refine (wr_any n _).mono ?_; rintro e w1 ⟨rfl, rfl⟩; rw [hx]))
  all_goals (try go_wp2)
  all_goals exact bodyPost_end (results_none Tryz.results85 _ _ _) rfl ⟨rfl, (HH.out.below (belowU hb2)).set k hk45 _, (Only.of_below (belowU hb2)).set _ _⟩
theorem pset_op (p k : Nat) (op n a old : Int) (c : Nat → Value) (w : World) (h : CellsAt 45 w p c) (hk45 : k < 45) (hk : csrK n = some k) (hold : c k = .int .u32 old) (hop : 62 ≤ op ∧ op ≤ 67) : Calls Tryz.prog 85 #[.pointer (some ⟨p, 0, none⟩), .int .i64 op, .int .i64 n, .int .u32 a] w fun e w' => e = .returned (.tuple #[]) ∧ CellsAt 45 w' p (upd c k (.int .u32 (bits .and .u32 (csrNew (sysM op) old a) (wrI n)))) ∧ Only p w w' := by
  have : op = 62 ∨ op = 63 ∨ op = 64 ∨ op = 65 ∨ op = 66 ∨ op = 67 := by omega
  rcases this with rfl | rfl | rfl | rfl | rfl | rfl
  · exact pset_62 p k n a old c w h hk45 hk hold
  · exact pset_63 p k n a old c w h hk45 hk hold
  · exact pset_64 p k n a old c w h hk45 hk hold
  · exact pset_65 p k n a old c w h hk45 hk hold
  · exact pset_66 p k n a old c w h hk45 hk hold
  · exact pset_67 p k n a old c w h hk45 hk hold
theorem csrNew_u32 (m old a : Int) (ha : U32 a) : U32 (csrNew m old a) := by
  unfold csrNew
  repeat' split
  all_goals first | exact u32_bits _ _ _ | exact ha
theorem pset_any (p : Nat) (cv : Value) (S : HS) (op n a : Int) (w : World) (h : PH w p cv S) (hop : 62 ≤ op ∧ op ≤ 67) (hn : csrB n = true) (hw : wrI n ≠ 0) (ha : U32 a) : Calls Tryz.prog 85 #[.pointer (some ⟨p, 0, none⟩), .int .i64 op, .int .i64 n, .int .u32 a] w fun e w' => e = .returned (.tuple #[]) ∧ PH w' p cv (S.setCsr n (csrNew (sysM op) (S.csrV n) a)) ∧ Only p w w' := by
  by_cases h768 : n = 768
  · subst h768
    refine (pset_op p 0 op 768 a S.status (S.encP cv) w h (by decide) rfl rfl hop).mono ?_
    rintro e w1 ⟨rfl, hc, ho⟩
    refine ⟨rfl, ?_, ho⟩
    have e := encP_status S cv (bits .and .u32 (csrNew (sysM op) S.status a) (wrI 768))
    exact hc.to e
  by_cases h772 : n = 772
  · subst h772
    refine (pset_op p 1 op 772 a S.enable (S.encP cv) w h (by decide) rfl rfl hop).mono ?_
    rintro e w1 ⟨rfl, hc, ho⟩
    refine ⟨rfl, ?_, ho⟩
    have e := encP_enable S cv (bits .and .u32 (csrNew (sysM op) S.enable a) (wrI 772))
    exact hc.to e
  by_cases h773 : n = 773
  · subst h773
    refine (pset_op p 2 op 773 a S.vector (S.encP cv) w h (by decide) rfl rfl hop).mono ?_
    rintro e w1 ⟨rfl, hc, ho⟩
    refine ⟨rfl, ?_, ho⟩
    have e := encP_vector S cv (bits .and .u32 (csrNew (sysM op) S.vector a) (wrI 773))
    have e2 : bits .and .u32 (csrNew (sysM op) S.vector a) (wrI 773) = _ := and_high _ (csrNew_u32 _ _ _ ha)
    rw [e2] at e hc
    exact hc.to e
  by_cases h832 : n = 832
  · subst h832
    refine (pset_op p 3 op 832 a S.scratch (S.encP cv) w h (by decide) rfl rfl hop).mono ?_
    rintro e w1 ⟨rfl, hc, ho⟩
    refine ⟨rfl, ?_, ho⟩
    have e := encP_scratch S cv (bits .and .u32 (csrNew (sysM op) S.scratch a) (wrI 832))
    have e2 : bits .and .u32 (csrNew (sysM op) S.scratch a) (wrI 832) = _ := and_all _ (csrNew_u32 _ _ _ ha)
    rw [e2] at e hc
    exact hc.to e
  by_cases h833 : n = 833
  · subst h833
    refine (pset_op p 4 op 833 a S.epc (S.encP cv) w h (by decide) rfl rfl hop).mono ?_
    rintro e w1 ⟨rfl, hc, ho⟩
    refine ⟨rfl, ?_, ho⟩
    have e := encP_epc S cv (bits .and .u32 (csrNew (sysM op) S.epc a) (wrI 833))
    have e2 : bits .and .u32 (csrNew (sysM op) S.epc a) (wrI 833) = _ := and_high _ (csrNew_u32 _ _ _ ha)
    rw [e2] at e hc
    exact hc.to e
  by_cases h834 : n = 834
  · subst h834
    refine (pset_op p 5 op 834 a S.cause (S.encP cv) w h (by decide) rfl rfl hop).mono ?_
    rintro e w1 ⟨rfl, hc, ho⟩
    refine ⟨rfl, ?_, ho⟩
    have e := encP_cause S cv (bits .and .u32 (csrNew (sysM op) S.cause a) (wrI 834))
    have e2 : bits .and .u32 (csrNew (sysM op) S.cause a) (wrI 834) = _ := and_all _ (csrNew_u32 _ _ _ ha)
    rw [e2] at e hc
    exact hc.to e
  by_cases h835 : n = 835
  · subst h835
    refine (pset_op p 6 op 835 a S.tval (S.encP cv) w h (by decide) rfl rfl hop).mono ?_
    rintro e w1 ⟨rfl, hc, ho⟩
    refine ⟨rfl, ?_, ho⟩
    have e := encP_tval S cv (bits .and .u32 (csrNew (sysM op) S.tval a) (wrI 835))
    have e2 : bits .and .u32 (csrNew (sysM op) S.tval a) (wrI 835) = _ := and_all _ (csrNew_u32 _ _ _ ha)
    rw [e2] at e hc
    exact hc.to e
  exfalso
  have hc := csrK_none n
  rw [hn] at hc
  unfold wrI at hw
  rw [if_neg h768, if_neg h772, if_neg h773, if_neg h833, if_neg h832, if_neg h834, if_neg h835] at hw
  exact hw rfl
end Go.Proofs.YtengofkjlgajlaaGreatDoor
