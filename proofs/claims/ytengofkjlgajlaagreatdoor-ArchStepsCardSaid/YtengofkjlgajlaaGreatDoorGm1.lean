import Derived.Test.YtengofkjlgajlaaGreatDoorAca
import Derived.Laws.BitsAllLaws
import Derived.Test.YtengofkjlgajlaaGreatDoorGa3
/-
  THE MACHINE, EXACTLY: bytes read and written.
-/
namespace Go.Proofs.YtengofkjlgajlaaGreatDoor
open Go Go.RowKit
def updN (c : Nat → Nat) (o v : Nat) : Nat → Nat := fun i => if i = o then v else c i
def leN (b : Nat → Nat) : Nat → Nat
  | 0 => 0
  | k + 1 => leN b k + b k * 256 ^ k
theorem leN_lt (b : Nat → Nat) : ∀ k, (∀ t, t < k → b t < 256) → leN b k < 256 ^ k
  | 0, _ => by simp [leN]
  | k + 1, h => by
    have h1 := leN_lt b k (fun t ht => h t (by omega))
    have h2 : b k * 256 ^ k ≤ 255 * 256 ^ k := Nat.mul_le_mul_right _ (by have := h k (by omega); omega)
    have h3 : 256 ^ (k + 1) = 256 * 256 ^ k := by rw [Nat.pow_succ, Nat.mul_comm]
    show leN b k + b k * 256 ^ k < _
    omega
theorem or_step (x y k : Nat) (hx : x < 256 ^ k) (hy : y < 256) (hk : k < 4) : bits .or .u32 (x : Int) ((y : Int) * 2 ^ (8 * k) % 4294967296) = ((x + y * 256 ^ k : Nat) : Int) := by
  have e : (2 : Nat) ^ (8 * k) = 256 ^ k := by rw [Nat.pow_mul]
  have hp : 256 ^ k ≤ 16777216 := by
    have : 256 ^ k ≤ 256 ^ 3 := Nat.pow_le_pow_right (by omega) (by omega)
    omega
  have h1 : y * 256 ^ k < 4294967296 := by
    have : y * 256 ^ k ≤ 255 * 256 ^ k := Nat.mul_le_mul_right _ (by omega)
    omega
  have e1 : (y : Int) * 2 ^ (8 * k) % 4294967296 = ((y * 256 ^ k : Nat) : Int) := by
    have : (y : Int) * 2 ^ (8 * k) = ((y * 256 ^ k : Nat) : Int) := by
      rw [← e]
      simp
    rw [this]
    omega
  rw [e1, u32_or_nat _ _ (by omega) h1, Nat.or_comm, nat_join (8 * k) _ _ (by rw [e]; exact Nat.mul_mod_left _ _) (by rw [e]; exact hx), Nat.add_comm]
theorem byte_is (d k : Nat) : (d : Int) / 2 ^ (8 * k) % 256 = ((d / 256 ^ k % 256 : Nat) : Int) := by
  have e : (2 : Nat) ^ (8 * k) = 256 ^ k := by rw [Nat.pow_mul]
  rw [← e]
  simp
def memT (mem : Nat → Nat) (a d t : Nat) : Nat → Nat := fun y => if a ≤ y ∧ y < a + t then d / 256 ^ (y - a) % 256 else mem y
theorem memT_next (mem : Nat → Nat) (a d t : Nat) : memT mem a d (t + 1) = updN (memT mem a d t) (a + t) (d / 256 ^ t % 256) := by
  funext y
  unfold memT updN
  by_cases e : y = a + t
  · rw [if_pos e, if_pos (by omega), e, Nat.add_sub_cancel_left]
  · rw [if_neg e]
    show _ = if a ≤ y ∧ y < a + t then d / 256 ^ (y - a) % 256 else mem y
    by_cases c : a ≤ y ∧ y < a + t
    · rw [if_pos c, if_pos (by omega)]
    · rw [if_neg c, if_neg (by omega)]
theorem memT_zero (mem : Nat → Nat) (a d : Nat) : memT mem a d 0 = mem := by
  funext y
  unfold memT
  rw [if_neg (by omega)]
/-- data, exactly -/
abbrev Row8 (w : World) (db len : Nat) (mem : Nat → Nat) : Prop := CellsAt len w db (fun o => .int .u8 (mem o : Nat))
theorem Row8.set {w : World} {db len : Nat} {mem : Nat → Nat} (h : Row8 w db len mem) (o : Nat) (ho : o < len) (v : Nat) : Row8 (w.setCell ⟨db, o, none⟩ (.int .u8 (v : Nat))) db len (updN mem o v) := by
  have k := CellsAt.set h o ho (.int .u8 (v : Nat))
  refine ⟨k.here, fun i hi => ?_, k.free⟩
  rw [k.cell i hi]
  unfold upd updN
  split <;> rfl
set_option maxRecDepth 100000 in
set_option maxHeartbeats 1000000 in
theorem xread_any (p db len dc : Nat) (op : Int) (ad : Int) (at' sz : Nat) (da : Int) (mem : Nat → Nat) (w : World) (hp : p < w.heap.size) (c1 : w.cell? ⟨p, 1, none⟩ = some (.slice (some ⟨db, 0, none⟩) len dc)) (hb : Row8 w db len mem) (hm : ∀ o, mem o < 256) (had : ad = ((65536 + at' : Nat) : Int)) (hin : at' + sz ≤ len) (hs0 : 0 < sz) (hlc : len ≤ dc) (hl : len ≤ 4096) (hs4 : sz ≤ 4) : Calls Tryz.prog 65 #[.pointer (some ⟨p, 0, none⟩), qV op ad sz da] w fun e w' => e = .returned (.int .u32 (leN (fun t => mem (at' + t)) sz : Nat)) ∧ Below w.heap.size w w' := by
  have HB : Hid (∀ x, Below w.heap.size w x → Calls Tryz.prog 95 #[.pointer (some ⟨p, 0, none⟩), .agg #[.int .i64 op, .int .u32 ad, .int .i64 sz, .int .u32 da]] x fun e w' => e = .returned (.slice (some ⟨db, at', none⟩) sz (dc - at')) ∧ Below x.heap.size x w') := fun x hx => mbytes_any p db len dc op ad at' sz da x (Nat.lt_of_lt_of_le hp hx.size) ((hx.cell (p := ⟨p, 1, none⟩) hp).trans c1) had hin hs0 hlc hl
  have HC : Hid (∀ x, Below w.heap.size w x → ∀ o, o < sz → x.cell? ⟨db, at' + o, none⟩ = some (.int .u8 (mem (at' + o) : Nat))) := fun x hx o ho => (hx.cell (p := ⟨db, at' + o, none⟩) hb.here).trans (hb.cell (at' + o) (by omega))
  have HD : Hid (∀ x, Below w.heap.size w x → db < x.heap.size) := fun x hx => Nat.lt_of_lt_of_le hb.here hx.size
  have HMM := Hid.in hm
  obtain ⟨g, hg⟩ : ∃ g : Nat → Nat, (fun t => mem (at' + t)) = g := ⟨_, rfl⟩
  have HGM : Hid (∀ t, mem (at' + t) = g t) := fun t => by rw [← hg]
  have HGL : Hid (∀ t, g t < 256) := fun t => by rw [← hg]; exact hm _
  rw [hg]
  clear c1 hb had hin hlc hl hp hs0 hm hg
  unfold qV
  go_enter Tryz.func65, Tryz.ntmps65
  go_wp2_with (go_at_call 95; refine (HB.out _ ((Below.refl _ _).alloc (Nat.le_refl _) _)).mono ?_; rintro e x1 ⟨rfl, hb1⟩; have HX1 := Hid.in (below2 ((Below.refl _ _).alloc (Nat.le_refl _) _) hb1); clear hb1)
  go_loopw [5, 12] (fun v i wr => ∃ k : Nat, v = .int .u32 (leN g k : Nat) ∧ i = .int .i64 k ∧ k ≤ sz ∧ wr = x1) (fun _ i _ => 5000 - (intOf i).toNat)
  case atStart => exact ⟨0, rfl, rfl, Nat.zero_le _, rfl⟩
  case round =>
    obtain ⟨k, rfl, rfl, hk, rfl⟩ := hrel
    by_cases hlt : k < sz
    · have hlt' : (k : Int) < (sz : Int) := by omega
      have hbv := HC.out _ HX1.out k hlt
      rw [HGM.out] at hbv
      have hdb := HD.out _ HX1.out
      have hk4 : k < 4 := by omega
      have HOS := Hid.in (or_step (leN g k) (g k) k (leN_lt g k (fun t _ => HGL.out t)) (HGL.out k) hk4)
      have hgk := HGL.out k
      obtain ⟨bv, hbe⟩ : ∃ bv, g k = bv := ⟨_, rfl⟩
      rw [hbe] at hbv HOS hgk
      have hb32 : (bv : Int) % 4294967296 = (bv : Int) := by omega
      have HBE := Hid.in hbe
      clear hbe
      go_wp2
      go_roundw
      case rel =>
        refine ⟨k + 1, ?_, by simp, by omega, by simp⟩
        have := HOS.out
        show Value.int _ _ = Value.int .u32 ((leN g k + g k * 256 ^ k : Nat) : Int)
        rw [HBE.out, ← this]
      case measure =>
        simp [intOf]
        omega
    · obtain rfl : k = sz := by omega
      have hlt' : ¬ (k : Int) < (k : Int) := by omega
      go_wp2
      go_ret
      exact ⟨rfl, HX1.out⟩
set_option maxRecDepth 100000 in
set_option maxHeartbeats 1000000 in
theorem xwrite_any (p db len dc : Nat) (op : Int) (ad : Int) (at' sz : Nat) (da : Int) (d : Nat) (mem : Nat → Nat) (w : World) (hp : p < w.heap.size) (c1 : w.cell? ⟨p, 1, none⟩ = some (.slice (some ⟨db, 0, none⟩) len dc)) (hb : Row8 w db len mem) (had : ad = ((65536 + at' : Nat) : Int)) (hin : at' + sz ≤ len) (hs0 : 0 < sz) (hlc : len ≤ dc) (hl : len ≤ 4096) (hs4 : sz ≤ 4) : Calls Tryz.prog 96 #[.pointer (some ⟨p, 0, none⟩), qV op ad sz da, .int .u32 d] w fun e w' => e = .returned (.tuple #[]) ∧ Only db w w' ∧ Row8 w' db len (memT mem at' d sz) := by
  have HB : Hid (∀ x, Below w.heap.size w x → Calls Tryz.prog 95 #[.pointer (some ⟨p, 0, none⟩), .agg #[.int .i64 op, .int .u32 ad, .int .i64 sz, .int .u32 da]] x fun e w' => e = .returned (.slice (some ⟨db, at', none⟩) sz (dc - at')) ∧ Below x.heap.size x w') := fun x hx => mbytes_any p db len dc op ad at' sz da x (Nat.lt_of_lt_of_le hp hx.size) ((hx.cell (p := ⟨p, 1, none⟩) hp).trans c1) had hin hs0 hlc hl
  have HBY := Hid.in hb
  have HIN := Hid.in hin
  clear c1 hb had hlc hl hp hin hs0
  unfold qV
  go_enter Tryz.func96, Tryz.ntmps96
  go_wp2_with (go_at_call 95; refine (HB.out _ ((Below.refl _ _).alloc (Nat.le_refl _) _)).mono ?_; rintro e x1 ⟨rfl, hb1⟩; have HX1 := Hid.in (below2 ((Below.refl _ _).alloc (Nat.le_refl _) _) hb1); clear hb1)
  go_loopw [13] (fun i wr => ∃ k : Nat, i = .int .i64 k ∧ k ≤ sz ∧ Only db w wr ∧ Row8 wr db len (memT mem at' d k)) (fun i _ => 5 - (intOf i).toNat)
  case atStart => exact ⟨0, rfl, Nat.zero_le _, Only.of_below HX1.out, by rw [memT_zero]; exact HBY.out.below HX1.out⟩
  case round =>
    obtain ⟨k, rfl, hk, hO, hB⟩ := hrel
    have HO := Hid.in hO
    have HBB := Hid.in hB
    by_cases hlt : k < sz
    · have hlt' : (k : Int) < (sz : Int) := by omega
      have hbv := hB.cell (at' + k) (by have := HIN.out; omega)
      have hdb := hB.here
      have hfr := hB.free (at' + k)
      have hk4 : k < 4 := by omega
      generalize memT mem at' d k (at' + k) = ob at hbv
      have HNX := Hid.in (HBB.out.set (at' + k) (by have := HIN.out; omega) (d / 256 ^ k % 256))
      rw [← memT_next, ← byte_is d k] at HNX
      clear hO hB
      go_wp2
      go_roundw
      case rel => exact ⟨k + 1, by simp, by omega, HO.out.set _ _, HNX.out⟩
      case measure =>
        simp [intOf]
        omega
    · obtain rfl : k = sz := by omega
      have hlt' : ¬ (k : Int) < (k : Int) := by omega
      clear hO hB
      go_wp2
      exact bodyPost_end (results_none Tryz.results96 _ _ _) rfl ⟨rfl, HO.out, HBB.out⟩
end Go.Proofs.YtengofkjlgajlaaGreatDoor
/-
  THE PROGRAM's MACHINE IN MEMORY, EXACTLY.
-/
namespace Go.Proofs.YtengofkjlgajlaaGreatDoor
open Go Go.RowKit
/-- a machine's data, device, what is reserved, its line -/
structure MS where
  mem : Nat → Nat
  out : List Int
  res : Int
  line : Bool
/-- the machine: its block, its hart, its own copies of code and data, its device -/
structure Mx (w0 w : World) (B p hq cg n cap : Nat) (dv ov : Value) (S : HS) (len : Nat) (f : Nat → Int) (M : MS) : Prop where
  c : CellsAt 5 w p (mv hq dv ov M.res M.line)
  h : PH w hq (.slice (some ⟨cg, 0, none⟩) n cap) S
  code : CodeAt w cg 0 n f
  d : (len = 0 ∧ dv = .slice none 0 0) ∨ ∃ db dc, dv = .slice (some ⟨db, 0, none⟩) len dc ∧ len ≤ dc ∧ Row8 w db len M.mem ∧ db ≠ p ∧ db ≠ hq ∧ db ≠ cg ∧ ov.ownBlock ≠ some db ∧ B ≤ db
  o : w.ownsRow B 5 1 ov M.out.length (M.out.map (.int .u8))
  n1 : p ≠ hq ∧ p ≠ cg ∧ hq ≠ cg
  n2 : ov.ownBlock ≠ some p ∧ ov.ownBlock ≠ some hq ∧ ov.ownBlock ≠ some cg
  lo : B ≤ p ∧ B ≤ hq ∧ B ≤ cg
  low : Below B w0 w
  m8 : ∀ o, M.mem o < 256
section
variable {w0 w w' : World} {B p hq cg n cap len : Nat} {dv ov : Value} {S S' : HS} {f : Nat → Int} {M : MS}
theorem Mx.below (k : Mx w0 w B p hq cg n cap dv ov S len f M) (hb : Below w.heap.size w w') : Mx w0 w' B p hq cg n cap dv ov S len f M := by
  have t : Turned (fun _ => False) w w' := Turned.of_below hb
  refine ⟨k.c.below hb, k.h.below hb, k.code.below hb, ?_, own_turned k.o t (fun _ _ q => q), k.n1, k.n2, k.lo, k.low.trans (hb.mono (Nat.le_trans k.lo.1 (Nat.le_of_lt k.c.here))), k.m8⟩
  rcases k.d with h | ⟨db, dc, h1, h2, h3, h4⟩
  · exact Or.inl h
  · exact Or.inr ⟨db, dc, h1, h2, h3.below hb, h4⟩
theorem Mx.hart (k : Mx w0 w B p hq cg n cap dv ov S len f M) (t : Only hq w w') (h : PH w' hq (.slice (some ⟨cg, 0, none⟩) n cap) S') : Mx w0 w' B p hq cg n cap dv ov S' len f M := by
  have t := Turned.of_only t
  refine ⟨t.cells k.c k.n1.1, h, k.code.turned t (fun e => k.n1.2.2 e.symm), ?_, own_turned k.o t (fun j hj e => k.n2.2.1 (by rw [hj, e])), k.n1, k.n2, k.lo, k.low.trans (t.below (Nat.le_trans k.lo.1 (Nat.le_of_lt k.c.here)) (fun j hj => by rw [hj]; exact k.lo.2.1)), k.m8⟩
  rcases k.d with h | ⟨db, dc, h1, h2, h3, h4, h5, h6⟩
  · exact Or.inl h
  · exact Or.inr ⟨db, dc, h1, h2, t.cells h3 h5, h4, h5, h6⟩
theorem Mx.dat (k : Mx w0 w B p hq cg n cap dv ov S len f M) {db dc : Nat} {mem : Nat → Nat} (h1 : dv = .slice (some ⟨db, 0, none⟩) len dc) (h2 : len ≤ dc) (h4 : db ≠ p ∧ db ≠ hq ∧ db ≠ cg ∧ ov.ownBlock ≠ some db ∧ B ≤ db) (t : Only db w w') (hb : Row8 w' db len mem) (h8 : ∀ o, mem o < 256) : Mx w0 w' B p hq cg n cap dv ov S len f { M with mem := mem } := by
  have t := Turned.of_only t
  exact ⟨t.cells k.c (fun e => h4.1 e.symm), t.cells k.h (fun e => h4.2.1 e.symm), k.code.turned t (fun e => h4.2.2.1 e.symm), Or.inr ⟨db, dc, h1, h2, hb, h4⟩, own_turned k.o t (fun j hj e => h4.2.2.2.1 (by rw [hj, e])), k.n1, k.n2, k.lo, k.low.trans (t.below (Nat.le_trans k.lo.1 (Nat.le_of_lt k.c.here)) (fun j hj => by rw [hj]; exact h4.2.2.2.2)), h8⟩
theorem Mx.res (k : Mx w0 w B p hq cg n cap dv ov S len f M) (v : Int) : Mx w0 (w.setCell ⟨p, 3, none⟩ (.int .u32 v)) B p hq cg n cap dv ov S len f { M with res := v } := by
  have t := Turned.of_only ((Only.refl p w).set 3 (.int .u32 v))
  refine ⟨(k.c.set 3 (by decide) _).to (mv_res _ _ _ _ _ _), t.cells k.h (fun e => k.n1.1 e.symm), k.code.turned t (fun e => k.n1.2.1 e.symm), ?_, own_turned k.o t (fun j hj e => k.n2.1 (by rw [hj, e])), k.n1, k.n2, k.lo, k.low.trans (t.below (Nat.le_trans k.lo.1 (Nat.le_of_lt k.c.here)) (fun j hj => by rw [hj]; exact k.lo.1)), k.m8⟩
  rcases k.d with h | ⟨db, dc, h1, h2, h3, h4, h6⟩
  · exact Or.inl h
  · exact Or.inr ⟨db, dc, h1, h2, t.cells h3 h4, h4, h6⟩
theorem mv_line (hq : Nat) (dv ov : Value) (res : Int) (line v : Bool) : ∀ o, o < 5 → upd (mv hq dv ov res line) 4 (.bool v) o = mv hq dv ov res v o := by
  intro o ho
  match o, ho with
  | 0, _ => rfl
  | 1, _ => rfl
  | 2, _ => rfl
  | 3, _ => rfl
  | 4, _ => rfl
theorem Mx.line (k : Mx w0 w B p hq cg n cap dv ov S len f M) (v : Bool) : Mx w0 (w.setCell ⟨p, 4, none⟩ (.bool v)) B p hq cg n cap dv ov S len f { M with line := v } := by
  have t := Turned.of_only ((Only.refl p w).set 4 (.bool v))
  have c := k.c.set 4 (by decide) (.bool v)
  refine ⟨⟨c.here, fun o ho => by rw [c.cell o ho, mv_line _ _ _ _ _ _ o ho], c.free⟩, t.cells k.h (fun e => k.n1.1 e.symm), k.code.turned t (fun e => k.n1.2.1 e.symm), ?_, own_turned k.o t (fun j hj e => k.n2.1 (by rw [hj, e])), k.n1, k.n2, k.lo, k.low.trans (t.below (Nat.le_trans k.lo.1 (Nat.le_of_lt k.c.here)) (fun j hj => by rw [hj]; exact k.lo.1)), k.m8⟩
  rcases k.d with h | ⟨db, dc, h1, h2, h3, h4, h6⟩
  · exact Or.inl h
  · exact Or.inr ⟨db, dc, h1, h2, t.cells h3 h4, h4, h6⟩
theorem Mx.other (k : Mx w0 w B p hq cg n cap dv ov S len f M) {z : Nat} (t : Turned (fun j => j = z) w w') (h1 : p ≠ z) (h2 : hq ≠ z) (h3 : cg ≠ z) (h4 : dv.ownBlock ≠ some z) (h5 : ov.ownBlock ≠ some z) (h6 : B ≤ z) : Mx w0 w' B p hq cg n cap dv ov S len f M := by
  refine ⟨t.cells k.c h1, t.cells k.h h2, k.code.turned t h3, ?_, own_turned k.o t (fun j hj e => h5 (by rw [hj, e])), k.n1, k.n2, k.lo, k.low.trans (t.below (Nat.le_trans k.lo.1 (Nat.le_of_lt k.c.here)) (fun j hj => by rw [hj]; exact h6)), k.m8⟩
  rcases k.d with h | ⟨db, dc, e1, e2, e3, e4⟩
  · exact Or.inl h
  · exact Or.inr ⟨db, dc, e1, e2, t.cells e3 (fun e => h4 (by rw [e1, ← e]; rfl)), e4⟩
theorem Mx.at (k : Mx w0 w B p hq cg n cap dv ov S len f M) : p < w.heap.size ∧ hq < w.heap.size ∧ cg < w.heap.size := ⟨k.c.here, k.h.here, k.code.here⟩
theorem Mx.data (k : Mx w0 w B p hq cg n cap dv ov S len f M) (hl : 0 < len) : ∃ db dc, dv = .slice (some ⟨db, 0, none⟩) len dc ∧ len ≤ dc ∧ Row8 w db len M.mem ∧ (db ≠ p ∧ db ≠ hq ∧ db ≠ cg ∧ ov.ownBlock ≠ some db ∧ B ≤ db) ∧ w.cell? ⟨p, 1, none⟩ = some (.slice (some ⟨db, 0, none⟩) len dc) := by
  rcases k.d with h | ⟨db, dc, h1, h2, h3, h4⟩
  · have := h.1
    omega
  · exact ⟨db, dc, h1, h2, h3, h4, by rw [← h1]; exact k.c.cell 1 (by decide)⟩
/-- its device has grown -/
theorem Mx.grown (k : Mx w0 w B p hq cg n cap dv ov S len f M) {y : World} {v' : Value} {b : Int} (t : Turned (fun j => ov.ownBlock = some j) w y) (ho : y.ownsRow B 5 1 v' (M.out.length + 1) ((M.out ++ [b]).map (.int .u8))) (hv : v'.ownBlock = ov.ownBlock ∨ v'.ownBlock = some w.heap.size) : Mx w0 (y.setCell ⟨p, 2, none⟩ v') B p hq cg n cap dv v' S len f { M with out := M.out ++ [b] } := by
  obtain ⟨a1, a2, a3⟩ := k.at
  have c' := t.cells k.c k.n2.1
  have ne : ∀ j, j < w.heap.size → ov.ownBlock ≠ some j → v'.ownBlock ≠ some j := fun j hj h e => by
    rcases hv with q | q
    · exact h (by rw [← q]; exact e)
    · rw [q] at e
      have := Option.some.inj e
      omega
  have t2 := Turned.of_only ((Only.refl p y).set 2 v')
  have hBw : B ≤ w.heap.size := Nat.le_trans k.lo.1 (Nat.le_of_lt a1)
  have vp := ne p a1 k.n2.1
  refine ⟨(c'.set 2 (by decide) _).to (mv_out _ _ _ _ _ _), t2.cells (t.cells k.h k.n2.2.1) (fun e => k.n1.1 e.symm), (k.code.turned t k.n2.2.2).turned t2 (fun e => k.n1.2.1 e.symm), ?_, ?_, k.n1, ⟨vp, ne hq a2 k.n2.2.1, ne cg a3 k.n2.2.2⟩, k.lo, (k.low.trans (t.below hBw (fun j hj => (own_base k.o j hj).1))).trans (t2.below (Nat.le_trans hBw t.size) (fun j hj => by rw [hj]; exact k.lo.1)), k.m8⟩
  · rcases k.d with h | ⟨db, dc, h1, h2, h3, h4, h5, h6, h7, h8⟩
    · exact Or.inl h
    · exact Or.inr ⟨db, dc, h1, h2, t2.cells (t.cells h3 h7) h4, h4, h5, h6, ne db h3.here h7, h8⟩
  · have := own_turned ho t2 (fun j hj e => vp (by rw [hj, e]))
    show World.ownsRow _ _ _ _ _ (M.out ++ [b]).length _
    rw [List.length_append]
    exact this
end
theorem memT_lt {mem : Nat → Nat} (h : ∀ o, mem o < 256) (a d t : Nat) : ∀ o, memT mem a d t o < 256 := fun o => by
  unfold memT
  split
  · exact Nat.mod_lt _ (by decide)
  · exact h o
theorem xread_m {w0 w : World} {B p hq cg n cap len : Nat} {dv ov : Value} {S : HS} {f : Nat → Int} {M : MS} (k : Mx w0 w B p hq cg n cap dv ov S len f M) (op ad : Int) (at' sz : Nat) (da : Int) (had : ad = ((65536 + at' : Nat) : Int)) (hin : at' + sz ≤ len) (hs : 0 < sz) (hs4 : sz ≤ 4) (hl : len ≤ 4096) : Calls Tryz.prog 65 #[.pointer (some ⟨p, 0, none⟩), qV op ad sz da] w fun e w' => e = .returned (.int .u32 (leN (fun t => M.mem (at' + t)) sz : Nat)) ∧ Below w.heap.size w w' := by
  obtain ⟨db, dc, -, h2, h3, -, c1⟩ := k.data (by omega)
  exact xread_any p db len dc op ad at' sz da M.mem w k.at.1 c1 h3 k.m8 had hin hs h2 hl hs4
theorem xwrite_m {w0 w : World} {B p hq cg n cap len : Nat} {dv ov : Value} {S : HS} {f : Nat → Int} {M : MS} (k : Mx w0 w B p hq cg n cap dv ov S len f M) (op ad : Int) (at' sz : Nat) (da : Int) (d : Nat) (had : ad = ((65536 + at' : Nat) : Int)) (hin : at' + sz ≤ len) (hs : 0 < sz) (hs4 : sz ≤ 4) (hl : len ≤ 4096) : Calls Tryz.prog 96 #[.pointer (some ⟨p, 0, none⟩), qV op ad sz da, .int .u32 d] w fun e w' => e = .returned (.tuple #[]) ∧ Mx w0 w' B p hq cg n cap dv ov S len f { M with mem := memT M.mem at' d sz } ∧ Turned (Mine p dv ov) w w' := by
  obtain ⟨db, dc, h1, h2, h3, h4, c1⟩ := k.data (by omega)
  exact (xwrite_any p db len dc op ad at' sz da d M.mem w k.at.1 c1 h3 had hin hs h2 hl hs4).mono fun e w' h => ⟨h.1, k.dat h1 h2 h4 h.2.1 h.2.2 (memT_lt k.m8 _ _ _), (Turned.of_only h.2.1).mono (fun j e => Or.inr (Or.inl (by rw [h1, e]; rfl)))⟩
end Go.Proofs.YtengofkjlgajlaaGreatDoor
/-
  THE MACHINE, EXACTLY: a store.
-/
namespace Go.Proofs.YtengofkjlgajlaaGreatDoor
open Go Go.RowKit
set_option maxRecDepth 100000 in
set_option maxHeartbeats 1000000 in
theorem xstore_dev {w0 w : World} {B p hq cg n cap len : Nat} {dv ov : Value} {S : HS} {f : Nat → Int} {M : MS} (k : Mx w0 w B p hq cg n cap dv ov S len f M) (hB : B ≤ w.heap.size) (hol : M.out.length ≤ 5000) (op ad : Int) (sz : Nat) (da : Nat) (had : 131072 ≤ ad) : Calls Tryz.prog 66 #[.pointer (some ⟨p, 0, none⟩), qV op ad sz (da : Nat)] w fun e w' => e = .returned (.tuple #[]) ∧ (∃ ov', Fr ov ov' w.heap.size ∧ Mx w0 w' B p hq cg n cap dv ov' S len f { M with out := M.out ++ [(da : Int) % 256] }) ∧ Turned (Mine p dv ov) w w' := by
  obtain ⟨X, hX, bX, x0, x1, x2, x3, sX⟩ := boxW4 w (.int .i64 op) (.int .u32 ad) (.int .i64 sz) (.int .u32 da) 61
  have kX := (k.below bX).below ((Below.refl _ _).drew)
  have hd : decide (131072 ≤ ad) = true := decide_eq_true had
  obtain ⟨i0, hi0, hz0, hz1, hz2⟩ := info_parts (show (Tryz.prog.info? 5).map (fun i => (i.zero, i.size, i.bytes)) = some (some (.int .u8 0), 1, 1) by kernel_rfl)
  obtain ⟨Y, hY⟩ : ∃ Y, X.drew.alloc (.cells #[.int .u8 (da % 256)] 5) = Y := ⟨_, rfl⟩
  have bY : Below X.drew.heap.size X.drew Y := by rw [← hY]; exact (Below.refl _ _).alloc (Nat.le_refl _) _
  have kY := kX.below bY
  have hown := kY.o
  obtain ⟨ol, hole⟩ : ∃ ol, M.out.length = ol := ⟨_, rfl⟩
  rw [hole] at hown hol
  have hnew : Y.cell? ⟨X.heap.size, 0, none⟩ = some (.int .u8 (da % 256)) := by rw [← hY]; exact World.cell?_alloc_new X.drew _ _ 0
  obtain ⟨v', Z, hrun, r1, r2, r3, r4⟩ := run_append_own_at (P := Tryz.prog) (w := Y) B 23 23 5 i0 (.int .u8 0) 1 1 Tryz.underlying23 hi0 hz0 hz1 hz2 rfl (by decide) ov ol _ hown ⟨X.heap.size, 0, none⟩ 1 1 [.int .u8 (da % 256)] rfl (fun j y hj => by
    match j, hj with
    | 0, hj => rw [← Option.some.inj hj]; exact hnew) (by simp [Value.oneCell']) (by unfold maxLen; omega) (by omega) (Nat.le_trans hB (Nat.le_trans bX.size bY.size))
  obtain ⟨q', cap', rfl⟩ : ∃ q' cap', v' = .slice q' (ol + 1) cap' := by
    rcases r1.2 with ⟨h, h0⟩ | ⟨g, cp, cur, h, -⟩
    · omega
    · exact ⟨_, _, h⟩
  obtain ⟨oq, oc, rfl⟩ : ∃ oq oc, ov = .slice oq ol oc := by
    rcases hown.2 with ⟨h, h0⟩ | ⟨g, cp, cur, h, -⟩
    · exact ⟨none, 0, by rw [h, h0]⟩
    · exact ⟨_, _, h⟩
  have r1' := r1
  rw [show M.out.map (Value.int .u8) ++ [Value.int .u8 ((da : Int) % 256)] = (M.out ++ [(da : Int) % 256]).map (.int .u8) by rw [List.map_append]; rfl, ← hole] at r1'
  have HM := Hid.in (kY.grown (turned_grown r2) r1' (by rw [hole]; exact r4))
  rw [hole] at HM
  have HFR : Hid (Fr (.slice oq ol oc) (.slice q' (ol + 1) cap') w.heap.size) := r4.elim Or.inl (fun h => Or.inr ⟨_, h, Nat.le_trans bX.size bY.size⟩)
  have HT : Hid (Turned (Mine p dv (.slice oq ol oc)) w (Z.setCell ⟨p, 2, none⟩ (.slice q' (ol + 1) cap'))) := (((Turned.of_below (Q := Mine p dv (.slice oq ol oc)) bX).trans (Turned.of_below (Below.refl _ _).drew)).trans (Turned.of_below bY)).trans ((turned_grown r2).mono (fun j e => Or.inr (Or.inr e))) |>.set (Or.inl rfl) 2 _
  have cY := kY.c
  have cX := kX.c
  have cZ := (turned_grown r2).cells cY kY.n2.1
  have e1 : X.drew.cell? ⟨p, 2, none⟩ = some (.slice oq ol oc) := cX.cell 2 (by decide)
  have e2 : Y.cell? ⟨p, 2, none⟩ = some (.slice oq ol oc) := cY.cell 2 (by decide)
  have e3 : Z.cell? ⟨p, 2, none⟩ = some (.slice oq ol oc) := cZ.cell 2 (by decide)
  have HST := Hid.in (fun (Q : Exit → Act → World → Prop) (hQ : ∀ c a a' w, Q (.panic c) a w → Q (.panic c) a' w) => st_reg hQ p w.heap.size oq ol oc da q' (ol + 1) cap' X.drew Y Z X rfl hY hrun e1 e2 e3 (cZ.free 2) x3)
  clear k kX kY hown hnew r1' hole bX bY r1 r2 r3 r4 cX cY cZ hi0 hz0 hz1 hz2 hB hol had e1 e2 e3 hrun hY
  unfold qV
  go_enter Tryz.func66, Tryz.ntmps66
  go_upto_region 2 with fail
  refine wp_any (HST.out (Exit.then _ NoX) (fun _ _ _ _ h => h) _ rfl rfl rfl (fun a' ha => ?_))
  obtain ⟨tm, df⟩ := a'
  obtain rfl : df = [] := ha
  go_wp2
  exact bodyPost_ret (v := .tuple #[]) (results_none Tryz.results66 _ _ _) rfl ⟨rfl, ⟨_, HFR.out, HM.out⟩, HT.out⟩
set_option maxRecDepth 100000 in
set_option maxHeartbeats 1000000 in
theorem xstore_dat {w0 w : World} {B p hq cg n cap len : Nat} {dv ov : Value} {S : HS} {f : Nat → Int} {M : MS} (k : Mx w0 w B p hq cg n cap dv ov S len f M) (op ad : Int) (at' sz : Nat) (da : Nat) (had : ad = ((65536 + at' : Nat) : Int)) (hin : at' + sz ≤ len) (hs : 0 < sz) (hs4 : sz ≤ 4) (hl : len ≤ 4096) : Calls Tryz.prog 66 #[.pointer (some ⟨p, 0, none⟩), qV op ad sz (da : Nat)] w fun e w' => e = .returned (.tuple #[]) ∧ Mx w0 w' B p hq cg n cap dv ov S len f { M with mem := memT M.mem at' da sz } ∧ Turned (Mine p dv ov) w w' := by
  have hd : decide (131072 ≤ ad) = false := decide_eq_false (by omega)
  have hd2 : ¬ 131072 ≤ ad := by omega
  have HW : Hid (∀ x, Below w.heap.size w x → Calls Tryz.prog 96 #[.pointer (some ⟨p, 0, none⟩), .agg #[.int .i64 op, .int .u32 ad, .int .i64 sz, .int .u32 da], .int .u32 da] x fun e w' => e = .returned (.tuple #[]) ∧ Mx w0 w' B p hq cg n cap dv ov S len f { M with mem := memT M.mem at' da sz } ∧ Turned (Mine p dv ov) w w') := fun x hx => (xwrite_m (k.below hx) op ad at' sz da da had hin hs hs4 hl).mono fun e w' h => ⟨h.1, h.2.1, (Turned.of_below hx).trans h.2.2⟩
  clear k had hin hs hs4 hl
  unfold qV
  go_enter Tryz.func66, Tryz.ntmps66
  go_wp2_with (go_at_call 96; refine (HW.out _ ((Below.refl _ _).alloc (Nat.le_refl _) _)).mono ?_; rintro e x1 ⟨rfl, hM⟩; have HM := Hid.in hM; clear hM)
  exact bodyPost_end (results_none Tryz.results66 _ _ _) rfl ⟨rfl, HM.out⟩
end Go.Proofs.YtengofkjlgajlaaGreatDoor
/-
  THE MACHINE, EXACTLY: atomic operations.
-/
namespace Go.Proofs.YtengofkjlgajlaaGreatDoor
open Go Go.RowKit
theorem swI_nn (op : Int) (v da : Nat) : 0 ≤ swI op (v : Nat) (da : Nat) := by
  unfold swI
  split
  · unfold swN
    split
    all_goals first | omega | exact (u32_bits _ _ _).1 | (split <;> omega)
  · omega
set_option maxRecDepth 100000 in
set_option maxHeartbeats 1000000 in
theorem xatomic_lr {w0 w : World} {B p hq cg n cap len : Nat} {dv ov : Value} {S : HS} {f : Nat → Int} {M : MS} (k : Mx w0 w B p hq cg n cap dv ov S len f M) (ad : Int) (at' sz : Nat) (da : Nat) (had : ad = ((65536 + at' : Nat) : Int)) (hin : at' + sz ≤ len) (hs : 0 < sz) (hs4 : sz ≤ 4) (hl : len ≤ 4096) : Calls Tryz.prog 67 #[.pointer (some ⟨p, 0, none⟩), qV 46 ad sz (da : Nat)] w fun e w' => e = .returned (.tuple #[.int .u32 (leN (fun t => M.mem (at' + t)) sz : Nat), .bool false]) ∧ Mx w0 w' B p hq cg n cap dv ov S len f { M with res := ad } ∧ Turned (Mine p dv ov) w w' := by
  obtain ⟨X, hX, bX, x0, x1, x2, x3, sX⟩ := boxW4 w (.int .i64 46) (.int .u32 ad) (.int .i64 sz) (.int .u32 da) 61
  have kX := k.below bX
  have cX := kX.c
  have e1 : X.cell? ⟨p, 3, none⟩ = some (.int .u32 M.res) := cX.cell 3 (by decide)
  have f1 := cX.free 3
  have p1 := cX.here
  have hne : p ≠ w.heap.size := fun e => by have := k.at.1; omega
  have hne2 := hne.symm
  have HM := Hid.in (kX.res ad)
  have HT : Hid (Turned (Mine p dv ov) w (X.setCell ⟨p, 3, none⟩ (.int .u32 ad))) := (Turned.of_below (Q := Mine p dv ov) bX).set (Or.inl rfl) 3 _
  have HR : Hid (Calls Tryz.prog 65 #[.pointer (some ⟨p, 0, none⟩), .agg #[.int .i64 46, .int .u32 ad, .int .i64 sz, .int .u32 da]] (X.setCell ⟨p, 3, none⟩ (.int .u32 ad)) fun e w' => e = .returned (.int .u32 (leN (fun t => M.mem (at' + t)) sz : Nat)) ∧ Below (X.setCell ⟨p, 3, none⟩ (.int .u32 ad)).heap.size (X.setCell ⟨p, 3, none⟩ (.int .u32 ad)) w') := xread_m (kX.res ad) 46 ad at' sz da had hin hs hs4 hl
  obtain ⟨zb, hzb⟩ : ∃ zb, w.heap.size = zb := ⟨_, rfl⟩
  rw [hzb] at x0 x1 x2 x3 sX hne hne2
  clear k kX cX bX had hin hs hs4 hl
  unfold qV
  go_enter Tryz.func67, Tryz.ntmps67
  go_upto_region 1 with fail
  try rw [hX, hzb]
  clear hX hzb
  go_wp2_with (go_at_call 65; refine HR.out.mono ?_; rintro e x1 ⟨rfl, hb⟩; have HM1 := Hid.in (HM.out.below hb); have HT1 := Hid.in (HT.out.trans (Turned.of_below hb)); clear hb)
  exact bodyPost_ret (v := .tuple #[.int .u32 (leN (fun t => M.mem (at' + t)) sz : Nat), .bool false]) (by simp [results, Tryz.results67, go_sem]) rfl ⟨rfl, HM1.out, HT1.out⟩
set_option maxRecDepth 100000 in
set_option maxHeartbeats 1000000 in
theorem xatomic_sc {w0 w : World} {B p hq cg n cap len : Nat} {dv ov : Value} {S : HS} {f : Nat → Int} {M : MS} (k : Mx w0 w B p hq cg n cap dv ov S len f M) (ad : Int) (at' sz : Nat) (da : Nat) (had : ad = ((65536 + at' : Nat) : Int)) (hin : at' + sz ≤ len) (hs : 0 < sz) (hs4 : sz ≤ 4) (hl : len ≤ 4096) : Calls Tryz.prog 67 #[.pointer (some ⟨p, 0, none⟩), qV 47 ad sz (da : Nat)] w fun e w' => e = .returned (.tuple #[.int .u32 0, .bool (M.res == ad)]) ∧ Mx w0 w' B p hq cg n cap dv ov S len f (if (M.res == ad) = true then { M with res := 0, mem := memT M.mem at' da sz } else { M with res := 0 }) ∧ Turned (Mine p dv ov) w w' := by
  obtain ⟨X, hX, bX, x0, x1, x2, x3, sX⟩ := boxW4 w (.int .i64 47) (.int .u32 ad) (.int .i64 sz) (.int .u32 da) 61
  have kX := k.below bX
  have cX := kX.c
  obtain ⟨rs, hrs⟩ : ∃ rs, M.res = rs := ⟨_, rfl⟩
  have e1 : X.cell? ⟨p, 3, none⟩ = some (.int .u32 rs) := by rw [← hrs]; exact cX.cell 3 (by decide)
  rw [hrs]
  have f1 := cX.free 3
  have p1 := cX.here
  have hne : p ≠ w.heap.size := fun e => by have := k.at.1; omega
  have hne2 := hne.symm
  have HKX := Hid.in kX
  have HTX : Hid (Turned (Mine p dv ov) w X) := Turned.of_below bX
  have HW : Hid (∀ x, Mx w0 x B p hq cg n cap dv ov S len f { M with res := 0 } → Calls Tryz.prog 96 #[.pointer (some ⟨p, 0, none⟩), .agg #[.int .i64 47, .int .u32 ad, .int .i64 sz, .int .u32 da], .int .u32 da] x fun e w' => e = .returned (.tuple #[]) ∧ Mx w0 w' B p hq cg n cap dv ov S len f { M with res := 0, mem := memT M.mem at' da sz } ∧ Turned (Mine p dv ov) x w') := fun x kx => xwrite_m kx 47 ad at' sz da da had hin hs hs4 hl
  obtain ⟨zb, hzb⟩ : ∃ zb, w.heap.size = zb := ⟨_, rfl⟩
  rw [hzb] at x0 x1 x2 x3 sX hne hne2
  clear k kX cX bX had hin hs hs4 hl hrs
  unfold qV
  go_enter Tryz.func67, Tryz.ntmps67
  go_upto_region 1 with fail
  try rw [hX, hzb]
  clear hX hzb
  go_upto_region 6 with fail
  go_quiet (fail)
  generalize hW : X.drewN nq = W
  have kW : Mx w0 W B p hq cg n cap dv ov S len f M := by rw [← hW]; exact HKX.out.below (below_drewN (Below.refl _ _) _)
  have HMW := Hid.in (kW.res 0)
  have HTW : Hid (Turned (Mine p dv ov) w (W.setCell ⟨p, 3, none⟩ (.int .u32 0))) := by
    show Turned (Mine p dv ov) w _
    rw [← hW]
    exact (HTX.out.trans (Turned.of_below (below_drewN (Below.refl _ _) _))).set (Or.inl rfl) 3 _
  have cW := kW.c
  have g1 : W.cell? ⟨p, 3, none⟩ = some (.int .u32 M.res) := cW.cell 3 (by decide)
  have f2 := cW.free 3
  have p2 := cW.here
  have y0 : W.cell? ⟨zb, 0, none⟩ = some (.int .i64 47) := by rw [← hW]; exact x0
  have y1 : W.cell? ⟨zb, 1, none⟩ = some (.int .u32 ad) := by rw [← hW]; exact x1
  have y2 : W.cell? ⟨zb, 2, none⟩ = some (.int .i64 sz) := by rw [← hW]; exact x2
  have y3 : W.cell? ⟨zb, 3, none⟩ = some (.int .u32 da) := by rw [← hW]; exact x3
  have sW : zb < W.heap.size := by rw [← hW]; exact sX
  clear hW kW cW x0 x1 x2 x3 sX e1 f1 p1
  cases hh : (rs == ad)
  · go_wp2
    exact bodyPost_ret (v := .tuple #[.int .u32 0, .bool false]) (by simp [results, Tryz.results67, go_sem]) rfl ⟨rfl, HMW.out, HTW.out⟩
  · go_wp2_with (go_at_call 96; refine (HW.out _ HMW.out).mono ?_; rintro e x1 ⟨rfl, hM, hT⟩; have HM1 := Hid.in hM; have HT1 := Hid.in (HTW.out.trans hT); clear hM hT)
    exact bodyPost_ret (v := .tuple #[.int .u32 0, .bool true]) (by simp [results, Tryz.results67, go_sem]) rfl ⟨rfl, HM1.out, HT1.out⟩
set_option maxRecDepth 100000 in
set_option maxHeartbeats 2000000 in
theorem xatomic_rmw {w0 w : World} {B p hq cg n cap len : Nat} {dv ov : Value} {S : HS} {f : Nat → Int} {M : MS} (k : Mx w0 w B p hq cg n cap dv ov S len f M) (op ad : Int) (at' sz : Nat) (da : Nat) (h46 : ¬ op = 46) (h47 : ¬ op = 47) (had : ad = ((65536 + at' : Nat) : Int)) (hin : at' + sz ≤ len) (hs : 0 < sz) (hs4 : sz ≤ 4) (hl : len ≤ 4096) : Calls Tryz.prog 67 #[.pointer (some ⟨p, 0, none⟩), qV op ad sz (da : Nat)] w fun e w' => e = .returned (.tuple #[.int .u32 (leN (fun t => M.mem (at' + t)) sz : Nat), .bool false]) ∧ Mx w0 w' B p hq cg n cap dv ov S len f { M with mem := memT M.mem at' (swI op (leN (fun t => M.mem (at' + t)) sz : Nat) (da : Nat)).toNat sz } ∧ Turned (Mine p dv ov) w w' := by
  obtain ⟨X, hX, bX, x0, x1, x2, x3, sX⟩ := boxW4 w (.int .i64 op) (.int .u32 ad) (.int .i64 sz) (.int .u32 da) 61
  have HKX := Hid.in (k.below bX)
  have HR : Hid (Calls Tryz.prog 65 #[.pointer (some ⟨p, 0, none⟩), .agg #[.int .i64 op, .int .u32 ad, .int .i64 sz, .int .u32 da]] X fun e w' => e = .returned (.int .u32 (leN (fun t => M.mem (at' + t)) sz : Nat)) ∧ Below X.heap.size X w') := xread_m (k.below bX) op ad at' sz da had hin hs hs4 hl
  obtain ⟨db, dc, h1, h2, h3, h4, c1⟩ := k.data (by omega)
  have HW : Hid (∀ x (vv : Nat), Below w.heap.size w x → w.heap.size < x.heap.size → Calls Tryz.prog 96 #[.pointer (some ⟨p, 0, none⟩), .agg #[.int .i64 op, .int .u32 ad, .int .i64 sz, .int .u32 da], .int .u32 vv] x fun e w' => e = .returned (.tuple #[]) ∧ (Mx w0 w' B p hq cg n cap dv ov S len f { M with mem := memT M.mem at' vv sz } ∧ Turned (Mine p dv ov) w w') ∧ ∀ o, w'.cell? ⟨w.heap.size, o, none⟩ = x.cell? ⟨w.heap.size, o, none⟩) := fun x vv hx hz => (xwrite_any p db len dc op ad at' sz da vv M.mem x (Nat.lt_of_lt_of_le k.at.1 hx.size) ((hx.cell (p := ⟨p, 1, none⟩) k.at.1).trans c1) (h3.below hx) had hin hs h2 hl hs4).mono fun e w' h => ⟨h.1, ⟨(k.below hx).dat h1 h2 h4 h.2.1 h.2.2 (memT_lt k.m8 _ _ _), (Turned.of_below hx).trans ((Turned.of_only h.2.1).mono (fun j e => Or.inr (Or.inl (by rw [h1, e]; rfl))))⟩, fun o => World.cell?_of_block (w := x) (h.2.1.block w.heap.size hz (fun e => by have := h3.here; omega))⟩
  obtain ⟨v, hv⟩ : ∃ v, leN (fun t => M.mem (at' + t)) sz = v := ⟨_, rfl⟩
  rw [hv] at HR
  rw [hv]
  have HSW : Hid (swI op (v : Nat) (da : Nat) = (((swI op (v : Nat) (da : Nat)).toNat : Nat) : Int)) := by
    show swI op (v : Nat) (da : Nat) = _
    have := swI_nn op v da
    omega
  obtain ⟨sw, hsw⟩ : ∃ sw, (swI op (v : Nat) (da : Nat)).toNat = sw := ⟨_, rfl⟩
  rw [hsw] at HSW
  rw [hsw]
  obtain ⟨zb, hzb⟩ : ∃ zb, w.heap.size = zb := ⟨_, rfl⟩
  have HBX := Hid.in bX
  rw [hzb] at x0 x1 x2 x3 sX HW HBX
  have h46d : (op == 46) = false := by simp; exact h46
  have h47d : (op == 47) = false := by simp; exact h47
  clear k bX had hin hs hs4 hl h1 h2 h3 h4 c1 hv hsw
  unfold qV
  go_enter Tryz.func67, Tryz.ntmps67
  go_upto_region 1 with fail
  try rw [hX, hzb]
  clear hX hzb
  go_upto_region 12 with (go_at_call 65; refine HR.out.mono ?_; rintro e X1 ⟨rfl, hb⟩; have HB1 := Hid.in hb; clear hb)
  have y0 : X1.cell? ⟨zb, 0, none⟩ = some (.int .i64 op) := (HB1.out.cell (p := ⟨zb, 0, none⟩) sX).trans x0
  have y1 : X1.cell? ⟨zb, 1, none⟩ = some (.int .u32 ad) := (HB1.out.cell (p := ⟨zb, 1, none⟩) sX).trans x1
  have y2 : X1.cell? ⟨zb, 2, none⟩ = some (.int .i64 sz) := (HB1.out.cell (p := ⟨zb, 2, none⟩) sX).trans x2
  have y3 : X1.cell? ⟨zb, 3, none⟩ = some (.int .u32 da) := (HB1.out.cell (p := ⟨zb, 3, none⟩) sX).trans x3
  have sY := Nat.lt_of_lt_of_le sX HB1.out.size
  have HK1 := Hid.in (HKX.out.below HB1.out)
  have HS : Hid (∀ x, Below X1.heap.size X1 x → Calls Tryz.prog 97 #[.int .i64 op, .int .u32 (v : Nat), .int .u32 (da : Nat)] x fun e y => e = .returned (.int .u32 (sw : Nat)) ∧ Below X1.heap.size X1 y ∧ y.cell? ⟨zb, 0, none⟩ = some (.int .i64 op) ∧ y.cell? ⟨zb, 1, none⟩ = some (.int .u32 ad) ∧ y.cell? ⟨zb, 2, none⟩ = some (.int .i64 sz) ∧ y.cell? ⟨zb, 3, none⟩ = some (.int .u32 da)) := fun x hx => by
    refine (p_swap op (v : Nat) (da : Nat) x).mono fun e y h => ?_
    have hy := below2 hx h.2
    exact ⟨by rw [← HSW.out]; exact h.1, hy, (hy.cell (p := ⟨zb, 0, none⟩) sY).trans y0, (hy.cell (p := ⟨zb, 1, none⟩) sY).trans y1, (hy.cell (p := ⟨zb, 2, none⟩) sY).trans y2, (hy.cell (p := ⟨zb, 3, none⟩) sY).trans y3⟩
  have HWB : Hid (∀ x, Below X1.heap.size X1 x → Below zb w x ∧ zb < x.heap.size) := fun x hx => ⟨(HBX.out.trans (HB1.out.mono (Nat.le_of_lt sX))).trans (hx.mono (Nat.le_of_lt sY)), Nat.lt_of_lt_of_le sY hx.size⟩
  clear x0 x1 x2 x3 sX
  go_region_held3 (fun w' => w'.cell? ⟨zb, 0, none⟩ = some (.int .i64 op) ∧ w'.cell? ⟨zb, 1, none⟩ = some (.int .u32 ad) ∧ w'.cell? ⟨zb, 2, none⟩ = some (.int .i64 sz) ∧ w'.cell? ⟨zb, 3, none⟩ = some (.int .u32 da)) (go_keep) (first
    | (go_at_call 97; refine (HS.out _ (by repeat (with_reducible first | exact Below.refl _ _ | refine Below.drew ?_))).mono ?_; rintro e y1 ⟨rfl, hy1, k1, k2, k3, k4⟩; have HY1 := Hid.in hy1; clear hy1)
    | (go_at_call 96; refine (HW.out _ _ (HWB.out _ HY1.out).1 (HWB.out _ HY1.out).2).mono ?_; rintro e y2 ⟨rfl, hM, hcc⟩; have HM := Hid.in hM; have l1 := (hcc 0).trans k1; have l2 := (hcc 1).trans k2; have l3 := (hcc 2).trans k3; have l4 := (hcc 3).trans k4; clear hM hcc))
  go_wp2
  exact bodyPost_ret (v := .tuple #[.int .u32 (v : Nat), .bool false]) (by simp [results, Tryz.results67, go_sem]) rfl ⟨rfl, HM.out.1, HM.out.2⟩
end Go.Proofs.YtengofkjlgajlaaGreatDoor
/-
  THE MACHINE, EXACTLY: whatever is asked.
-/
namespace Go.Proofs.YtengofkjlgajlaaGreatDoor
open Go Go.RowKit
/-- what an access reads; what is handed on, does it hold, what is left -/
def MS.rd (M : MS) (ad : Int) (sz : Nat) : Nat := leN (fun t => M.mem ((ad - 65536).toNat + t)) sz
def MS.srvV (M : MS) (op ad : Int) (sz : Nat) : Nat := if clR op = 4 then M.rd ad sz else if clR op = 6 then (if op = 47 then 0 else M.rd ad sz) else 0
def MS.srvH (M : MS) (op ad : Int) : Bool := if clR op = 6 then (if op = 47 then M.res == ad else false) else false
def MS.srv (M : MS) (op ad : Int) (sz da : Nat) : MS := if clR op = 5 then (if 131072 ≤ ad then { M with out := M.out ++ [(da : Int) % 256] } else { M with mem := memT M.mem (ad - 65536).toNat da sz }) else if clR op = 6 then (if op = 46 then { M with res := ad } else if op = 47 then (if (M.res == ad) = true then { M with res := 0, mem := memT M.mem (ad - 65536).toNat da sz } else { M with res := 0 }) else { M with mem := memT M.mem (ad - 65536).toNat (swI op (M.rd ad sz : Nat) (da : Nat)).toNat sz }) else M
set_option maxRecDepth 100000 in
set_option maxHeartbeats 1000000 in
theorem xserve_any {w0 w : World} {B p hq cg n cap len : Nat} {dv ov : Value} {S : HS} {f : Nat → Int} {M : MS} (k : Mx w0 w B p hq cg n cap dv ov S len f M) (hB : B ≤ w.heap.size) (hol : M.out.length ≤ 5000) (hL : Laid w) (op ad : Int) (sz : Nat) (da : Nat) (hl : len ≤ 4096) (ha : Asked op ad sz len) : Calls Tryz.prog 28 #[.pointer (some ⟨p, 0, none⟩), qV op ad sz (da : Nat)] w fun e w' => e = .returned (.tuple #[.int .u32 (M.srvV op ad sz : Nat), .bool (M.srvH op ad)]) ∧ (∃ ov', Fr ov ov' w.heap.size ∧ Mx w0 w' B p hq cg n cap dv ov' S len f (M.srv op ad sz da)) ∧ Turned (Mine p dv ov) w w' := by
  obtain ⟨X, hX, bX, x0, x1, x2, x3, sX⟩ := boxW4 w (.int .i64 op) (.int .u32 ad) (.int .i64 sz) (.int .u32 da) 61
  have HC : Hid (Calls Tryz.prog 64 #[.int .i64 op] X fun e w' => e = .returned (.int .i64 (clR op)) ∧ Below X.heap.size X w') := p_class op X (hL.below bX)
  have HK := Hid.in (k.below bX)
  have HTX : Hid (Turned (Mine p dv ov) w X) := Turned.of_below bX
  have HBX := Hid.in (Nat.le_trans hB bX.size)
  have HA := Hid.in ha
  obtain ⟨zb, hzb⟩ : ∃ zb, w.heap.size = zb := ⟨_, rfl⟩
  rw [hzb] at x0 x1 x2 x3 sX
  have HZW := Hid.in hzb
  obtain ⟨c, hc⟩ : ∃ c, clR op = c := ⟨_, rfl⟩
  rw [hc] at HC
  have HCC := Hid.in hc
  have HV4 : Hid (c = 4 → M.srvV op ad sz = M.rd ad sz ∧ M.srvH op ad = false ∧ M.srv op ad sz da = M) := fun h => by unfold MS.srvV MS.srvH MS.srv; rw [hc, h]; exact ⟨rfl, rfl, rfl⟩
  have HV5 : Hid (c = 5 → M.srvV op ad sz = 0 ∧ M.srvH op ad = false ∧ M.srv op ad sz da = if 131072 ≤ ad then { M with out := M.out ++ [(da : Int) % 256] } else { M with mem := memT M.mem (ad - 65536).toNat da sz }) := fun h => by unfold MS.srvV MS.srvH MS.srv; rw [hc, h]; exact ⟨rfl, rfl, rfl⟩
  have HV6 : Hid (c = 6 → M.srvV op ad sz = (if op = 47 then 0 else M.rd ad sz) ∧ M.srvH op ad = (if op = 47 then M.res == ad else false) ∧ M.srv op ad sz da = if op = 46 then { M with res := ad } else if op = 47 then (if (M.res == ad) = true then { M with res := 0, mem := memT M.mem (ad - 65536).toNat da sz } else { M with res := 0 }) else { M with mem := memT M.mem (ad - 65536).toNat (swI op (M.rd ad sz : Nat) (da : Nat)).toNat sz }) := fun h => by unfold MS.srvV MS.srvH MS.srv; rw [hc, h]; exact ⟨rfl, rfl, rfl⟩
  have HV7 : Hid (¬ c = 4 → ¬ c = 5 → ¬ c = 6 → M.srvV op ad sz = 0 ∧ M.srvH op ad = false ∧ M.srv op ad sz da = M) := fun h4 h5 h6 => by unfold MS.srvV MS.srvH MS.srv; rw [hc, if_neg h4, if_neg h6, if_neg h6, if_neg h5, if_neg h6]; exact ⟨rfl, rfl, rfl⟩
  clear k bX hB hL ha hc
  unfold qV
  go_enter Tryz.func28, Tryz.ntmps28
  go_upto_region 1 with fail
  try rw [hX, hzb]
  clear hX hzb
  go_upto_region 2 with (go_at_call 64; refine HC.out.mono ?_; rintro e X1 ⟨rfl, hb⟩; have HB1 := Hid.in hb; clear hb)
  have y0 : X1.cell? ⟨zb, 0, none⟩ = some (.int .i64 op) := (HB1.out.cell (p := ⟨zb, 0, none⟩) sX).trans x0
  have y1 : X1.cell? ⟨zb, 1, none⟩ = some (.int .u32 ad) := (HB1.out.cell (p := ⟨zb, 1, none⟩) sX).trans x1
  have y2 : X1.cell? ⟨zb, 2, none⟩ = some (.int .i64 sz) := (HB1.out.cell (p := ⟨zb, 2, none⟩) sX).trans x2
  have y3 : X1.cell? ⟨zb, 3, none⟩ = some (.int .u32 da) := (HB1.out.cell (p := ⟨zb, 3, none⟩) sX).trans x3
  have sY := Nat.lt_of_lt_of_le sX HB1.out.size
  have HK1 := Hid.in (HK.out.below HB1.out)
  have HT1 : Hid (Turned (Mine p dv ov) w X1) := HTX.out.trans (Turned.of_below HB1.out)
  have HB2 := Hid.in (Nat.le_trans HBX.out HB1.out.size)
  clear x0 x1 x2 x3 sX
  by_cases h4 : c = 4
  · subst h4
    have HR : Hid (Calls Tryz.prog 65 #[.pointer (some ⟨p, 0, none⟩), .agg #[.int .i64 op, .int .u32 ad, .int .i64 sz, .int .u32 da]] X1 fun e w' => e = .returned (.int .u32 (M.rd ad sz : Nat)) ∧ Below X1.heap.size X1 w') := by
      rcases HA.out with h | ⟨hs, ⟨at', h1, h2⟩ | h⟩
      · exact absurd HCC.out h.1
      · have := xread_m HK1.out op ad at' sz da h1 h2 hs.1 hs.2 hl
        unfold MS.rd
        rw [show (ad - 65536).toNat = at' by omega]
        exact this
      · have := HCC.out.symm.trans h.1
        omega
    go_wp2_with (go_at_call 65; refine HR.out.mono ?_; rintro e X2 ⟨rfl, hb⟩; have HM := Hid.in (HK1.out.below hb); have HT2 := Hid.in (HT1.out.trans (Turned.of_below hb)); clear hb)
    rw [(HV4.out (by simp)).1, (HV4.out (by simp)).2.1, (HV4.out (by simp)).2.2]
    exact bodyPost_ret (v := .tuple #[.int .u32 (M.rd ad sz : Nat), .bool false]) (by simp [results, Tryz.results28, go_sem]) rfl ⟨rfl, ⟨_, Or.inl rfl, HM.out⟩, HT2.out⟩
  by_cases h5 : c = 5
  · subst h5
    have HR : Hid (Calls Tryz.prog 66 #[.pointer (some ⟨p, 0, none⟩), .agg #[.int .i64 op, .int .u32 ad, .int .i64 sz, .int .u32 da]] X1 fun e w' => e = .returned (.tuple #[]) ∧ (∃ ov', Fr ov ov' w.heap.size ∧ Mx w0 w' B p hq cg n cap dv ov' S len f (M.srv op ad sz da)) ∧ Turned (Mine p dv ov) X1 w') := by
      rw [(HV5.out (by simp)).2.2]
      rcases HA.out with h | ⟨hs, ⟨at', h1, h2⟩ | h⟩
      · exact absurd HCC.out h.2.1
      · rw [if_neg (by omega), show (ad - 65536).toNat = at' by omega]
        exact (xstore_dat HK1.out op ad at' sz da h1 h2 hs.1 hs.2 hl).mono fun e w' h => ⟨h.1, ⟨_, Or.inl rfl, h.2.1⟩, h.2.2⟩
      · rw [if_pos h.2]
        exact (xstore_dev HK1.out HB2.out hol op ad sz da h.2).mono fun e w' h => ⟨h.1, ⟨h.2.1.choose, h.2.1.choose_spec.1.mono (by rw [HZW.out]; exact Nat.le_of_lt sY), h.2.1.choose_spec.2⟩, h.2.2⟩
    go_wp2_with (go_at_call 66; refine HR.out.mono ?_; rintro e X2 ⟨rfl, hM, hT⟩; have HM := Hid.in hM; have HT2 := Hid.in (HT1.out.trans hT); clear hM hT)
    rw [(HV5.out (by simp)).1, (HV5.out (by simp)).2.1]
    exact bodyPost_ret (v := .tuple #[.int .u32 ((0 : Nat) : Int), .bool false]) (by simp [results, Tryz.results28, go_sem]) rfl ⟨rfl, HM.out, HT2.out⟩
  by_cases h6 : c = 6
  · subst h6
    have HR : Hid (Calls Tryz.prog 67 #[.pointer (some ⟨p, 0, none⟩), .agg #[.int .i64 op, .int .u32 ad, .int .i64 sz, .int .u32 da]] X1 fun e w' => e = .returned (.tuple #[.int .u32 (M.srvV op ad sz : Nat), .bool (M.srvH op ad)]) ∧ Mx w0 w' B p hq cg n cap dv ov S len f (M.srv op ad sz da) ∧ Turned (Mine p dv ov) X1 w') := by
      rw [(HV6.out (by simp)).1, (HV6.out (by simp)).2.1, (HV6.out (by simp)).2.2]
      rcases HA.out with h | ⟨hs, ⟨at', h1, h2⟩ | h⟩
      · exact absurd HCC.out h.2.2
      · by_cases q1 : op = 46
        · subst q1
          have := xatomic_lr HK1.out ad at' sz da h1 h2 hs.1 hs.2 hl
          rw [if_neg (by decide), if_neg (by decide), if_pos rfl]
          unfold MS.rd
          rw [show (ad - 65536).toNat = at' by omega]
          exact this
        by_cases q2 : op = 47
        · subst q2
          have := xatomic_sc HK1.out ad at' sz da h1 h2 hs.1 hs.2 hl
          rw [if_pos rfl, if_pos rfl, if_neg (by decide), if_pos rfl, show (ad - 65536).toNat = at' by omega]
          exact this
        · have := xatomic_rmw HK1.out op ad at' sz da q1 q2 h1 h2 hs.1 hs.2 hl
          rw [if_neg q2, if_neg q2, if_neg q1, if_neg q2]
          unfold MS.rd
          rw [show (ad - 65536).toNat = at' by omega]
          exact this
      · have := HCC.out.symm.trans h.1
        omega
    go_wp2_with (go_at_call 67; refine HR.out.mono ?_; rintro e X2 ⟨rfl, hM, hT⟩; have HM := Hid.in hM; have HT2 := Hid.in (HT1.out.trans hT); clear hM hT)
    exact bodyPost_ret (v := .tuple #[.int .u32 (M.srvV op ad sz : Nat), .bool (M.srvH op ad)]) (by simp [results, Tryz.results28, go_sem]) rfl ⟨rfl, ⟨_, Or.inl rfl, HM.out⟩, HT2.out⟩
  · have d4 : (c == 4) = false := by simp; exact h4
    have d5 : (c == 5) = false := by simp; exact h5
    have d6 : (c == 6) = false := by simp; exact h6
    go_wp2
    rw [(HV7.out h4 h5 h6).1, (HV7.out h4 h5 h6).2.1, (HV7.out h4 h5 h6).2.2]
    exact bodyPost_ret (v := .tuple #[.int .u32 ((0 : Nat) : Int), .bool false]) (by simp [results, Tryz.results28, go_sem]) rfl ⟨rfl, ⟨_, Or.inl rfl, HK1.out⟩, HT1.out⟩
end Go.Proofs.YtengofkjlgajlaaGreatDoor
