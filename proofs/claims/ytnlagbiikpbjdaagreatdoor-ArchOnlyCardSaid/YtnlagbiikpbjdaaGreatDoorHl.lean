/-
  THE ANSWER's HART: the next instruction.
-/
import Derived.Test.YtnlagbiikpbjdaaGreatDoorHk
namespace Go.Proofs.YtnlagbiikpbjdaaGreatDoor
open Go Go.RowKit
/-- what a word is decoded to -/
structure Dec where
  op : Nat
  rd : Nat
  rs1 : Nat
  rs2 : Nat
  imm : Int
  ok : Bool
def Dec.val (d : Dec) : Value := .agg #[.int .i64 d.op, .int .i64 d.rd, .int .i64 d.rs1, .int .i64 d.rs2, .int .i64 d.imm]
def noDec : Dec := ⟨0, 0, 0, 0, 0, false⟩
structure DecOk (D : Int → Dec) : Prop where
  calls : ∀ (x : Int) (w : World), U32 x → Calls Tryz.prog 92 #[.int .u32 x] w fun e w' => e = .returned (.tuple #[(D x).val, .bool (D x).ok]) ∧ Below w.heap.size w w'
  good : ∀ x : Int, U32 x → (D x).ok = true → 1 ≤ (D x).op ∧ (D x).op ≤ 67 ∧ (D x).rd < 32 ∧ (D x).rs1 < 32 ∧ (D x).rs2 < 32
/-- a hart's code in memory -/
structure CodeAt (w : World) (cb co n : Nat) (f : Nat → Int) : Prop where
  here : cb < w.heap.size
  cell : ∀ i, i < n → w.cell? ⟨cb, co + i, none⟩ = some (.int .u32 (f i))
  word : ∀ i, i < n → U32 (f i)
theorem CodeAt.below {w w' : World} {cb co n : Nat} {f : Nat → Int} (h : CodeAt w cb co n f) (hb : Below w.heap.size w w') : CodeAt w' cb co n f :=
  ⟨Nat.lt_of_lt_of_le h.here hb.size, fun i hi => (hb.cell (p := ⟨cb, co + i, none⟩) h.here).trans (h.cell i hi), h.word⟩
/-- the next instruction and its word -/
def HS.fetchD (S : HS) (D : Int → Dec) (n : Nat) (f : Nat → Int) : Dec := if S.pc / 4 < n then D (f (S.pc / 4).toNat) else noDec
def HS.fetchW (S : HS) (n : Nat) (f : Nat → Int) : Int := if S.pc / 4 < n then f (S.pc / 4).toNat else 0
set_option maxHeartbeats 2000000 in
theorem fetch_none (b : Nat) (S : HS) (cb co n cp : Nat) (w : World) (h : RH w b S) (hp : U32 S.pc) (hc : S.code = .slice (some ⟨cb, co, none⟩) n cp) (hn : n ≤ 4096) (hk : ¬ S.pc / 4 < n) : Calls Tryz.prog 57 #[.pointer (some ⟨b, 0, none⟩)] w fun e w' => e = .returned (.tuple #[noDec.val, .int .u32 0, .bool false]) ∧ Below w.heap.size w w' := by
  have cpc : w.cell? ⟨b, 3, none⟩ = some (.int .u32 S.pc) := h.cell 3 (by decide)
  have ccode : w.cell? ⟨b, 0, none⟩ = some (.slice (some ⟨cb, co, none⟩) n cp) := hc ▸ h.cell 0 (by decide)
  have h3 := h.here
  clear h
  go_enter Tryz.func57, Tryz.ntmps57
  go_wp2
  exact bodyPost_ret (v := .tuple #[noDec.val, .int .u32 0, .bool false]) (by simp [results, Tryz.results57, go_sem, noDec, Dec.val]) rfl ⟨rfl, (Below.refl _ _).alloc (Nat.le_refl _) _⟩
set_option maxHeartbeats 2000000 in
theorem fetch_some {D : Int → Dec} (HD : DecOk D) (b : Nat) (S : HS) (cb co n cp : Nat) (f : Nat → Int) (w : World) (h : RH w b S) (hp : U32 S.pc) (hc : S.code = .slice (some ⟨cb, co, none⟩) n cp) (hC : CodeAt w cb co n f) (hn : n ≤ 4096) (k : Nat) (hk : S.pc / 4 = k) (hkn : k < n) : Calls Tryz.prog 57 #[.pointer (some ⟨b, 0, none⟩)] w fun e w' => e = .returned (.tuple #[(D (f k)).val, .int .u32 (f k), .bool (D (f k)).ok]) ∧ Below w.heap.size w w' := by
  have cpc : w.cell? ⟨b, 3, none⟩ = some (.int .u32 S.pc) := h.cell 3 (by decide)
  have ccode : w.cell? ⟨b, 0, none⟩ = some (.slice (some ⟨cb, co, none⟩) n cp) := hc ▸ h.cell 0 (by decide)
  have h3 := h.here
  have cw := hC.cell k hkn
  have hch := hC.here
  have hu := hC.word k hkn
  clear h
  go_enter Tryz.func57, Tryz.ntmps57
  go_wp2_with (first | (go_at_call 92; refine (HD.calls _ _ hu).mono ?_; rintro e w1 ⟨rfl, hb1⟩; obtain ⟨k1, k2, k3, k4⟩ := keepB hb1; have cpc1 : w1.cell? ⟨b, 3, none⟩ = some (.int .u32 S.pc) := (k4.cell (p := ⟨b, 3, none⟩) h3).trans cpc; have ccode1 : w1.cell? ⟨b, 0, none⟩ = some (.slice (some ⟨cb, co, none⟩) n cp) := (k4.cell (p := ⟨b, 0, none⟩) h3).trans ccode; have cw1 := (k4.cell (p := ⟨cb, co + k, none⟩) hch).trans cw; have h31 := Nat.lt_of_lt_of_le h3 k4.size; have hch1 := Nat.lt_of_lt_of_le hch k4.size; unfold Dec.val))
  go_region
  go_wp2
  refine bodyPost_ret (v := .tuple #[(D (f k)).val, .int .u32 (f k), .bool (D (f k)).ok]) (by simp [results, Tryz.results57, go_sem, k1, k3, Dec.val]) rfl ⟨rfl, ?_⟩
  have q : Below w.heap.size w w1 := k4
  first
    | exact (((((((q.setCell (Nat.le_refl _) _).setCell (Nat.le_refl _) _).setCell (Nat.le_refl _) _).setCell (Nat.le_refl _) _).setCell (Nat.le_refl _) _).alloc (by simp [World.setCell]; omega) _)).drew
    | exact (((((((q.alloc (by omega) _).setCell (Nat.le_refl _) _).setCell (Nat.le_refl _) _).setCell (Nat.le_refl _) _).setCell (Nat.le_refl _) _).setCell (Nat.le_refl _) _)).drew
theorem fetch_any {D : Int → Dec} (HD : DecOk D) (b : Nat) (S : HS) (cb co n cp : Nat) (f : Nat → Int) (w : World) (h : RH w b S) (hp : U32 S.pc) (hc : S.code = .slice (some ⟨cb, co, none⟩) n cp) (hC : CodeAt w cb co n f) (hn : n ≤ 4096) : Calls Tryz.prog 57 #[.pointer (some ⟨b, 0, none⟩)] w fun e w' => e = .returned (.tuple #[(S.fetchD D n f).val, .int .u32 (S.fetchW n f), .bool (S.fetchD D n f).ok]) ∧ Below w.heap.size w w' := by
  unfold HS.fetchD HS.fetchW
  by_cases hk : S.pc / 4 < n
  · rw [if_pos hk, if_pos hk]
    exact fetch_some HD b S cb co n cp f w h hp hc hC hn (S.pc / 4).toNat (by have := hp.1; omega) (by have := hp.1; omega)
  · rw [if_neg hk, if_neg hk]
    exact fetch_none b S cb co n cp w h hp hc hn hk
end Go.Proofs.YtnlagbiikpbjdaaGreatDoor
