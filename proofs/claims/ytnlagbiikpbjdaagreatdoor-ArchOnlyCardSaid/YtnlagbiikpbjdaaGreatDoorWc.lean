/-
  THE ANSWER's ROWS IN MEMORY; ITS CLASSES.
-/
import Derived.Test.YtnlagbiikpbjdaaGreatDoorWb
namespace Go.Proofs.YtnlagbiikpbjdaaGreatDoor
open Go Go.RowKit
def nameAt (i : Nat) : ByteArray := nameR.getD i ⟨#[]⟩
def letAt (i : Nat) : Int := letR.getD i 0
def codeRAt (i : Nat) : Int := codeR.getD i 0
def fRAt (i : Nat) : Int := fR.getD i 0
def gRAt (i : Nat) : Int := gR.getD i 0
structure RowsAt (w : World) (b : Nat) : Prop where
  r0 : ∀ i : Nat, i < 67 → w.cell? ⟨b, i * 5, none⟩ = some (.string (nameAt i))
  r1 : ∀ i : Nat, i < 67 → w.cell? ⟨b, i * 5 + 1, none⟩ = some (.int .u8 (letAt i))
  r2 : ∀ i : Nat, i < 67 → w.cell? ⟨b, i * 5 + 2, none⟩ = some (.int .i64 (codeRAt i))
  r3 : ∀ i : Nat, i < 67 → w.cell? ⟨b, i * 5 + 3, none⟩ = some (.int .i64 (fRAt i))
  r4 : ∀ i : Nat, i < 67 → w.cell? ⟨b, i * 5 + 4, none⟩ = some (.int .i64 (gRAt i))
  here : b < w.heap.size
theorem RowsAt.below {w w' : World} {b B : Nat} (h : RowsAt w b) (hB : b < B) (hb : Below B w w') : RowsAt w' b := by
  have c : ∀ o v, w.cell? ⟨b, o, none⟩ = some v → w'.cell? ⟨b, o, none⟩ = some v := fun o v hv => by
    rw [hb.cell (p := ⟨b, o, none⟩) hB]; exact hv
  exact ⟨fun i hi => c _ _ (h.r0 i hi), fun i hi => c _ _ (h.r1 i hi), fun i hi => c _ _ (h.r2 i hi), fun i hi => c _ _ (h.r3 i hi), fun i hi => c _ _ (h.r4 i hi), Nat.lt_of_lt_of_le h.here hb.size⟩
theorem rowsAt_alloc (w : World) : RowsAt (w.alloc (.cells allCells 131)) w.heap.size := by
  have c : ∀ o, (w.alloc (.cells allCells 131)).cell? ⟨w.heap.size, o, none⟩ = allCells[o]? := fun o => by
    exact World.cell?_alloc_new w allCells 131 o
  refine ⟨?_, ?_, ?_, ?_, ?_, by simp⟩
  · exact fun i hi => (c _).trans (range_of 67 (fun i => allCells[i * 5]?) (fun i => some (Value.string (nameAt i))) (by kernel_rfl) i hi)
  · exact fun i hi => (c _).trans (range_of 67 (fun i => allCells[i * 5 + 1]?) (fun i => some (Value.int .u8 (letAt i))) (by kernel_rfl) i hi)
  · exact fun i hi => (c _).trans (range_of 67 (fun i => allCells[i * 5 + 2]?) (fun i => some (Value.int .i64 (codeRAt i))) (by kernel_rfl) i hi)
  · exact fun i hi => (c _).trans (range_of 67 (fun i => allCells[i * 5 + 3]?) (fun i => some (Value.int .i64 (fRAt i))) (by kernel_rfl) i hi)
  · exact fun i hi => (c _).trans (range_of 67 (fun i => allCells[i * 5 + 4]?) (fun i => some (Value.int .i64 (gRAt i))) (by kernel_rfl) i hi)
theorem rows_made (w : World) : Calls Tryz.prog 61 #[] w fun e w' => e = .returned (.slice (some ⟨w.heap.size, 0, none⟩) 67 67) ∧ RowsAt w' w.heap.size ∧ Below w.heap.size w w' ∧ w'.heap.size = w.heap.size + 1 :=
  (rows_any w).mono fun e w' ⟨he, hw⟩ => by
    subst hw
    exact ⟨he, rowsAt_alloc w, (Below.refl _ _).alloc (Nat.le_refl _) _, by simp⟩
/-- the answer's class, of a row's letter, code and g -/
def classR (L C G : Int) : Int := if L = 85 ∨ L = 73 ∨ L = 72 then 0 else if L = 82 then (if G = 1 then 1 else 0) else if L = 74 then 3 else if L = 76 then (if C = 103 then 3 else 4) else if L = 66 then 2 else if L = 83 then 5 else if L = 65 ∨ L = 75 then 6 else 7
def letters : List Int := [85, 74, 73, 76, 66, 83, 72, 82, 65, 75, 70, 78, 67, 68]
theorem let_mem (i : Nat) (hi : i < 67) : letAt i ∈ letters := by
  have : ∀ i, i < 67 → letAt i ∈ letters := by decide
  exact this i hi
theorem bcell {W w1 : World} (hb : Below W.heap.size W w1) : (∀ b o, b < W.heap.size → w1.cell? ⟨b, o, none⟩ = W.cell? ⟨b, o, none⟩) ∧ (∀ b o, b < W.heap.size → w1.frozen? ⟨b, o, none⟩ = W.frozen? ⟨b, o, none⟩) :=
  ⟨fun b o h => hb.cell (p := ⟨b, o, none⟩) h, fun b o h => hb.frozen (p := ⟨b, o, none⟩) h⟩
theorem classR_none (op : Int) (w : World) (h : op < 1 ∨ 67 < op) : Calls Tryz.prog 30 #[.int .i64 op] w fun e w' => e = .returned (.int .i64 7) ∧ Below w.heap.size w w' := by
  by_cases h1 : op < 1
  · clear h
    go_enter Tryz.func30, Tryz.ntmps30
    go_wp2
    go_ret
    exact ⟨rfl, Below.refl _ _⟩
  · have h2 : 67 < op := by omega
    clear h
    go_enter Tryz.func30, Tryz.ntmps30
    go_wp2
    go_ret
    exact ⟨rfl, Below.refl _ _⟩
theorem ret_int {k : IntKind} {a b : Int} (h : a = b) : Ending.returned (.int k a) = .returned (.int k b) := by rw [h]
theorem ret_bool {a b : Bool} (h : a = b) : Ending.returned (.bool a) = .returned (.bool b) := by rw [h]
set_option maxHeartbeats 1000000 in
theorem classR_in (i : Nat) (hi : i < 67) (w : World) : Calls Tryz.prog 30 #[.int .i64 ((i : Int) + 1)] w fun e w' => e = .returned (.int .i64 (classR (letAt i) (codeRAt i) (gRAt i))) ∧ Below w.heap.size w w' := by
  have hm := let_mem i hi
  obtain ⟨L, h⟩ : ∃ L, letAt i = L := ⟨_, rfl⟩
  rw [h] at hm ⊢
  simp only [letters, List.mem_cons, List.not_mem_nil, or_false] at hm
  rcases hm with rfl | rfl | rfl | rfl | rfl | rfl | rfl | rfl | rfl | rfl | rfl | rfl | rfl | rfl
  all_goals
    go_enter Tryz.func30, Tryz.ntmps30
    go_wp2_with (go_at_call 61; refine (rows_made _).mono ?_; rintro e w' ⟨rfl, hR, hb, hz⟩; have c0 := hR.r0 i hi; have c1 := hR.r1 i hi; have c2 := hR.r2 i hi; have c3 := hR.r3 i hi; have c4 := hR.r4 i hi; rw [h] at c1; clear hR)
  all_goals
    go_ret
    exact ⟨ret_int (by simp_all [classR]), Below.alloc (by assumption) (by omega) _⟩
end Go.Proofs.YtnlagbiikpbjdaaGreatDoor
