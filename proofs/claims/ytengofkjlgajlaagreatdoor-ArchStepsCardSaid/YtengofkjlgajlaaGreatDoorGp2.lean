import Derived.Test.YtengofkjlgajlaaGreatDoorGp1
/-
  THE CHAPTER's TABLE, AS THE ANSWER LAYS IT.
-/
namespace Go.Proofs.YtengofkjlgajlaaGreatDoor
open Go Go.RowKit
/-- the names, the formats' letters, the codes of the answer's rows -/
def nameR : List ByteArray := [⟨#[108, 117, 105]⟩, ⟨#[97, 117, 105, 112, 99]⟩, ⟨#[106, 97, 108]⟩, ⟨#[106, 97, 108, 114]⟩, ⟨#[98, 101, 113]⟩, ⟨#[98, 110, 101]⟩, ⟨#[98, 108, 116]⟩, ⟨#[98, 103, 101]⟩, ⟨#[98, 108, 116, 117]⟩, ⟨#[98, 103, 101, 117]⟩, ⟨#[108, 98]⟩, ⟨#[108, 104]⟩, ⟨#[108, 119]⟩, ⟨#[108, 98, 117]⟩, ⟨#[108, 104, 117]⟩, ⟨#[115, 98]⟩, ⟨#[115, 104]⟩, ⟨#[115, 119]⟩, ⟨#[97, 100, 100, 105]⟩, ⟨#[115, 108, 116, 105]⟩, ⟨#[115, 108, 116, 105, 117]⟩, ⟨#[120, 111, 114, 105]⟩, ⟨#[111, 114, 105]⟩, ⟨#[97, 110, 100, 105]⟩, ⟨#[115, 108, 108, 105]⟩, ⟨#[115, 114, 108, 105]⟩, ⟨#[115, 114, 97, 105]⟩, ⟨#[97, 100, 100]⟩, ⟨#[115, 117, 98]⟩, ⟨#[115, 108, 108]⟩, ⟨#[115, 108, 116]⟩, ⟨#[115, 108, 116, 117]⟩, ⟨#[120, 111, 114]⟩, ⟨#[115, 114, 108]⟩, ⟨#[115, 114, 97]⟩, ⟨#[111, 114]⟩, ⟨#[97, 110, 100]⟩, ⟨#[109, 117, 108]⟩, ⟨#[109, 117, 108, 104]⟩, ⟨#[109, 117, 108, 104, 115, 117]⟩, ⟨#[109, 117, 108, 104, 117]⟩, ⟨#[100, 105, 118]⟩, ⟨#[100, 105, 118, 117]⟩, ⟨#[114, 101, 109]⟩, ⟨#[114, 101, 109, 117]⟩, ⟨#[108, 114, 46, 119]⟩, ⟨#[115, 99, 46, 119]⟩, ⟨#[97, 109, 111, 115, 119, 97, 112, 46, 119]⟩, ⟨#[97, 109, 111, 97, 100, 100, 46, 119]⟩, ⟨#[97, 109, 111, 120, 111, 114, 46, 119]⟩, ⟨#[97, 109, 111, 97, 110, 100, 46, 119]⟩, ⟨#[97, 109, 111, 111, 114, 46, 119]⟩, ⟨#[97, 109, 111, 109, 105, 110, 46, 119]⟩, ⟨#[97, 109, 111, 109, 97, 120, 46, 119]⟩, ⟨#[97, 109, 111, 109, 105, 110, 117, 46, 119]⟩, ⟨#[97, 109, 111, 109, 97, 120, 117, 46, 119]⟩, ⟨#[102, 101, 110, 99, 101]⟩, ⟨#[101, 99, 97, 108, 108]⟩, ⟨#[101, 98, 114, 101, 97, 107]⟩, ⟨#[109, 114, 101, 116]⟩, ⟨#[119, 102, 105]⟩, ⟨#[99, 115, 114, 114, 119]⟩, ⟨#[99, 115, 114, 114, 115]⟩, ⟨#[99, 115, 114, 114, 99]⟩, ⟨#[99, 115, 114, 114, 119, 105]⟩, ⟨#[99, 115, 114, 114, 115, 105]⟩, ⟨#[99, 115, 114, 114, 99, 105]⟩]
def letR : List Int := [85, 85, 74, 76, 66, 66, 66, 66, 66, 66, 76, 76, 76, 76, 76, 83, 83, 83, 73, 73, 73, 73, 73, 73, 72, 72, 72, 82, 82, 82, 82, 82, 82, 82, 82, 82, 82, 82, 82, 82, 82, 82, 82, 82, 82, 75, 65, 65, 65, 65, 65, 65, 65, 65, 65, 65, 70, 78, 78, 78, 78, 67, 67, 67, 68, 68, 68]
def codeR : List Int := [55, 23, 111, 103, 99, 99, 99, 99, 99, 99, 3, 3, 3, 3, 3, 35, 35, 35, 19, 19, 19, 19, 19, 19, 19, 19, 19, 51, 51, 51, 51, 51, 51, 51, 51, 51, 51, 51, 51, 51, 51, 51, 51, 51, 51, 47, 47, 47, 47, 47, 47, 47, 47, 47, 47, 47, 15, 115, 115, 115, 115, 115, 115, 115, 115, 115, 115]
def fR : List Int := [0, 0, 0, 0, 0, 1, 4, 5, 6, 7, 0, 1, 2, 4, 5, 0, 1, 2, 0, 2, 3, 4, 6, 7, 1, 5, 5, 0, 0, 1, 2, 3, 4, 5, 5, 6, 7, 0, 1, 2, 3, 4, 5, 6, 7, 2, 2, 2, 2, 2, 2, 2, 2, 2, 2, 2, 0, 0, 0, 0, 0, 1, 2, 3, 5, 6, 7]
def gR : List Int := [0, 0, 0, 0, 0, 0, 0, 0, 0, 0, 0, 0, 0, 0, 0, 0, 0, 0, 0, 0, 0, 0, 0, 0, 0, 0, 32, 0, 32, 0, 0, 0, 0, 0, 32, 0, 0, 1, 1, 1, 1, 1, 1, 1, 1, 2, 3, 1, 0, 4, 12, 8, 16, 20, 24, 28, 0, 0, 1, 770, 261, 0, 0, 0, 0, 0, 0]

def rowCells : Nat → List Value := fun i => [.string (nameR.getD i ⟨#[]⟩), .int .u8 (letR.getD i 0), .int .i64 (codeR.getD i 0), .int .i64 (fR.getD i 0), .int .i64 (gR.getD i 0)]
def allCells : Array Value := ((List.range 67).flatMap rowCells).toArray
/-- operations that only compute or make memory, one behind the other -/
def runOps (P : Program) (ops : Array Oper) : List Oper → Act → World → Option (Act × World)
  | [], a, w => some (a, w)
  | o :: rest, a, w => if Region.wanted o (yielded ops a.tmps) then
      match (execOp a.eval o).run P w with
      | .ok (.value v) w' => runOps P ops rest (a.put o.dst v) w'
      | .ok .skip w' => runOps P ops rest (a.put o.dst undef) w'
      | _ => none
    else runOps P ops rest (a.put o.dst undef) w
theorem wpList_of_runOps {P : Program} {ops : Array Oper} {Q : Exit → Act → World → Prop} : ∀ {l : List Oper} {a : Act} {w : World} {a' : Act} {w' : World}, runOps P ops l a w = some (a', w') → Q .normal a' w' → wpList P ops Q l a w
  | [], a, w, a', w', h, hQ => by
    simp only [runOps, Option.some.injEq, Prod.mk.injEq] at h
    obtain ⟨rfl, rfl⟩ := h
    exact hQ
  | o :: rest, a, w, a', w', h, hQ => by
    unfold runOps at h
    unfold wpList
    split at h
    · rename_i hw
      rw [if_pos hw]
      refine Or.inl ?_
      unfold Oper.wp
      split at h
      · rename_i e; rw [e]; exact wpList_of_runOps h hQ
      · rename_i e; rw [e]; exact wpList_of_runOps h hQ
      · cases h
    · rename_i hw
      rw [if_neg hw]
      exact wpList_of_runOps h hQ
def runCode (P : Program) : Code → Act → World → Option (Act × World)
  | .seq (.region _ ops false) rest, a, w => (runOps P ops ops.toList a w).bind fun x => runCode P rest x.1 x.2
  | .ret, a, w => some (a, w)
  | _, _, _ => none
theorem wp_of_runCode {P : Program} {Q : Exit → Act → World → Prop} : ∀ {c : Code} {a : Act} {w : World} {a' : Act} {w' : World}, runCode P c a w = some (a', w') → Q .ret a' w' → c.wp P Q a w
  | .seq (.region _ ops false) rest, a, w, a', w', h, hQ => by
    unfold runCode at h
    obtain ⟨⟨a1, w1⟩, h1, h2⟩ := Option.bind_eq_some_iff.1 h
    exact wp_seq (wp_region_list (wpList_of_runOps h1 (wp_of_runCode h2 hQ)))
  | .ret, a, w, a', w', h, hQ => by
    simp only [runCode, Option.some.injEq, Prod.mk.injEq] at h
    obtain ⟨rfl, rfl⟩ := h
    exact wp_ret hQ
def runFn (P : Program) (fn : Func) (args : Array Value) (w : World) : Option (Nat × World × Result Value) :=
  fn.body.bind fun c => (runCode P c { tmps := args ++ Array.replicate (fn.ntmps - args.size) undef, defers := [] } w).map fun x => (x.1.defers.length, x.2, (results fn x.1.tmps).run P x.2)
theorem calls_of_run {P : Program} {f : FuncId} {fn : Func} {args : Array Value} {w w' : World} {v : Value} (hf : P.funcs[f]? = some fn) (h : runFn P fn args w = some (0, w', .ok v w')) :
    Calls P f args w fun e w1 => e = .returned v ∧ w1 = w' := by
  unfold runFn at h
  obtain ⟨c, hc, h⟩ := Option.bind_eq_some_iff.1 h
  obtain ⟨⟨a1, w1⟩, h1, h2⟩ := Option.map_eq_some_iff.1 h
  simp only [Prod.mk.injEq] at h2
  obtain ⟨h3, rfl, h5⟩ := h2
  exact calls_of_wp hf hc (wp_of_runCode h1 (bodyPost_ret h5 (List.length_eq_zero_iff.1 h3) ⟨rfl, rfl⟩))
theorem rows_any (w : World) : Calls Tryz.prog 57 #[] w fun e w' => e = .returned (.slice (some ⟨w.heap.size, 0, none⟩) 67 67) ∧ w' = w.alloc (.cells allCells 118) :=
  calls_of_run Tryz.func57 (by kernel_rfl)
end Go.Proofs.YtengofkjlgajlaaGreatDoor
/-
  THE ANSWER's ROWS IN MEMORY; ITS CLASSES.
-/
namespace Go.Proofs.YtengofkjlgajlaaGreatDoor
open Go Go.RowKit
def nameAt (i : Nat) : ByteArray := nameR.getD i ⟨#[]⟩
def letAt (i : Nat) : Int := letR.getD i 0
def codeRAt (i : Nat) : Int := codeR.getD i 0
def fRAt (i : Nat) : Int := fR.getD i 0
def gRAt (i : Nat) : Int := gR.getD i 0
structure RowsAt (w : World) (b : Nat) : Prop where
  r0 : ∀ i : Nat, i < 67 → w.cell? ⟨b, i * 5, none⟩ = some (.string (nameAt i))
  r1 : ∀ i : Nat, i < 67 → w.cell? ⟨b, i * 5 + 1, none⟩ = some (.int .u8 (letAt i))
  r2 : ∀ i : Nat, i < 67 → w.cell? ⟨b, i * 5 + 2, none⟩ = some (.int .i64 (codeRAt i))
  r3 : ∀ i : Nat, i < 67 → w.cell? ⟨b, i * 5 + 3, none⟩ = some (.int .i64 (fRAt i))
  r4 : ∀ i : Nat, i < 67 → w.cell? ⟨b, i * 5 + 4, none⟩ = some (.int .i64 (gRAt i))
  here : b < w.heap.size
theorem RowsAt.below {w w' : World} {b B : Nat} (h : RowsAt w b) (hB : b < B) (hb : Below B w w') : RowsAt w' b := by
  have c : ∀ o v, w.cell? ⟨b, o, none⟩ = some v → w'.cell? ⟨b, o, none⟩ = some v := fun o v hv => by
    rw [hb.cell (p := ⟨b, o, none⟩) hB]; exact hv
  exact ⟨fun i hi => c _ _ (h.r0 i hi), fun i hi => c _ _ (h.r1 i hi), fun i hi => c _ _ (h.r2 i hi), fun i hi => c _ _ (h.r3 i hi), fun i hi => c _ _ (h.r4 i hi), Nat.lt_of_lt_of_le h.here hb.size⟩
theorem rowsAt_alloc (w : World) : RowsAt (w.alloc (.cells allCells 118)) w.heap.size := by
  have c : ∀ o, (w.alloc (.cells allCells 118)).cell? ⟨w.heap.size, o, none⟩ = allCells[o]? := fun o => by
    exact World.cell?_alloc_new w allCells 118 o
  refine ⟨?_, ?_, ?_, ?_, ?_, by simp⟩
  · exact fun i hi => (c _).trans (range_of 67 (fun i => allCells[i * 5]?) (fun i => some (Value.string (nameAt i))) (by kernel_rfl) i hi)
  · exact fun i hi => (c _).trans (range_of 67 (fun i => allCells[i * 5 + 1]?) (fun i => some (Value.int .u8 (letAt i))) (by kernel_rfl) i hi)
  · exact fun i hi => (c _).trans (range_of 67 (fun i => allCells[i * 5 + 2]?) (fun i => some (Value.int .i64 (codeRAt i))) (by kernel_rfl) i hi)
  · exact fun i hi => (c _).trans (range_of 67 (fun i => allCells[i * 5 + 3]?) (fun i => some (Value.int .i64 (fRAt i))) (by kernel_rfl) i hi)
  · exact fun i hi => (c _).trans (range_of 67 (fun i => allCells[i * 5 + 4]?) (fun i => some (Value.int .i64 (gRAt i))) (by kernel_rfl) i hi)
theorem rows_made (w : World) : Calls Tryz.prog 57 #[] w fun e w' => e = .returned (.slice (some ⟨w.heap.size, 0, none⟩) 67 67) ∧ RowsAt w' w.heap.size ∧ Below w.heap.size w w' ∧ w'.heap.size = w.heap.size + 1 :=
  (rows_any w).mono fun e w' ⟨he, hw⟩ => by
    subst hw
    exact ⟨he, rowsAt_alloc w, (Below.refl _ _).alloc (Nat.le_refl _) _, by simp⟩
/-- the answer's class, of a row's letter, code and g -/
def classR (L C G : Int) : Int := if L = 85 ∨ L = 73 ∨ L = 72 then 0 else if L = 82 then (if G = 1 then 1 else 0) else if L = 74 then 3 else if L = 76 then (if C = 103 then 3 else 4) else if L = 66 then 2 else if L = 83 then 5 else if L = 65 ∨ L = 75 then 6 else 7
def letters : List Int := [85, 74, 73, 76, 66, 83, 72, 82, 65, 75, 70, 78, 67, 68]
theorem let_mem (i : Nat) (hi : i < 67) : letAt i ∈ letters := by
  have : ∀ i, i < 67 → letAt i ∈ letters := by decide
  exact this i hi
theorem classR_none (op : Int) (w : World) (h : op < 1 ∨ 67 < op) : Calls Tryz.prog 29 #[.int .i64 op] w fun e w' => e = .returned (.int .i64 7) ∧ Below w.heap.size w w' := by
  by_cases h1 : op < 1
  · clear h
    go_enter Tryz.func29, Tryz.ntmps29
    go_wp2
    go_ret
    exact ⟨rfl, Below.refl _ _⟩
  · have h2 : 67 < op := by omega
    clear h
    go_enter Tryz.func29, Tryz.ntmps29
    go_wp2
    go_ret
    exact ⟨rfl, Below.refl _ _⟩
theorem ret_int {k : IntKind} {a b : Int} (h : a = b) : Ending.returned (.int k a) = .returned (.int k b) := by rw [h]
set_option maxHeartbeats 1000000 in
theorem classR_in (i : Nat) (hi : i < 67) (w : World) : Calls Tryz.prog 29 #[.int .i64 ((i : Int) + 1)] w fun e w' => e = .returned (.int .i64 (classR (letAt i) (codeRAt i) (gRAt i))) ∧ Below w.heap.size w w' := by
  have hm := let_mem i hi
  obtain ⟨L, h⟩ : ∃ L, letAt i = L := ⟨_, rfl⟩
  rw [h] at hm ⊢
  simp only [letters, List.mem_cons, List.not_mem_nil, or_false] at hm
  rcases hm with rfl | rfl | rfl | rfl | rfl | rfl | rfl | rfl | rfl | rfl | rfl | rfl | rfl | rfl
  all_goals
    go_enter Tryz.func29, Tryz.ntmps29
    go_wp2_with (go_at_call 57; refine (rows_made _).mono ?_; rintro e w' ⟨rfl, hR, hb, hz⟩; have c0 := hR.r0 i hi; have c1 := hR.r1 i hi; have c2 := hR.r2 i hi; have c3 := hR.r3 i hi; have c4 := hR.r4 i hi; rw [h] at c1; clear hR)
  all_goals
    go_ret
    exact ⟨ret_int (by simp_all [classR]), Below.alloc (by assumption) (by omega) _⟩
end Go.Proofs.YtengofkjlgajlaaGreatDoor
/-
  THE CHAPTER 'alu' IN PLAIN NUMBERS, AND THE ANSWER's SMALL FUNCTIONS.
-/
namespace Go.Proofs.YtengofkjlgajlaaGreatDoor
open Go Go.RowKit
def bitI (b : Bool) : Int := if b then 1 else 0
/-- what an operation computes, by its number -/
def exN : Nat → Int → Int → Int
  | 1, _, b => b * 4096 % 4294967296
  | 2, a, b => (a + b * 4096) % 4294967296
  | 19, a, b => (a + b) % 4294967296
  | 28, a, b => (a + b) % 4294967296
  | 29, a, b => (a - b) % 4294967296
  | 20, a, b => bitI (decide (wrap32 a < wrap32 b))
  | 31, a, b => bitI (decide (wrap32 a < wrap32 b))
  | 21, a, b => bitI (decide (a < b))
  | 32, a, b => bitI (decide (a < b))
  | 22, a, b => bits .xor .u32 a b
  | 33, a, b => bits .xor .u32 a b
  | 23, a, b => bits .or .u32 a b
  | 36, a, b => bits .or .u32 a b
  | 24, a, b => bits .and .u32 a b
  | 37, a, b => bits .and .u32 a b
  | 25, a, b => a * 2 ^ (b % 32).toNat % 4294967296
  | 30, a, b => a * 2 ^ (b % 32).toNat % 4294967296
  | 26, a, b => a / 2 ^ (b % 32).toNat
  | 34, a, b => a / 2 ^ (b % 32).toNat
  | 27, a, b => wrap32 a / 2 ^ (b % 32).toNat % 4294967296
  | 35, a, b => wrap32 a / 2 ^ (b % 32).toNat % 4294967296
  | 38, a, b => a * b % 4294967296
  | 39, a, b => wrap32 a * wrap32 b / 4294967296 % 4294967296
  | 40, a, b => wrap32 a * b / 4294967296 % 4294967296
  | 41, a, b => a * b / 4294967296 % 4294967296
  | 42, a, b => if b = 0 then 4294967295 else (wrap32 a).tdiv (wrap32 b) % 4294967296
  | 43, a, b => if b = 0 then 4294967295 else a / b
  | 44, a, b => if b = 0 then a else (wrap32 a).tmod (wrap32 b) % 4294967296
  | 45, a, b => if b = 0 then a else a % b
  | _, _, _ => 0
def exI (op a b : Int) : Int := if 0 ≤ op then exN op.toNat a b else 0
/-- is a branch taken, by its number -/
def tkN : Nat → Int → Int → Bool
  | 5, a, b => a == b
  | 6, a, b => a != b
  | 7, a, b => decide (wrap32 a < wrap32 b)
  | 8, a, b => decide (wrap32 b ≤ wrap32 a)
  | 9, a, b => decide (a < b)
  | 10, a, b => decide (b ≤ a)
  | _, _, _ => false
def tkI (op a b : Int) : Bool := if 0 ≤ op then tkN op.toNat a b else false
/-- how many bytes -/
def szN : Nat → Int
  | 11 => 1 | 14 => 1 | 16 => 1
  | 12 => 2 | 15 => 2 | 17 => 2
  | 13 => 4 | 18 => 4
  | 46 => 4 | 47 => 4 | 48 => 4 | 49 => 4 | 50 => 4 | 51 => 4 | 52 => 4 | 53 => 4 | 54 => 4 | 55 => 4 | 56 => 4
  | _ => 0
def szI (op : Int) : Int := if 0 ≤ op then szN op.toNat else 0
/-- a register's value of loaded bytes -/
def wdN : Nat → Int → Int
  | 11, r => ((r + 128) % 256 - 128) % 4294967296
  | 12, r => ((r + 32768) % 65536 - 32768) % 4294967296
  | 13, r => r
  | 14, r => r % 256
  | 15, r => r % 65536
  | 46, r => r | 47, r => r | 48, r => r | 49, r => r | 50, r => r | 51, r => r | 52, r => r | 53, r => r | 54, r => r | 55, r => r | 56, r => r
  | _, _ => 0
def wdI (op r : Int) : Int := if 0 ≤ op then wdN op.toNat r else 0
/-- what an atomic operation writes -/
def swN : Nat → Int → Int → Int
  | 47, _, b => b
  | 48, _, b => b
  | 49, o, b => (o + b) % 4294967296
  | 50, o, b => bits .xor .u32 o b
  | 51, o, b => bits .and .u32 o b
  | 52, o, b => bits .or .u32 o b
  | 53, o, b => if wrap32 o < wrap32 b then o else b
  | 54, o, b => if wrap32 o < wrap32 b then b else o
  | 55, o, b => if o < b then o else b
  | 56, o, b => if o < b then b else o
  | _, o, _ => o
def swI (op o b : Int) : Int := if 0 ≤ op then swN op.toNat o b else o

theorem w64_mod (z : Int) : wrap64 z % 4294967296 = z % 4294967296 := by unfold wrap64; omega
theorem w64_high (z : Int) : wrap64 z / 4294967296 % 4294967296 = z / 4294967296 % 4294967296 := by unfold wrap64; omega
theorem u64_high (z : Int) : IntKind.u64.wrap z / 4294967296 % 4294967296 = z / 4294967296 % 4294967296 := by rw [IntKind.wrap_u64]; omega
theorem w32_mod (z : Int) : wrap32 z % 4294967296 = z % 4294967296 := by unfold wrap32; omega
theorem w32_add (a b : Int) : (wrap32 a + wrap32 b) % 4294967296 = (a + b) % 4294967296 := by unfold wrap32; omega
theorem w32_sub (a b : Int) : (wrap32 a - wrap32 b) % 4294967296 = (a - b) % 4294967296 := by unfold wrap32; omega
theorem w32_mul (a b : Int) : wrap32 a * wrap32 b % 4294967296 = a * b % 4294967296 := by
  rw [Int.mul_emod, w32_mod, w32_mod, ← Int.mul_emod]
theorem wraps_u32 (n : Int) (h₀ : 0 ≤ n) (h₁ : n < 2 ^ 32) : IntKind.u32.wrap n = n := by rw [IntKind.wrap_u32]; omega
theorem and31 (b : Int) (h : 0 ≤ b ∧ b < 4294967296) : bits .and .u32 b 31 = b % 32 :=
  bits_mask .u32 32 (by decide) wraps_u32 5 (by decide) b h.1 (by omega)
theorem or_less_and (a b : Int) : (bits .or .u32 a b - bits .and .u32 a b) % 4294967296 = bits .xor .u32 a b := by
  have h : ∀ x y : BitVec 32, ((x ||| y).toNat : Int) - (x &&& y).toNat = ((x ^^^ y).toNat : Int) := fun x y => by
    have h1 : (x ^^^ y) + (x &&& y) = (x ^^^ y) ||| (x &&& y) := BitVec.add_eq_or_of_and_eq_zero _ _ (by ext i hi; simp; cases x[i] <;> cases y[i] <;> decide)
    have h2 : (x ^^^ y) ||| (x &&& y) = x ||| y := by ext i hi; simp; cases x[i] <;> cases y[i] <;> rfl
    have h3 : (x ^^^ y).toNat + (x &&& y).toNat < 2 ^ 32 := by
      have e : (x ^^^ y).toNat + (x &&& y).toNat = (x ||| y).toNat := by
        have := BitVec.toNat_add_of_and_eq_zero (x := x ^^^ y) (y := x &&& y) (by ext i hi; simp; cases x[i] <;> cases y[i] <;> decide)
        rw [← this, h1, h2]
      rw [e]; exact (x ||| y).isLt
    have h4 := congrArg BitVec.toNat (h1.trans h2)
    rw [BitVec.toNat_add, Nat.mod_eq_of_lt h3] at h4
    omega
  have hw : ∀ n : Nat, n < 2 ^ 32 → IntKind.u32.wrap (n : Int) = n := fun n hn => wraps_u32 _ (by omega) (by exact_mod_cast hn)
  have e1 : bits .or .u32 a b = ((BitVec.ofInt 32 a ||| BitVec.ofInt 32 b).toNat : Int) := hw _ (BitVec.isLt _)
  have e2 : bits .and .u32 a b = ((BitVec.ofInt 32 a &&& BitVec.ofInt 32 b).toNat : Int) := hw _ (BitVec.isLt _)
  have e3 : bits .xor .u32 a b = ((BitVec.ofInt 32 a ^^^ BitVec.ofInt 32 b).toNat : Int) := hw _ (BitVec.isLt _)
  rw [e1, e2, e3, h]
  have := (BitVec.ofInt 32 a ^^^ BitVec.ofInt 32 b).isLt
  omega
theorem shr_mod (a : Int) (n : Nat) (h : 0 ≤ a ∧ a < 4294967296) : a / 2 ^ n % 4294967296 = a / 2 ^ n := by
  have h1 : (0 : Int) ≤ a / 2 ^ n := Int.ediv_nonneg h.1 (Int.pow_nonneg (by decide))
  have h2 : a / 2 ^ n ≤ a := Int.ediv_le_self _ h.1
  omega

theorem udiv_mod (a b : Int) (h : 0 ≤ a ∧ a < 4294967296) (hb : 0 < b) : a / b % 4294967296 = a / b := by
  have h1 : (0 : Int) ≤ a / b := Int.ediv_nonneg h.1 (by omega)
  have h2 : a / b ≤ a := Int.ediv_le_self _ h.1
  omega
theorem below2 {a b c : World} (h : Below a.heap.size a b) (k : Below b.heap.size b c) : Below a.heap.size a c := h.trans (k.mono h.size)
/-- an operation's name in the answer -/
def nameOp (op : Int) : ByteArray := if 1 ≤ op ∧ op ≤ 67 then nameAt (op - 1).toNat else ⟨#[]⟩
theorem name_any (op : Int) (w : World) : Calls Tryz.prog 74 #[.int .i64 op] w fun e w' => e = .returned (.string (nameOp op)) ∧ Below w.heap.size w w' := by
  by_cases h1 : op < 1
  · rw [nameOp, if_neg (by omega)]
    go_enter Tryz.func74, Tryz.ntmps74
    go_wp2
    go_ret
    exact ⟨rfl, Below.refl _ _⟩
  · by_cases h2 : 67 < op
    · rw [nameOp, if_neg (by omega)]
      go_enter Tryz.func74, Tryz.ntmps74
      go_wp2
      go_ret
      exact ⟨rfl, Below.refl _ _⟩
    · obtain ⟨i, rfl⟩ : ∃ i : Nat, op = (i : Int) + 1 := ⟨(op - 1).toNat, by omega⟩
      have hi : i < 67 := by omega
      rw [nameOp, if_pos (by omega), show ((i : Int) + 1 - 1).toNat = i by omega]
      clear h1 h2
      go_enter Tryz.func74, Tryz.ntmps74
      go_wp2_with (go_at_call 57; refine (rows_made _).mono ?_; rintro e w' ⟨rfl, hR, hb, hz⟩; have c0 := hR.r0 i hi; clear hR)
      go_ret
      exact ⟨rfl, hb⟩
theorem signed3_any (a : Int) (w : World) : Calls Tryz.prog 88 #[.int .u32 a] w fun e w' => e = .returned (.int .i64 (wrap32 a)) ∧ w' = w := by
  go_enter Tryz.func88, Tryz.ntmps88
  go_wp2
  go_ret
  exact ⟨ret_int (by unfold wrap64 wrap32; omega), rfl⟩
theorem bit_any (b : Bool) (w : World) : Calls Tryz.prog 111 #[.bool b] w fun e w' => e = .returned (.int .u32 (bitI b)) ∧ w' = w := by
  cases b
  all_goals
    go_enter Tryz.func111, Tryz.ntmps111
    go_wp2
    go_ret
    exact ⟨rfl, rfl⟩
end Go.Proofs.YtengofkjlgajlaaGreatDoor
