import Derived.Test.YtemamhkhjijdlaaGreatDoorY26
import Derived.Test.YtemamhkhjijdlaaGreatDoorY23
import Derived.Test.YtemamhkhjijdlaaGreatDoorY19
import Derived.Test.YtemamhkhjijdlaaGreatDoorY25
import Derived.Test.YtemamhkhjijdlaaGreatDoorY24
import Derived.Test.YtemamhkhjijdlaaGreatDoorY27
/-
  CORE: the parts of a machine that runs one 'ecall'.
-/
namespace Go.Proofs.YtemamhkhjijdlaaGreatDoor
open Go Go.RowKit
theorem app1 (v : Value) (l : Array Value) : ∀ i, i < 1 → (#[v] ++ l)[i]? = some ((fun _ => v : Nat → Value) i) := fun i hi => by
  have : i = 0 := by omega
  subst this
  simp [Array.getElem?_append]
theorem hart_new (g cap : Nat) : ∀ i, i < 45 → (#[.int .u32 0, .int .u32 0, .int .u32 0, .int .u32 0, .int .u32 0, .int .u32 0, .int .u32 0, .int .u32 0, .int .u32 0, .slice (some ⟨g, 0, none⟩) 1 cap, .int .u32 0, .int .u32 0, .int .u32 0, .int .u32 0, .int .u32 0, .int .u32 0, .int .u32 0, .int .u32 0, .int .u32 0, .int .u32 0, .int .u32 0, .int .u32 0, .int .u32 0, .int .u32 0, .int .u32 0, .int .u32 0, .int .u32 0, .int .u32 0, .int .u32 0, .int .u32 0, .int .u32 0, .int .u32 0, .int .u32 0, .int .u32 0, .int .u32 0, .int .u32 0, .int .u32 0, .int .u32 0, .int .u32 0, .int .u32 0, .int .u32 0, .int .u32 0, .int .u32 0, .int .u32 0, .bool false] : Array Value)[i]? = some (hartF g cap false i) :=
  fun i hi => range_of 45 (fun i => (#[.int .u32 0, .int .u32 0, .int .u32 0, .int .u32 0, .int .u32 0, .int .u32 0, .int .u32 0, .int .u32 0, .int .u32 0, .slice (some ⟨g, 0, none⟩) 1 cap, .int .u32 0, .int .u32 0, .int .u32 0, .int .u32 0, .int .u32 0, .int .u32 0, .int .u32 0, .int .u32 0, .int .u32 0, .int .u32 0, .int .u32 0, .int .u32 0, .int .u32 0, .int .u32 0, .int .u32 0, .int .u32 0, .int .u32 0, .int .u32 0, .int .u32 0, .int .u32 0, .int .u32 0, .int .u32 0, .int .u32 0, .int .u32 0, .int .u32 0, .int .u32 0, .int .u32 0, .int .u32 0, .int .u32 0, .int .u32 0, .int .u32 0, .int .u32 0, .int .u32 0, .int .u32 0, .bool false] : Array Value)[i]?) (fun i => some (hartF g cap false i)) (by kernel_rfl) i hi
set_option maxRecDepth 100000 in
set_option maxHeartbeats 4000000 in
theorem fnewhart (w : World) (cb cp : Nat) (hc : w.cell? ⟨cb, 0, none⟩ = some (.int .u32 1048691)) : Calls Tryz.prog 20 #[.slice (some ⟨cb, 0, none⟩) 1 cp, .int .i64 0, .int .i64 0] w fun e w' => ∃ q g cap, e = .returned (.tuple #[.pointer (some ⟨q, 0, none⟩), .nilIface]) ∧ CellsAt 45 w' q (hartF g cap false) ∧ CellsAt 1 w' g (fun _ => .int .u32 1048691) ∧ w.heap.size ≤ q ∧ w.heap.size ≤ g ∧ q ≠ g ∧ Below w.heap.size w w' := by
  have hcb : ¬ (281474976710656 < Builtin.nextslicecap 1 0 * Tryz.t43.bytes) := by decide
  go_enter Tryz.func20, Tryz.ntmps20
  go_wp2_with fail
  refine bodyPost_ret (v := .tuple #[.pointer (some ⟨w.heap.size + 1, 0, none⟩), .nilIface]) (by simp [results, Tryz.results20, go_sem]) rfl ⟨w.heap.size + 1, w.heap.size, (Question.appendCap 1 0 43).cut (w.tape w.drawn (Question.appendCap 1 0 43)), rfl, ?_, ?_, by omega, Nat.le_refl _, by omega, ?_⟩
  · rw [← World.size_alloc]
    exact (cells_new _ (hart_new _ _)).drew
  · exact ((cells_new w (app1 _ _)).alloc _).drew
  · exact (((Below.refl _ _).alloc (Nat.le_refl _) _).alloc (by simp) _).drew
theorem info_in : (Tryz.prog.info? 199).map (fun i => (i.zero, i.size, i.bytes)) = some (some (.agg #[.int .i64 0, .int .i64 0, .int .i64 0, .int .i64 0, .int .i64 0]), 5, 40) := by kernel_rfl
theorem make_in (u : World) : (Instr.makeSlice 141 (.int .i64 1) (.int .i64 1)).run Tryz.prog u = .ok (.slice (some ⟨u.heap.size, 0, none⟩) 1 1) (u.alloc (.cells #[.int .i64 0, .int .i64 0, .int .i64 0, .int .i64 0, .int .i64 0] 199)) := by
  obtain ⟨i, h1, h2, h3, h4⟩ := info_parts_lsq info_in
  have q := run_make (P := Tryz.prog) u 141 199 i (.agg #[.int .i64 0, .int .i64 0, .int .i64 0, .int .i64 0, .int .i64 0]) Tryz.underlying141 h1 h2 .i64 .i64 1 1 (by omega) (by omega) (by rw [h4]; omega) (by omega)
  rw [h3] at q
  refine q.trans ?_
  rw [show (madeCells (Value.agg #[.int .i64 0, .int .i64 0, .int .i64 0, .int .i64 0, .int .i64 0]).cells (Int.toNat 1 * 5)) = #[.int .i64 0, .int .i64 0, .int .i64 0, .int .i64 0, .int .i64 0] by kernel_rfl]
  rfl
theorem zero5 : ∀ i, i < 5 → (#[.int .i64 0, .int .i64 0, .int .i64 0, .int .i64 0, .int .i64 0] : Array Value)[i]? = some ((fun _ => .int .i64 0 : Nat → Value) i)
  | 0, _ => rfl
  | 1, _ => rfl
  | 2, _ => rfl
  | 3, _ => rfl
  | 4, _ => rfl
set_option maxRecDepth 100000 in
set_option maxHeartbeats 4000000 in
theorem fdecoded (w : World) (hL : Laid w) (cb cp : Nat) (hb : cb < w.heap.size) (hc : w.cell? ⟨cb, 0, none⟩ = some (.int .u32 1048691)) : Calls Tryz.prog 40 #[.slice (some ⟨cb, 0, none⟩) 1 cp] w fun e w' => ∃ q, e = .returned (.slice (some ⟨q, 0, none⟩) 1 1) ∧ CellsAt 5 w' q ebk ∧ w.heap.size ≤ q ∧ Below w.heap.size w w' := by
  have HL := Hid.in hL
  clear hL
  have hmk := make_in
  go_enter Tryz.func40, Tryz.ntmps40
  go_wp2_with fail
  refine wp_loop_rounds 2 ?_
  rw [rounds_succ]
  go_upto_region 5 with fail
  obtain ⟨X, hX⟩ : ∃ X, w.alloc (.cells #[.int .i64 0, .int .i64 0, .int .i64 0, .int .i64 0, .int .i64 0] 199) = X := ⟨_, rfl⟩
  obtain ⟨q, hq⟩ : ∃ q, w.heap.size = q := ⟨_, rfl⟩
  have kX : CellsAt 5 X q (fun _ => .int .i64 0) := by rw [← hX, ← hq]; exact cells_new w zero5
  have bX : Below w.heap.size w X := by rw [← hX]; exact (Below.refl _ _).alloc (Nat.le_refl _) _
  have HD := Hid.in (decE X (HL.out.below bX))
  have HK := Hid.in kX
  have HB := Hid.in bX
  rw [hX, hq]
  have HQ := Hid.in hq
  clear hX kX bX hc hmk hq
  go_wp2_with (go_at_call 64; go_must (refine HD.out.mono ?_; rintro e y ⟨rfl, hb1⟩; have k1 := HK.out.below hb1; have y0 : y.cell? ⟨q, 0, none⟩ = some (.int .i64 0) := k1.cell 0 (by decide); have y1 : y.cell? ⟨q, 1, none⟩ = some (.int .i64 0) := k1.cell 1 (by decide); have y2 : y.cell? ⟨q, 2, none⟩ = some (.int .i64 0) := k1.cell 2 (by decide); have y3 : y.cell? ⟨q, 3, none⟩ = some (.int .i64 0) := k1.cell 3 (by decide); have y4 : y.cell? ⟨q, 4, none⟩ = some (.int .i64 0) := k1.cell 4 (by decide); have yf := k1.free; have yh := k1.here; have HK1 := Hid.in k1; have HB1 := Hid.in (HB.out.trans (hb1.mono HB.out.size)); clear hb1 k1))
  rw [rounds_succ]
  go_wp2_with fail
  go_ret
  have e9 : w.heap.size ≤ q := Nat.le_of_eq HQ.out
  refine ⟨q, rfl, ?_, e9, ((((HB1.out.setCell (show w.heap.size ≤ q from e9) _).setCell (show w.heap.size ≤ q from e9) _).setCell (show w.heap.size ≤ q from e9) _).setCell (show w.heap.size ≤ q from e9) _).setCell (show w.heap.size ≤ q from e9) _⟩
  refine (((((HK1.out.set 0 (by decide) _).set 1 (by decide) _).set 2 (by decide) _).set 3 (by decide) _).set 4 (by decide) _).ext (fun i hi => ?_)
  match i, hi with
  | 0, _ => rfl
  | 1, _ => rfl
  | 2, _ => rfl
  | 3, _ => rfl
  | 4, _ => rfl
theorem fwithin2 (n a b : Int) (w : World) {r : Bool} (h : decide (a ≤ n ∧ n ≤ b) = r) : Calls Tryz.prog 11 #[.int .i64 n, .int .i64 a, .int .i64 b] w fun e w' => e = .returned (.bool r) ∧ w' = w := by
  subst h
  exact fwithin n a b w
set_option maxRecDepth 100000 in
set_option maxHeartbeats 4000000 in
theorem fbounds (c : Cf) (w : World) : Calls Tryz.prog 33 #[.agg c.arr] w fun e w' => e = .returned (.bool c.inB) ∧ Below w.heap.size w w' := by
  obtain ⟨r1, h1⟩ : ∃ r, decide (1 ≤ c.width ∧ c.width ≤ 4) = r := ⟨_, rfl⟩
  obtain ⟨r2, h2⟩ : ∃ r, decide (1 ≤ c.units ∧ c.units ≤ 4) = r := ⟨_, rfl⟩
  obtain ⟨r3, h3⟩ : ∃ r, decide (1 ≤ c.mul ∧ c.mul ≤ 10) = r := ⟨_, rfl⟩
  obtain ⟨r4, h4⟩ : ∃ r, decide (0 ≤ c.bus ∧ c.bus ≤ 10) = r := ⟨_, rfl⟩
  unfold Cf.inB Cf.arr
  rw [h1, h2, h3, h4]
  have H1 := Hid.in h1
  have H2 := Hid.in h2
  have H3 := Hid.in h3
  have H4 := Hid.in h4
  clear h1 h2 h3 h4
  cases r1 <;> cases r2 <;> cases r3
  all_goals
    go_enter Tryz.func33, Tryz.ntmps33
    go_wp2_with (go_at_call 11; go_must (refine (fwithin _ _ _ _).mono ?_; rintro e w1 ⟨rfl, hw⟩; have hw2 := hw.symm; clear hw; subst hw2; first | rw [H1.out] | rw [H2.out] | rw [H3.out] | rw [H4.out]))
    go_ret
    exact ⟨by simp, (Below.refl _ _).alloc (Nat.le_refl _) _⟩
end Go.Proofs.YtemamhkhjijdlaaGreatDoor
/-
  CORE: the board is made.
-/
namespace Go.Proofs.YtemamhkhjijdlaaGreatDoor
open Go Go.RowKit
/-- a program, as it is handed on -/
def progF (kb kc : Nat) (c : Cf) : Nat → Value
  | 0 => .slice (some ⟨kb, 0, none⟩) 1 kc
  | 1 => .int .i64 c.width
  | 2 => .int .i64 c.window
  | 3 => .int .i64 c.queue
  | 4 => .int .i64 c.regs
  | 5 => .int .i64 c.units
  | 6 => .int .i64 c.mul
  | 7 => .bool c.bold
  | 8 => .int .i64 c.kind
  | 9 => .int .i64 c.bits
  | 10 => .int .i64 c.hist
  | 11 => .int .i64 c.tg
  | 12 => .int .i64 c.ret
  | 13 => .int .i64 c.sets
  | 14 => .int .i64 c.ways
  | 15 => .int .i64 c.bus
  | _ => .slice none 0 0
def newBd (c : Cf) : BS := newG 1 c.bus.toNat (toN (fun _ => c.sets)) (toN (fun _ => c.ways)) 0 (fun _ => 0)
theorem newBd_cg (c : Cf) (h : okB c) : Cg (newBd c) (fun _ => 0) := by
  obtain ⟨h1, h2, h3, h4, h5⟩ := h
  have hL : ∀ i e, ¬ ((newBd c).c i).L e := by
    rintro i e ⟨q, _, he⟩
    cases he
  have hn : 1 ≤ c.sets.toNat := by
    unfold isN at h1
    omega
  refine ⟨⟨Nat.le_refl 1, (by decide : 1 ≤ 2)⟩, ⟨(by decide : 0 ≤ 4096), (by decide : 0 % 16 = 0)⟩, fun i _ => ⟨hn, (by omega : 1 ≤ c.ways.toNat), fun q _ e he => (by cases he), fun q _ => ?_⟩, ⟨fun i e he => absurd he.2 (hL i e), fun i e e' he => absurd he.2 (hL i e), fun i j e e' _ he => absurd he.2 (hL i e), fun o ho => absurd ho (Nat.not_lt_zero _), fun i e he => absurd he.2 (hL i e), fun a b hb => by cases hb⟩, fun _ => (by decide : 0 < 256)⟩
  exact List.Pairwise.nil
theorem brd_new {x : World} {b gp : Nat} {F : Nat → Prop} (h : CellsAt 10 x b (brdF gp (.slice none 0 0) 0 (.slice none 0 0) 0 0)) (hF : ∀ z, F z → z < x.heap.size ∧ z ≠ b) : BrdC b gp ⟨[], [], 0⟩ x F := by
  refine ⟨fun k => if k = 0 then CelC b 10 (brdF gp (.slice none 0 0) 0 (.slice none 0 0) 0 0) else NoC, .slice none 0 0, .slice none 0 0, fun k => ?_, ⟨fun _ => 0, fun k => ?_, fun z hz => (hF z hz).1⟩, rfl, Or.inl ⟨rfl, rfl⟩, Or.inl ⟨rfl, rfl⟩⟩
  · show Comp (if k = 0 then CelC b 10 (brdF gp (.slice none 0 0) 0 (.slice none 0 0) 0 0) else NoC)
    by_cases q : k = 0
    · rw [if_pos q]; exact celC_comp _ _ _
    · rw [if_neg q]; exact noC_comp
  · show (if k = 0 then CelC b 10 (brdF gp (.slice none 0 0) 0 (.slice none 0 0) 0 0) else NoC) x _
    by_cases q : k = 0
    · rw [if_pos q]
      subst q
      refine ⟨h, fun z hz => ?_⟩
      rcases hz with hz | hz
      · exact absurd rfl hz.2
      · exact hF z hz
    · rw [if_neg q]; trivial
theorem upd_comp {C : Nat → World → (Nat → Prop) → Prop} (h : ∀ k, Comp (C k)) (j : Nat) {c : World → (Nat → Prop) → Prop} (hc : Comp c) : ∀ k, Comp (upd C j c k) := fun k => by
  by_cases q : k = j
  · subst q; rw [upd_same]; exact hc
  · rw [upd_other _ _ _ _ q]; exact h k
def shF (c : Cf) : Nat → Value
  | 0 => .int .i64 c.sets
  | _ => .int .i64 c.ways
theorem sh_new (c : Cf) (l : Array Value) : ∀ i, i < 2 → (#[.int .i64 c.sets, .int .i64 c.ways] ++ l)[i]? = some (shF c i) := fun i hi => by
  match i, hi with
  | 0, _ => simp [Array.getElem?_append, shF]
  | 1, _ => simp [Array.getElem?_append, shF]
theorem brd_arr (gp : Nat) : ∀ i, i < 10 → (#[.pointer (some ⟨gp, 0, none⟩), .slice none 0 0, .int .i64 0, .slice none 0 0, .int .i64 0, .int .u32 0, .int .i64 0, .slice none 0 0, .int .u32 0, .int .u32 0] : Array Value)[i]? = some (brdF gp (.slice none 0 0) 0 (.slice none 0 0) 0 0 i) := fun i hi => by
  match i, hi with
  | 0, _ => rfl
  | 1, _ => rfl
  | 2, _ => rfl
  | 3, _ => rfl
  | 4, _ => rfl
  | 5, _ => rfl
  | 6, _ => rfl
  | 7, _ => rfl
  | 8, _ => rfl
  | 9, _ => rfl
theorem prog_new (kb kc : Nat) (c : Cf) : ∀ i, i < 17 → (#[.slice (some ⟨kb, 0, none⟩) 1 kc, .int .i64 c.width, .int .i64 c.window, .int .i64 c.queue, .int .i64 c.regs, .int .i64 c.units, .int .i64 c.mul, .bool c.bold, .int .i64 c.kind, .int .i64 c.bits, .int .i64 c.hist, .int .i64 c.tg, .int .i64 c.ret, .int .i64 c.sets, .int .i64 c.ways, .int .i64 c.bus, .slice none 0 0] : Array Value)[i]? = some (progF kb kc c i) := fun i hi => range_of 17 (fun i => (#[.slice (some ⟨kb, 0, none⟩) 1 kc, .int .i64 c.width, .int .i64 c.window, .int .i64 c.queue, .int .i64 c.regs, .int .i64 c.units, .int .i64 c.mul, .bool c.bold, .int .i64 c.kind, .int .i64 c.bits, .int .i64 c.hist, .int .i64 c.tg, .int .i64 c.ret, .int .i64 c.sets, .int .i64 c.ways, .int .i64 c.bus, .slice none 0 0] : Array Value)[i]?) (fun i => some (progF kb kc c i)) (by kernel_rfl) i hi
theorem cells17 {x : World} {pb kb kc : Nat} {c : Cf} (h : CellsAt 17 x pb (progF kb kc c)) : x.cell? ⟨pb, 0, none⟩ = some (.slice (some ⟨kb, 0, none⟩) 1 kc) ∧ x.cell? ⟨pb, 1, none⟩ = some (.int .i64 c.width) ∧ x.cell? ⟨pb, 2, none⟩ = some (.int .i64 c.window) ∧ x.cell? ⟨pb, 3, none⟩ = some (.int .i64 c.queue) ∧ x.cell? ⟨pb, 4, none⟩ = some (.int .i64 c.regs) ∧ x.cell? ⟨pb, 5, none⟩ = some (.int .i64 c.units) ∧ x.cell? ⟨pb, 6, none⟩ = some (.int .i64 c.mul) ∧ x.cell? ⟨pb, 7, none⟩ = some (.bool c.bold) ∧ x.cell? ⟨pb, 8, none⟩ = some (.int .i64 c.kind) ∧ x.cell? ⟨pb, 9, none⟩ = some (.int .i64 c.bits) ∧ x.cell? ⟨pb, 10, none⟩ = some (.int .i64 c.hist) ∧ x.cell? ⟨pb, 11, none⟩ = some (.int .i64 c.tg) ∧ x.cell? ⟨pb, 12, none⟩ = some (.int .i64 c.ret) ∧ x.cell? ⟨pb, 13, none⟩ = some (.int .i64 c.sets) ∧ x.cell? ⟨pb, 14, none⟩ = some (.int .i64 c.ways) ∧ x.cell? ⟨pb, 15, none⟩ = some (.int .i64 c.bus) ∧ x.cell? ⟨pb, 16, none⟩ = some (.slice none 0 0) := ⟨h.cell 0 (by decide), h.cell 1 (by decide), h.cell 2 (by decide), h.cell 3 (by decide), h.cell 4 (by decide), h.cell 5 (by decide), h.cell 6 (by decide), h.cell 7 (by decide), h.cell 8 (by decide), h.cell 9 (by decide), h.cell 10 (by decide), h.cell 11 (by decide), h.cell 12 (by decide), h.cell 13 (by decide), h.cell 14 (by decide), h.cell 15 (by decide), h.cell 16 (by decide)⟩
set_option maxRecDepth 100000 in
set_option maxHeartbeats 4000000 in
theorem fboard (x : World) (pb cp kb kc : Nat) (c : Cf) (h : CellsAt 17 x pb (progF kb kc c)) (h64 : -9223372036854775808 ≤ c.sets ∧ c.sets ≤ 9223372036854775807) : Calls Tryz.prog 21 #[.slice (some ⟨pb, 0, none⟩) 1 cp, .slice none 0 0] x fun e y => Below x.heap.size x y ∧ ((¬ okB c ∧ e = .returned (.tuple #[.pointer none, errV 2])) ∨ (okB c ∧ ∃ (b : Nat) (g : Bn), e = .returned (.tuple #[.pointer (some ⟨b, 0, none⟩), .nilIface]) ∧ x.heap.size ≤ b ∧ ∀ C : Nat → World → (Nat → Prop) → Prop, (∀ k, Comp (C k)) → Side C x → Side (upd (upd C 4 (BusC g 0 (newBd c))) 8 (BrdC b g.p ⟨[], [], 0⟩)) y)) := by
  obtain ⟨a0, a1, a2, a3, a4, a5, a6, a7, a8, a9, a10, a11, a12, a13, a14, a15, a16⟩ := cells17 h
  have ah := h.here
  have hcb : ¬ (281474976710656 < Builtin.nextslicecap 1 0 * Tryz.t27.bytes) := by decide
  have H64 := Hid.in h64
  have HH := Hid.in h
  clear h h64
  go_enter Tryz.func21, Tryz.ntmps21
  go_wp2_with fail
  refine wp_loop_rounds 2 ?_
  rw [rounds_succ]
  go_wp2_with fail
  rw [rounds_succ]
  go_upto_region 7 with fail
  obtain ⟨X, hX⟩ : ∃ X, (((x.alloc (.cells #[.slice (some ⟨kb, 0, none⟩) 1 kc, .int .i64 c.width, .int .i64 c.window, .int .i64 c.queue, .int .i64 c.regs, .int .i64 c.units, .int .i64 c.mul, .bool c.bold, .int .i64 c.kind, .int .i64 c.bits, .int .i64 c.hist, .int .i64 c.tg, .int .i64 c.ret, .int .i64 c.sets, .int .i64 c.ways, .int .i64 c.bus, .slice none 0 0] 51)).alloc (.cells #[.int .i64 c.sets, .int .i64 c.ways] 27)).alloc (.cells (#[.int .i64 c.sets, .int .i64 c.ways] ++ Builtin.zeroCells #[.int .i64 0, .int .i64 0] ((Question.appendCap 1 0 27).cut (x.tape x.drawn (Question.appendCap 1 0 27)) - 1)) 27)).drew = X := ⟨_, rfl⟩
  obtain ⟨sb, hsb⟩ : ∃ sb, x.heap.size + 1 + 1 = sb := ⟨_, rfl⟩
  have bX : Below x.heap.size x X := by
    rw [← hX]
    exact ((((Below.refl _ _).alloc (Nat.le_refl _) _).alloc (by simp) _).alloc (by simp; omega) _).drew
  have kX : CellsAt 2 X sb (shF c) := by
    rw [← hX, ← hsb]
    have q := (cells_new (n := 2) (t := 27) ((x.alloc (.cells #[.slice (some ⟨kb, 0, none⟩) 1 kc, .int .i64 c.width, .int .i64 c.window, .int .i64 c.queue, .int .i64 c.regs, .int .i64 c.units, .int .i64 c.mul, .bool c.bold, .int .i64 c.kind, .int .i64 c.bits, .int .i64 c.hist, .int .i64 c.tg, .int .i64 c.ret, .int .i64 c.sets, .int .i64 c.ways, .int .i64 c.bus, .slice none 0 0] 51)).alloc (.cells #[.int .i64 c.sets, .int .i64 c.ways] 27)) (sh_new c (Builtin.zeroCells #[.int .i64 0, .int .i64 0] ((Question.appendCap 1 0 27).cut (x.tape x.drawn (Question.appendCap 1 0 27)) - 1)))).drew
    rw [World.size_alloc, World.size_alloc] at q
    exact q
  have b15 : X.cell? ⟨pb, 15, none⟩ = some (.int .i64 c.bus) := (HH.out.below bX).cell 15 (by decide)
  have bh := (HH.out.below bX).here
  have HB := Hid.in bX
  have HK := Hid.in kX
  rw [hX, hsb]
  clear hX hsb bX kX a0 a1 a2 a3 a4 a5 a6 a7 a8 a9 a10 a11 a12 a13 a14 a15 a16 ah hcb
  by_cases hbus : 0 ≤ c.bus ∧ c.bus ≤ 10
  · have HN : Hid (Calls Tryz.prog 32 #[.slice (some ⟨sb, 0, none⟩) 1 ((Question.appendCap 1 0 27).cut (x.tape x.drawn (Question.appendCap 1 0 27))), .int .i64 c.bus, .slice none 0 0] X (NewP X 1 (fun _ => c.sets) (fun _ => c.ways) c.bus.toNat 0 (fun _ => 0))) := Hid.in (by
      have q := unewG X sb ((Question.appendCap 1 0 27).cut (x.tape x.drawn (Question.appendCap 1 0 27))) 1 (fun _ => c.sets) (fun _ => c.ways) c.bus.toNat none 0 0 (fun _ => 0) ⟨Nat.le_refl _, by decide⟩ (fun i hi => by
        have : i = 0 := by omega
        subst this
        exact ⟨HK.out.cell 0 (by decide), HK.out.cell 1 (by decide)⟩) (fun _ _ => H64.out) HK.out.here (by omega) (fun i hi => absurd hi (Nat.not_lt_zero _)) (fun _ => rfl) (fun _ => by decide)
      rw [Int.toNat_of_nonneg hbus.1] at q
      exact q)
    by_cases hsh : shOk (fun _ => c.sets) (fun _ => c.ways) 0
    · have HOK : Hid (okB c) := Hid.in ⟨hsh.1, hsh.2.1, hsh.2.2, hbus.1, hbus.2⟩
      have HG : Hid (Calls Tryz.prog 32 #[.slice (some ⟨sb, 0, none⟩) 1 ((Question.appendCap 1 0 27).cut (x.tape x.drawn (Question.appendCap 1 0 27))), .int .i64 c.bus, .slice none 0 0] X fun e y => ∃ g : Bn, e = .returned (.tuple #[.pointer (some ⟨g.p, 0, none⟩), .nilIface]) ∧ Below X.heap.size X y ∧ Bu y g (fun j => j < X.heap.size) 0 (newBd c)) := Hid.in (by
        refine HN.out.mono ?_
        rintro e y ⟨hy, hs⟩
        rcases hs with ⟨⟨i, hi, hn⟩, _⟩ | ⟨_, hd, _⟩ | ⟨_, _, g, he, hb⟩
        · have : i = 0 := by omega
          subst this
          exact absurd hsh hn
        · exact absurd ⟨rfl, by decide⟩ hd
        · exact ⟨g, he, hy, hb⟩)
      clear hbus hsh HN
      go_wp2_with (go_at_call 32; go_must (refine HG.out.mono ?_; rintro e y ⟨g, rfl, hy, hs⟩; have HY := Hid.in hy; have HS := Hid.in hs; clear hy hs))
      refine bodyPost_ret (v := .tuple #[.pointer (some ⟨y.heap.size, 0, none⟩), .nilIface]) (by simp [results, Tryz.results21, go_sem]) rfl ?_
      refine ⟨(HB.out.trans (HY.out.mono HB.out.size)).alloc (Nat.le_trans HB.out.size HY.out.size) _, Or.inr ⟨HOK.out, y.heap.size, g, rfl, Nat.le_trans HB.out.size HY.out.size, fun C hC hS => ?_⟩⟩
      have s1 := Side.below 0 hC hS HB.out
      have s2 : Side (upd C 4 (BusC g 0 (newBd c))) y := Side.born 4 hC s1 HY.out (by rw [upd_same]; exact busC_comp _ _ _) (by rw [upd_same]; exact HS.out) (fun j hj => upd_other _ _ _ _ hj)
      have c2 := upd_comp hC 4 (busC_comp g 0 (newBd c))
      refine Side.born 8 c2 s2 ((Below.refl _ _).alloc (Nat.le_refl _) _) (by rw [upd_same]; exact brdC_comp _ _ _) ?_ (fun j hj => upd_other _ _ _ _ hj)
      rw [upd_same]
      exact brd_new (cells_new y (brd_arr g.p)) (fun z hz => ⟨by simp; omega, by omega⟩)
    · have HOK : Hid (¬ okB c) := Hid.in (fun q => hsh ⟨q.1, q.2.1, q.2.2.1⟩)
      have HG : Hid (Calls Tryz.prog 32 #[.slice (some ⟨sb, 0, none⟩) 1 ((Question.appendCap 1 0 27).cut (x.tape x.drawn (Question.appendCap 1 0 27))), .int .i64 c.bus, .slice none 0 0] X fun e y => e = .returned (.tuple #[.pointer none, errV 2]) ∧ Below X.heap.size X y) := Hid.in (by
        refine HN.out.mono ?_
        rintro e y ⟨hy, hs⟩
        rcases hs with ⟨_, he⟩ | ⟨hn, _⟩ | ⟨hn, _⟩
        · exact ⟨he, hy⟩
        · exact absurd (hn 0 (by decide)) hsh
        · exact absurd (hn 0 (by decide)) hsh)
      clear hbus hsh HN
      go_wp2_with (go_at_call 32; go_must (refine HG.out.mono ?_; rintro e y ⟨rfl, hy⟩; have HY := Hid.in hy; clear hy; unfold errV))
      refine bodyPost_ret (v := .tuple #[.pointer none, errV 2]) (by simp [results, Tryz.results21, go_sem, errV]) rfl ?_
      exact ⟨HB.out.trans (HY.out.mono HB.out.size), Or.inl ⟨HOK.out, rfl⟩⟩
  · have HN := Hid.in (unew_conf X (some ⟨sb, 0, none⟩) 1 ((Question.appendCap 1 0 27).cut (x.tape x.drawn (Question.appendCap 1 0 27))) c.bus none 0 0 (fun q => hbus ⟨q.2.2.1, q.2.2.2⟩))
    have HBUS := Hid.in hbus
    clear hbus
    go_wp2_with (go_at_call 32; go_must (refine HN.out.mono ?_; rintro e y ⟨rfl, hy⟩; have hw2 := hy.symm; clear hy; subst hw2; unfold errV))
    refine bodyPost_ret (v := .tuple #[.pointer none, errV 2]) (by simp [results, Tryz.results21, go_sem, errV]) rfl ?_
    exact ⟨HB.out, Or.inl ⟨fun q => HBUS.out ⟨q.2.2.2.1, q.2.2.2.2⟩, rfl⟩⟩
end Go.Proofs.YtemamhkhjijdlaaGreatDoor
