import Derived.Test.YtengofkjlgajlaaGreatDoorGn1
import Derived.Test.YtengofkjlgajlaaGreatDoorGm3
import Derived.Laws.CopyRow
import Derived.Laws.MakeOwn
import Derived.Test.YtengofkjlgajlaaGreatDoorGh7
/-
  THE ANSWER's MACHINE: what it copies.
-/
namespace Go.Proofs.YtengofkjlgajlaaGreatDoor
open Go Go.RowKit
theorem frz {w : World} {b : Nat} {c : Array Value} {t : TypeId} (h : w.heap[b]? = some (.cells c t (0, 0))) (o : Nat) : w.frozen? ⟨b, o, none⟩ = false := by
  simp only [World.frozen?, h]
  simp
theorem rmade (x : World) (len : Nat) (hl : len ≤ 4096) : (Instr.makeSlice 23 (.int .i64 len) (.int .i64 len)).run Tryz.prog x = .ok (.slice (some ⟨x.heap.size, 0, none⟩) len len) (x.alloc (.cells (madeCells #[.int .u8 0] len) 5)) := by
  obtain ⟨i, h1, h2, h3, h4⟩ := info_parts (show (Tryz.prog.info? 5).map (fun i => (i.zero, i.size, i.bytes)) = some (some (.int .u8 0), 1, 1) by kernel_rfl)
  have q := run_makeSlice (P := Tryz.prog) x 23 5 i (.int .u8 0) Tryz.underlying23 h1 h2 .i64 .i64 len len (by omega) (Int.le_refl _) (by rw [h3]; omega) (by rw [h4]; omega) (by omega)
  rw [h3] at q
  simpa [Value.cells] using q
theorem rcopied (x : World) (q : Option Addr) (len dc : Nat) (mem : Nat → Nat) (hD : DatN x q len mem) (hq0 : q = none → dc = 0) : ∃ y, (Builtin.copy_ #[23, 23] 3 #[.slice (some ⟨x.heap.size, 0, none⟩) len len, .slice q len dc]).run Tryz.prog (x.alloc (.cells (madeCells #[.int .u8 0] len) 5)) = .ok (goInt len) y ∧ Below x.heap.size x y ∧ Row8 y x.heap.size len mem := by
  have bA : Below x.heap.size x (x.alloc (.cells (madeCells #[.int .u8 0] len) 5)) := (Below.refl _ _).alloc (Nat.le_refl _) _
  have hs : (Tryz.prog.info? 5).map (·.size) = some 1 := by kernel_rfl
  have hg0 : ∀ l, (x.alloc (.cells (madeCells #[.int .u8 0] l) 5)).heap[x.heap.size]? = some (.cells (madeCells #[.int .u8 0] l) 5 (0, 0)) := fun l => by
    show (x.heap.push _)[x.heap.size]? = _
    simp
  cases q with
  | none =>
    obtain rfl : len = 0 := by
      rcases Nat.eq_zero_or_pos len with h | h
      · exact h
      · obtain ⟨c, o, h1, -⟩ := hD 0 h
        cases h1
    obtain rfl := hq0 rfl
    refine ⟨_, run_copy_nil (P := Tryz.prog) _ 23 23 3 5 ⟨x.heap.size, 0, none⟩ 0 0 Tryz.underlying23 (by cases h : Tryz.prog.info? 5 <;> simp_all), bA, by simp, fun o ho => by omega, fun o => ?_⟩
    exact frz (hg0 0) o
  | some a =>
    have hD' := hD.below bA
    have hg := hg0 len
    have hz : (madeCells #[Value.int .u8 0] len).size = len := size_madeCells _ _
    have hr := run_copy_row (P := Tryz.prog) _ 23 23 3 5 x.heap.size 0 len len a len dc _ _ ((List.range len).map fun i => .int .u8 (mem i : Nat)) Tryz.underlying23 hs hg (by simp) (fun j u hj => by
      have hjn : j < len := by
        have := (List.getElem?_eq_some_iff.1 hj).1
        simpa using this
      rw [List.getElem?_map, List.getElem?_range hjn] at hj
      obtain ⟨c, o, h1, h2, h3⟩ := hD' j hjn
      obtain rfl := Option.some.inj h1
      rw [Addr.add_lit, h3]
      exact hj) (by simp [hz]) (by
      intro u hu
      obtain ⟨i, _, rfl⟩ := List.mem_map.1 hu
      rfl)
    refine ⟨_, by simpa using hr, below_setRow bA (Nat.le_refl _) _, ?_, fun o ho => ?_, fun o => ?_⟩
    · exact (Array.getElem?_eq_some_iff.1 (setRow_heap _ _ _ _ _ _ hg)).1
    · rw [cell_setRow_same _ _ o _ _ _ _ hg]
      simp [List.getElem?_append, ho]
    · exact frz (setRow_heap _ _ _ _ _ _ hg) o
end Go.Proofs.YtengofkjlgajlaaGreatDoor
/-
  THE ANSWER's MACHINE IN MEMORY; a new one.
-/
namespace Go.Proofs.YtengofkjlgajlaaGreatDoor
open Go Go.RowKit
def rmv (hq db len dc : Nat) (M : MS) : Nat → Value
  | 0 => .pointer (some ⟨hq, 0, none⟩)
  | 1 => .slice (some ⟨db, 0, none⟩) len dc
  | 2 => .string (strOfNums M.out)
  | 3 => .bool M.line
  | _ => .int .u32 M.res
/-- the answer's machine: its block, its hart, its data -/
structure Rx (w : World) (p hq db len dc : Nat) (S : HS) (M : MS) : Prop where
  c : CellsAt 5 w p (rmv hq db len dc M)
  h : RH w hq S
  d : Row8 w db len M.mem
  n1 : p ≠ hq ∧ p ≠ db ∧ hq ≠ db
  m8 : ∀ o, M.mem o < 256
section
variable {w w' : World} {p hq db len dc : Nat} {S S' : HS} {M : MS}
theorem Rx.turned {Q : Nat → Prop} (k : Rx w p hq db len dc S M) (t : Turned Q w w') (h1 : ¬ Q p) (h2 : ¬ Q hq) (h3 : ¬ Q db) : Rx w' p hq db len dc S M := ⟨t.cells k.c h1, t.cells k.h h2, t.cells k.d h3, k.n1, k.m8⟩
theorem Rx.below (k : Rx w p hq db len dc S M) (hb : Below w.heap.size w w') : Rx w' p hq db len dc S M := ⟨k.c.below hb, k.h.below hb, k.d.below hb, k.n1, k.m8⟩
theorem Rx.hart (k : Rx w p hq db len dc S M) (t : Only hq w w') (h : RH w' hq S') : Rx w' p hq db len dc S' M := by
  have t := Turned.of_only t
  exact ⟨t.cells k.c k.n1.1, h, t.cells k.d (fun e => k.n1.2.2 e.symm), k.n1, k.m8⟩
theorem Rx.dat {mem : Nat → Nat} (k : Rx w p hq db len dc S M) (t : Only db w w') (h : Row8 w' db len mem) (h8 : ∀ o, mem o < 256) : Rx w' p hq db len dc S { M with mem := mem } := by
  have t := Turned.of_only t
  refine ⟨?_, t.cells k.h k.n1.2.2, h, k.n1, h8⟩
  have := t.cells k.c k.n1.2.1
  exact ⟨this.here, fun o ho => by rw [this.cell o ho]; match o, ho with | 0, _ => rfl | 1, _ => rfl | 2, _ => rfl | 3, _ => rfl | 4, _ => rfl, this.free⟩
theorem Rx.put (k : Rx w p hq db len dc S M) {M' : MS} (hm : M'.mem = M.mem) (i : Nat) (hi : i < 5) (v : Value) (hc : ∀ o, o < 5 → upd (rmv hq db len dc M) i v o = rmv hq db len dc M' o) : Rx (w.setCell ⟨p, i, none⟩ v) p hq db len dc S M' := by
  have t := Turned.of_only ((Only.refl p w).set i v)
  have c := k.c.set i hi v
  exact ⟨⟨c.here, fun o ho => by rw [c.cell o ho, hc o ho], c.free⟩, t.cells k.h (fun e => k.n1.1 e.symm), by rw [hm]; exact t.cells k.d (fun e => k.n1.2.1 e.symm), k.n1, by rw [hm]; exact k.m8⟩
theorem Rx.res (k : Rx w p hq db len dc S M) (v : Int) : Rx (w.setCell ⟨p, 4, none⟩ (.int .u32 v)) p hq db len dc S { M with res := v } := k.put (M' := { M with res := v }) rfl 4 (by decide) _ (fun o ho => by match o, ho with | 0, _ => rfl | 1, _ => rfl | 2, _ => rfl | 3, _ => rfl | 4, _ => rfl)
theorem Rx.line (k : Rx w p hq db len dc S M) (v : Bool) : Rx (w.setCell ⟨p, 3, none⟩ (.bool v)) p hq db len dc S { M with line := v } := k.put (M' := { M with line := v }) rfl 3 (by decide) _ (fun o ho => by match o, ho with | 0, _ => rfl | 1, _ => rfl | 2, _ => rfl | 3, _ => rfl | 4, _ => rfl)
theorem Rx.out (k : Rx w p hq db len dc S M) (l : List Int) : Rx (w.setCell ⟨p, 2, none⟩ (.string (strOfNums l))) p hq db len dc S { M with out := l } := k.put (M' := { M with out := l }) rfl 2 (by decide) _ (fun o ho => by match o, ho with | 0, _ => rfl | 1, _ => rfl | 2, _ => rfl | 3, _ => rfl | 4, _ => rfl)
theorem Rx.at (k : Rx w p hq db len dc S M) : p < w.heap.size ∧ hq < w.heap.size ∧ db < w.heap.size := ⟨k.c.here, k.h.here, k.d.here⟩
end
theorem wpl_make {P : Program} {ops : Array Oper} {Q : Exit → Act → World → Prop} {rest : List Oper} {o : Oper} {a : Act} {w w' : World} {s x : Operand} {t : TypeId} {v u v' : Value} (hg : o.guard = none) (ho : o.op = Op.makeSlice t s x) (hs : a.eval s = v) (hx : a.eval x = u) (hr : (Instr.makeSlice t v u).run P w = .ok v' w') (h : wpList P ops Q rest (a.put o.dst v') w') : wpList P ops Q (o :: rest) a w := by
  unfold wpList
  rw [if_pos (by unfold Region.wanted; rw [hg])]
  refine Or.inl ?_
  unfold Oper.wp
  simp [execOp, ho, hs, hx, hr, Result.andThen]
  exact h
set_option maxRecDepth 100000 in
set_option maxHeartbeats 1000000 in
theorem rmnew_bad (p : Option Addr) (n cp : Nat) (q : Option Addr) (len dc : Nat) (w : World) (h : imageB n len = false) : Calls Tryz.prog 6 #[.slice p n cp, .slice q len dc] w fun e w' => e = .returned (.tuple #[.pointer none, .int .i64 1]) ∧ w' = w := by
  have HN : Hid (Calls Tryz.prog 19 #[.slice p n cp, .int .i64 len, .int .i64 0] w fun e w' => e = .returned (.tuple #[.pointer none, .int .i64 1]) ∧ w' = w) := by
    have e : newE n len 0 = 1 := by unfold newE; rw [h]; rfl
    have := new_bad p n cp len 0 w (by rw [e]; decide)
    rw [e] at this
    exact this
  clear h
  go_enter Tryz.func6, Tryz.ntmps6
  go_wp2_with (go_at_call 19; refine HN.out.mono ?_; rintro e x ⟨rfl, hx⟩; have hx2 := hx.symm; clear hx; subst hx2)
  exact bodyPost_ret (v := .tuple #[.pointer none, .int .i64 1]) (by simp [results, Tryz.results6, go_sem]) rfl ⟨rfl, rfl⟩
set_option maxRecDepth 100000 in
set_option maxHeartbeats 1000000 in
theorem rmnew_good (p : Option Addr) (n cp : Nat) (q : Option Addr) (len dc : Nat) (w : World) (h : imageB n len = true) (hl : len ≤ 4096) (mem : Nat → Nat) (hm8 : ∀ o, mem o < 256) (hD : DatN w q len mem) (hq0 : q = none → dc = 0) : Calls Tryz.prog 6 #[.slice p n cp, .slice q len dc] w fun e w' => ∃ r hr db, e = .returned (.tuple #[.pointer (some ⟨r, 0, none⟩), .int .i64 0]) ∧ Rx w' r hr db len len (newH (.slice p n cp) len 0) ⟨mem, [], 0, false⟩ ∧ (w.heap.size ≤ r ∧ w.heap.size ≤ hr ∧ w.heap.size ≤ db) ∧ Below w.heap.size w w' := by
  have HN : Hid (Calls Tryz.prog 19 #[.slice p n cp, .int .i64 len, .int .i64 0] w fun e w' => e = .returned (.tuple #[.pointer (some ⟨w.heap.size, 0, none⟩), .int .i64 0]) ∧ RH w' w.heap.size (newH (.slice p n cp) len 0) ∧ Below w.heap.size w w') := new_good p n cp len 0 w (by unfold newE; rw [h]; rfl)
  have HMK : Hid (∀ x : World, (Instr.makeSlice 23 (.int .i64 len) (.int .i64 len)).run Tryz.prog x = .ok (.slice (some ⟨x.heap.size, 0, none⟩) len len) (x.alloc (.cells (madeCells #[.int .u8 0] len) 5))) := fun x => rmade x len hl
  have HCP : Hid (∀ x, Below w.heap.size w x → ∃ y, (Builtin.copy_ #[23, 23] 3 #[.slice (some ⟨x.heap.size, 0, none⟩) len len, .slice q len dc]).run Tryz.prog (x.alloc (.cells (madeCells #[.int .u8 0] len) 5)) = .ok (goInt len) y ∧ Below x.heap.size x y ∧ Row8 y x.heap.size len mem) := fun x hx => rcopied x q len dc mem (hD.below hx) hq0
  obtain ⟨hb, hhb⟩ : ∃ hb, w.heap.size = hb := ⟨_, rfl⟩
  rw [hhb] at HN
  have HHB := Hid.in hhb
  clear h hl hD hq0 hhb
  go_enter Tryz.func6, Tryz.ntmps6
  go_upto_region 4 with (go_at_call 19; refine HN.out.mono ?_; rintro e X1 ⟨rfl, h1, h2⟩; have HK1 := Hid.in h1; have HK2 := Hid.in h2; clear h1 h2)
  obtain ⟨Y, hcp, hbY, hrow⟩ := HCP.out X1 (by rw [HHB.out]; exact HK2.out)
  have HRUN := Hid.in hcp
  have HBY := Hid.in hbY
  have HROW := Hid.in hrow
  clear hcp hbY hrow
  go_wp2_with (refine wpl_make (v := .int .i64 len) (u := .int .i64 len) rfl rfl rfl rfl (HMK.out _) ?_)
  rw [HRUN.out]
  go_wp2
  have bZ : Below Y.heap.size Y (Y.alloc (.cells #[.pointer (some ⟨hb, 0, none⟩), .slice (some ⟨X1.heap.size, 0, none⟩) len len, .string ⟨#[]⟩, .bool false, .int .u32 0] 38)) := (Below.refl _ _).alloc (Nat.le_refl _) _
  have l1 := HK1.out.here
  have l2 := HROW.out.here
  have l3 := HBY.out.size
  have l4 := HK2.out.size
  have l5 := HHB.out
  have bAll : Below w.heap.size w Y := below2 (by rw [HHB.out]; exact HK2.out) HBY.out
  refine bodyPost_ret (v := .tuple #[.pointer (some ⟨Y.heap.size, 0, none⟩), .int .i64 0]) (by simp [results, Tryz.results6, go_sem]) rfl ⟨_, hb, X1.heap.size, rfl, ⟨cells_new Y (fun i hi => ?_), (HK1.out.below HBY.out).below bZ, HROW.out.below bZ, ⟨by omega, by omega, by omega⟩, hm8⟩, ⟨by omega, by omega, by omega⟩, below2 bAll bZ⟩
  match i, hi with
  | 0, _ => rfl
  | 1, _ => rfl
  | 2, _ => rfl
  | 3, _ => rfl
  | 4, _ => rfl
end Go.Proofs.YtengofkjlgajlaaGreatDoor
/-
  ArchSteps: both machines side by side in memory.
-/
namespace Go.Proofs.YtengofkjlgajlaaGreatDoor
open Go Go.RowKit
theorem Mx.turned {w0 w w' : World} {B p hq cg n cap len : Nat} {dv ov : Value} {S : HS} {f : Nat → Int} {M : MS} {Q : Nat → Prop} (k : Mx w0 w B p hq cg n cap dv ov S len f M) (t : Turned Q w w') (h1 : ¬ Q p) (h2 : ¬ Q hq) (h3 : ¬ Q cg) (h4 : ∀ j, dv.ownBlock = some j → ¬ Q j) (h5 : ∀ j, ov.ownBlock = some j → ¬ Q j) (h6 : ∀ j, Q j → B ≤ j) : Mx w0 w' B p hq cg n cap dv ov S len f M := by
  refine ⟨t.cells k.c h1, t.cells k.h h2, k.code.turned t h3, ?_, own_turned k.o t h5, k.n1, k.n2, k.lo, k.low.trans (t.below (Nat.le_trans k.lo.1 (Nat.le_of_lt k.c.here)) h6), k.m8⟩
  rcases k.d with h | ⟨db, dc, e1, e2, e3, e4⟩
  · exact Or.inl h
  · exact Or.inr ⟨db, dc, e1, e2, t.cells e3 (h4 db (by rw [e1]; rfl)), e4⟩
theorem Mx.dlo {w0 w : World} {B p hq cg n cap len : Nat} {dv ov : Value} {S : HS} {f : Nat → Int} {M : MS} (k : Mx w0 w B p hq cg n cap dv ov S len f M) : ∀ j, dv.ownBlock = some j → B ≤ j ∧ j < w.heap.size := by
  intro j hj
  rcases k.d with h | ⟨db, dc, e1, e2, e3, e4⟩
  · rw [h.2] at hj
    cases hj
  · rw [e1] at hj
    obtain rfl : db = j := Option.some.inj hj
    exact ⟨e4.2.2.2.2, e3.here⟩
/-- a block that is none of the machine's -/
structure Ap (p hq cg : Nat) (dv ov : Value) (z : Nat) : Prop where
  h1 : p ≠ z
  h2 : hq ≠ z
  h3 : cg ≠ z
  h4 : dv.ownBlock ≠ some z
  h5 : ov.ownBlock ≠ some z
theorem Ap.fr {p hq cg : Nat} {dv ov ov' : Value} {z m : Nat} (h : Ap p hq cg dv ov z) (hf : Fr ov ov' m) (hz : z < m) : Ap p hq cg dv ov' z :=
  ⟨h.h1, h.h2, h.h3, h.h4, fun e => by
    rcases hf with q | ⟨g, q1, q2⟩
    · exact h.h5 (by rw [← q]; exact e)
    · rw [e] at q1
      have := Option.some.inj q1
      omega⟩
theorem Mx.fresh {w0 w : World} {B p hq cg n cap len : Nat} {dv ov : Value} {S : HS} {f : Nat → Int} {M : MS} (k : Mx w0 w B p hq cg n cap dv ov S len f M) {z : Nat} (hz : w.heap.size ≤ z) : Ap p hq cg dv ov z := by
  obtain ⟨a1, a2, a3⟩ := k.at
  refine ⟨by omega, by omega, by omega, fun e => ?_, fun e => ?_⟩
  · have := (k.dlo z e).2
    omega
  · have := (own_base k.o _ e).2
    omega
/-- both machines: the program's in the state S, M, the answer's in the state T, L; w: the world of the law's call -/
structure Lw (w x : World) (p hq cg n cap : Nat) (dv ov : Value) (r rh db cb co len : Nat) (f : Nat → Int) (S : HS) (M : MS) (T : HS) (L : MS) : Prop where
  mx : Mx w x w.heap.size p hq cg n cap dv ov S len f M
  rx : Rx x r rh db len len T L
  cc : CodeAt x cb co n f
  s1 : Ap p hq cg dv ov r
  s2 : Ap p hq cg dv ov rh
  s3 : Ap p hq cg dv ov db
  c0 : cb < w.heap.size
  b0 : w.heap.size ≤ r ∧ w.heap.size ≤ rh ∧ w.heap.size ≤ db
section
variable {w x y : World} {p hq cg n cap : Nat} {dv ov ov' : Value} {r rh db cb co len : Nat} {f : Nat → Int} {S S' : HS} {M M' : MS} {T T' : HS} {L L' : MS}
theorem Lw.below (k : Lw w x p hq cg n cap dv ov r rh db cb co len f S M T L) (hb : Below x.heap.size x y) : Lw w y p hq cg n cap dv ov r rh db cb co len f S M T L :=
  ⟨k.mx.below hb, k.rx.below hb, k.cc.below hb, k.s1, k.s2, k.s3, k.c0, k.b0⟩
theorem Lw.onP (k : Lw w x p hq cg n cap dv ov r rh db cb co len f S M T L) (t : Turned (fun j => Mine p dv ov j ∨ j = hq) x y) (hf : Fr ov ov' x.heap.size) (h : Mx w y w.heap.size p hq cg n cap dv ov' S' len f M') : Lw w y p hq cg n cap dv ov' r rh db cb co len f S' M' T L := by
  have nq : ∀ z, Ap p hq cg dv ov z → ¬ (Mine p dv ov z ∨ z = hq) := by
    rintro z a ((e | e | e) | e)
    · exact a.h1 e.symm
    · exact a.h4 e
    · exact a.h5 e
    · exact a.h2 e.symm
  obtain ⟨a1, a2, a3⟩ := k.rx.at
  refine ⟨h, k.rx.turned t (nq _ k.s1) (nq _ k.s2) (nq _ k.s3), k.cc.turned t ?_, k.s1.fr hf a1, k.s2.fr hf a2, k.s3.fr hf a3, k.c0, k.b0⟩
  have c0 := k.c0
  obtain ⟨l1, l2, l3⟩ := k.mx.lo
  rintro ((e | e | e) | e)
  · omega
  · have := (k.mx.dlo _ e).1
    omega
  · have := (own_base k.mx.o _ e).1
    omega
  · omega
theorem Lw.onR (k : Lw w x p hq cg n cap dv ov r rh db cb co len f S M T L) (t : Turned (fun j => (j = r ∨ j = db) ∨ j = rh) x y) (h : Rx y r rh db len len T' L') : Lw w y p hq cg n cap dv ov r rh db cb co len f S M T' L' := by
  have nq : ∀ z, z ≠ r → z ≠ db → z ≠ rh → ¬ ((z = r ∨ z = db) ∨ z = rh) := by
    rintro z a1 a2 a3 ((e | e) | e)
    · exact a1 e
    · exact a2 e
    · exact a3 e
  obtain ⟨b1, b2, b3⟩ := k.b0
  have c0 := k.c0
  refine ⟨k.mx.turned t (nq _ k.s1.h1 k.s3.h1 k.s2.h1) (nq _ k.s1.h2 k.s3.h2 k.s2.h2) (nq _ k.s1.h3 k.s3.h3 k.s2.h3) ?_ ?_ ?_, h, k.cc.turned t (nq _ (by omega) (by omega) (by omega)), k.s1, k.s2, k.s3, k.c0, k.b0⟩
  · intro j hj
    exact nq j (fun e => k.s1.h4 (by rw [← e]; exact hj)) (fun e => k.s3.h4 (by rw [← e]; exact hj)) (fun e => k.s2.h4 (by rw [← e]; exact hj))
  · intro j hj
    exact nq j (fun e => k.s1.h5 (by rw [← e]; exact hj)) (fun e => k.s3.h5 (by rw [← e]; exact hj)) (fun e => k.s2.h5 (by rw [← e]; exact hj))
  · rintro j ((e | e) | e)
    · omega
    · omega
    · omega
end
end Go.Proofs.YtengofkjlgajlaaGreatDoor
