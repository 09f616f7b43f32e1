import Derived.Test.YtlogdmnhngbkaaaDoorY34
import Derived.Test.YtlogdmnhngbkaaaDoorY36
/-
  BUS: the answer's New.
-/
namespace Go.Proofs.YtlogdmnhngbkaaaDoor
open Go Go.RowKit
theorem app_ptr9 {B : Nat} (x : World) (v : Value) (xs : List Value) (q : Nat) (hr : x.ownsRow B 89 1 v xs.length xs) (hl : xs.length ≤ 1000000) (hB : B ≤ x.heap.size) : ∃ g cap z, (Builtin.append_ #[75, 75] 75 #[v, .slice (some ⟨x.heap.size, 0, none⟩) 1 1]).run Tryd.prog (x.alloc (.cells #[.pointer (some ⟨q, 0, none⟩)] 89)) = .ok (.slice (some ⟨g, 0, none⟩) (xs.length + 1) cap) z ∧ z.ownsRow B 89 1 (.slice (some ⟨g, 0, none⟩) (xs.length + 1) cap) (xs.length + 1) (xs ++ [.pointer (some ⟨q, 0, none⟩)]) ∧ Turned (fun j => v.ownBlock = some j) x z ∧ (some g = v.ownBlock ∨ x.heap.size ≤ g) := by
  obtain ⟨i0, hi0, hz0, hz1, hz2⟩ := info_parts (show (Tryd.prog.info? 89).map (fun i => (i.zero, i.size, i.bytes)) = some (some (.pointer none), 1, 8) by kernel_rfl)
  obtain ⟨v', w1, hrun, r1, r2, r3, r4⟩ := run_append_own_at (P := Tryd.prog) (w := x.alloc (.cells #[.pointer (some ⟨q, 0, none⟩)] 89)) B 75 75 89 i0 (.pointer none) 1 8 Tryd.underlying75 hi0 hz0 hz1 hz2 rfl (by decide) v xs.length xs (hr.alloc _) ⟨x.heap.size, 0, none⟩ 1 1 [.pointer (some ⟨q, 0, none⟩)] rfl (cell_one_new _ _ _) (by simp [Value.oneCell']) (by unfold maxLen; omega) (by omega) (by simp; omega)
  obtain ⟨g, cap, rfl⟩ := own_succ r1
  refine ⟨g, cap, w1, hrun, r1, (((Turned.refl _ x).alloc _).trans (turned_grown r2)), ?_⟩
  rcases r4 with q | q
  · exact Or.inl q
  · right
    simp [Value.ownBlock] at q
    omega
def nvr (v : Value) (cyc ab nn : Nat) : Nat → Value
  | 0 => v
  | 1 => .int .i64 cyc
  | 2 => .slice none 0 0
  | 3 => .slice (some ⟨ab, 0, none⟩) nn nn
  | 4 => .int .i64 (nn - 1 : Nat)
  | 5 => .int .i64 (-1)
  | _ => .int .i64 0
structure NewR (x w : World) (nn cyc : Nat) (n ws : Nat → Nat) (k : Nat) (v : Value) (q : Nat → Nat) : Prop where
  c : CellsAt 7 w (x.heap.size + 1) (nvr v cyc x.heap.size nn)
  ak : CellsAt (3 * nn) w x.heap.size (akc (fun _ => none))
  row : w.ownsRow (x.heap.size + 2) 89 1 v k (ptrs q k)
  rc : ∀ i, i < k → RC w x.heap.size (q i) (.slice none 0 0) (n i) (ws i) []
  hi : ∀ i, i < k → x.heap.size + 1 < q i ∧ v.ownBlock ≠ some (q i)
  dis : ∀ i j, i < k → j < k → i ≠ j → q i ≠ q j
  b : Below x.heap.size x w
theorem rc_off {Q : Nat → Prop} {x y : World} {B q n k : Nat} (d : RC x B q (.slice none 0 0) n k []) (t : Turned Q x y) (h1 : ¬ Q q) : RC y B q (.slice none 0 0) n k [] := d.turned t h1 (fun j hj => by simp [Value.ownBlock] at hj)
theorem NewR.below {x w y : World} {nn cyc : Nat} {n ws : Nat → Nat} {k : Nat} {v : Value} {q : Nat → Nat} (d : NewR x w nn cyc n ws k v q) (b : Below w.heap.size w y) : NewR x y nn cyc n ws k v q :=
  ⟨d.c.below b, d.ak.below b, own_turned d.row (Turned.of_below (Q := fun _ => False) b) (fun _ _ q => q), fun i hi => (d.rc i hi).below b, d.hi, d.dis, d.b.trans (b.mono d.b.size)⟩
theorem NewR.add {x w y : World} {nn cyc : Nat} {n ws : Nat → Nat} {k p g cap : Nat} {v : Value} {q : Nat → Nat} (d : NewR x w nn cyc n ws k v q) (hp : x.heap.size + 1 < p) (hlp : p < w.heap.size) (hvp : v.ownBlock ≠ some p) (rc : RC w x.heap.size p (.slice none 0 0) (n k) (ws k) []) (hd : ∀ i, i < k → q i ≠ p) (t : Turned (fun j => v.ownBlock = some j) w y) (r : y.ownsRow (x.heap.size + 2) 89 1 (.slice (some ⟨g, 0, none⟩) (k + 1) cap) (k + 1) (ptrs q k ++ [.pointer (some ⟨p, 0, none⟩)])) (hg : some g = v.ownBlock ∨ w.heap.size ≤ g) : NewR x (y.setCell ⟨x.heap.size + 1, 0, none⟩ (.slice (some ⟨g, 0, none⟩) (k + 1) cap)) nn cyc n ws (k + 1) (.slice (some ⟨g, 0, none⟩) (k + 1) cap) (upd q k p) := by
  have vb : ∀ j, v.ownBlock = some j → x.heap.size + 2 ≤ j ∧ j < w.heap.size := fun j hj => own_base d.row j hj
  have gb := own_base r g rfl
  have tS : Turned (fun j => j = x.heap.size + 1) y (y.setCell ⟨x.heap.size + 1, 0, none⟩ (.slice (some ⟨g, 0, none⟩) (k + 1) cap)) := (Turned.refl (fun j => j = x.heap.size + 1) y).set rfl _ _
  have n1 : ¬ v.ownBlock = some (x.heap.size + 1) := fun e => by have := (vb _ e).1; omega
  have n0 : ¬ v.ownBlock = some x.heap.size := fun e => by have := (vb _ e).1; omega
  have hq : ∀ i, i < k → upd q k p i = q i := fun i hi => upd_other _ _ _ _ (by omega)
  refine ⟨?_, tS.cells (t.cells d.ak n0) (by omega), ?_, fun i hi => ?_, fun i hi => ?_, fun i j hi hj hij => ?_, ?_⟩
  · have cc := (t.cells d.c n1).set 0 (by decide) (.slice (some ⟨g, 0, none⟩) (k + 1) cap)
    refine cc.ext (fun o ho => ?_)
    match o, ho with
    | 0, _ => rfl
    | 1, _ => rfl
    | 2, _ => rfl
    | 3, _ => rfl
    | 4, _ => rfl
    | 5, _ => rfl
    | 6, _ => rfl
    | q + 7, h => exact absurd h (by omega)
  · have e : ptrs (upd q k p) (k + 1) = ptrs q k ++ [.pointer (some ⟨p, 0, none⟩)] := by
      show ptrs (upd q k p) k ++ [.pointer (some ⟨upd q k p k, 0, none⟩)] = _
      rw [upd_same, ptrs_congr _ _ k hq]
    rw [e]
    exact own_turned r tS (fun j hj e => by
      have : g = j := by simpa [Value.ownBlock] using hj
      omega)
  · by_cases e : i = k
    · subst e
      rw [upd_same]
      exact rc_off (rc_off rc t hvp) tS (by omega)
    · have hi' : i < k := by omega
      rw [hq i hi']
      have := d.hi i hi'
      exact rc_off (rc_off (d.rc i hi') t this.2) tS (by omega)
  · by_cases e : i = k
    · subst e
      rw [upd_same]
      refine ⟨hp, fun e => ?_⟩
      have e : g = p := by simpa [Value.ownBlock] using e
      rcases hg with q | q
      · exact hvp (by rw [← q, e])
      · omega
    · have hi' : i < k := by omega
      rw [hq i hi']
      obtain ⟨a1, a2⟩ := d.hi i hi'
      refine ⟨a1, fun e => ?_⟩
      have e : g = q i := by simpa [Value.ownBlock] using e
      rcases hg with z | z
      · exact a2 (by rw [← z, e])
      · have := (d.rc i hi').c.here
        omega
  · by_cases ei : i = k
    · subst ei
      rw [upd_same, hq j (by omega)]
      exact fun e => hd j (by omega) e.symm
    · by_cases ej : j = k
      · subst ej
        rw [upd_same, hq i (by omega)]
        exact hd i (by omega)
      · rw [hq i (by omega), hq j (by omega)]
        exact d.dis i j (by omega) (by omega) hij
  · refine (d.b.trans ((t.below d.b.size (fun j hj => by have := (vb j hj).1; omega)))).trans ?_
    exact tS.below (by have := t.size; have := d.b.size; omega) (fun j hj => by omega)
/-- what is laid into Mem -/
structure MemR (w y : World) (len : Nat) (m : Nat → Nat) (mq : Option Addr) (mb mc : Nat) : Prop where
  b : Below w.heap.size w y
  z : len = 0 → mq = none ∧ mc = 0
  c : 0 < len → mq = some ⟨mb, 0, none⟩ ∧ w.heap.size ≤ mb ∧ CellsAt len y mb (fun o => .int .u8 (m o : Nat))
  r : len ≤ mc ∧ mc ≤ 9223372036854775807
theorem NewR.fin {x w y : World} {nn cyc : Nat} {n ws : Nat → Nat} {v : Value} {q : Nat → Nat} {len : Nat} {m : Nat → Nat} {mq : Option Addr} {mb mc : Nat} (hlen : len ≤ 4096 ∧ len % 16 = 0) (hnn : 1 ≤ nn ∧ nn ≤ 2) (d : NewR x w nn cyc n ws nn v q) (hn : ∀ i, i < nn → 1 ≤ n i ∧ n i ≤ 16) (hw : ∀ i, i < nn → 1 ≤ ws i ∧ ws i ≤ 4) (M : MemR w y len m mq mb mc) (hc : cyc ≤ 10) (hm : ∀ o, m o < 256) : ∃ g : Rn, g.p = x.heap.size + 1 ∧ (len = 0 → g.mq = none ∧ g.mc = 0) ∧ Ru (y.setCell ⟨x.heap.size + 1, 2, none⟩ (.slice mq len mc)) g (fun j => j < x.heap.size) (newG nn cyc n ws len m) ∧ Below x.heap.size x (y.setCell ⟨x.heap.size + 1, 2, none⟩ (.slice mq len mc)) := by
  obtain ⟨n1, hn1⟩ : ∃ n1, nn = n1 + 1 := ⟨nn - 1, by omega⟩
  obtain ⟨cb, cap, hv⟩ := own_succ (n := n1) (by rw [← hn1]; exact d.row)
  rw [← hn1] at hv
  subst hv
  have e := d.below M.b
  have hw2 := d.c.here
  have cbw := own_base d.row cb rfl
  have ecap : nn ≤ cap ∧ cap ≤ 9223372036854775807 := by
    rcases d.row.2 with ⟨z, -⟩ | ⟨g, c, cur, z, -, -, q1, q2, -⟩
    · cases z
    · simp at z
      obtain ⟨-, rfl⟩ := z
      unfold maxLen at q2
      exact ⟨q1, q2⟩
  have tS : Turned (fun j => j = x.heap.size + 1) y (y.setCell ⟨x.heap.size + 1, 2, none⟩ (.slice mq len mc)) := (Turned.refl (fun j => j = x.heap.size + 1) y).set rfl _ _
  have cS := e.c.set 2 (by decide) (.slice mq len mc)
  have hY : w.heap.size ≤ y.heap.size := M.b.size
  have mn : ∀ i z, rmine (q i) (Value.slice none 0 0) z → z = q i := by
    rintro i z (h | h)
    · exact h
    · simp [Value.ownBlock] at h
  have hP : ∀ i, i < nn → q i < w.heap.size := fun i hi => (d.rc i hi).c.here
  have hq := d.hi
  have bx : Below x.heap.size x (y.setCell ⟨x.heap.size + 1, 2, none⟩ (.slice mq len mc)) := e.b.trans (tS.below e.b.size (fun j hj => by omega))
  obtain ⟨g, hg⟩ : ∃ g : Rn, g = ⟨x.heap.size, x.heap.size + 1, cb, cap, mq, mb, mc, x.heap.size, nn, q⟩ := ⟨_, rfl⟩
  have key : Rb (y.setCell ⟨x.heap.size + 1, 2, none⟩ (.slice mq len mc)) g (fun _ => .slice none 0 0) (fun _ => []) (nn - 1 : Nat) 0 (newG nn cyc n ws len m) := by
    rw [hg]
    refine ⟨cS.ext (fun o ho => ?_), ?_, fun i hi => ?_, fun i hi => ?_, fun h => ?_, tS.cells e.ak (by show ¬ x.heap.size = x.heap.size + 1; omega), ?_, ?_, fun i hi z hz hmz => ?_, fun i j hi hj hij z h1 h2 => ?_, ?_, ?_, hm⟩
    · match o, ho with
      | 0, _ => rfl
      | 1, _ => rfl
      | 2, _ => rfl
      | 3, _ => rfl
      | 4, _ => rfl
      | 5, _ => rfl
      | 6, _ => rfl
      | q + 7, h => exact absurd h (by omega)
    · have r := own_turned e.row tS (fun j hj q => by
        have hj : cb = j := by simpa [Value.ownBlock] using hj
        omega)
      refine ⟨(own_base r cb rfl).2, fun o ho => ?_, fun o => World.ownsRow.frozenAt r o⟩
      have ho : o < nn := ho
      rw [World.ownsRow.cellAt r o (by show o < nn * 1; omega)]
      exact ptrs_at q nn o ho
    · have hi : i < nn := hi
      have := hq i hi
      exact rc_off (e.rc i hi) tS (by show ¬ q i = x.heap.size + 1; omega)
    · have hi : i < nn := hi
      exact Same.start (n i) (ws i) (hn i hi) (hw i hi)
    · obtain ⟨z1, z2, z3⟩ := M.c h
      exact ⟨z1, tS.cells z3 (by show ¬ mb = x.heap.size + 1; omega)⟩
    · exact ⟨fun _ => rfl, fun h => by cases h⟩
    · refine ⟨by show x.heap.size + 1 ≠ cb; omega, by show x.heap.size + 1 ≠ x.heap.size; omega, by show cb ≠ x.heap.size; omega, fun h => ?_⟩
      obtain ⟨z1, z2, z3⟩ := M.c h
      refine ⟨by show mb ≠ x.heap.size + 1; omega, by show mb ≠ cb; omega, by show mb ≠ x.heap.size; omega⟩
    · have hi : i < nn := hi
      obtain ⟨q1, q3⟩ := hq i hi
      have p1 := hP i hi
      have q3 : cb ≠ q i := fun e => q3 (by simp [Value.ownBlock, e])
      have e1 : z = q i := mn i z hmz
      rcases hz with e2 | e2 | e2 | ⟨h0, e2⟩
      · have e2 : z = x.heap.size + 1 := e2
        omega
      · have e2 : z = cb := e2
        omega
      · have e2 : z = x.heap.size := e2
        omega
      · have e2 : z = mb := e2
        obtain ⟨z1, z2, z3⟩ := M.c h0
        omega
    · have hi : i < nn := hi
      have hj : j < nn := hj
      exact d.dis i j hi hj hij ((mn i z h1).symm.trans (mn j z h2))
    · exact ⟨hnn.1, hnn.2, hc, hlen.1, hlen.2, by show nn - 1 < nn; omega, by show 0 ≤ 10; omega⟩
    · exact ⟨ecap.1, ecap.2, Nat.le_refl _, by show nn ≤ _; omega, M.r.1, M.r.2⟩
  refine ⟨g, by rw [hg], fun h => by rw [hg]; exact M.z h, ⟨_, _, _, _, key, fun z hz => ⟨Nat.lt_of_lt_of_le hz bx.size, ?_⟩⟩, bx⟩
  rw [hg]
  rintro (h | ⟨i, hi, h⟩)
  · rcases h with e2 | e2 | e2 | ⟨h0, e2⟩
    · have e2 : z = x.heap.size + 1 := e2
      omega
    · have e2 : z = cb := e2
      omega
    · have e2 : z = x.heap.size := e2
      omega
    · have e2 : z = mb := e2
      obtain ⟨z1, z2, z3⟩ := M.c h0
      have := d.b.size
      omega
  · have hi : i < nn := hi
    have e1 := mn i z h
    have := (hq i hi).1
    omega
/-- Mem, made of data -/
theorem mem_made (w : World) (dq : Option Addr) (len dc : Nat) (m : Nat → Nat) (hD : HandB w dq len m) (hq0 : dq = none → dc = 0) (hl : len ≤ 4096) : ∃ mq mb mc y, (Builtin.append_ #[23, 23] 23 #[.slice none 0 0, .slice dq len dc]).run Tryd.prog w = .ok (.slice mq len mc) y ∧ MemR w y len m mq mb mc := by
  rcases dq with _ | a
  · have h0 : len = 0 := by
      rcases Nat.eq_zero_or_pos len with h | h
      · exact h
      · obtain ⟨c, o, q, -⟩ := hD 0 h
        cases q
    have hd := hq0 rfl
    subst h0 hd
    exact ⟨none, 0, 0, w, by kernel_rfl, ⟨Below.refl _ _, fun _ => ⟨rfl, rfl⟩, fun h => absurd h (by omega), by omega⟩⟩
  · obtain ⟨v', y, hrun, hrow, hT, hown, hnil⟩ := app_bytes (B := w.heap.size) w (.slice none 0 0) 0 [] a len dc m (World.ownsRow_nil _ _ _ _) (fun j hj => by
      obtain ⟨c, o, q, h1, h2⟩ := hD j hj
      obtain rfl := Option.some.inj q
      rw [Addr.add_lit]
      exact h2) (by omega) (Nat.le_refl _)
    have bY : Below w.heap.size w y := hT.below (Nat.le_refl _) (fun j q => by simp [Value.ownBlock] at q)
    rw [Nat.zero_add, List.nil_append] at hrow
    rcases Nat.eq_zero_or_pos len with h | h
    · have hv := hnil.2 ⟨rfl, h⟩
      subst hv
      subst h
      exact ⟨none, 0, 0, y, hrun, ⟨bY, fun _ => ⟨rfl, rfl⟩, fun h => absurd h (by omega), by omega⟩⟩
    · obtain ⟨n', hn'⟩ : ∃ n', len = n' + 1 := ⟨len - 1, by omega⟩
      obtain ⟨db, cap, hv⟩ := own_succ (n := n') (by rw [← hn']; exact hrow)
      rw [← hn'] at hv
      subst hv
      obtain ⟨cY, hcap⟩ := own_bytes hrow
      exact ⟨some ⟨db, 0, none⟩, db, cap, y, hrun, ⟨bY, fun h0 => absurd h0 (by omega), fun _ => ⟨rfl, (own_base hrow db rfl).1, cY⟩, hcap⟩⟩
end Go.Proofs.YtlogdmnhngbkaaaDoor
