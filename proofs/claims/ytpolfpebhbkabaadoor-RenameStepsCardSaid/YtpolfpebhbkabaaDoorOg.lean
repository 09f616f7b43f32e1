/-
  RENAME's LAW RenameSteps: the steps.
-/
import Derived.Test.YtpolfpebhbkabaaDoorOf
import Derived.Test.YtpolfpebhbkabaaDoorKc
import Derived.Deep.CutBlock
import Derived.Deep.DeepCutAuto
namespace Go.Proofs.YtpolfpebhbkabaaDoor
open Go Go.RowKit
theorem St.other {Q : Nat → Prop} {w x y : World} {p h b : Nat} {g : Option Nat} {n : Nat} {S T : NT} {lv : Value} {m : Nat} {F : Nat → Int} (k : St w x p h b g n S T lv m F) (c : Turned Q x y) (hp : ¬ Q p) (hh : ¬ Q h) (hb : ¬ Q b) (hg : ∀ j, g = some j → ¬ Q j) (hl : ∀ j, lv.ownBlock = some j → ¬ Q j) (lo : ∀ j, Q j → w.heap.size ≤ j) : St w y p h b g n S T lv m F := by
  obtain ⟨a1, a2, a3, a4, a5, a6, a7, a8⟩ := k
  have z := c.size
  exact ⟨a1.turned c hp hh, a2.turned c hb hg, own_turned a3 c hl, a4.trans (c.below a4.size lo), a5, ⟨by omega, by omega, by omega, fun k hk => by have := a6.2.2.2 k hk; omega⟩, a7, a8⟩
/-- a step's own block: an operation's four numbers -/
def ov (a b c d : Int) : Nat → Value
  | 0 => .int .i64 a
  | 1 => .int .i64 b
  | 2 => .int .i64 c
  | _ => .int .i64 d
theorem ov_new (w : World) (a b c d : Int) : CellsAt 4 (w.alloc (.cells #[.int .i64 a, .int .i64 b, .int .i64 c, .int .i64 d] 76)) w.heap.size (ov a b c d) := by
  refine cells_new w fun i hi => ?_
  match i, hi with
  | 0, _ => rfl
  | 1, _ => rfl
  | 2, _ => rfl
  | 3, _ => rfl
theorem erase_count {H : List Nat} {x : Nat} (h : 0 < H.count x) : (H.erase x).length + 1 = H.length ∧ ∀ y, H.count y = (H.erase x).count y + one (x = y) := by
  have hm := List.count_pos_iff.1 h
  have hp := List.length_pos_of_mem hm
  refine ⟨by rw [List.length_erase_of_mem hm]; omega, fun y => ?_⟩
  rw [List.count_erase]
  unfold one
  by_cases e : x = y
  · subst e; simp; omega
  · simp [e]
theorem inv_held_true {S : NT} {H : List Nat} {n x : Nat} (h : Inv S H n) (hx : S.held x = true) : 0 < H.count x ∧ S.free.count x = 0 ∧ cnt S.name x 32 = 0 := by
  rw [h.held] at hx
  have h1 : 0 < H.count x := by simpa using hx
  have h2 := h.cnt x
  have h3 := one_le (b := x < n)
  omega
theorem inv_held_false {S : NT} {H : List Nat} {n x : Nat} (h : Inv S H n) (hx : S.held x = false) (hn : x < n) : 0 < S.free.count x ∨ 0 < cnt S.name x 32 := by
  rw [h.held] at hx
  have h1 : ¬ 0 < H.count x := by simpa using hx
  have h2 := h.cnt x
  rw [one_pos hn] at h2
  omega
theorem turned_grown {x y : World} {row : Option Nat} (h : x.grownBy y row) : Turned (fun k => row = some k) x y := ⟨h.os, h.tape, h.output, h.size, fun k hk hq => h.block k hk (fun e => hq e.symm)⟩
theorem append_own3 {P : Program} (w : World) {ops : Array Oper} {rest : List Oper} {o : Oper} {a : Act} {Q : Exit → Act → World → Prop} (hgd : o.guard = none) (s x : Operand) (t : TypeId)
    (ho : o.op = .call { callee := .builtin .append, args := #[s, x], argTypes := #[t, t] }) (e : TypeId) (i : TypeInfo) (ht : P.underlying t = some (.slice e)) (hi : P.info? e = some i) (hz : i.zero = some (.agg #[.int .i64 0, .int .i64 0, .int .i64 0])) (hsize : i.size = 3) (hby : i.bytes = 24)
    (base : Nat) (lv : Value) (m : Nat) (F : Nat → Int) (hs : a.eval s = lv) (h : w.ownsRow base e 3 lv m (flat F (m * 3))) (ad : Addr) (c : Nat) (a1 a2 a3 : Int) (hx : a.eval x = .slice (some ad) 1 c) (hy : ∀ j u, ([.int .i64 a1, .int .i64 a2, .int .i64 a3] : List Value)[j]? = some u → w.cell? (ad.add j) = some u)
    (hl : m ≤ 1000000) (hB : base ≤ w.heap.size)
    (hK : ∀ v' w' G, w'.ownsRow base e 3 v' (m + 1) (flat G ((m + 1) * 3)) → Turned (fun k => lv.ownBlock = some k) w w' → (∀ k, v'.ownBlock = some k → lv.ownBlock = some k ∨ w.heap.size ≤ k) → wpList P ops Q rest (a.put o.dst v') w') : wpList P ops Q (o :: rest) a w := by
  obtain ⟨G, hG⟩ := flat_more F m a1 a2 a3
  have hone : ∀ u ∈ ([.int .i64 a1, .int .i64 a2, .int .i64 a3] : List Value), u.oneCell' = true := by
    intro u hu
    simp at hu
    rcases hu with rfl | rfl | rfl <;> rfl
  have hfl : (flat F (m * 3)).length = m * 3 := by simp [flat]
  have hmx : m + 1 ≤ maxLen := by unfold maxLen; omega
  have fin : ∀ v' w', w'.ownsRow w.heap.size e 3 v' (m + 1) (flat F (m * 3) ++ [.int .i64 a1, .int .i64 a2, .int .i64 a3]) → w.grownBy w' none → wpList P ops Q rest (a.put o.dst v') w' := by
    intro v' w' hown hgrow
    rw [hG] at hown
    refine hK v' w' G ?_ ((turned_grown hgrow).mono fun k q => by cases q) (fun k hk => Or.inr (own_base hown k hk).1)
    obtain ⟨b1, b2⟩ := hown
    exact ⟨b1, b2.imp id fun ⟨g, cap, cur, c1, c2, c3⟩ => ⟨g, cap, cur, c1, Nat.le_trans hB c2, c3⟩⟩
  have h0 := h
  obtain ⟨h1, h2⟩ := h
  rcases h2 with ⟨rfl, rfl⟩ | ⟨g, cap, cur, rfl, b2, b3, b4, b5, b6, b7⟩
  · exact wpList_append_grows w hgd s x t ho e i _ 3 24 ht hi hz hsize hby rfl (by decide) none 0 0 (flat F (0 * 3)) hs (fun _ => ⟨rfl, rfl⟩) (by simp [flat]) (fun b hb => by cases hb) ad 1 c _ hx rfl hy hone (by omega) hmx (by omega) fin
  · by_cases hr : m + 1 ≤ cap
    · refine wpList_append_fits w hgd s x t ho base e i 3 ht hi hsize g m cap (flat F (m * 3)) hs h0 ad 1 c _ hx rfl hy hone hr (fun w' hown hgrow => ?_)
      rw [hG] at hown
      exact hK _ w' G hown (turned_grown hgrow) (fun k hk => Or.inl hk)
    · refine wpList_append_grows w hgd s x t ho e i _ 3 24 ht hi hz hsize hby rfl (by decide) (some ⟨g, 0, none⟩) m cap (flat F (m * 3)) hs (fun q => by cases q) (by rw [hfl]) (fun b hb j u hj => ?_) ad 1 c _ hx rfl hy hone (by omega) hmx (by omega) fin
      obtain rfl := Option.some.inj hb
      exact World.ownsRow.cells h0 rfl j u hj
theorem sets_q {x : World} {q : Nat} {c : Nat → Value} (hq : CellsAt 4 x q c) (a1 a2 a3 a4 : Int) : CellsAt 4 ((((x.setCell ⟨q, 0, none⟩ (.int .i64 a1)).setCell ⟨q, 1, none⟩ (.int .i64 a2)).setCell ⟨q, 2, none⟩ (.int .i64 a3)).setCell ⟨q, 3, none⟩ (.int .i64 a4)) q (ov a1 a2 a3 a4) := by
  refine ((((hq.set 0 (by omega) _).set 1 (by omega) _).set 2 (by omega) _).set 3 (by omega) _).ext fun o ho => ?_
  match o, ho with
  | 0, _ => rfl
  | 1, _ => rfl
  | 2, _ => rfl
  | 3, _ => rfl
theorem sets_t (x : World) (q : Nat) (a1 a2 a3 a4 : Value) : Turned (fun k => k = q) x ((((x.setCell ⟨q, 0, none⟩ a1).setCell ⟨q, 1, none⟩ a2).setCell ⟨q, 2, none⟩ a3).setCell ⟨q, 3, none⟩ a4) :=
  ((((Turned.refl (fun k => k = q) x).set (b := q) rfl _ _).set (b := q) rfl _ _).set (b := q) rfl _ _).set (b := q) rfl _ _
theorem St.onQ {w x y : World} {p h b q : Nat} {g : Option Nat} {n : Nat} {S T : NT} {lv : Value} {m : Nat} {F : Nat → Int} (k : St w x p h b g n S T lv m F) (c : Turned (fun k => k = q) x y) (nq : q ≠ p ∧ q ≠ h ∧ q ≠ b ∧ g ≠ some q ∧ w.heap.size ≤ q) (nl : lv.ownBlock ≠ some q) : St w y p h b g n S T lv m F :=
  k.other c (fun e => nq.1 e.symm) (fun e => nq.2.1 e.symm) (fun e => nq.2.2.1 e.symm) (fun j hj e => nq.2.2.2.1 (by rw [hj, e])) (fun j hj e => nl (by rw [hj, e])) (fun j e => by rw [e]; exact nq.2.2.2.2)
theorem St.less {w x : World} {p h b gl lc : Nat} {g : Option Nat} {n : Nat} {S T : NT} {m : Nat} {F : Nat → Int} (k : St w x p h b g n S T (.slice (some ⟨gl, 0, none⟩) (m + 1) lc) (m + 1) F) : St w x p h b g n S T (.slice (some ⟨gl, 0, none⟩) m lc) m F :=
  k.onL (Turned.refl _ _) (own_less k.l) (fun _ hk => Or.inl hk)
/-- the script: rows of four numbers -/
def Ops (w : World) (p : Option Addr) (m : Nat) (f : Nat → Nat → Int) : Prop := ∀ i, i < m → ∃ b o, p = some ⟨b, o, none⟩ ∧ b < w.heap.size ∧ w.cell? ⟨b, o + i * 4, none⟩ = some (.int .i64 (f i 0)) ∧ w.cell? ⟨b, o + i * 4 + 1, none⟩ = some (.int .i64 (f i 1)) ∧ w.cell? ⟨b, o + i * 4 + 2, none⟩ = some (.int .i64 (f i 2)) ∧ w.cell? ⟨b, o + i * 4 + 3, none⟩ = some (.int .i64 (f i 3))
theorem st_new {w w1 w2 : World} {n g : Nat} (a : Tab w1 (w.heap.size + 1) w.heap.size n (newT n)) (b1 : Below w.heap.size w w1) (c : RTab w2 w1.heap.size g n (newT n).name (newT n).free) (hg : w1.heap.size < g) (b2 : Below w1.heap.size w1 w2) : ∃ q, St w w2 (w.heap.size + 1) w.heap.size w1.heap.size q n (newT n) (newT n) (.slice none 0 0) 0 (fun _ => 0) := by
  obtain ⟨⟨ring, first, hr, hc⟩, hh, ne⟩ := a
  have h1 := hc.here
  have h2 := hh.here
  obtain ⟨q, h3, h4⟩ := RT.of (w := w1) (g := none) (g0 := w1.heap.size) c (Or.inr ⟨rfl, rfl⟩) (Or.inr (by omega))
  have h5 : w1.heap.size < w2.heap.size := by
    obtain ⟨⟨ao, cap, hc2, ho2⟩, ne2⟩ := c
    exact hc2.here
  have z := b1.size
  have h6 : ∀ k, q = some k → w1.heap.size ≤ k ∧ k < w2.heap.size := fun k hk => by
    rcases (h4 k hk).1 with e | e
    · cases e
    · exact ⟨e, (h4 k hk).2⟩
  exact ⟨q, Tab.below ⟨⟨ring, first, hr, hc⟩, hh, ne⟩ b2, h3, World.ownsRow_nil _ _ _ _, below2 b1 b2, ⟨by omega, by omega, by omega, fun k hk => by have := h6 k hk; omega⟩, ⟨by omega, by omega, by omega, fun k hk => (h6 k hk).2⟩, ⟨by omega, by omega, fun k hk => by have := h6 k hk; omega⟩, fun k hk => by simp [Value.ownBlock] at hk⟩
set_option maxRecDepth 100000 in
set_option maxHeartbeats 1000000 in
theorem steps_bad (n : Int) (sp : Option Addr) (m1 c1 : Nat) (w : World) (h : ¬ (34 ≤ n ∧ n ≤ 128)) (hg : w.cell? ⟨0, 0, none⟩ = some (.iface 154 (.agg #[.pointer (some ⟨4, 27, none⟩)]))) : Calls Tryd.prog 6 #[.int .i64 n, .slice sp m1 c1] w fun e w' => e = .returned (.bool true) ∧ Below w.heap.size w w' := by
  have HK := Hid.in h
  have HG := Hid.in hg
  have hu : undef = Value.tuple #[] := rfl
  clear h hg
  by_cases hm : (0 : Int) < (m1 : Int)
  all_goals
    go_enter Tryd.func6, Tryd.ntmps6
    go_wp2_with (first
      | (go_at_call 21; refine (new_bad n _ HK.out).mono ?_; rintro e w1 ⟨rfl, hw⟩; have hw2 := hw.symm; clear hw; subst hw2)
      | (go_at_call 22; refine (rnew_bad n _ HK.out).mono ?_; rintro e w1 ⟨rfl, hw⟩; have hw2 := hw.symm; clear hw; subst hw2)
      | (go_at_call 10; refine (told_err 2 _ HG.out).mono ?_; rintro e w1 ⟨rfl, hb1⟩))
    refine wp_loop_rounds 1 ?_
    rw [rounds_succ]
    go_wp2
    go_ret
    exact ⟨rfl, hb1⟩
end Go.Proofs.YtpolfpebhbkabaaDoor
