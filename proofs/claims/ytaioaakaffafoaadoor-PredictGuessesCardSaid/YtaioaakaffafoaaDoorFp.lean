/-
  PREDICT's LAW PredictGuesses: the row of marks; all of its memory.
-/
import Derived.Test.YtaioaakaffafoaaDoorFo
import Derived.ArgAppend
import Derived.OwnWalk
import Derived.Laws.AppendOwn
import Derived.Laws.AppendOwnNone
namespace Go.Proofs.YtaioaakaffafoaaDoor
open Go Go.RowKit
theorem own_turned {Q : Nat → Prop} {x y : World} {base : Nat} {e : TypeId} {size : Nat} {v : Value} {n : Nat} {xs : List Value} (h : x.ownsRow base e size v n xs) (c : Turned Q x y) (hq : ∀ k, v.ownBlock = some k → ¬ Q k) : y.ownsRow base e size v n xs := by
  obtain ⟨h1, h2⟩ := h
  refine ⟨h1, ?_⟩
  rcases h2 with h2 | ⟨g, cap, cur, a1, a2, a3, a4⟩
  · exact Or.inl h2
  · refine Or.inr ⟨g, cap, cur, a1, a2, ?_, a4⟩
    have hg : g < x.heap.size := by
      rcases Nat.lt_or_ge g x.heap.size with q | q
      · exact q
      · rw [Array.getElem?_eq_none q] at a3
        exact absurd a3 (by simp)
    rw [c.block g hg (hq g (by rw [a1]; rfl))]
    exact a3
theorem own_base {x : World} {base : Nat} {e : TypeId} {size : Nat} {v : Value} {n : Nat} {xs : List Value} (h : x.ownsRow base e size v n xs) : ∀ k, v.ownBlock = some k → base ≤ k ∧ k < x.heap.size := by
  obtain ⟨h1, h2⟩ := h
  intro k hk
  rcases h2 with ⟨rfl, _⟩ | ⟨g, cap, cur, rfl, a2, a3, a4⟩
  · exact absurd hk (by simp [Value.ownBlock])
  · simp [Value.ownBlock] at hk
    subst hk
    refine ⟨a2, ?_⟩
    rcases Nat.lt_or_ge g x.heap.size with q | q
    · exact q
    · rw [Array.getElem?_eq_none q] at a3
      exact absurd a3 (by simp)
theorem turned_grown {x y : World} {row : Option Nat} (h : x.grownBy y row) : Turned (fun k => row = some k) x y := ⟨h.os, h.tape, h.output, h.size, fun k hk hq => h.block k hk (fun e => hq e.symm)⟩
def mkv (a b c : Nat → Int) (k : Nat) : Value := if k % 3 = 0 then .int .i64 (a (k / 3)) else if k % 3 = 1 then .int .i64 (b (k / 3)) else .int .u32 (c (k / 3))
def marks (a b c : Nat → Int) (m : Nat) : List Value := (List.range (m * 3)).map (mkv a b c)
theorem marks_more (a b c : Nat → Int) (m : Nat) (x y z : Int) : marks a b c m ++ [.int .i64 x, .int .i64 y, .int .u32 z] = marks (upd a m x) (upd b m y) (upd c m z) (m + 1) := by
  unfold marks
  have e : (m + 1) * 3 = m * 3 + 1 + 1 + 1 := by omega
  rw [e, List.range_succ, List.range_succ, List.range_succ]
  simp only [List.map_append, List.map_cons, List.map_nil, List.append_assoc, List.cons_append, List.nil_append]
  have h0 : mkv (upd a m x) (upd b m y) (upd c m z) (m * 3) = .int .i64 x := by
    unfold mkv
    rw [if_pos (by omega)]
    have : m * 3 / 3 = m := by omega
    rw [this, upd_same]
  have h1 : mkv (upd a m x) (upd b m y) (upd c m z) (m * 3 + 1) = .int .i64 y := by
    unfold mkv
    rw [if_neg (by omega), if_pos (by omega)]
    have : (m * 3 + 1) / 3 = m := by omega
    rw [this, upd_same]
  have h2 : mkv (upd a m x) (upd b m y) (upd c m z) (m * 3 + 1 + 1) = .int .u32 z := by
    unfold mkv
    rw [if_neg (by omega), if_neg (by omega)]
    have : (m * 3 + 1 + 1) / 3 = m := by omega
    rw [this, upd_same]
  rw [h0, h1, h2]
  congr 1
  refine List.map_congr_left fun k hk => ?_
  have hk2 := List.mem_range.1 hk
  have hne : k / 3 ≠ m := by omega
  unfold mkv
  rw [upd_other _ _ _ _ hne, upd_other _ _ _ _ hne, upd_other _ _ _ _ hne]
theorem append_marks {P : Program} (w : World) {ops : Array Oper} {rest : List Oper} {o : Oper} {a : Act} {Q : Exit → Act → World → Prop} (hgd : o.guard = none) (s x : Operand) (t : TypeId)
    (ho : o.op = .call { callee := .builtin .append, args := #[s, x], argTypes := #[t, t] }) (e : TypeId) (i : TypeInfo) (ht : P.underlying t = some (.slice e)) (hi : P.info? e = some i) (hz : i.zero = some (.agg #[.int .i64 0, .int .i64 0, .int .u32 0])) (hsize : i.size = 3) (hby : i.bytes = 24)
    (base : Nat) (lv : Value) (m : Nat) (fa fb fc : Nat → Int) (hs : a.eval s = lv) (h : w.ownsRow base e 3 lv m (marks fa fb fc m)) (ad : Addr) (c : Nat) (a1 a2 a3 : Int) (hx : a.eval x = .slice (some ad) 1 c) (hy : ∀ j u, ([.int .i64 a1, .int .i64 a2, .int .u32 a3] : List Value)[j]? = some u → w.cell? (ad.add j) = some u)
    (hl : m ≤ 1000000) (hB : base ≤ w.heap.size)
    (hK : ∀ v' w', w'.ownsRow base e 3 v' (m + 1) (marks (upd fa m a1) (upd fb m a2) (upd fc m a3) (m + 1)) → Turned (fun k => lv.ownBlock = some k) w w' → (∀ k, v'.ownBlock = some k → lv.ownBlock = some k ∨ w.heap.size ≤ k) → wpList P ops Q rest (a.put o.dst v') w') : wpList P ops Q (o :: rest) a w := by
  have hG := marks_more fa fb fc m a1 a2 a3
  have hone : ∀ u ∈ ([.int .i64 a1, .int .i64 a2, .int .u32 a3] : List Value), u.oneCell' = true := by
    intro u hu
    simp at hu
    rcases hu with rfl | rfl | rfl <;> rfl
  have hfl : (marks fa fb fc m).length = m * 3 := by simp [marks]
  have hmx : m + 1 ≤ maxLen := by unfold maxLen; omega
  have fin : ∀ v' w', w'.ownsRow w.heap.size e 3 v' (m + 1) (marks fa fb fc m ++ [.int .i64 a1, .int .i64 a2, .int .u32 a3]) → w.grownBy w' none → wpList P ops Q rest (a.put o.dst v') w' := by
    intro v' w' hown hgrow
    rw [hG] at hown
    refine hK v' w' ?_ ((turned_grown hgrow).mono fun k q => by cases q) (fun k hk => Or.inr (own_base hown k hk).1)
    obtain ⟨b1, b2⟩ := hown
    exact ⟨b1, b2.imp id fun ⟨g, cap, cur, c1, c2, c3⟩ => ⟨g, cap, cur, c1, Nat.le_trans hB c2, c3⟩⟩
  have h0 := h
  obtain ⟨h1, h2⟩ := h
  rcases h2 with ⟨rfl, rfl⟩ | ⟨g, cap, cur, rfl, b2, b3, b4, b5, b6, b7⟩
  · exact wpList_append_grows w hgd s x t ho e i _ 3 24 ht hi hz hsize hby rfl (by decide) none 0 0 (marks fa fb fc 0) hs (fun _ => ⟨rfl, rfl⟩) (by simp [marks]) (fun b hb => by cases hb) ad 1 c _ hx rfl hy hone (by omega) hmx (by omega) fin
  · by_cases hr : m + 1 ≤ cap
    · refine wpList_append_fits w hgd s x t ho base e i 3 ht hi hsize g m cap (marks fa fb fc m) hs h0 ad 1 c _ hx rfl hy hone hr (fun w' hown hgrow => ?_)
      rw [hG] at hown
      exact hK _ w' hown (turned_grown hgrow) (fun k hk => Or.inl hk)
    · refine wpList_append_grows w hgd s x t ho e i _ 3 24 ht hi hz hsize hby rfl (by decide) (some ⟨g, 0, none⟩) m cap (marks fa fb fc m) hs (fun q => by cases q) (by rw [hfl]) (fun b hb j u hj => ?_) ad 1 c _ hx rfl hy hone (by omega) hmx (by omega) fin
      obtain rfl := Option.some.inj hb
      exact World.ownsRow.cells h0 rfl j u hj
theorem own_marks {x : World} {B : Nat} {e : TypeId} {v : Value} {m : Nat} {fa fb fc : Nat → Int} (h : x.ownsRow B e 3 v m (marks fa fb fc m)) : ∃ q cap, v = .slice q m cap ∧ ∀ i, i < m → ∃ g, q = some ⟨g, 0, none⟩ ∧ g < x.heap.size ∧ x.cell? ⟨g, i * 3, none⟩ = some (.int .i64 (fa i)) ∧ x.cell? ⟨g, i * 3 + 1, none⟩ = some (.int .i64 (fb i)) ∧ x.cell? ⟨g, i * 3 + 2, none⟩ = some (.int .u32 (fc i)) := by
  have h0 := h
  obtain ⟨h1, h2⟩ := h
  rcases h2 with ⟨rfl, rfl⟩ | ⟨g, cap, cur, rfl, b2, b3, b4, b5, b6, b7⟩
  · exact ⟨none, 0, rfl, fun i hi => by omega⟩
  · refine ⟨_, cap, rfl, fun i hi => ⟨g, rfl, ?_, ?_, ?_, ?_⟩⟩
    · exact (own_base h0 g rfl).2
    · have q := World.ownsRow.cells h0 rfl (i * 3) (.int .i64 (fa i)) (by
        unfold marks
        rw [List.getElem?_map, List.getElem?_range (by omega)]
        show some (mkv fa fb fc (i * 3)) = _
        unfold mkv
        rw [if_pos (by omega)]
        have : i * 3 / 3 = i := by omega
        rw [this])
      rwa [Addr.add_lit, Nat.zero_add] at q
    · have q := World.ownsRow.cells h0 rfl (i * 3 + 1) (.int .i64 (fb i)) (by
        unfold marks
        rw [List.getElem?_map, List.getElem?_range (by omega)]
        show some (mkv fa fb fc (i * 3 + 1)) = _
        unfold mkv
        rw [if_neg (by omega), if_pos (by omega)]
        have : (i * 3 + 1) / 3 = i := by omega
        rw [this])
      rwa [Addr.add_lit, Nat.zero_add] at q
    · have q := World.ownsRow.cells h0 rfl (i * 3 + 2) (.int .u32 (fc i)) (by
        unfold marks
        rw [List.getElem?_map, List.getElem?_range (by omega)]
        show some (mkv fa fb fc (i * 3 + 2)) = _
        unfold mkv
        rw [if_neg (by omega), if_neg (by omega)]
        have : (i * 3 + 2) / 3 = i := by omega
        rw [this])
      rwa [Addr.add_lit, Nat.zero_add] at q
def ownP (G : PG) (k : Nat) : Prop := k = G.p ∨ k = G.gt ∨ k = G.gs ∨ k = G.gc
/-- all that the law holds in its loop -/
structure Lp (w x : World) (kind : Int) (bits hb tb : Nat) (G R : PG) (S T : PS) (lv : Value) (m : Nat) (fa fb fc : Nat → Int) : Prop where
  pr : Pr x G S
  rp : Rp x R kind bits hb tb T
  same : Same kind G R S T
  le : ∀ k, k < G.nc → S.ctr k ≤ 3
  dk : DK kind G
  row : x.ownsRow w.heap.size 49 3 lv m (marks fa fb fc m)
  gr : Below w.heap.size w x
  laid : Laid x
  lo : w.heap.size ≤ G.p ∧ w.heap.size ≤ G.gt ∧ w.heap.size ≤ G.gs ∧ w.heap.size ≤ G.gc ∧ w.heap.size ≤ R.p ∧ w.heap.size ≤ R.gt ∧ w.heap.size ≤ R.gs ∧ w.heap.size ≤ R.gc
  sep : ∀ k, ownP G k → ¬ ownP R k
  off : ∀ k, lv.ownBlock = some k → ¬ ownP G k ∧ ¬ ownP R k
  gl : ∀ k, k = 1 ∨ k = 2 ∨ k = 3 → k < w.heap.size
theorem Lp.offG {w x : World} {kind : Int} {bits hb tb : Nat} {G R : PG} {S T : PS} {lv : Value} {m : Nat} {fa fb fc : Nat → Int} (h : Lp w x kind bits hb tb G R S T lv m fa fb fc) : Off G := fun k hk => by
  have h1 := h.gl k hk
  have h2 := h.lo
  omega
theorem Lp.turned {Q : Nat → Prop} {w x y : World} {kind : Int} {bits hb tb : Nat} {G R : PG} {S T : PS} {lv : Value} {m : Nat} {fa fb fc : Nat → Int} (h : Lp w x kind bits hb tb G R S T lv m fa fb fc) (c : Turned Q x y) (h1 : ∀ k, ownP G k → ¬ Q k) (h2 : ∀ k, ownP R k → ¬ Q k) (h3 : ∀ k, lv.ownBlock = some k → ¬ Q k) (h4 : ∀ k, Q k → w.heap.size ≤ k) : Lp w y kind bits hb tb G R S T lv m fa fb fc := by
  obtain ⟨a1, a2, a3, a4, a5, a6, a7, a8, a9, a10, a11, a12⟩ := h
  exact ⟨a1.turned c (h1 _ (Or.inl rfl)) (h1 _ (Or.inr (Or.inl rfl))) (h1 _ (Or.inr (Or.inr (Or.inl rfl)))) (h1 _ (Or.inr (Or.inr (Or.inr rfl)))), a2.turned c (h2 _ (Or.inl rfl)) (h2 _ (Or.inr (Or.inl rfl))) (h2 _ (Or.inr (Or.inr (Or.inl rfl)))) (h2 _ (Or.inr (Or.inr (Or.inr rfl)))), a3, a4, a5, own_turned a6 c h3, a7.trans (c.below a7.size h4), a8.turned c (fun k hk hq => by have := h4 k hq; have := a12 k hk; omega), a9, a10, a11, a12⟩
theorem Lp.below {w x y : World} {kind : Int} {bits hb tb : Nat} {G R : PG} {S T : PS} {lv : Value} {m : Nat} {fa fb fc : Nat → Int} (h : Lp w x kind bits hb tb G R S T lv m fa fb fc) (c : Below x.heap.size x y) : Lp w y kind bits hb tb G R S T lv m fa fb fc :=
  h.turned (Q := fun _ => False) (Turned.of_below c) (fun _ _ q => q) (fun _ _ q => q) (fun _ _ q => q) (fun _ q => q.elim)
theorem Lp.onG {w x y : World} {kind : Int} {bits hb tb : Nat} {G R : PG} {S S' T : PS} {lv : Value} {m : Nat} {fa fb fc : Nat → Int} (h : Lp w x kind bits hb tb G R S T lv m fa fb fc) (c : Turned (ownP G) x y) (p : Pr y G S') : Pr y G S' ∧ Rp y R kind bits hb tb T ∧ y.ownsRow w.heap.size 49 3 lv m (marks fa fb fc m) ∧ Below w.heap.size w y ∧ Laid y := by
  obtain ⟨a1, a2, a3, a4, a5, a6, a7, a8, a9, a10, a11, a12⟩ := h
  have n : ∀ k, ownP R k → ¬ ownP G k := fun k hk hq => a10 k hq hk
  have lo : ∀ k, ownP G k → w.heap.size ≤ k := fun k hk => by unfold ownP at hk; omega
  exact ⟨p, a2.turned c (n _ (Or.inl rfl)) (n _ (Or.inr (Or.inl rfl))) (n _ (Or.inr (Or.inr (Or.inl rfl)))) (n _ (Or.inr (Or.inr (Or.inr rfl)))), own_turned a6 c (fun k hk => (a11 k hk).1), a7.trans (c.below a7.size lo), a8.turned c (fun k hk hq => by have := lo k hq; have := a12 k hk; omega)⟩
/-- both have gone one step -/
theorem Lp.step {w x y z : World} {kind : Int} {bits hb tb : Nat} {G R : PG} {S T S' T' : PS} {lv : Value} {m : Nat} {fa fb fc : Nat → Int} (h : Lp w x kind bits hb tb G R S T lv m fa fb fc) (c : Turned (ownP G) x y) (p : Pr y G S') (d : Turned (ownP R) y z) (q : Rp z R kind bits hb tb T') (s : Same kind G R S' T') (le : ∀ k, k < G.nc → S'.ctr k ≤ 3) : Lp w z kind bits hb tb G R S' T' lv m fa fb fc := by
  obtain ⟨b1, b2, b3, b4, b5⟩ := h.onG c p
  obtain ⟨a1, a2, a3, a4, a5, a6, a7, a8, a9, a10, a11, a12⟩ := h
  have lo : ∀ k, ownP R k → w.heap.size ≤ k := fun k hk => by unfold ownP at hk; omega
  have n : ∀ k, ownP G k → ¬ ownP R k := fun k hk hq => a10 k hk hq
  exact ⟨b1.turned d (n _ (Or.inl rfl)) (n _ (Or.inr (Or.inl rfl))) (n _ (Or.inr (Or.inr (Or.inl rfl)))) (n _ (Or.inr (Or.inr (Or.inr rfl)))), q, s, le, a5, own_turned b3 d (fun k hk => (a11 k hk).2), b4.trans (d.below b4.size lo), b5.turned d (fun k hk hq => by have := lo k hq; have := a12 k hk; omega), a9, a10, a11, a12⟩
theorem Lp.onL {w x y : World} {kind : Int} {bits hb tb : Nat} {G R : PG} {S T : PS} {lv lv' : Value} {m m' : Nat} {fa fb fc fa' fb' fc' : Nat → Int} (h : Lp w x kind bits hb tb G R S T lv m fa fb fc) (c : Turned (fun k => lv.ownBlock = some k) x y) (l : y.ownsRow w.heap.size 49 3 lv' m' (marks fa' fb' fc' m')) (hl : ∀ k, lv'.ownBlock = some k → lv.ownBlock = some k ∨ x.heap.size ≤ k) : Lp w y kind bits hb tb G R S T lv' m' fa' fb' fc' := by
  obtain ⟨a1, a2, a3, a4, a5, a6, a7, a8, a9, a10, a11, a12⟩ := h
  have nG : ∀ k, ownP G k → ¬ lv.ownBlock = some k := fun k hk hq => (a11 k hq).1 hk
  have nR : ∀ k, ownP R k → ¬ lv.ownBlock = some k := fun k hk hq => (a11 k hq).2 hk
  have lo : ∀ k, lv.ownBlock = some k → w.heap.size ≤ k := fun k hk => (own_base a6 k hk).1
  refine ⟨a1.turned c (nG _ (Or.inl rfl)) (nG _ (Or.inr (Or.inl rfl))) (nG _ (Or.inr (Or.inr (Or.inl rfl)))) (nG _ (Or.inr (Or.inr (Or.inr rfl)))), a2.turned c (nR _ (Or.inl rfl)) (nR _ (Or.inr (Or.inl rfl))) (nR _ (Or.inr (Or.inr (Or.inl rfl)))) (nR _ (Or.inr (Or.inr (Or.inr rfl)))), a3, a4, a5, l, a7.trans (c.below a7.size lo), a8.turned c (fun k hk hq => by have := lo k hq; have := a12 k hk; omega), a9, a10, fun k hk => ?_, a12⟩
  rcases hl k hk with q | q
  · exact a11 k q
  · have g1 := a1.cells.here
    have g2 := a1.tgt.here
    have g3 := a1.stk.here
    have g4 := a1.ctr.here
    have r1 := a2.cells.here
    have r2 := a2.tgt.here
    have r3 := a2.stk.here
    have r4 := a2.ctr.here
    unfold ownP
    omega
end Go.Proofs.YtaioaakaffafoaaDoor
