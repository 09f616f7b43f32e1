/-
  THE ANSWER: Enter.
-/
import Derived.Test.YthbffonedpeeiaaDoorJb
namespace Go.Proofs.YthbffonedpeeiaaDoor
open Go Go.RowKit
theorem append_ents {P : Program} (w : World) {ops : Array Oper} {rest : List Oper} {o : Oper} {a : Act} {Q : Exit → Act → World → Prop} (hgd : o.guard = none) (s x : Operand) (t : TypeId)
    (ho : o.op = .call { callee := .builtin .append, args := #[s, x], argTypes := #[t, t] }) (e : TypeId) (i : TypeInfo) (ht : P.underlying t = some (.slice e)) (hi : P.info? e = some i) (hz : i.zero = some (.agg zre)) (hsize : i.size = 13) (hby : i.bytes = 88)
    (base : Nat) (lv : Value) (l : List Re) (hs : a.eval s = lv) (h : w.ownsRow base e 13 lv l.length (flatR l)) (ad : Addr) (c : Nat) (y : Re) (hx : a.eval x = .slice (some ad) 1 c) (hy : ∀ j u, y.vs[j]? = some u → w.cell? (ad.add j) = some u)
    (hl : l.length ≤ 1000000) (hB : base ≤ w.heap.size)
    (hK : ∀ v' w', w'.ownsRow base e 13 v' (l.length + 1) (flatR (l ++ [y])) → Turned (fun k => lv.ownBlock = some k) w w' → (∀ k, v'.ownBlock = some k → lv.ownBlock = some k ∨ w.heap.size ≤ k) → wpList P ops Q rest (a.put o.dst v') w') : wpList P ops Q (o :: rest) a w := by
  have hG : flatR l ++ y.vs = flatR (l ++ [y]) := by rw [flatR_app, flatR_one]
  have hone : ∀ u ∈ y.vs, u.oneCell' = true := y.one
  have hfl := flatR_len l
  have hmx : l.length + 1 ≤ maxLen := by unfold maxLen; omega
  have fin : ∀ v' w', w'.ownsRow w.heap.size e 13 v' (l.length + 1) (flatR l ++ y.vs) → w.grownBy w' none → wpList P ops Q rest (a.put o.dst v') w' := by
    intro v' w' hown hgrow
    rw [hG] at hown
    refine hK v' w' ?_ ((turned_grown hgrow).mono fun k q => by cases q) (fun k hk => Or.inr (own_base hown k hk).1)
    obtain ⟨b1, b2⟩ := hown
    exact ⟨b1, b2.imp id fun ⟨g, cap, cur, c1, c2, c3⟩ => ⟨g, cap, cur, c1, Nat.le_trans hB c2, c3⟩⟩
  have h0 := h
  obtain ⟨h1, h2⟩ := h
  rcases h2 with ⟨rfl, hn⟩ | ⟨g, cap, cur, rfl, b2, b3, b4, b5, b6, b7⟩
  · obtain rfl : l = [] := List.eq_nil_of_length_eq_zero hn
    exact wpList_append_grows w hgd s x t ho e i _ 13 88 ht hi hz hsize hby rfl (by decide) none 0 0 (flatR []) hs (fun _ => ⟨rfl, rfl⟩) (by simp [flatR]) (fun b hb => by cases hb) ad 1 c y.vs hx rfl hy hone (by omega) hmx (by simp) fin
  · by_cases hr : l.length + 1 ≤ cap
    · refine wpList_append_fits w hgd s x t ho base e i 13 ht hi hsize g l.length cap (flatR l) hs h0 ad 1 c y.vs hx rfl hy hone hr (fun w' hown hgrow => ?_)
      rw [hG] at hown
      exact hK _ w' hown (turned_grown hgrow) (fun k hk => Or.inl hk)
    · refine wpList_append_grows w hgd s x t ho e i _ 13 88 ht hi hz hsize hby rfl (by decide) (some ⟨g, 0, none⟩) l.length cap (flatR l) hs (fun q => by cases q) hfl (fun b hb j u hj => ?_) ad 1 c y.vs hx rfl hy hone (by omega) hmx (by omega) fin
      obtain rfl := Option.some.inj hb
      exact World.ownsRow.cells h0 rfl j u hj
/-- a queue with another row -/
theorem Rm.row {w w' : World} {B p : Nat} {v v' : Value} {S S' : RS} (k : Rm w B p v S) (hsz : S'.size = S.size) (own : w'.ownsRow B 89 13 v' S'.on.length (flatR S'.on)) (t : Turned (fun j => v.ownBlock = some j) w w') (hv' : ∀ j, v'.ownBlock = some j → v.ownBlock = some j ∨ w.heap.size ≤ j) (hle : S'.on.length ≤ 32) (hfit : ∀ i, i < S'.on.length → (S'.at i).Fit) : RStep w (w'.setCell ⟨p, 1, none⟩ v') B p v v' S' := by
  have hp := k.c.here
  have hvp := k.vp
  have t1 : Turned (fun j => j = p) w' (w'.setCell ⟨p, 1, none⟩ v') := (Turned.refl (fun j => j = p) w').set (b := p) rfl 1 v'
  have nvp : v'.ownBlock ≠ some p := fun e => (hv' p e).elim hvp (fun h => by omega)
  refine ⟨⟨?_, own_turned own t1 (fun j hj e => nvp (by rw [hj, e])), nvp, k.lo, ⟨hle, by rw [hsz]; exact k.small.2⟩, hfit⟩, (t.mono (fun j e => Or.inr e)).trans (t1.mono (fun j e => Or.inl e)), ?_⟩
  · refine ((t.cells k.c hvp).set 1 (by decide) v').ext (fun o ho => ?_)
    match o, ho with
    | 0, _ => rw [hsz]; rfl
    | 1, _ => rfl
  · rintro j (rfl | h)
    · exact Or.inl (Or.inl rfl)
    · exact (hv' j h).imp (fun e => Or.inr e) id
def RS.young (S : RS) : Int := if S.on.length = 0 then -1 else (S.at (S.on.length - 1)).n
theorem rlast {B p : Nat} {v : Value} {S : RS} {w : World} (k : Rm w B p v S) (h : 0 < S.on.length) : ∃ g cap, v = .slice (some ⟨g, 0, none⟩) S.on.length cap ∧ w.cell? ⟨p, 1, none⟩ = some (.slice (some ⟨g, 0, none⟩) S.on.length cap) ∧ w.cell? ⟨g, (S.on.length - 1) * 13, none⟩ = some (.int .i64 S.young) ∧ w.cell? ⟨g, (S.on.length - 1) * 13 + 12, none⟩ = some (.bool (S.at (S.on.length - 1)).rt) := by
  obtain ⟨g, cap, hv, -, -, -, hrow⟩ := k.rows (S.on.length - 1) (by omega)
  obtain ⟨x1, x2, -⟩ := hrow w (Below.refl _ _)
  obtain ⟨y0, -, -, -, -, -, -, -, y12⟩ := rrow_cells x2
  refine ⟨g, cap, hv, x1, ?_, y12⟩
  unfold RS.young
  rw [if_neg (by omega)]
  exact y0
set_option maxRecDepth 100000 in
set_option maxHeartbeats 1000000 in
theorem renter_order (B p : Nat) (v : Value) (S : RS) (seq : Int) (st : Bool) (w : World) (k : Rm w B p v S) (h : seq < 0 ∨ seq ≤ S.young) : Calls Tryd.prog 9 #[.pointer (some ⟨p, 0, none⟩), .int .i64 seq, .bool st] w fun e w' => e = .returned (.int .i64 5) ∧ Below w.heap.size w w' := by
  by_cases h0 : seq < 0
  · clear h
    have hu : undef = Value.tuple #[] := rfl
    go_enter Tryd.func9, Tryd.ntmps9
    go_wp2
    go_quiet (fail)
    go_wp2
    go_ret
    exact ⟨rfl, below_drewN w _⟩
  · have h1 : seq ≤ S.young := by omega
    have hl : 0 < S.on.length := by
      rcases Nat.eq_zero_or_pos S.on.length with q | q
      · unfold RS.young at h1
        rw [if_pos q] at h1
        omega
      · exact q
    have hs := k.small.1
    obtain ⟨g, cap, -, x1, y0, -⟩ := rlast k hl
    generalize S.young = yn at y0 h1
    obtain ⟨m, hm⟩ : ∃ m, S.on.length = m := ⟨_, rfl⟩
    rw [hm] at x1 y0 hl hs
    have ew : IntKind.i64.wrap ((m : Int) - 1) = ((m - 1 : Nat) : Int) := by
      simp only [IntKind.wrap_i64]
      omega
    have ew2 : m - 1 < m := by omega
    have ew3 : ((m - 1 : Nat) : Int) * 13 = (((m - 1) * 13 : Nat) : Int) := by omega
    have e5 : (0 : Int) < m := by omega
    clear k h hm
    go_enter Tryd.func9, Tryd.ntmps9
    go_wp2
    go_quiet (fail)
    go_wp2
    go_ret
    exact ⟨rfl, below_drewN w _⟩
def newE (seq : Int) (st : Bool) : Re := ⟨seq, st, false, 0, 0, false, 0, false, fun _ => 0, false⟩
set_option maxRecDepth 100000 in
set_option maxHeartbeats 1000000 in
theorem renter_full (B p : Nat) (v : Value) (S : RS) (seq : Int) (st : Bool) (w : World) (k : Rm w B p v S) (h : ¬ (seq < 0 ∨ seq ≤ S.young)) (hf : S.on.length = S.size) (hz : 0 < S.size) : Calls Tryd.prog 9 #[.pointer (some ⟨p, 0, none⟩), .int .i64 seq, .bool st] w fun e w' => e = .returned (.int .i64 4) ∧ Below w.heap.size w w' := by
  have h0 : ¬ seq < 0 := by omega
  have h1 : ¬ seq ≤ S.young := by omega
  have hl : 0 < S.on.length := by omega
  have hs := k.small.1
  obtain ⟨g, cap, -, x1, y0, -⟩ := rlast k hl
  have c0 := k.cells.2.1
  rw [← hf] at c0
  generalize S.young = yn at y0 h1
  obtain ⟨m, hm⟩ : ∃ m, S.on.length = m := ⟨_, rfl⟩
  rw [hm] at x1 y0 hl hs c0
  have ew : IntKind.i64.wrap ((m : Int) - 1) = ((m - 1 : Nat) : Int) := by
    simp only [IntKind.wrap_i64]
    omega
  have ew2 : m - 1 < m := by omega
  have ew3 : ((m - 1 : Nat) : Int) * 13 = (((m - 1) * 13 : Nat) : Int) := by omega
  have e5 : (0 : Int) < m := by omega
  clear k h hm hf hz
  go_enter Tryd.func9, Tryd.ntmps9
  go_wp2
  go_quiet (fail)
  go_wp2
  go_quiet (fail)
  go_wp2
  go_ret
  refine ⟨rfl, ?_⟩
  first
    | exact below_drewN w _
    | exact below2 (below_drewN w _) (below_drewN _ _)
end Go.Proofs.YthbffonedpeeiaaDoor
