/-
  THE ANSWER's WINDOW IN MEMORY: the same list; by register whether its value is there.
-/
import Derived.Test.YtckglpmjaplcnaaDoorUa
namespace Go.Proofs.YtckglpmjaplcnaaDoor
open Go Go.RowKit
/-- the answer's window at p: its row is v, its registers' row is in h -/
structure RWin (x : World) (B p h c : Nat) (v : Value) (S : WS) : Prop where
  c : CellsAt 4 x p (wv S.size S.next v h c S.nr)
  l : x.ownsRow B 63 5 v S.on.length (flatE S.on)
  a : CellsAt S.nr x h (fun o => .bool (!S.ab o))
  ne : p ≠ h
  vp : v.ownBlock ≠ some p
  vh : v.ownBlock ≠ some h
  small : S.on.length ≤ 64 ∧ S.nr ≤ 128 ∧ S.next ≤ 1000000 ∧ S.size ≤ 64
  lo : B ≤ p ∧ B ≤ h
  fit : ∀ i, i < S.on.length → (S.on.getD i e0).s1 < S.nr ∧ (S.on.getD i e0).s2 < S.nr
theorem RWin.turned {Q : Nat → Prop} {x y : World} {B p h c : Nat} {v : Value} {S : WS} (k : RWin x B p h c v S) (t : Turned Q x y) (hp : ¬ Q p) (hh : ¬ Q h) (hv : ∀ j, v.ownBlock = some j → ¬ Q j) : RWin y B p h c v S :=
  ⟨t.cells k.c hp, own_turned k.l t hv, t.cells k.a hh, k.ne, k.vp, k.vh, k.small, k.lo, k.fit⟩
theorem RWin.below {x y : World} {B p h c : Nat} {v : Value} {S : WS} (k : RWin x B p h c v S) (t : Below x.heap.size x y) : RWin y B p h c v S :=
  k.turned (Q := fun _ => False) ⟨t.os, t.tape, t.output, t.size, fun i hi _ => t.block i hi⟩ (fun q => q) (fun q => q) (fun _ _ q => q)
theorem RWin.cells {x : World} {B p h c : Nat} {v : Value} {S : WS} (k : RWin x B p h c v S) : p < x.heap.size ∧ x.cell? ⟨p, 0, none⟩ = some (.int .i64 S.size) ∧ x.cell? ⟨p, 1, none⟩ = some (.int .i64 S.next) ∧ x.cell? ⟨p, 2, none⟩ = some v ∧ x.cell? ⟨p, 3, none⟩ = some (.slice (some ⟨h, 0, none⟩) S.nr c) ∧ (∀ o, x.frozen? ⟨p, o, none⟩ = false) :=
  ⟨k.c.here, k.c.cell 0 (by omega), k.c.cell 1 (by omega), k.c.cell 2 (by omega), k.c.cell 3 (by omega), k.c.free⟩
theorem RWin.flag {x : World} {B p h c : Nat} {v : Value} {S : WS} (k : RWin x B p h c v S) (q : Nat) (hq : q < S.nr) : x.cell? ⟨h, q, none⟩ = some (.bool (!S.ab q)) := k.a.cell q hq
theorem RWin.setSt {x : World} {B p h c g cap : Nat} {S : WS} (k : RWin x B p h c (.slice (some ⟨g, 0, none⟩) S.on.length cap) S) (i : Nat) (hi : i < S.on.length) (s : Int) : RWin (x.setCell ⟨g, i * 5 + 4, none⟩ (.int .i64 s)) B p h c (.slice (some ⟨g, 0, none⟩) S.on.length cap) (S.setSt i s) := by
  have hl : (S.setSt i s).on.length = S.on.length := by simp [WS.setSt]
  have np : p ≠ g := fun e => k.vp (by rw [e]; rfl)
  have nh : h ≠ g := fun e => k.vh (by rw [e]; rfl)
  refine ⟨k.c.setOther _ _ np, ?_, k.a.setOther _ _ nh, k.ne, k.vp, k.vh, by rw [hl]; exact k.small, k.lo, fun j hj => ?_⟩
  · rw [hl]
    show World.ownsRow _ B _ 5 _ S.on.length (flatE (S.on.set i { S.on.getD i e0 with st := s }))
    rw [← flatE_set S.on i s hi]
    exact own_set k.l (i * 5 + 4) (.int .i64 s)
  · rw [hl] at hj
    show ((S.on.set i { S.on.getD i e0 with st := s }).getD j e0).s1 < S.nr ∧ ((S.on.set i { S.on.getD i e0 with st := s }).getD j e0).s2 < S.nr
    rw [getD_set _ _ _ _ hi]
    by_cases e : i = j
    · subst e
      rw [if_pos rfl]
      exact k.fit i hi
    · rw [if_neg e]
      exact k.fit j hj
theorem RWin.setNext {x : World} {B p h c : Nat} {v : Value} {S : WS} (k : RWin x B p h c v S) (n : Nat) (hn : n ≤ 1000000) : RWin (x.setCell ⟨p, 1, none⟩ (.int .i64 n)) B p h c v { S with next := n } := by
  refine ⟨(k.c.set 1 (by omega) _).ext fun o ho => ?_, own_turned k.l ((Turned.refl (fun k => k = p) x).set (b := p) rfl _ _) (fun j hj e => k.vp (by rw [hj, e])), k.a.setOther _ _ (fun e => k.ne e.symm), k.ne, k.vp, k.vh, ⟨k.small.1, k.small.2.1, hn, k.small.2.2.2⟩, k.lo, k.fit⟩
  match o, ho with
  | 0, _ => rfl
  | 1, _ => rfl
  | 2, _ => rfl
  | 3, _ => rfl
theorem RWin.push {x y : World} {B p h c : Nat} {v v' : Value} {S : WS} (k : RWin x B p h c v S) (e : Ent) (hr : y.ownsRow B 63 5 v' (S.on.length + 1) (flatE (S.on ++ [e]))) (t : Turned (fun k => v.ownBlock = some k) x y) (hb : v'.ownBlock = v.ownBlock ∨ ∃ j, v'.ownBlock = some j ∧ x.heap.size ≤ j) (hl : S.on.length < 64) (hf : e.s1 < S.nr ∧ e.s2 < S.nr) : RWin (y.setCell ⟨p, 2, none⟩ v') B p h c v' { S with on := S.on ++ [e] } := by
  have hp := k.c.here
  have hh := k.a.here
  have np : v'.ownBlock ≠ some p := by
    intro q
    rcases hb with e1 | ⟨j, e1, e2⟩
    · exact k.vp (by rw [← e1, q])
    · rw [e1] at q
      simp at q
      omega
  have nh : v'.ownBlock ≠ some h := by
    intro q
    rcases hb with e1 | ⟨j, e1, e2⟩
    · exact k.vh (by rw [← e1, q])
    · rw [e1] at q
      simp at q
      omega
  have e3 : (S.on ++ [e]).length = S.on.length + 1 := by simp
  refine ⟨((t.cells k.c k.vp).set 2 (by omega) _).ext fun o ho => ?_, ?_, (t.cells k.a k.vh).setOther _ _ (fun e => k.ne e.symm), k.ne, np, nh, ⟨by rw [e3]; omega, k.small.2⟩, k.lo, fun j hj => ?_⟩
  · match o, ho with
    | 0, _ => rfl
    | 1, _ => rfl
    | 2, _ => rfl
    | 3, _ => rfl
  · rw [e3]
    exact own_turned hr ((Turned.refl (fun k => k = p) y).set (b := p) rfl _ _) (fun j hj e => np (by rw [hj, e]))
  · rw [e3] at hj
    show ((S.on ++ [e]).getD j e0).s1 < S.nr ∧ ((S.on ++ [e]).getD j e0).s2 < S.nr
    simp only [List.getD_eq_getElem?_getD]
    by_cases q : j < S.on.length
    · rw [List.getElem?_append_left q]
      have := k.fit j q
      simp only [List.getD_eq_getElem?_getD] at this
      exact this
    · have : j = S.on.length := by omega
      subst this
      simp
      exact hf
theorem RWin.cut {x : World} {B p h c cap : Nat} {q : Option Addr} {S : WS} (k : RWin x B p h c (.slice q S.on.length cap) S) (m : Nat) (hm : m ≤ S.on.length) : RWin (x.setCell ⟨p, 2, none⟩ (.slice q m cap)) B p h c (.slice q m cap) { S with on := S.on.take m } := by
  have hl : (S.on.take m).length = m := by rw [List.length_take]; omega
  have ho : (Value.slice q m cap).ownBlock = (Value.slice q S.on.length cap).ownBlock := by cases q <;> rfl
  refine ⟨(k.c.set 2 (by omega) _).ext fun o ho => ?_, ?_, k.a.setOther _ _ (fun e => k.ne e.symm), k.ne, by rw [ho]; exact k.vp, by rw [ho]; exact k.vh, ⟨by rw [hl]; have := k.small.1; omega, k.small.2⟩, k.lo, fun j hj => ?_⟩
  · match o, ho with
    | 0, _ => rfl
    | 1, _ => rfl
    | 2, _ => rfl
    | 3, _ => rfl
  · rw [hl]
    exact own_turned (own_cut k.l hm) ((Turned.refl (fun k => k = p) x).set (b := p) rfl _ _) (fun j hj e => k.vp (by rw [← ho, hj, e]))
  · rw [hl] at hj
    show ((S.on.take m).getD j e0).s1 < S.nr ∧ ((S.on.take m).getD j e0).s2 < S.nr
    have e : (S.on.take m).getD j e0 = S.on.getD j e0 := by
      simp only [List.getD_eq_getElem?_getD]
      rw [List.getElem?_take, if_pos hj]
    rw [e]
    exact k.fit j (by omega)
set_option maxHeartbeats 1000000 in
theorem rregister_any (B p h c : Nat) (v : Value) (S : WS) (q : Int) (w : World) (k : RWin w B p h c v S) : Calls Tryd.prog 30 #[.pointer (some ⟨p, 0, none⟩), .int .i64 q] w fun e w' => e = .returned (.bool (decide (-1 ≤ q ∧ q < S.nr))) ∧ w' = w := by
  obtain ⟨hp, -, -, -, c3, -⟩ := k.cells
  have hs := k.small.2.1
  clear k
  by_cases h0 : -1 ≤ q
  · by_cases h7 : q < S.nr
    · have e1 : decide (-1 ≤ q ∧ q < S.nr) = true := by simp [h0, h7]
      rw [e1]
      go_enter Tryd.func30, Tryd.ntmps30
      go_wp2
      go_ret
      exact ⟨rfl, rfl⟩
    · have e1 : decide (-1 ≤ q ∧ q < S.nr) = false := by simp [h7]
      rw [e1]
      go_enter Tryd.func30, Tryd.ntmps30
      go_wp2
      go_ret
      exact ⟨rfl, rfl⟩
  · have e1 : decide (-1 ≤ q ∧ q < S.nr) = false := by simp [h0]
    have hu : undef = Value.tuple #[] := rfl
    have hd : decide (-1 ≤ q) = false := by simp [h0]
    rw [e1]
    go_enter Tryd.func30, Tryd.ntmps30
    go_wp2
    go_ret
    exact ⟨rfl, rfl⟩
set_option maxHeartbeats 1000000 in
theorem rwake_good (B p h c : Nat) (v : Value) (S : WS) (q : Nat) (w : World) (k : RWin w B p h c v S) (hq : q < S.nr) : Calls Tryd.prog 11 #[.pointer (some ⟨p, 0, none⟩), .int .i64 q] w fun e w' => e = .returned (.int .i64 0) ∧ RWin w' B p h c v { S with ab := upd S.ab q false } ∧ Turned (fun k => k = h) w w' := by
  obtain ⟨hp, -, -, -, c3, -⟩ := k.cells
  have c4 := k.flag q hq
  have f4 := k.a.free
  have hs := k.small.2.1
  have HK := Hid.in k
  have hd : decide ((q : Int) < 0) = false := by simp
  clear k
  go_enter Tryd.func11, Tryd.ntmps11
  go_wp2
  go_ret
  refine ⟨rfl, ?_, (Turned.refl (fun k => k = h) w).set (b := h) rfl _ _⟩
  have k := HK.out
  refine ⟨k.c.setOther _ _ k.ne, own_turned k.l ((Turned.refl (fun k => k = h) w).set (b := h) rfl _ _) (fun j hj e => k.vh (by rw [hj, e])), (k.a.set q hq _).ext fun o ho => ?_, k.ne, k.vp, k.vh, k.small, k.lo, k.fit⟩
  unfold upd
  by_cases e : o = q
  · simp [e]
  · simp [e]
set_option maxHeartbeats 1000000 in
theorem rwake_bad (B p h c : Nat) (v : Value) (S : WS) (q : Int) (w : World) (k : RWin w B p h c v S) (hq : ¬ (0 ≤ q ∧ q < S.nr)) : Calls Tryd.prog 11 #[.pointer (some ⟨p, 0, none⟩), .int .i64 q] w fun e w' => e = .returned (.int .i64 3) ∧ w' = w := by
  obtain ⟨hp, -, -, -, c3, -⟩ := k.cells
  have hs := k.small.2.1
  clear k
  by_cases h0 : q < 0
  · have hu : undef = Value.tuple #[] := rfl
    go_enter Tryd.func11, Tryd.ntmps11
    go_wp2
    go_ret
    exact ⟨rfl, rfl⟩
  · have hd : decide (q < 0) = false := by simp; omega
    have h1 : (S.nr : Int) ≤ q := by omega
    go_enter Tryd.func11, Tryd.ntmps11
    go_wp2
    go_ret
    exact ⟨rfl, rfl⟩
theorem at_inj {S : WS} {num : Int} {i j : Nat} (a : S.At num i) (b : S.At num j) : i = j := by
  obtain ⟨a1, a2, a3⟩ := a
  obtain ⟨b1, b2, b3⟩ := b
  rcases Nat.lt_trichotomy i j with q | q | q
  · exact absurd a2 (b3 i q)
  · exact q
  · exact absurd b2 (a3 j q)
set_option maxHeartbeats 1000000 in
theorem rfind_any (B p h c : Nat) (v : Value) (S : WS) (num : Int) (w : World) (k : RWin w B p h c v S) : Calls Tryd.prog 37 #[.pointer (some ⟨p, 0, none⟩), .int .i64 num] w fun e w' => ((∃ i, S.At num i ∧ e = .returned (.int .i64 i)) ∨ ((∀ i, ¬ S.At num i) ∧ e = .returned (.int .i64 (-1)))) ∧ w' = w := by
  obtain ⟨hp, -, -, c2, -, -⟩ := k.cells
  obtain ⟨q, cap, rfl, hcap, hel⟩ := own_ents k.l
  obtain ⟨hs, -, -, -⟩ := k.small
  have hel2 : ∀ i, i < S.on.length → ∃ g, q = some ⟨g, 0, none⟩ ∧ g < w.heap.size ∧ w.cell? ⟨g, i * 5, none⟩ = some (.int .i64 (S.num i)) := by
    intro i hi
    obtain ⟨g, h1, -, h2, h3, -⟩ := hel i hi
    exact ⟨g, h1, h2, h3⟩
  have HE := Hid.in hel2
  clear k hel hel2
  go_enter Tryd.func37, Tryd.ntmps37
  go_wp2
  go_loopw [5] (fun kv wr => ∃ i : Nat, kv = .int .i64 i ∧ i ≤ S.on.length ∧ (∀ j, j < i → S.num j ≠ num) ∧ w = wr) (fun kv _ => S.on.length + 1 - (intOf kv).toNat)
  case atStart => exact ⟨0, rfl, Nat.zero_le _, fun j hj => by omega, rfl⟩
  case round =>
    obtain ⟨i, rfl, hi, hno, rfl⟩ := hrel
    have HNO := Hid.in hno
    clear hno
    by_cases hlt : i < S.on.length
    · obtain ⟨g, rfl, hg, d0⟩ := HE.out i hlt
      obtain ⟨nn, hnn⟩ : ∃ nn, S.num i = nn := ⟨_, rfl⟩
      rw [hnn] at d0
      have HN := Hid.in hnn
      clear hnn
      by_cases he : nn = num
      · subst he
        go_wp2
        go_ret
        exact ⟨Or.inl ⟨i, ⟨hlt, HN.out, HNO.out⟩, rfl⟩, rfl⟩
      · have hd : (nn == num) = false := by simp [he]
        go_wp2
        go_roundw
        case rel =>
          refine ⟨i + 1, by simp, by omega, fun j hj => ?_, trivial⟩
          by_cases e : j = i
          · subst e
            rw [HN.out]
            exact he
          · exact HNO.out j (by omega)
        case measure => simp [intOf]; omega
    · go_wp2
      go_ret
      refine ⟨Or.inr ⟨fun j hj => ?_, rfl⟩, rfl⟩
      exact HNO.out j (by have := hj.1; omega) hj.2.1
end Go.Proofs.YtckglpmjaplcnaaDoor
