/-
  LSQ: what turns a queue; New, Enter.
-/
import Derived.Test.YthbffonedpeeiaaDoorMk
namespace Go.Proofs.YthbffonedpeeiaaDoor
open Go Go.RowKit
def errV (n : Int) : Value := .iface 56 (.int .i64 n)
theorem own_slice {x : World} {B : Nat} {e : TypeId} {size : Nat} {v : Value} {n : Nat} {xs : List Value} (h : x.ownsRow B e size v n xs) : ∃ q cap, v = .slice q n cap := by
  rcases h.2 with ⟨hv, hn⟩ | ⟨g, cap, cur, rfl, -⟩
  · exact ⟨none, 0, by rw [hv, hn]⟩
  · exact ⟨_, cap, rfl⟩
/-- a queue has turned into another -/
structure Step (w w' : World) (B p : Nat) (v : Value) (S : QS) (v' : Value) (S' : QS) : Prop where
  q : Qm w' B p v' S'
  t : Turned (qmine p v S) w w'
  o : ∀ j, qmine p v' S' j → qmine p v S j ∨ w.heap.size ≤ j
theorem QS.at_push (S : QS) (y : Ac) (i : Nat) (h : i < S.on.length) : QS.at ⟨S.size, S.on ++ [y]⟩ i = S.at i := by
  unfold QS.at
  simp [List.getD_eq_getElem?_getD, List.getElem?_append_left h]
theorem QS.at_last (S : QS) (y : Ac) : QS.at ⟨S.size, S.on ++ [y]⟩ S.on.length = y := by
  unfold QS.at
  simp [List.getD_eq_getElem?_getD]
theorem Qm.push {w w' : World} {B p : Nat} {v v' : Value} {S : QS} {y : Ac} (k : Qm w B p v S) (hy : y.Fit) (hfr : y.fr = []) (hfb : y.fb = none) (hfc : y.fc = 0) (own : w'.ownsRow B 86 8 v' (S.on.length + 1) (flatA (S.on ++ [y]))) (t : Turned (fun j => v.ownBlock = some j) w w') (hv' : ∀ j, v'.ownBlock = some j → v.ownBlock = some j ∨ w.heap.size ≤ j) (hroom : S.on.length < 32) : Step w (w'.setCell ⟨p, 1, none⟩ v') B p v S v' ⟨S.size, S.on ++ [y]⟩ := by
  have hp := k.c.here
  have hvp := k.vp
  have t1 : Turned (fun j => j = p) w' (w'.setCell ⟨p, 1, none⟩ v') := (Turned.refl (fun j => j = p) w').set (b := p) rfl 1 v'
  have hlen : (S.on ++ [y]).length = S.on.length + 1 := by simp
  have nvp : v'.ownBlock ≠ some p := fun e => (hv' p e).elim hvp (fun h => by omega)
  have atl : ∀ i, i < (S.on ++ [y]).length → (i < S.on.length ∧ QS.at ⟨S.size, S.on ++ [y]⟩ i = S.at i) ∨ (i = S.on.length ∧ QS.at ⟨S.size, S.on ++ [y]⟩ i = y) := by
    intro i hi
    rcases Nat.lt_or_ge i S.on.length with q | q
    · exact Or.inl ⟨q, S.at_push y i q⟩
    · obtain rfl : i = S.on.length := by omega
      exact Or.inr ⟨rfl, S.at_last y⟩
  have hown : ∀ i, i < S.on.length → ∀ b, (S.at i).fb = some b → B ≤ b ∧ b < w.heap.size := fun i hi b hb => own_base (k.f i hi) b (by rw [Ac.vb]; exact hb)
  refine ⟨⟨?_, ?_, ?_, nvp, ?_, ?_, ?_, k.lo, ?_, ?_⟩, ?_, ?_⟩
  · refine ((t.cells k.c hvp).set 1 (by decide) v').ext (fun o ho => ?_)
    match o, ho with
    | 0, _ => rfl
    | 1, _ => rfl
  · have := own_turned own t1 (fun j hj e => nvp (by rw [hj, e]))
    rw [← hlen] at this
    exact this
  · intro i hi
    rcases atl i hi with ⟨h1, h2⟩ | ⟨h1, h2⟩
    · rw [h2]
      refine own_turned (own_turned (k.f i h1) t (fun j hj e => ?_)) t1 (fun j hj e => ?_)
      · rw [Ac.vb] at hj
        exact k.fv i h1 j hj e
      · rw [Ac.vb] at hj
        exact k.fp i h1 (by rw [hj, e])
    · rw [h2]
      refine ⟨by rw [hfr]; rfl, Or.inl ⟨by unfold Ac.v; rw [hfb, hfr, hfc]; rfl, by rw [hfr]; rfl⟩⟩
  · intro i hi
    rcases atl i hi with ⟨h1, h2⟩ | ⟨h1, h2⟩
    · rw [h2]; exact k.fp i h1
    · rw [h2, hfb]; simp
  · intro i hi b hb
    rcases atl i hi with ⟨h1, h2⟩ | ⟨h1, h2⟩
    · rw [h2] at hb
      intro e
      rcases hv' b e with q | q
      · exact k.fv i h1 b hb q
      · have := (hown i h1 b hb).2
        omega
    · rw [h2, hfb] at hb; cases hb
  · intro i j hi hj b hbi hbj
    rcases atl i hi with ⟨h1, h2⟩ | ⟨h1, h2⟩
    · rcases atl j hj with ⟨h3, h4⟩ | ⟨h3, h4⟩
      · rw [h2] at hbi
        rw [h4] at hbj
        exact k.ff i j h1 h3 b hbi hbj
      · rw [h4, hfb] at hbj; cases hbj
    · rw [h2, hfb] at hbi; cases hbi
  · have := k.small
    show (S.on ++ [y]).length ≤ 32 ∧ S.size ≤ 32
    omega
  · intro i hi
    rcases atl i hi with ⟨h1, h2⟩ | ⟨h1, h2⟩
    · rw [h2]; exact k.fit i h1
    · rw [h2]; exact hy
  · exact (t.mono (fun j e => Or.inr (Or.inl e))).trans (t1.mono (fun j e => Or.inl e))
  · rintro j (rfl | h | ⟨i, hi, h⟩)
    · exact Or.inl (Or.inl rfl)
    · exact (hv' j h).imp (fun e => Or.inr (Or.inl e)) id
    · rcases atl i hi with ⟨h1, h2⟩ | ⟨h1, h2⟩
      · rw [h2] at h
        exact Or.inl (Or.inr (Or.inr ⟨i, h1, h⟩))
      · rw [h2, hfb] at h; cases h
theorem Step.same {w w' : World} {B p : Nat} {v : Value} {S : QS} (k : Qm w B p v S) (b : Below w.heap.size w w') : Step w w' B p v S v S :=
  ⟨k.below b, Turned.of_below b, fun _ h => Or.inl h⟩
theorem append_accs {P : Program} (w : World) {ops : Array Oper} {rest : List Oper} {o : Oper} {a : Act} {Q : Exit → Act → World → Prop} (hgd : o.guard = none) (s x : Operand) (t : TypeId)
    (ho : o.op = .call { callee := .builtin .append, args := #[s, x], argTypes := #[t, t] }) (e : TypeId) (i : TypeInfo) (ht : P.underlying t = some (.slice e)) (hi : P.info? e = some i) (hz : i.zero = some (.agg #[.int .i64 0, .bool false, .int .u32 0, .int .i64 0, .int .u32 0, .bool false, .bool false, .slice none 0 0])) (hsize : i.size = 8) (hby : i.bytes = 56)
    (base : Nat) (lv : Value) (l : List Ac) (hs : a.eval s = lv) (h : w.ownsRow base e 8 lv l.length (flatA l)) (ad : Addr) (c : Nat) (y : Ac) (hx : a.eval x = .slice (some ad) 1 c) (hy : ∀ j u, y.vs[j]? = some u → w.cell? (ad.add j) = some u)
    (hl : l.length ≤ 1000000) (hB : base ≤ w.heap.size)
    (hK : ∀ v' w', w'.ownsRow base e 8 v' (l.length + 1) (flatA (l ++ [y])) → Turned (fun k => lv.ownBlock = some k) w w' → (∀ k, v'.ownBlock = some k → lv.ownBlock = some k ∨ w.heap.size ≤ k) → wpList P ops Q rest (a.put o.dst v') w') : wpList P ops Q (o :: rest) a w := by
  have hG : flatA l ++ y.vs = flatA (l ++ [y]) := by rw [flatA_app, flatA_one]
  have hone : ∀ u ∈ y.vs, u.oneCell' = true := y.one
  have hfl := flatA_len l
  have hmx : l.length + 1 ≤ maxLen := by unfold maxLen; omega
  have fin : ∀ v' w', w'.ownsRow w.heap.size e 8 v' (l.length + 1) (flatA l ++ y.vs) → w.grownBy w' none → wpList P ops Q rest (a.put o.dst v') w' := by
    intro v' w' hown hgrow
    rw [hG] at hown
    refine hK v' w' ?_ ((turned_grown hgrow).mono fun k q => by cases q) (fun k hk => Or.inr (own_base hown k hk).1)
    obtain ⟨b1, b2⟩ := hown
    exact ⟨b1, b2.imp id fun ⟨g, cap, cur, c1, c2, c3⟩ => ⟨g, cap, cur, c1, Nat.le_trans hB c2, c3⟩⟩
  have h0 := h
  obtain ⟨h1, h2⟩ := h
  rcases h2 with ⟨rfl, hn⟩ | ⟨g, cap, cur, rfl, b2, b3, b4, b5, b6, b7⟩
  · obtain rfl : l = [] := List.eq_nil_of_length_eq_zero hn
    exact wpList_append_grows w hgd s x t ho e i _ 8 56 ht hi hz hsize hby rfl (by decide) none 0 0 (flatA []) hs (fun _ => ⟨rfl, rfl⟩) (by simp [flatA]) (fun b hb => by cases hb) ad 1 c y.vs hx rfl hy hone (by omega) hmx (by simp) fin
  · by_cases hr : l.length + 1 ≤ cap
    · refine wpList_append_fits w hgd s x t ho base e i 8 ht hi hsize g l.length cap (flatA l) hs h0 ad 1 c y.vs hx rfl hy hone hr (fun w' hown hgrow => ?_)
      rw [hG] at hown
      exact hK _ w' hown (turned_grown hgrow) (fun k hk => Or.inl hk)
    · refine wpList_append_grows w hgd s x t ho e i _ 8 56 ht hi hz hsize hby rfl (by decide) (some ⟨g, 0, none⟩) l.length cap (flatA l) hs (fun q => by cases q) hfl (fun b hb j u hj => ?_) ad 1 c y.vs hx rfl hy hone (by omega) hmx (by omega) fin
      obtain rfl := Option.some.inj hb
      exact World.ownsRow.cells h0 rfl j u hj
theorem new_bad (n : Int) (w : World) (hn : ¬ (1 ≤ n ∧ n ≤ 32)) : Calls Tryd.prog 5 #[.int .i64 n] w fun e w' => e = .returned (.tuple #[.pointer none, errV 2]) ∧ w' = w := by
  by_cases h : n < 1
  · go_enter Tryd.func5, Tryd.ntmps5
    go_wp2
    refine bodyPost_ret (results_tmp2 Tryd.results5 _ _ _) rfl ?_
    exact ⟨rfl, rfl⟩
  · have h2 : 32 < n := by omega
    go_enter Tryd.func5, Tryd.ntmps5
    go_wp2
    refine bodyPost_ret (results_tmp2 Tryd.results5 _ _ _) rfl ?_
    exact ⟨rfl, rfl⟩
theorem new_good (B n : Nat) (w : World) (hB : B ≤ w.heap.size) (hn : 1 ≤ n ∧ n ≤ 32) : Calls Tryd.prog 5 #[.int .i64 n] w fun e w' => e = .returned (.tuple #[.pointer (some ⟨w.heap.size, 0, none⟩), .nilIface]) ∧ Qm w' B w.heap.size (.slice none 0 0) ⟨n, []⟩ ∧ Below w.heap.size w w' := by
  have h1 : ¬ (n : Int) < 1 := by omega
  have h2 : ¬ (32 : Int) < n := by omega
  go_enter Tryd.func5, Tryd.ntmps5
  go_wp2
  refine bodyPost_ret (results_tmp2 Tryd.results5 _ _ _) rfl ?_
  refine ⟨rfl, ⟨?_, ⟨rfl, Or.inl ⟨rfl, rfl⟩⟩, fun i hi => absurd hi (by simp), by simp [Value.ownBlock], fun i hi => absurd hi (by simp), fun i hi => absurd hi (by simp), fun i j hi => absurd hi (by simp), hB, ⟨by simp, hn.2⟩, fun i hi => absurd hi (by simp)⟩, (Below.refl _ _).alloc (Nat.le_refl _) _⟩
  exact cells_new w (fun i hi => by
    match i, hi with
    | 0, _ => rfl
    | 1, _ => rfl)
/-- the number of the youngest; -1: there is none -/
def QS.young (S : QS) : Int := S.num ((S.on.length : Int) - 1)
theorem numberAt_young (B p : Nat) (v : Value) (S : QS) (w : World) (k : Qm w B p v S) : Calls Tryd.prog 37 #[.pointer (some ⟨p, 0, none⟩), .int .i64 ((S.on.length : Int) - 1)] w fun e w' => e = .returned (.int .i64 S.young) ∧ w' = w :=
  numberAt_any B p v S _ w k (by omega)
theorem enter_order (B p : Nat) (v : Value) (S : QS) (seq : Int) (st : Bool) (w : World) (k : Qm w B p v S) (h : seq < 0 ∨ seq ≤ S.young) : Calls Tryd.prog 8 #[.pointer (some ⟨p, 0, none⟩), .int .i64 seq, .bool st] w fun e w' => e = .returned (errV 5) ∧ Below w.heap.size w w' := by
  obtain ⟨hp, -, c1, -⟩ := k.cells
  have hs := k.small.1
  have HC := Hid.in (numberAt_young B p v S w k)
  obtain ⟨q, cap, rfl, hcap, -⟩ := own_row k.l
  clear k
  generalize S.young = yn at HC h
  by_cases h0 : seq < 0
  · go_enter Tryd.func8, Tryd.ntmps8
    go_wp2_with (first | (refine HC.out.mono ?_; rintro e w2 ⟨rfl, rfl⟩))
    go_ret
    exact ⟨rfl, Below.refl _ _⟩
  · have h1 : seq ≤ yn := by omega
    go_enter Tryd.func8, Tryd.ntmps8
    go_wp2_with (first | (refine HC.out.mono ?_; rintro e w2 ⟨rfl, rfl⟩))
    go_ret
    exact ⟨rfl, Below.refl _ _⟩
theorem enter_full (B p : Nat) (v : Value) (S : QS) (seq : Int) (st : Bool) (w : World) (k : Qm w B p v S) (h : ¬ (seq < 0 ∨ seq ≤ S.young)) (hf : S.size ≤ S.on.length) : Calls Tryd.prog 8 #[.pointer (some ⟨p, 0, none⟩), .int .i64 seq, .bool st] w fun e w' => e = .returned (errV 4) ∧ Below w.heap.size w w' := by
  obtain ⟨hp, c0, c1, -⟩ := k.cells
  have hs := k.small.1
  have HC := Hid.in (numberAt_young B p v S w k)
  obtain ⟨q, cap, rfl, hcap, -⟩ := own_row k.l
  clear k
  generalize S.young = yn at HC h
  have h0 : ¬ seq < 0 := by omega
  have h1 : ¬ seq ≤ yn := by omega
  have hf' : (S.size : Int) ≤ (S.on.length : Int) := by omega
  go_enter Tryd.func8, Tryd.ntmps8
  go_wp2_with (first | (refine HC.out.mono ?_; rintro e w2 ⟨rfl, rfl⟩))
  go_quiet (fail)
  go_wp2
  go_ret
  exact ⟨rfl, below_drewN _ _⟩
def newA (seq : Int) (st : Bool) : Ac := ⟨seq, st, 0, 0, 0, false, false, [], none, 0⟩
set_option maxRecDepth 100000 in
set_option maxHeartbeats 1000000 in
theorem enter_good (B p : Nat) (v : Value) (S : QS) (seq : Int) (st : Bool) (w : World) (k : Qm w B p v S) (h : ¬ (seq < 0 ∨ seq ≤ S.young)) (hi : seq ≤ 9223372036854775807) (hf : S.on.length < S.size) : Calls Tryd.prog 8 #[.pointer (some ⟨p, 0, none⟩), .int .i64 seq, .bool st] w fun e w' => e = .returned .nilIface ∧ ∃ v', Step w w' B p v S v' ⟨S.size, S.on ++ [newA seq st]⟩ := by
  obtain ⟨hp, c0, c1, f1⟩ := k.cells
  have hs := k.small
  have HC := Hid.in (numberAt_young B p v S w k)
  obtain ⟨q, cap, hv, hcap, -⟩ := own_row k.l
  have HK := Hid.in k
  have HV := Hid.in hv
  rw [hv] at c1
  clear k hv
  generalize S.young = yn at HC h
  have h0 : ¬ seq < 0 := by omega
  have h1 : ¬ seq ≤ yn := by omega
  have hf' : ¬ (S.size : Int) ≤ (S.on.length : Int) := by omega
  go_enter Tryd.func8, Tryd.ntmps8
  go_wp2_with (first | (refine HC.out.mono ?_; rintro e w2 ⟨rfl, rfl⟩))
  go_quiet (fail)
  clear c0 c1 f1
  have kW := HK.out.below (below_drewN w2 nq)
  generalize hW : w2.drewN nq = W at kW ⊢
  have hsW : W.heap.size = w2.heap.size := by rw [← hW]; rfl
  have HBW : Hid (Below w2.heap.size w2 W) := by
    show Below _ _ _
    rw [← hW]
    exact below_drewN w2 nq
  obtain ⟨X, hX⟩ : ∃ X, W.alloc (.cells #[.int .i64 seq, .bool st, .int .u32 0, .int .i64 0, .int .u32 0, .bool false, .bool false, .slice none 0 0] 86) = X := ⟨_, rfl⟩
  have rX : X.rangeAt w2.heap.size 0 (newA seq st).vs := by
    rw [← hX, ← hsW]
    exact range_new W (newA seq st) _
  have bX : Below W.heap.size W X := by rw [← hX]; exact (Below.refl _ _).alloc (Nat.le_refl _) _
  have hsX : X.heap.size = w2.heap.size + 1 := by rw [← hX]; simp [hsW]
  obtain ⟨i0, hi0, hz0, hz1, hz2⟩ := info_parts (show (Tryd.prog.info? 86).map (fun i => (i.zero, i.size, i.bytes)) = some (some (.agg #[.int .i64 0, .bool false, .int .u32 0, .int .i64 0, .int .u32 0, .bool false, .bool false, .slice none 0 0]), 8, 56) by kernel_rfl)
  obtain ⟨hpW, -, cW, fW⟩ := kW.cells
  have kX := kW.below bX
  rw [HV.out] at cW
  have HKX := Hid.in kX
  have HRX := Hid.in rX
  have HBX := Hid.in bX
  have HX := Hid.in hX
  have HI := Hid.in hi0
  have HZ0 := Hid.in hz0
  have HZ1 := Hid.in hz1
  have HZ2 := Hid.in hz2
  have HFW := Hid.in fW
  clear hX rX bX hi0 hz0 hz1 hz2 kX kW hW fW
  have hBX : B ≤ X.heap.size := by have := HKX.out.lo; have := HKX.out.c.here; omega
  have HFX : Hid (X.frozen? ⟨p, 1, none⟩ = false) := HKX.out.c.free 1
  have hpX : p < X.heap.size := HKX.out.c.here
  have HL : Hid (X.ownsRow B 86 8 (.slice q S.on.length cap) S.on.length (flatA S.on)) := by
    have := HKX.out.l
    rw [HV.out] at this
    exact this
  have HVP : Hid (¬ (Value.slice q S.on.length cap).ownBlock = some p) := by
    have := HKX.out.vp
    rw [HV.out] at this
    exact this
  have hsw := hsW
  go_wp2_with (first
    | (rw [HX.out]
       refine append_accs X rfl _ _ _ rfl 86 i0 Tryd.underlying79 HI.out HZ0.out HZ1.out HZ2.out B (.slice q S.on.length cap) S.on rfl HL.out ⟨w2.heap.size, 0, none⟩ 1 (newA seq st) rfl (fun j u h => by rw [Addr.add_lit]; exact HRX.out j u h) (by omega) hBX ?_
       intro v' w' h1 h2 h3
       obtain ⟨q', cap', rfl⟩ := own_slice h1
       have c1' := h2.to_cell hpX HVP.out HKX.out.cells.2.2.1
       have f1' : w'.frozen? ⟨p, 1, none⟩ = false := (World.frozen?_of_block (h2.block p hpX HVP.out)).trans HFX.out
       have H1 := Hid.in h1
       have H2 := Hid.in h2
       have H3 := Hid.in h3
       clear h1 h2 h3))
  go_ret
  refine ⟨rfl, .slice q' (S.on.length + 1) cap', ?_⟩
  have hst : Step X (w'.setCell ⟨p, 1, none⟩ (.slice q' (S.on.length + 1) cap')) B p v S (.slice q' (S.on.length + 1) cap') ⟨S.size, S.on ++ [newA seq st]⟩ := by
    refine HKX.out.push ⟨by show 0 ≤ seq; omega, hi, by simp [newA], by simp [newA], Or.inl rfl, by simp [newA], by simp [newA], by simp [newA], by simp [newA]⟩ rfl rfl rfl H1.out ?_ ?_ (by omega)
    · rw [HV.out]; exact H2.out
    · rw [HV.out]; exact H3.out
  have hb := below2 HBW.out HBX.out
  refine ⟨hst.q, (Turned.of_below hb).trans hst.t, fun j hj => (hst.o j hj).imp id (fun h => by omega)⟩
end Go.Proofs.YthbffonedpeeiaaDoor
