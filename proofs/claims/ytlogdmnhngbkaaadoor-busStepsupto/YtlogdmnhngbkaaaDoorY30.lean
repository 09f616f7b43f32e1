import Derived.Test.YtlogdmnhngbkaaaDoorY28
import Derived.Test.YtlogdmnhngbkaaaDoorY29
/-
  BUS: the answer's Tick.
-/
namespace Go.Proofs.YtlogdmnhngbkaaaDoor
open Go Go.RowKit
section
variable {x y : World} {g : Rn} {F : Nat → Prop} {S S2 : BS}
theorem Rb.now {rv : Nat → Value} {R : Nat → List Ln} {last left : Int} (hF : ∀ z, F z → z < x.heap.size ∧ ¬ g.its rv S z) (k : Rb x g rv R last left S) (tu : Nat) (htu : tu < S.nc) : Ru ((x.setCell ⟨g.p, 5, none⟩ (.int .i64 (tu : Nat))).setCell ⟨g.p, 6, none⟩ (.int .i64 S.cyc)) g F { S with turn := tu, on := true, tk := 0 } ∧ Turned (fun j => ¬ F j) x ((x.setCell ⟨g.p, 5, none⟩ (.int .i64 (tu : Nat))).setCell ⟨g.p, 6, none⟩ (.int .i64 S.cyc)) := by
  have t : Turned (fun j => j = g.p) x ((x.setCell ⟨g.p, 5, none⟩ (.int .i64 (tu : Nat))).setCell ⟨g.p, 6, none⟩ (.int .i64 S.cyc)) := ((Turned.refl (fun j => j = g.p) x).set (b := g.p) rfl _ _).set (b := g.p) rfl _ _
  have c := ((k.c.set 5 (by decide) (.int .i64 (tu : Nat))).set 6 (by decide) (.int .i64 S.cyc)).ext (d := rbv g { S with turn := tu, on := true, tk := 0 } last S.cyc) (fun o ho => by
    match o, ho with
    | 0, _ => rfl
    | 1, _ => rfl
    | 2, _ => rfl
    | 3, _ => rfl
    | 4, _ => rfl
    | 5, _ => rfl
    | 6, _ => rfl
    | q + 7, h => exact absurd h (by omega))
  have k' := k.own t c ⟨fun q => (by cases q), fun _ => (by simp)⟩ htu (by omega)
  exact Ru.step hF k' rfl rfl (fun _ _ _ h => Or.inl h) t (fun z hz => Or.inl (Or.inl (Or.inl hz)))
theorem Rb.dec {rv : Nat → Value} {R : Nat → List Ln} {last left : Int} (hF : ∀ z, F z → z < x.heap.size ∧ ¬ g.its rv S z) (k : Rb x g rv R last left S) (hon : S.on = true) (htk : S.tk + 1 ≤ 10) : Ru (x.setCell ⟨g.p, 6, none⟩ (.int .i64 (left - 1))) g F { S with tk := S.tk + 1 } ∧ Turned (fun j => ¬ F j) x (x.setCell ⟨g.p, 6, none⟩ (.int .i64 (left - 1))) := by
  have t : Turned (fun j => j = g.p) x (x.setCell ⟨g.p, 6, none⟩ (.int .i64 (left - 1))) := (Turned.refl (fun j => j = g.p) x).set (b := g.p) rfl _ _
  have c := (k.c.set 6 (by decide) (.int .i64 (left - 1))).ext (d := rbv g { S with turn := S.turn, on := S.on, tk := S.tk + 1 } last (left - 1)) (fun o ho => by
    match o, ho with
    | 0, _ => rfl
    | 1, _ => rfl
    | 2, _ => rfl
    | 3, _ => rfl
    | 4, _ => rfl
    | 5, _ => rfl
    | 6, _ => rfl
    | q + 7, h => exact absurd h (by omega))
  have k' := k.own t c ⟨fun q => (by rw [hon] at q; cases q), fun _ => (by have := k.ls.2 hon; omega)⟩ k.sz.2.2.2.2.2.1 htk
  exact Ru.step hF k' rfl rfl (fun _ _ _ h => Or.inl h) t (fun z hz => Or.inl (Or.inl (Or.inl hz)))
theorem Rb.end {rv : Nat → Value} {R : Nat → List Ln} {last left : Int} (hF : ∀ z, F z → z < x.heap.size ∧ ¬ g.its rv S z) (k : Rb x g rv R last left S) : Ru ((x.setCell ⟨g.p, 5, none⟩ (.int .i64 (-1))).setCell ⟨g.p, 4, none⟩ (.int .i64 S.turn)) g F { S with on := false } ∧ Turned (fun j => ¬ F j) x ((x.setCell ⟨g.p, 5, none⟩ (.int .i64 (-1))).setCell ⟨g.p, 4, none⟩ (.int .i64 S.turn)) := by
  have t : Turned (fun j => j = g.p) x ((x.setCell ⟨g.p, 5, none⟩ (.int .i64 (-1))).setCell ⟨g.p, 4, none⟩ (.int .i64 S.turn)) := ((Turned.refl (fun j => j = g.p) x).set (b := g.p) rfl _ _).set (b := g.p) rfl _ _
  have c := ((k.c.set 5 (by decide) (.int .i64 (-1))).set 4 (by decide) (.int .i64 S.turn)).ext (d := rbv g { S with turn := S.turn, on := false, tk := S.tk } S.turn left) (fun o ho => by
    match o, ho with
    | 0, _ => rfl
    | 1, _ => rfl
    | 2, _ => rfl
    | 3, _ => rfl
    | 4, _ => rfl
    | 5, _ => rfl
    | 6, _ => rfl
    | q + 7, h => exact absurd h (by omega))
  have k' := k.own t c ⟨fun _ => rfl, fun q => (by cases q)⟩ k.sz.2.2.2.2.2.1 k.sz.2.2.2.2.2.2
  exact Ru.step hF k' rfl rfl (fun _ _ _ h => Or.inl h) t (fun z hz => Or.inl (Or.inl (Or.inl hz)))
set_option maxRecDepth 100000 in
set_option maxHeartbeats 4000000 in
theorem tcond17 {u1 u2 u4 u5 u6 u7 u8 u9 u10 u11 u12 u13 u14 u15 u16 u18 u19 u20 u21 u22 u23 u24 u25 u26 u27 u28 u29 u30 u31 u32 u33 u34 u35 u36 u37 u38 u39 u40 u41 u42 u43 u44 u45 u46 u47 u48 u49 u50 u51 u52 u53 u54 u55 u56 u57 u58 u59 u60 u61 u62 u63 u64 u65 u66 u67 u68 u69 u70 u71 u72 u73 u74 u75 u76 u77 u78 u79 u80 u81 u82 u83 u84 u85 u86 u87 u88 u89 u90 u91 u92 u93 u94 u95 u96 u97 u98 u99 : Value} {ds : List Deferred} {W : World} {cb : Bool} (h : Ru W g F S) (hg : S.goes S2) (hcb : cb = !S.on) {K : Act → World → Prop} (hk : ∀ (t4 t5 t18 t19 t20 t21 t22 t23 t24 t25 t26 t27 t28 t29 t30 t31 t32 t33 t34 t35 t36 t37 t38 t39 t40 t41 t42 t43 t44 t45 t46 t47 t48 t49 t50 t51 t52 t53 t54 : Value) (y : World), Ru y g F S2 → Turned (fun j => ¬ F j) W y → K ⟨#[.pointer (some ⟨g.p, 0, none⟩), u1, u2, .int .i64 (S.nc : Nat), t4, t5, u6, u7, u8, u9, u10, u11, u12, u13, u14, u15, u16, .bool cb, t18, t19, t20, t21, t22, t23, t24, t25, t26, t27, t28, t29, t30, t31, t32, t33, t34, t35, t36, t37, t38, t39, t40, t41, t42, t43, t44, t45, t46, t47, t48, t49, t50, t51, t52, t53, t54, u55, u56, u57, u58, u59, u60, u61, u62, u63, u64, u65, u66, u67, u68, u69, u70, u71, u72, u73, u74, u75, u76, u77, u78, u79, u80, u81, u82, u83, u84, u85, u86, u87, u88, u89, u90, u91, u92, u93, u94, u95, u96, u97, u98, u99], ds⟩ y) : (cndIn Tryd.f9.body 17).wp Tryd.prog (Exit.then K NoX) ⟨#[.pointer (some ⟨g.p, 0, none⟩), u1, u2, .int .i64 (S.nc : Nat), u4, u5, u6, u7, u8, u9, u10, u11, u12, u13, u14, u15, u16, .bool cb, u18, u19, u20, u21, u22, u23, u24, u25, u26, u27, u28, u29, u30, u31, u32, u33, u34, u35, u36, u37, u38, u39, u40, u41, u42, u43, u44, u45, u46, u47, u48, u49, u50, u51, u52, u53, u54, u55, u56, u57, u58, u59, u60, u61, u62, u63, u64, u65, u66, u67, u68, u69, u70, u71, u72, u73, u74, u75, u76, u77, u78, u79, u80, u81, u82, u83, u84, u85, u86, u87, u88, u89, u90, u91, u92, u93, u94, u95, u96, u97, u98, u99], ds⟩ W := by
  have HQ := Hid.in hk
  show Code.wp _ (Code.cond (.tmp 17) _ _) _ _ _
  rcases hg with ⟨hon, rfl⟩ | ⟨hon, i, hi, a1, a2, rfl⟩
  · have HU := Hid.in h
    rw [hon] at hcb
    subst hcb
    clear hk h
    go_wp2
    exact HQ.out _ _ _ _ _ _ _ _ _ _ _ _ _ _ _ _ _ _ _ _ _ _ _ _ _ _ _ _ _ _ _ _ _ _ _ _ _ _ _ _ HU.out (Turned.refl _ _)
  · rw [hon] at hcb
    subst hcb
    obtain ⟨rv, R, last, left, k, hF⟩ := h
    have hlast : last = S.turn := k.ls.1 hon
    have p1 : W.cell? ⟨g.p, 1, none⟩ = some (.int .i64 S.cyc) := k.c.cell 1 (by decide)
    have p3 : W.cell? ⟨g.p, 3, none⟩ = some (.slice (some ⟨g.ab, 0, none⟩) S.nc g.ac) := k.c.cell 3 (by decide)
    have p4 : W.cell? ⟨g.p, 4, none⟩ = some (.int .i64 S.turn) := by rw [← hlast]; exact k.c.cell 4 (by decide)
    have p5 : W.cell? ⟨g.p, 5, none⟩ = some (.int .i64 S.now) := k.c.cell 5 (by decide)
    have p6 : W.cell? ⟨g.p, 6, none⟩ = some (.int .i64 left) := k.c.cell 6 (by decide)
    have hfz := k.c.free
    have hp := k.c.here
    have hab := k.ak.here
    have hsz := k.sz
    have HASK : Hid (∀ c, c < S.nc → W.cell? ⟨g.ab, c * 3, none⟩ = some (.bool (S.ak (c : Nat)).isSome)) := fun c hc => by
      have := k.ak.cell (c * 3) (by omega)
      rw [akc_0] at this
      exact this
    have HNX : Hid (∀ j, S.nxt j < S.nc) := fun j => nxt_lt S j hsz.1
    have HA1 := Hid.in a1
    have HA2 := Hid.in a2
    have HFIN := Hid.in (Rb.now hF k (S.nxt i) (nxt_lt S i hsz.1))
    have HREM : Hid (∀ j : Nat, ((S.turn : Int) + ((j + 1 : Nat) : Int)) % (S.nc : Int) = ((S.nxt j : Nat) : Int) ∧ ((S.turn : Int) + ((j + 1 : Nat) : Int)).tmod (S.nc : Int) = ((S.nxt j : Nat) : Int)) := fun j => by
      have e : ((S.turn : Int) + ((j + 1 : Nat) : Int)) % (S.nc : Int) = ((S.nxt j : Nat) : Int) := by
        unfold BS.nxt
        have e2 : S.turn + 1 + j = S.turn + (j + 1) := by omega
        rw [e2]
        push_cast
        rfl
      exact ⟨e, by rw [Int.tmod_eq_emod_of_nonneg (by omega)]; exact e⟩
    have hnc1 : (1 : Int) ≤ (S.nc : Int) := by omega
    have hnc2 : S.nc ≤ 2 := hsz.2.1
    have htu : (S.turn : Int) < 2 := by have := hsz.2.2.2.2.2.1; omega
    have hcyc : (S.cyc : Int) ≤ 10 := by have := hsz.2.2.1; omega
    clear hk k hF a1 a2 hsz hlast
    go_upto_block 0 with fail
    go_wp2_with fail
    go_loopw [4, 5] (fun kv cv wr => ∃ j : Nat, kv = .int .i64 ((j + 1 : Nat) : Int) ∧ j ≤ i ∧ W = wr) (fun kv _ _ => 4 - (intOf kv).toNat)
    case atStart => exact ⟨0, rfl, by omega, rfl⟩
    case round =>
      obtain ⟨j, rfl, hj, rfl⟩ := hrel
      have hjn : ((j + 1 : Nat) : Int) ≤ (S.nc : Int) := by omega
      have hj3 : ((j + 1 : Nat) : Int) ≤ 2 := by omega
      obtain ⟨e1, e2⟩ := HREM.out j
      have hcn := HNX.out j
      have ask := HASK.out (S.nxt j) hcn
      obtain ⟨c, hc⟩ : ∃ c, S.nxt j = c := ⟨_, rfl⟩
      rw [hc] at e1 e2 hcn ask
      have hcn' : (c : Int) < (S.nc : Int) := by omega
      have HC := Hid.in hc
      obtain ⟨kk, hkk⟩ : ∃ kk, j + 1 = kk := ⟨_, rfl⟩
      rw [hkk] at e1 e2 hjn hj3 ⊢
      have HKK := Hid.in hkk
      by_cases hji : j = i
      · subst hji
        have ha := HA1.out
        rw [hc] at ha
        rw [ha] at ask
        have HF5 := HFIN
        rw [hc] at HF5
        clear hkk hc ha HFIN
        go_wp2
        exact HQ.out _ _ _ _ _ _ _ _ _ _ _ _ _ _ _ _ _ _ _ _ _ _ _ _ _ _ _ _ _ _ _ _ _ _ _ _ _ _ _ _ (by rw [HC.out]; exact HF5.out.1) HF5.out.2
      · have ha := HA2.out j (by omega)
        rw [hc] at ha
        rw [ha] at ask
        clear hkk hc ha
        go_wp2
        go_roundw
        case rel => exact ⟨j + 1, by have := HKK.out; congr 1; omega, by omega, trivial⟩
        case measure =>
          have := HKK.out
          simp [intOf]
          omega
set_option maxRecDepth 100000 in
set_option maxHeartbeats 4000000 in
theorem rtick_idle (h : Ru x g F S) (hon : S.on = false) (hno : ∀ j, j < S.nc → (S.ak (S.nxt j : Nat)).isSome = false) : Calls Tryd.prog 9 #[.pointer (some ⟨g.p, 0, none⟩)] x fun e w' => e = .returned (.slice none 0 0) ∧ w' = x := by
  obtain ⟨rv, R, last, left, k, hF⟩ := h
  have hlast : last = S.turn := k.ls.1 hon
  have p3 : x.cell? ⟨g.p, 3, none⟩ = some (.slice (some ⟨g.ab, 0, none⟩) S.nc g.ac) := k.c.cell 3 (by decide)
  have p4 : x.cell? ⟨g.p, 4, none⟩ = some (.int .i64 S.turn) := by rw [← hlast]; exact k.c.cell 4 (by decide)
  have p5 : x.cell? ⟨g.p, 5, none⟩ = some (.int .i64 (-1)) := by have := k.c.cell 5 (by decide); rw [show rbv g S last left 5 = .int .i64 S.now from rfl] at this; unfold BS.now at this; rw [hon] at this; exact this
  have hp := k.c.here
  have hab := k.ak.here
  have hsz := k.sz
  have HASK : Hid (∀ c, c < S.nc → x.cell? ⟨g.ab, c * 3, none⟩ = some (.bool (S.ak (c : Nat)).isSome)) := fun c hc => by
    have := k.ak.cell (c * 3) (by omega)
    rw [akc_0] at this
    exact this
  have HNX : Hid (∀ j, S.nxt j < S.nc) := fun j => nxt_lt S j hsz.1
  have HNO := Hid.in hno
  have HREM : Hid (∀ j : Nat, ((S.turn : Int) + ((j + 1 : Nat) : Int)) % (S.nc : Int) = ((S.nxt j : Nat) : Int) ∧ ((S.turn : Int) + ((j + 1 : Nat) : Int)).tmod (S.nc : Int) = ((S.nxt j : Nat) : Int)) := fun j => by
    have e : ((S.turn : Int) + ((j + 1 : Nat) : Int)) % (S.nc : Int) = ((S.nxt j : Nat) : Int) := by
      unfold BS.nxt
      have e2 : S.turn + 1 + j = S.turn + (j + 1) := by omega
      rw [e2]
      push_cast
      rfl
    exact ⟨e, by rw [Int.tmod_eq_emod_of_nonneg (by omega)]; exact e⟩
  have hnc1 : (1 : Int) ≤ (S.nc : Int) := by omega
  have hnc2 : S.nc ≤ 2 := hsz.2.1
  have htu : (S.turn : Int) < 2 := by have := hsz.2.2.2.2.2.1; omega
  clear k hF hno hsz hlast
  go_enter Tryd.func9, Tryd.ntmps9
  go_upto_block 0 with fail
  go_wp2_with fail
  go_loopw [4, 5] (fun kv cv wr => ∃ j : Nat, kv = .int .i64 ((j + 1 : Nat) : Int) ∧ j ≤ S.nc ∧ x = wr) (fun kv _ _ => 4 - (intOf kv).toNat)
  case atStart => exact ⟨0, rfl, by omega, rfl⟩
  case round =>
    obtain ⟨j, rfl, hj, rfl⟩ := hrel
    have hj3 : ((j + 1 : Nat) : Int) ≤ 3 := by omega
    by_cases hjn : j < S.nc
    · have hjn' : ((j + 1 : Nat) : Int) ≤ (S.nc : Int) := by omega
      obtain ⟨e1, e2⟩ := HREM.out j
      have hcn := HNX.out j
      have ask := HASK.out (S.nxt j) hcn
      have ha := HNO.out j hjn
      obtain ⟨c, hc⟩ : ∃ c, S.nxt j = c := ⟨_, rfl⟩
      rw [hc] at e1 e2 hcn ask ha
      rw [ha] at ask
      have hcn' : (c : Int) < (S.nc : Int) := by omega
      obtain ⟨kk, hkk⟩ : ∃ kk, j + 1 = kk := ⟨_, rfl⟩
      rw [hkk] at e1 e2 hjn' hj3 ⊢
      have HKK := Hid.in hkk
      clear hkk hc ha
      go_wp2
      go_roundw
      case rel => exact ⟨j + 1, by have := HKK.out; congr 1; omega, by omega, trivial⟩
      case measure =>
        have := HKK.out
        simp [intOf]
        omega
    · have hjn' : ¬ ((j + 1 : Nat) : Int) ≤ (S.nc : Int) := by omega
      obtain ⟨kk, hkk⟩ : ∃ kk, j + 1 = kk := ⟨_, rfl⟩
      rw [hkk] at hjn' hj3 ⊢
      clear hkk
      go_wp2
      go_ret
      exact ⟨rfl, rfl⟩
set_option maxRecDepth 100000 in
set_option maxHeartbeats 4000000 in
theorem rtick_wait (h : Ru x g F S) (hg : S.goes S2) (hw : S2.tk < S2.cyc) : Calls Tryd.prog 9 #[.pointer (some ⟨g.p, 0, none⟩)] x fun e w' => e = .returned (.slice none 0 0) ∧ Ru w' g F { S2 with tk := S2.tk + 1 } ∧ Turned (fun j => ¬ F j) x w' := by
  obtain ⟨last0, left0, o1, -, -, -, osz, -⟩ := h.own
  have p3 : x.cell? ⟨g.p, 3, none⟩ = some (.slice (some ⟨g.ab, 0, none⟩) S.nc g.ac) := o1.cell 3 (by decide)
  have p5 : x.cell? ⟨g.p, 5, none⟩ = some (.int .i64 S.now) := o1.cell 5 (by decide)
  have hp := o1.here
  have HH := Hid.in h
  have HG := Hid.in hg
  have hon2 : S2.on = true := by
    rcases hg with ⟨q, rfl⟩ | ⟨-, i, -, -, -, rfl⟩
    · exact q
    · rfl
  have HON := Hid.in hon2
  have HW := Hid.in hw
  clear h hg o1 osz hon2 hw
  go_enter Tryd.func9, Tryd.ntmps9
  go_upto_if 17 with fail
  refine wp_any (tcond17 HH.out HG.out (by unfold BS.now; cases S.on <;> simp) ?_)
  intro t4 t5 t18 t19 t20 t21 t22 t23 t24 t25 t26 t27 t28 t29 t30 t31 t32 t33 t34 t35 t36 t37 t38 t39 t40 t41 t42 t43 t44 t45 t46 t47 t48 t49 t50 t51 t52 t53 t54 y hu ht
  have HT := Hid.in ht
  have HU := Hid.in hu
  clear ht p3 p5 hp
  obtain ⟨rv, R, last, left, k, hF⟩ := hu
  have hleft : left = (S2.cyc : Int) - S2.tk := k.ls.2 HON.out
  have p6 : y.cell? ⟨g.p, 6, none⟩ = some (.int .i64 left) := k.c.cell 6 (by decide)
  have f6 := k.c.free
  have hp := k.c.here
  have hsz := k.sz
  have h0 : (0 : Int) < left := by have := HW.out; omega
  have h1 : left ≤ 10 := by omega
  have HFIN := Hid.in (Rb.dec hF k HON.out (by have := HW.out; omega))
  clear hF k hsz hleft
  go_wp2
  go_ret
  exact ⟨rfl, HFIN.out.1, HT.out.trans HFIN.out.2⟩
set_option maxRecDepth 100000 in
set_option maxHeartbeats 4000000 in
theorem rtick_do {D : BS} {T : List Snp} (h : Ru x g F S) (hg : S.goes S2) (hw : ¬ S2.tk < S2.cyc) (l : Nat) (wr : Bool) (ha : S2.ak (S2.turn : Nat) = some (l, wr)) (hdo : ∀ (y : World) (G : Nat → Prop), Ru y g G { S2 with on := false, ak := updO S2.ak (S2.turn : Nat) none } → Calls Tryd.prog 30 #[.pointer (some ⟨g.p, 0, none⟩), .int .i64 (S2.turn : Nat), .int .i64 (l : Nat), .bool wr] y (DoesR g D T y G)) : Calls Tryd.prog 9 #[.pointer (some ⟨g.p, 0, none⟩)] x (DoesR g D T x F) := by
  obtain ⟨last0, left0, o1, -, -, -, osz, -⟩ := h.own
  have p3 : x.cell? ⟨g.p, 3, none⟩ = some (.slice (some ⟨g.ab, 0, none⟩) S.nc g.ac) := o1.cell 3 (by decide)
  have p5 : x.cell? ⟨g.p, 5, none⟩ = some (.int .i64 S.now) := o1.cell 5 (by decide)
  have hp := o1.here
  have HH := Hid.in h
  have HG := Hid.in hg
  have hon2 : S2.on = true := by
    rcases hg with ⟨q, rfl⟩ | ⟨-, i, -, -, -, rfl⟩
    · exact q
    · rfl
  have HON := Hid.in hon2
  have HW := Hid.in hw
  have HA := Hid.in ha
  have HDO := Hid.in hdo
  clear h hg o1 osz hon2 hw ha hdo
  go_enter Tryd.func9, Tryd.ntmps9
  go_upto_if 17 with fail
  refine wp_any (tcond17 HH.out HG.out (by unfold BS.now; cases S.on <;> simp) ?_)
  intro t4 t5 t18 t19 t20 t21 t22 t23 t24 t25 t26 t27 t28 t29 t30 t31 t32 t33 t34 t35 t36 t37 t38 t39 t40 t41 t42 t43 t44 t45 t46 t47 t48 t49 t50 t51 t52 t53 t54 y hu ht
  have HT := Hid.in ht
  have HU := Hid.in hu
  clear ht p3 p5 hp
  obtain ⟨rv, R, last, left, k, hF⟩ := hu
  have hleft : left = (S2.cyc : Int) - S2.tk := k.ls.2 HON.out
  have p6 : y.cell? ⟨g.p, 6, none⟩ = some (.int .i64 left) := k.c.cell 6 (by decide)
  have f6 := k.c.free
  have hp := k.c.here
  have hsz := k.sz
  have h0 : ¬ (0 : Int) < left := by have := HW.out; omega
  have p5 : y.cell? ⟨g.p, 5, none⟩ = some (.int .i64 S2.turn) := by have := k.c.cell 5 (by decide); rw [show rbv g S2 last left 5 = .int .i64 S2.now from rfl] at this; unfold BS.now at this; rw [HON.out] at this; exact this
  have p4 : y.cell? ⟨g.p, 4, none⟩ = some (.int .i64 last) := k.c.cell 4 (by decide)
  have h1 : S2.turn < S2.nc := hsz.2.2.2.2.2.1
  have h2 : S2.nc ≤ 2 := hsz.2.1
  have HEND := Hid.in (Rb.end hF k)
  clear hF k hsz hleft HG HH
  go_upto_region 18 with fail
  obtain ⟨z1, hz1⟩ : ∃ z1, (y.setCell ⟨g.p, 5, none⟩ (.int .i64 (-1))).setCell ⟨g.p, 4, none⟩ (.int .i64 S2.turn) = z1 := ⟨_, rfl⟩
  rw [hz1] at HEND ⊢
  clear hz1 p4 p5 p6 f6 hp h0
  obtain ⟨rv, R, last1, left1, k, hF⟩ := HEND.out.1
  have p3 : z1.cell? ⟨g.p, 3, none⟩ = some (.slice (some ⟨g.ab, 0, none⟩) S2.nc g.ac) := k.c.cell 3 (by decide)
  have hp := k.c.here
  obtain ⟨b1, b2, b3⟩ := akc_1 S2.ak S2.turn l wr HA.out
  have a0 : z1.cell? ⟨g.ab, S2.turn * 3, none⟩ = some (.bool true) := by have := k.ak.cell (S2.turn * 3) (by show _ < 3 * S2.nc; omega); rw [show (({ S2 with on := false } : BS).ak) = S2.ak from rfl, b1] at this; exact this
  have a1 : z1.cell? ⟨g.ab, S2.turn * 3 + 1, none⟩ = some (.int .i64 l) := by have := k.ak.cell (S2.turn * 3 + 1) (by show _ < 3 * S2.nc; omega); rw [show (({ S2 with on := false } : BS).ak) = S2.ak from rfl, b2] at this; exact this
  have a2 : z1.cell? ⟨g.ab, S2.turn * 3 + 2, none⟩ = some (.bool wr) := by have := k.ak.cell (S2.turn * 3 + 2) (by show _ < 3 * S2.nc; omega); rw [show (({ S2 with on := false } : BS).ak) = S2.ak from rfl, b3] at this; exact this
  have hab := k.ak.here
  have h1' : (S2.turn : Int) < (S2.nc : Int) := by omega
  clear b1 b2 b3 k hF
  go_upto_region 19 with fail
  obtain ⟨z2, hz2⟩ : ∃ z2, z1.alloc (.cells #[.bool true, .int .i64 (l : Nat), .bool wr] 74) = z2 := ⟨_, rfl⟩
  obtain ⟨xb, hxb⟩ : ∃ xb, z1.heap.size = xb := ⟨_, rfl⟩
  have b2 : Below z1.heap.size z1 z2 := by rw [← hz2]; exact (Below.refl _ _).alloc (Nat.le_refl _) _
  have s2 : z2.heap.size = xb + 1 := by rw [← hz2, ← hxb]; simp
  have x1 : z2.cell? ⟨xb, 1, none⟩ = some (.int .i64 l) := by rw [← hz2, ← hxb, World.cell?_alloc_new]; rfl
  have x2 : z2.cell? ⟨xb, 2, none⟩ = some (.bool wr) := by rw [← hz2, ← hxb, World.cell?_alloc_new]; rfl
  have uz2 : Ru z2 g (fun j => F j ∨ j = xb) { S2 with on := false } := (HEND.out.1.fresh b2).less (fun z hz => hz.elim Or.inl (fun q => Or.inr (by omega)))
  have hxab : xb ≠ g.ab := by omega
  rw [hz2, hxb]
  clear p3 hp a0 a1 a2 hab
  obtain ⟨rv, R, last2, left2, k, hF⟩ := uz2
  have p3 : z2.cell? ⟨g.p, 3, none⟩ = some (.slice (some ⟨g.ab, 0, none⟩) S2.nc g.ac) := k.c.cell 3 (by decide)
  have hp := k.c.here
  have a0 := k.ak.cell (S2.turn * 3) (by show _ < 3 * S2.nc; omega)
  have a1 := k.ak.cell (S2.turn * 3 + 1) (by show _ < 3 * S2.nc; omega)
  have a2 := k.ak.cell (S2.turn * 3 + 2) (by show _ < 3 * S2.nc; omega)
  have hab := k.ak.here
  have haf := k.ak.free
  obtain ⟨q1, q2⟩ := k.ask S2.turn h1 none
  have HQ2 := Hid.in q2
  have HU3 := Hid.in (Ru.step hF q1 rfl rfl (fun _ _ _ h => Or.inl h) q2 (fun z hz => Or.inl (Or.inl (Or.inr (Or.inr (Or.inl hz))))))
  have HX1 := Hid.in x1
  have HX2 := Hid.in x2
  have HB2 := Hid.in b2
  have HS2 := Hid.in s2
  generalize akc ({ S2 with on := false } : BS).ak (S2.turn * 3) = g0 at a0
  generalize akc ({ S2 with on := false } : BS).ak (S2.turn * 3 + 1) = g1 at a1
  generalize akc ({ S2 with on := false } : BS).ak (S2.turn * 3 + 2) = g2 at a2
  clear hz2 hxb q1 q2 k hF x1 x2 b2 s2
  go_upto_region 20 with fail
  have e3 : ((z2.setCell ⟨g.ab, S2.turn * 3, none⟩ (akv none 0)).setCell ⟨g.ab, S2.turn * 3 + 1, none⟩ (akv none 1)).setCell ⟨g.ab, S2.turn * 3 + 2, none⟩ (akv none 2) = ((z2.setCell ⟨g.ab, S2.turn * 3, none⟩ (.bool false)).setCell ⟨g.ab, S2.turn * 3 + 1, none⟩ (.int .i64 0)).setCell ⟨g.ab, S2.turn * 3 + 2, none⟩ (.bool false) := rfl
  rw [e3] at HQ2 HU3
  obtain ⟨z3, hz3⟩ : ∃ z3, ((z2.setCell ⟨g.ab, S2.turn * 3, none⟩ (.bool false)).setCell ⟨g.ab, S2.turn * 3 + 1, none⟩ (.int .i64 0)).setCell ⟨g.ab, S2.turn * 3 + 2, none⟩ (.bool false) = z3 := ⟨_, rfl⟩
  rw [hz3] at HQ2 HU3 ⊢
  clear hz3 e3 a0 a1 a2
  have x1 : z3.cell? ⟨xb, 1, none⟩ = some (.int .i64 l) := HQ2.out.to_cell (by rw [HS2.out]; omega) hxab HX1.out
  have x2 : z3.cell? ⟨xb, 2, none⟩ = some (.bool wr) := HQ2.out.to_cell (by rw [HS2.out]; omega) hxab HX2.out
  have xh : xb < z3.heap.size := Nat.lt_of_lt_of_le (by rw [HS2.out]; omega) HQ2.out.size
  have HD := Hid.in (HDO.out z3 F (HU3.out.1.less (fun z hz => Or.inl hz)))
  have HTX : Hid (Turned (fun j => ¬ F j) x z3) := ((HT.out.trans HEND.out.2).trans (Turned.of_below HB2.out)).trans (HU3.out.2.mono (fun j q f => q (Or.inl f)))
  clear p3 hp hab haf
  go_wp2_with (go_at_call 30; refine HD.out.mono ?_; rintro e w' ⟨v, rfl, hq⟩; have HQ := Hid.in hq; clear hq)
  go_ret
  exact ⟨v, rfl, own_lower HQ.out.1 HTX.out.size, HQ.out.2.1, HTX.out.trans HQ.out.2.2⟩
end
end Go.Proofs.YtlogdmnhngbkaaaDoor
