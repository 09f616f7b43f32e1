import Derived.Test.YtlogdmnhngbkaaaDoorY33
import Derived.Test.YtlogdmnhngbkaaaDoorY22
import Derived.Test.YtlogdmnhngbkaaaDoorY29
/-
  BUS: Data, of any number of bytes.
-/
namespace Go.Proofs.YtlogdmnhngbkaaaDoor
open Go Go.RowKit
def OwnG (len : Nat) (w : World) (B b : Nat) : Prop := ∃ xs, w.ownsRow B 5 1 (.slice (some ⟨b, 0, none⟩) len len) len xs
theorem OwnG.turned {len : Nat} {Q : Nat → Prop} {w y : World} {B b : Nat} (h : OwnG len w B b) (t : Turned Q w y) (hb : ¬ Q b) : OwnG len y B b := by
  obtain ⟨xs, h⟩ := h
  exact ⟨xs, own_turned h t (fun j hj => by
    have hj : b = j := by simpa [Value.ownBlock] using hj
    rw [← hj]
    exact hb)⟩
theorem OwnG.set {len B b : Nat} : ∀ (vs : List Value) (o : Nat) (w : World), OwnG len w B b → OwnG len (w.setCells b o vs) B b
  | [], _, _, h => h
  | v :: vs, o, w, h => by
    obtain ⟨xs, h⟩ := h
    exact OwnG.set vs (o + 1) _ ⟨_, own_set h o v⟩
set_option maxRecDepth 100000 in
theorem copied_ownG (a : Addr) (len cc : Nat) (g : Nat → Nat) (w : World) (hD : HandB w (some a) len g) (hln : len ≤ 4096) : Calls Tryd.prog 38 #[.slice (some a) len cc] w fun e w' => e = .returned (.slice (some ⟨w.heap.size, 0, none⟩) len len) ∧ Below w.heap.size w w' ∧ CellsAt len w' w.heap.size (fun i => .int .u8 (g i : Nat)) ∧ OwnG len w' w.heap.size w.heap.size := by
  have key : ∃ y, (Builtin.copy_ #[67, 67] 3 #[.slice (some ⟨w.heap.size, 0, none⟩) len len, .slice (some a) len cc]).run Tryd.prog (w.alloc (.cells (madeCells #[.int .u8 0] len) 5)) = .ok (goInt len) y ∧ Below w.heap.size w y ∧ CellsAt len y w.heap.size (fun i => .int .u8 (g i : Nat)) ∧ OwnG len y w.heap.size w.heap.size := by
    have bA : Below w.heap.size w (w.alloc (.cells (madeCells #[.int .u8 0] len) 5)) := (Below.refl _ _).alloc (Nat.le_refl _) _
    have hs : (Tryd.prog.info? 5).map (·.size) = some 1 := by kernel_rfl
    have hg : (w.alloc (.cells (madeCells #[.int .u8 0] len) 5)).heap[w.heap.size]? = some (.cells (madeCells #[.int .u8 0] len) 5 (0, 0)) := by
      show (w.heap.push _)[w.heap.size]? = _
      simp
    have hz : (madeCells #[Value.int .u8 0] len).size = len := size_madeCells _ _
    have hD' := hD.below bA
    have hr := run_copy_row (P := Tryd.prog) _ 67 67 3 5 w.heap.size 0 len len a len cc _ _ ((List.range len).map fun i => .int .u8 (g i : Nat)) Tryd.underlying67 hs hg (by rw [List.length_map, List.length_range]; exact (Nat.min_self len).symm) (fun j u hj => by
      have hjn : j < len := by
        have := (List.getElem?_eq_some_iff.1 hj).1
        simpa using this
      rw [List.getElem?_map, List.getElem?_range hjn] at hj
      obtain ⟨c, o, h1, h2, h3⟩ := hD' j hjn
      obtain rfl := Option.some.inj h1
      rw [Addr.add_lit, h3]
      exact hj) (by simp [hz]) (by
      intro u hu
      obtain ⟨i, _, rfl⟩ := List.mem_map.1 hu
      rfl)
    refine ⟨_, by simpa using hr, below_setR bA (Nat.le_refl _) _, ⟨?_, fun o ho => ?_, fun o => ?_⟩, ⟨_, by simp, Or.inr ⟨w.heap.size, len, _, rfl, Nat.le_refl _, setRow_heap _ _ _ _ _ _ hg, Nat.le_refl _, by unfold maxLen; omega, ?_, rfl⟩⟩⟩
    · exact (Array.getElem?_eq_some_iff.1 (setRow_heap _ _ _ _ _ _ hg)).1
    · rw [cell_setRow_same _ _ o _ _ _ _ hg]
      simp [List.getElem?_append, ho]
    · exact frz (setRow_heap _ _ _ _ _ _ hg) o
    · simp [hz]
  obtain ⟨y, hc, hb, hk, ho⟩ := key
  have HMK := Hid.in (make_run (P := Tryd.prog) 67 5 (.int .u8 0) 1 Tryd.underlying67 (by kernel_rfl) rfl len (by omega) (by omega) w)
  have HC := Hid.in hc
  have HB := Hid.in (And.intro hb (And.intro hk ho))
  clear hc hb hk hD ho
  go_enter Tryd.func38, Tryd.ntmps38
  go_wp2_with (refine wpl_make (v := .int .i64 len) (u := .int .i64 len) rfl rfl rfl rfl HMK.out ?_)
  rw [HC.out]
  go_wp2
  go_ret
  exact ⟨rfl, HB.out⟩
section
variable {x : World} {g : Bn} {F : Nat → Prop} {N : Nat} {S : BS} {f : Nat → Nat}
/-- the copy, while it is made: lines that are not to come any more are as they should be -/
def DtG (len : Nat) (wr : World) (db : Nat) (left : Lit → Bool) (f : Nat → Nat) : Prop := ∃ dd : Nat → Nat, CellsAt len wr db (fun o => .int .u8 (dd o)) ∧ ∀ o, o < len → left (.int .u32 ((65536 + lineOf o : Nat) : Int)) = false → dd o = f o
theorem dt_nextG {len : Nat} {wr w1 : World} {db : Nat} {left : Lit → Bool} (h : DtG len wr db left f) (t : Turned (fun j => j ≠ db) wr w1) (a : Nat) (b : Nat → Nat) (h16 : a % 16 = 0) (hlo : 65536 ≤ a) (hhi : a < 65536 + len) (hl16 : len % 16 = 0) (hb : ∀ t, t < 16 → b t = f (a - 65536 + t)) : DtG len (w1.setCells db (a - 65536) (bvs b)) db (fun z => left z && !z.sameKey (.int .u32 (a : Int))) f := by
  obtain ⟨dd, hc, hd⟩ := h
  have c1 := t.cells hc (fun q => q rfl)
  have c2 := cells_setCells (bvs b) (a - 65536) w1 _ c1 (by rw [bvs_len]; omega)
  refine ⟨fun o => if a - 65536 ≤ o ∧ o < a - 65536 + 16 then b (o - (a - 65536)) else dd o, ⟨c2.here, fun o ho => ?_, c2.free⟩, fun o ho hl => ?_⟩
  · rw [c2.cell o ho, bvs_len]
    dsimp only
    by_cases q : a - 65536 ≤ o ∧ o < a - 65536 + 16
    · rw [if_pos q, if_pos q, List.getD_eq_getElem?_getD, bvs_at _ _ (by omega)]
      rfl
    · rw [if_neg q, if_neg q]
  · by_cases q : a - 65536 ≤ o ∧ o < a - 65536 + 16
    · show (if _ then _ else _) = _
      rw [if_pos q, hb _ (by omega)]
      have : a - 65536 + (o - (a - 65536)) = o := by omega
      rw [this]
    · show (if _ then _ else _) = _
      rw [if_neg q]
      refine hd o ho ?_
      have hne : (Lit.int .u32 ((65536 + lineOf o : Nat) : Int)).sameKey (.int .u32 (a : Int)) = false := by
        have : ((65536 + lineOf o : Nat) : Int) ≠ (a : Int) := by
          intro e
          apply q
          have e : 65536 + lineOf o = a := by omega
          unfold lineOf at e
          omega
        simp [Lit.sameKey]
        omega
      dsimp only at hl
      rw [hne] at hl
      simpa using hl
/-- an entry of what is newer -/
theorem newer_ofG {D : DataW Value} (co : Cg S f) (hH : Has .u32 D (encN S.nw)) (xk : Int) (c : Value) (kl : Lit) (y : DataW Value × List MemPlace) (hkey : keyOf Tryd.prog 31 (.int .u32 xk) = some kl) (hR : rdV c = some y) (hat : ∀ zd, D.atKey kl zd = y.1) (hhas : Maps.has D kl = true) : ∃ (a : Nat) (b : Nat → Nat), xk = a ∧ kl = .int .u32 (a : Int) ∧ c = .agg (bvs b).toArray ∧ a % 16 = 0 ∧ 65536 ≤ a ∧ a < 65536 + S.len ∧ ∀ t, t < 16 → b t = f (a - 65536 + t) := by
  obtain ⟨x', e1, e2, hwf⟩ := Maps.keyOf_int_inv Tryd.underlying31 hkey
  have e1 : xk = x' := by simpa using e1
  subst e1
  have hw : 0 ≤ xk ∧ xk ≤ 4294967295 := by
    simpa [Lit.wf, IntKind.bits, IntKind.signed, IntKind.min, IntKind.max] using hwf
  obtain ⟨a, ha⟩ : ∃ a : Nat, xk = a := ⟨xk.toNat, by omega⟩
  subst ha
  obtain ⟨h1, h2⟩ := hH a hwf
  rw [e2] at hhas hat
  rw [hhas] at h1
  obtain ⟨v, hv⟩ := Option.isSome_iff_exists.1 h1.symm
  have q1 := h2 v (.held c) hv
  rw [hat] at q1
  have q2 : y.1 = .held c := by
    have : some (DataW.held c, ([] : List MemPlace)) = some y := hR
    simp at this
    rw [← this]
  rw [q2] at q1
  have q3 : c = v := by simpa using q1
  unfold encN at hv
  cases hn : S.nw (a : Int) with
  | none => rw [hn] at hv; cases hv
  | some b =>
    rw [hn] at hv
    have q4 : Value.agg (bvs b).toArray = v := by simpa using hv
    obtain ⟨i, e, l, s3, ea, eb⟩ := co.se.n2 a b hn
    obtain ⟨l1, l2, l3, l4, l5, l6, l7, l8⟩ := co.se.line i e l
    rw [ea] at l2 l3 l4 l7
    rw [eb] at l7
    exact ⟨a, b, rfl, e2, by rw [q3, q4], l2, l3, l4, l7⟩
set_option maxRecDepth 100000 in
set_option maxHeartbeats 4000000 in
theorem udataG (h : Bu x g F N S) (co : Cg S f) : Calls Tryd.prog 19 #[.pointer (some ⟨g.p, 0, none⟩)] x fun e w' => e = .returned (.slice (some ⟨x.heap.size, 0, none⟩) S.len S.len) ∧ CellsAt S.len w' x.heap.size (fun o => .int .u8 (f o)) ∧ Below x.heap.size x w' ∧ OwnG S.len w' x.heap.size x.heap.size := by
  obtain ⟨V, kn, ka, k, -⟩ := h
  have hl4 := co.len.1
  have hl16 := co.len.2
  obtain ⟨len, hlen⟩ : ∃ len, S.len = len := ⟨_, rfl⟩
  rw [hlen] at hl4 hl16 ⊢
  have hmc : len ≤ g.mc ∧ g.mc ≤ 9223372036854775807 := by rw [← hlen]; exact ⟨k.rm.2.1, k.rm.2.2.2⟩
  have p2 : x.cell? ⟨g.p, 2, none⟩ = some (.slice (some ⟨g.mb, 0, none⟩) len g.mc) := by rw [← hlen]; exact k.c.cell 2 (by decide)
  have hp := k.c.here
  have km := k.m
  rw [hlen] at km
  have HLEN := Hid.in hlen
  have HCP := Hid.in (copied_ownG ⟨g.mb, 0, none⟩ len g.mc S.mem x (hand_row km) hl4)
  have HK := Hid.in k
  have HCO := Hid.in co
  have hnbx : g.nb < x.heap.size := k.nw.here
  clear km k co hlen
  go_enter Tryd.func19, Tryd.ntmps19
  go_upto_region 2 with (go_at_call 38; refine HCP.out.mono ?_; rintro e y ⟨rfl, hb, hcm, how⟩; have HB := Hid.in hb; have HCM := Hid.in hcm; have HOW := Hid.in how; clear hb hcm how)
  have kY := HK.out.below HB.out
  obtain ⟨D, hown, hHas⟩ := kY.nw
  have y3 : y.cell? ⟨g.p, 3, none⟩ = some (.map (some g.nb)) := kY.c.cell 3 (by decide)
  have yh := kY.c.here
  have HHAS := Hid.in hHas
  clear p2 hp kY hHas
  have HOWN := Hid.in hown
  obtain ⟨ys, hys⟩ : ∃ ys, y.heap.size = ys := ⟨_, rfl⟩
  have HYS := Hid.in hys
  clear hown
  go_wp2_with (first
    | (at_range; refine wpList_range_own _ rfl _ 68 rfl 31 98 (Maps.int_keyed Tryd.underlying31) Tryd.underlying68 _ g.nb kn D rfl HOWN.out ?_; intro w0 hrg0 hg0 hs0; have HRG0 := Hid.in hrg0; have HG0 := Hid.in hg0; have HS0 := Hid.in hs0; clear hrg0 hg0 hs0)
    | go_in)
  go_frame
  rw [hys]
  clear hys
  go_loopw [4] (fun _ wr => ∃ (left : Lit → Bool) (cnt : Nat), wr.ranges Tryd.prog 31 rdV g.nb ys kn D left cnt ∧ (∀ z, left z = true → Maps.has D z = true) ∧ DtG len wr x.heap.size left f ∧ Below x.heap.size x wr ∧ OwnG len wr x.heap.size x.heap.size) (fun _ wr => wr.rangeLeft g.nb ys)
  case atStart =>
    refine ⟨_, _, by rw [← HYS.out]; exact HRG0.out, fun _ q => q, ?_, HB.out.trans ((grown_below HG0.out).mono HB.out.size), HOW.out.turned (Turned.of_below (Q := fun _ => False) (grown_below HG0.out)) (fun q => q)⟩
    refine ⟨S.mem, HCM.out.below (grown_below HG0.out), fun o ho hf => ?_⟩
    rcases HCO.out.se.out o (by rw [HLEN.out]; exact ho) with q | ⟨i, e, l, q1, q2⟩
    · exact q
    · have h1 := HCO.out.se.n1 i e l q1
      have l4 := (HCO.out.se.line i e l).2.2.2.1
      rw [HLEN.out] at l4
      have h2 := (HHAS.out (e.a : Nat) (wf_u32 (by omega))).1
      rw [q2] at h1 h2
      have h3 : encN S.nw ((65536 + lineOf o : Nat) : Int) = some (.agg (bvs e.b).toArray) := by
        unfold encN
        rw [h1]
        rfl
      rw [h3, hf] at h2
      cases h2
  case round =>
    obtain ⟨left, cnt, hrg, hl, hdt, hbw, how⟩ := hrel
    have HOWR := Hid.in how
    clear how HOW
    have HRG := Hid.in hrg
    have HLF := Hid.in hl
    have HDT := Hid.in hdt
    have HBW := Hid.in hbw
    clear hrg hl hdt hbw HRG0 HG0 HS0
    go_wp2_with (first
      | (at_next; refine wpList_next_ranges _ rfl _ rfl 31 (Maps.int_keyed Tryd.underlying31) rdV (Value.int .u32) (fun v : Value => v) (fun key kl hkey => by obtain ⟨z, e1, _⟩ := Maps.keyOf_int_inv Tryd.underlying31 hkey; exact ⟨z, e1⟩) (fun v _ _ => ⟨v, rfl⟩) g.nb ys kn D left cnt rfl HRG.out ?_ ?_)
      | go_in)
    · intro _ hl0
      have HL0 := Hid.in hl0
      clear hl0
      go_wp2
      go_ret
      obtain ⟨dd, h1, h2⟩ := HDT.out
      refine ⟨rfl, ⟨h1.here, fun o ho => ?_, h1.free⟩, HBW.out, HOWR.out⟩
      rw [h1.cell o ho, h2 o ho (HL0.out _)]
    · intro xk c kl y1 y2 w1 cnt1 hkey hlk hR hat hrg1 hlt hg1 hs1 hen
      obtain ⟨a, b, rfl, rfl, rfl, a16, alo, ahi, hb⟩ := newer_ofG HCO.out HHAS.out xk c kl (y1, y2) hkey hR hat (HLF.out _ hlk)
      rw [HLEN.out] at ahi
      have HRG1 := Hid.in hrg1
      have HLT := Hid.in hlt
      have HG1 := Hid.in hg1
      have HAA := Hid.in (And.intro a16 (And.intro alo (And.intro ahi hb)))
      have hys : x.heap.size < ys := by rw [← HYS.out]; exact HCM.out.here
      have t1 : Turned (fun j => j = ys) wr w1 := ⟨hg1.os, hg1.tape, hg1.output, hg1.size, fun i hi hne => hg1.block i hi (fun e => hne (by simpa using e))⟩
      obtain ⟨X0, hX0⟩ : ∃ X0, w1.alloc (.cells z16 98) = X0 := ⟨_, rfl⟩
      have th0 : X0.there w1.heap.size 0 16 := by rw [← hX0]; exact there_arr w1 _
      obtain ⟨X, hX⟩ : ∃ X, X0.setCells w1.heap.size 0 (bvs b) = X := ⟨_, rfl⟩
      have b0 : Below w1.heap.size w1 X0 := by rw [← hX0]; exact (Below.refl _ _).alloc (Nat.le_refl _) _
      have s0 : w1.heap.size < X0.heap.size := by rw [← hX0]; simp
      have tX : Turned (fun j => j = w1.heap.size) X0 X := by rw [← hX]; exact turned_setCells _ _ _
      have bX : Below w1.heap.size w1 X := b0.trans (tX.below (Nat.le_of_lt s0) (fun j hj => by omega))
      have rX : X.rangeAt w1.heap.size 0 (bvs b) := by rw [← hX]; exact World.rangeAt_setCells_same _ _ _ _ (by rw [bvs_len]; exact th0)
      obtain ⟨dd, hdd, -⟩ := HDT.out
      have cX := ((t1.cells hdd (by omega)).below bX)
      have hcp := copy16 X.drew 3 x.heap.size (a - 65536) w1.heap.size 0 16 16 b 16 16 rfl ((World.rangeAt_drew _ _ _ _).2 rX) ((World.there_drew _ _ _ _).2 (there_row cX (by omega)))
      obtain ⟨Y, hY⟩ : ∃ Y, X.drew.setCells x.heap.size (a - 65536) (bvs b) = Y := ⟨_, rfl⟩
      rw [hY] at hcp
      have tY : Turned (fun j => j = x.heap.size) w1 Y := by
        rw [← hY]
        exact (Turned.of_below bX).drew.trans (turned_setCells _ _ _)
      have bwr : x.heap.size ≤ wr.heap.size := HBW.out.size
      have HREL : Hid (Y.ranges Tryd.prog 31 rdV g.nb ys kn D (fun z => left z && !z.sameKey (.int .u32 (a : Int))) cnt1 ∧ (∀ z, (left z && !z.sameKey (.int .u32 (a : Int))) = true → Maps.has D z = true) ∧ DtG len Y x.heap.size (fun z => left z && !z.sameKey (.int .u32 (a : Int))) f ∧ Below x.heap.size x Y ∧ OwnG len Y x.heap.size x.heap.size) := by
        refine ⟨hrg1.kept (turned_grows tY) (by simp; omega) (by simp; omega), fun z hz => HLF.out z (by simp at hz; exact hz.1), ?_, ?_, ?_⟩
        · rw [← hY]
          have tw : Turned (fun j => j ≠ x.heap.size) wr X.drew := ((t1.mono (fun j hj => by omega)).trans (Turned.of_below bX)).drew
          exact dt_nextG HDT.out tw a b a16 alo ahi hl16 hb
        · exact (HBW.out.trans (t1.below bwr (fun j hj => by omega))).trans (tY.below (by have := t1.size; omega) (fun j hj => by omega))
        · rw [← hY]
          exact OwnG.set _ _ _ ((HOWR.out.turned ((t1.mono (R := fun j => j ≠ x.heap.size) (fun j hj => by omega)).trans (Turned.of_below bX)).drew (fun q => q rfl)))
      have HLN : Hid (∀ z, Calls Tryd.prog 39 #[.slice (some ⟨x.heap.size, 0, none⟩) len len, .int .u32 a] z fun e w' => e = .returned (.slice (some ⟨x.heap.size, a - 65536, none⟩) 16 16) ∧ w' = z) := fun z => mline_any x.heap.size a len len z (by omega) a16 (by unfold hasB; simp; omega) (by omega) (by omega) (Nat.le_refl _)
      unfold z16 at hX0
      have HX := Hid.in hX
      clear hs1 tY tX bX rX cX hdd b0 s0 t1 hg1 hrg1 hlt hkey hlk hR hat a16 alo ahi hb hY hX
      go_upto_region 5 with (first
        | (rw [hX0]; refine st_arr w1.heap.size 0 b th0 rfl rfl _ _ rfl rfl rfl ?_)
        | (refine st_arr w1.heap.size 0 b th0 rfl rfl _ _ rfl rfl rfl ?_)
        | go_in)
      try rw [hX0]
      rw [HX.out]
      clear hX0 th0
      go_region_with (go_at_call 39; refine (HLN.out _).mono ?_; rintro e y' ⟨rfl, hy⟩; have hy2 := hy.symm; clear hy; subst hy2)
      all_goals
        go_wp2
        go_roundw
        case rel => exact ⟨_, _, HREL.out⟩
        case measure => rw [HREL.out.1.left_eq, HRG.out.left_eq]; exact HLT.out
end
end Go.Proofs.YtlogdmnhngbkaaaDoor
/-
  BUS: Tick, with what it tells; with nothing to do.
-/
namespace Go.Proofs.YtlogdmnhngbkaaaDoor
open Go Go.RowKit
section
variable {x : World} {g : Bn} {F : Nat → Prop} {N : Nat} {S : BS}
set_option maxRecDepth 100000 in
set_option maxHeartbeats 2000000 in
theorem utick_idle (h : Bu x g F N S) (hon : S.on = false) (hno : ∀ j, j < S.nc → (S.ak (S.nxt j : Nat)).isSome = false) : Calls Tryd.prog 8 #[.pointer (some ⟨g.p, 0, none⟩)] x fun e w' => e = .returned (.slice none 0 0) ∧ Bu w' g F N S ∧ Turned (fun j => ¬ F j) x w' := by
  obtain ⟨o1, -, -, o4, -⟩ := h.own
  have p6 : x.cell? ⟨g.p, 6, none⟩ = some (.bool S.on) := o1.cell 6 (by decide)
  have hp := o1.here
  rw [hon] at p6
  have HBE : Hid (Calls Tryd.prog 28 #[.pointer (some ⟨g.p, 0, none⟩)] x fun e w' => e = .returned (.bool false) ∧ Bu w' g F N S ∧ Turned (fun j => ¬ F j) x w') := by
    refine (ubegin h).mono ?_
    rintro e w' ⟨⟨j, hj, b1, b2, rfl, k⟩ | ⟨b1, rfl, k⟩, t⟩
    · rw [hno j hj] at b1
      cases b1
    · exact ⟨rfl, k, t⟩
  clear h o1 o4 hon hno
  go_enter Tryd.func8, Tryd.ntmps8
  go_wp2_with (go_at_call 28; refine HBE.out.mono ?_; rintro e y ⟨rfl, hu, ht⟩; have HU := Hid.in hu; have HT := Hid.in ht; clear hu ht)
  go_ret
  exact ⟨rfl, HU.out, HT.out⟩
set_option maxRecDepth 100000 in
set_option maxHeartbeats 2000000 in
theorem utick_doT {S' D : BS} {T : List Snp} (h : Bu x g F N S) (hg : S.goes S') (hw : ¬ S'.tk < S'.cyc) (l : Nat) (wr : Bool) (ha : S'.ak (S'.turn : Nat) = some (l, wr)) (hdo : ∀ (y : World) (G : Nat → Prop), Bu y g G N { S' with on := false, ak := updO S'.ak (S'.turn : Nat) none } → Calls Tryd.prog 29 #[.pointer (some ⟨g.p, 0, none⟩), .agg #[.int .u32 l, .bool wr]] y (DoesT g N D T y G)) : Calls Tryd.prog 8 #[.pointer (some ⟨g.p, 0, none⟩)] x (DoesT g N D T x F) := by
  obtain ⟨o1, -, -, o4, -⟩ := h.own
  have p6 : x.cell? ⟨g.p, 6, none⟩ = some (.bool S.on) := o1.cell 6 (by decide)
  have hp := o1.here
  have HW := Hid.in hw
  have HA := Hid.in ha
  have HDO := Hid.in hdo
  have HF : Hid (∀ j, F j → j < x.heap.size) := fun j hj => h.here hj
  have HTU : Hid (S'.turn < 2) := by
    show S'.turn < 2
    have n1 := o4.1
    have n2 := o4.2.1
    rcases hg with q | ⟨-, i, -, -, -, q⟩
    · rw [q.2]; have := o4.2.2.2.2.2.1; omega
    · rw [q]; have := nxt_lt S i n1; show S.nxt i < 2; omega
  have rest : ∀ y, Bu y g F N S' → Turned (fun j => ¬ F j) x y → ∃ z1 : World, y.drew.setCell ⟨g.p, 6, none⟩ (.bool false) = z1 ∧ z1.cell? ⟨g.p, 4, none⟩ = some (.map (some g.ab)) ∧ z1.cell? ⟨g.p, 5, none⟩ = some (.int .i64 S'.turn) ∧ g.p < z1.heap.size ∧ x.heap.size ≤ z1.heap.size ∧ (Instr.lookup 69 (.map (some g.ab)) (.int .i64 S'.turn) false).run Tryd.prog z1.drew = .ok (.agg #[.int .u32 l, .bool wr]) z1.drew ∧ (Instr.lookup 69 (.map (some g.ab)) (.int .i64 S'.turn) false).run Tryd.prog (z1.alloc (.cells #[.int .u32 0, .bool false] 65)).drew = .ok (.agg #[.int .u32 l, .bool wr]) (z1.alloc (.cells #[.int .u32 0, .bool false] 65)).drew ∧ (∀ z2, Below z1.heap.size z1 z2 → ∃ z3, z2.cell? ⟨g.p, 4, none⟩ = some (.map (some g.ab)) ∧ z2.cell? ⟨g.p, 5, none⟩ = some (.int .i64 S'.turn) ∧ g.p < z2.heap.size ∧ (Builtin.delete_ #[69, 3] 0 #[.map (some g.ab), .int .i64 S'.turn]).run Tryd.prog z2.drew = .ok (.tuple #[]) z3 ∧ (∀ b o v, z1.heap.size ≤ b → z2.cell? ⟨b, o, none⟩ = some v → b < z2.heap.size → z3.cell? ⟨b, o, none⟩ = some v ∧ b < z3.heap.size) ∧ Calls Tryd.prog 29 #[.pointer (some ⟨g.p, 0, none⟩), .agg #[.int .u32 l, .bool wr]] z3 (DoesT g N D T x F)) := by
    intro y hu ht
    have hc : i64 (S'.turn : Nat) := by have := HTU.out; unfold i64; omega
    obtain ⟨u1, t1⟩ := Bu.off (hu.below (y := y.drew) ⟨rfl, rfl, rfl, Nat.le_refl _, fun _ _ => rfl⟩)
    refine ⟨_, rfl, u1.own.1.cell 4 (by decide), u1.own.1.cell 5 (by decide), u1.own.1.here, ?_, ?_, ?_, fun z2 hz => ?_⟩
    · exact Nat.le_trans ht.size t1.size
    · exact Bu.askEq (S := { S' with on := false }) (u1.below (y := (y.drew.setCell ⟨g.p, 6, none⟩ (.bool false)).drew) ⟨rfl, rfl, rfl, Nat.le_refl _, fun _ _ => rfl⟩) _ hc HA.out
    · exact Bu.askEq (S := { S' with on := false }) (u1.below (y := ((y.drew.setCell ⟨g.p, 6, none⟩ (.bool false)).alloc (.cells #[.int .u32 0, .bool false] 65)).drew) (((Below.refl _ _).alloc (Nat.le_refl _) _).drew)) _ hc HA.out
    · have u2 := u1.fresh hz
      have u2d := u2.below (y := z2.drew) ⟨rfl, rfl, rfl, Nat.le_refl _, fun _ _ => rfl⟩
      obtain ⟨z3, hrun, u3, t3⟩ := Bu.askDel u2d (S'.turn : Nat) hc
      refine ⟨z3, u2.own.1.cell 4 (by decide), u2.own.1.cell 5 (by decide), u2.own.1.here, hrun, fun b o v hb hv hlt => ⟨?_, Nat.lt_of_lt_of_le hlt t3.size⟩, ?_⟩
      · exact t3.to_cell hlt (fun q => q (Or.inr ⟨hb, hlt⟩)) hv
      · refine (HDO.out z3 F (u3.less (fun j hj => Or.inl hj))).mono ?_
        rintro e w' ⟨v, rfl, hr, hu', ht'⟩
        have tx : Turned (fun j => ¬ F j) x z3 := ((((ht.drew).trans t1).trans (Turned.of_below hz)).drew).trans (t3.mono (fun j q f => q (Or.inl f)))
        exact ⟨v, rfl, own_lower hr tx.size, hu', tx.trans ht'⟩
  have HREST := Hid.in rest
  clear rest hdo ha
  cases hon : S.on
  · rw [hon] at p6
    have HBE := Hid.in (ubegin_yes h hon hg)
    clear h hg o1 o4 hw hon
    go_enter Tryd.func8, Tryd.ntmps8
    go_upto_region 3 with (go_at_call 28; refine HBE.out.mono ?_; rintro e y ⟨rfl, hu, ht⟩; have HU := Hid.in hu; have HT := Hid.in ht; clear hu ht)
    clear p6 hp
    obtain ⟨o1, -, -, o4, -⟩ := HU.out.own
    have p7 : y.cell? ⟨g.p, 7, none⟩ = some (.int .i64 S'.tk) := o1.cell 7 (by decide)
    have p1 : y.cell? ⟨g.p, 1, none⟩ = some (.int .i64 S'.cyc) := o1.cell 1 (by decide)
    have hp := o1.here
    have p6 : y.cell? ⟨g.p, 6, none⟩ = some (.bool S'.on) := o1.cell 6 (by decide)
    have f6 := o1.free 6
    have hlt : ¬ ((S'.tk : Int) < (S'.cyc : Int)) := by have := HW.out; omega
    obtain ⟨z1, hz1, a1, a2, a3, a4, a5, a5', a6⟩ := HREST.out y HU.out HT.out
    have HA6 := Hid.in a6
    clear o1 o4 a6
    go_region
    go_upto_region 7 with fail
    try rw [hz1]
    clear hz1 p7 p1 hp f6 p6
    go_region
    all_goals
      obtain ⟨z2, hz2⟩ : ∃ z2, (z1.alloc (.cells #[.int .u32 l, .bool wr] 65)).drew = z2 := ⟨_, rfl⟩
      have cN := box_new4 z1 l wr
      have c0 : z2.cell? ⟨z1.heap.size, 0, none⟩ = some (.int .u32 l) := by rw [← hz2]; exact cN.cell 0 (by decide)
      have c1 : z2.cell? ⟨z1.heap.size, 1, none⟩ = some (.bool wr) := by rw [← hz2]; exact cN.cell 1 (by decide)
      have ch : z1.heap.size < z2.heap.size := by rw [← hz2]; exact cN.here
      obtain ⟨z3, b1, b2, b3, b4, b5, b6⟩ := HA6.out z2 (by rw [← hz2]; exact ((Below.refl _ _).alloc (Nat.le_refl _) _).drew)
      obtain ⟨e0, eh⟩ := b5 _ 0 _ (Nat.le_refl _) c0 ch
      obtain ⟨e1, -⟩ := b5 _ 1 _ (Nat.le_refl _) c1 ch
      have HB6 := Hid.in b6
      try rw [hz2]
      clear hz2 cN b5 b6 a5 a5' a1 a2
      go_upto_region 8 with fail
      go_region
      go_wp2_with (go_at_call 29; refine HB6.out.mono ?_; rintro e w' ⟨v, rfl, hq⟩; have HQ := Hid.in hq; clear hq)
      go_ret
      exact ⟨v, rfl, HQ.out⟩
  · rw [hon] at p6
    obtain rfl : S' = S := by
      rcases hg with q | q
      · exact q.2
      · have := q.1
        rw [hon] at this
        cases this
    have p7 : x.cell? ⟨g.p, 7, none⟩ = some (.int .i64 S'.tk) := o1.cell 7 (by decide)
    have p1 : x.cell? ⟨g.p, 1, none⟩ = some (.int .i64 S'.cyc) := o1.cell 1 (by decide)
    have f6 := o1.free 6
    have hlt : ¬ ((S'.tk : Int) < (S'.cyc : Int)) := by have := HW.out; omega
    have HX := Hid.in h
    obtain ⟨z1, hz1, a1, a2, a3, a4, a5, a5', a6⟩ := HREST.out x HX.out (Turned.refl _ x)
    have HA6 := Hid.in a6
    clear o1 o4 a6 h hg hw hon
    go_enter Tryd.func8, Tryd.ntmps8
    go_upto_region 3 with fail
    go_region
    go_upto_region 7 with fail
    try rw [hz1]
    clear hz1 p7 p1 hp f6 p6
    go_region
    all_goals
      obtain ⟨z2, hz2⟩ : ∃ z2, (z1.alloc (.cells #[.int .u32 l, .bool wr] 65)).drew = z2 := ⟨_, rfl⟩
      have cN := box_new4 z1 l wr
      have c0 : z2.cell? ⟨z1.heap.size, 0, none⟩ = some (.int .u32 l) := by rw [← hz2]; exact cN.cell 0 (by decide)
      have c1 : z2.cell? ⟨z1.heap.size, 1, none⟩ = some (.bool wr) := by rw [← hz2]; exact cN.cell 1 (by decide)
      have ch : z1.heap.size < z2.heap.size := by rw [← hz2]; exact cN.here
      obtain ⟨z3, b1, b2, b3, b4, b5, b6⟩ := HA6.out z2 (by rw [← hz2]; exact ((Below.refl _ _).alloc (Nat.le_refl _) _).drew)
      obtain ⟨e0, eh⟩ := b5 _ 0 _ (Nat.le_refl _) c0 ch
      obtain ⟨e1, -⟩ := b5 _ 1 _ (Nat.le_refl _) c1 ch
      have HB6 := Hid.in b6
      try rw [hz2]
      clear hz2 cN b5 b6 a5 a5' a1 a2
      go_upto_region 8 with fail
      go_region
      go_wp2_with (go_at_call 29; refine HB6.out.mono ?_; rintro e w' ⟨v, rfl, hq⟩; have HQ := Hid.in hq; clear hq)
      go_ret
      exact ⟨v, rfl, HQ.out⟩
end
end Go.Proofs.YtlogdmnhngbkaaaDoor
