import Derived.Test.YtlogdmnhngbkaaaDoorY31
import Derived.Maps.RangeWalk
/-
  BUS: Data.
-/
namespace Go.Proofs.YtlogdmnhngbkaaaDoor
open Go Go.RowKit
theorem store_arr0 (w : World) (b : Nat → Nat) : (storeCells ⟨w.heap.size, 0, none⟩ (bvs b)).run Tryd.prog (w.alloc (.cells z16 98)) = .ok () (w.alloc (.cells (bvs b).toArray 98)) := by
  have := run_storeVar_new (P := Tryd.prog) w 98 z16 (bvs b).toArray (by rw [arr_info]; simp [bvs_len]) (by simp [z16, bvs_len]) (arr_one b)
  simpa [go_sem, bvs_len] using this
/-- a row of 256 bytes in a block of its own -/
def Own (w : World) (B b : Nat) : Prop := ∃ xs, w.ownsRow B 5 1 (.slice (some ⟨b, 0, none⟩) 256 256) 256 xs
theorem Own.turned {Q : Nat → Prop} {w y : World} {B b : Nat} (h : Own w B b) (t : Turned Q w y) (hb : ¬ Q b) : Own y B b := by
  obtain ⟨xs, h⟩ := h
  exact ⟨xs, own_turned h t (fun j hj => by
    have hj : b = j := by simpa [Value.ownBlock] using hj
    rw [← hj]
    exact hb)⟩
theorem Own.set {B b : Nat} : ∀ (vs : List Value) (o : Nat) (w : World), Own w B b → Own (w.setCells b o vs) B b
  | [], _, _, h => h
  | v :: vs, o, w, h => by
    obtain ⟨xs, h⟩ := h
    exact Own.set vs (o + 1) _ ⟨_, own_set h o v⟩
set_option maxRecDepth 100000 in
theorem copied_own (a : Addr) (cc : Nat) (g : Nat → Nat) (w : World) (hD : HandB w (some a) 256 g) : Calls Tryd.prog 38 #[.slice (some a) 256 cc] w fun e w' => e = .returned (.slice (some ⟨w.heap.size, 0, none⟩) 256 256) ∧ Below w.heap.size w w' ∧ CellsAt 256 w' w.heap.size (fun i => .int .u8 (g i : Nat)) ∧ Own w' w.heap.size w.heap.size := by
  have key : ∃ y, (Builtin.copy_ #[67, 67] 3 #[.slice (some ⟨w.heap.size, 0, none⟩) 256 256, .slice (some a) 256 cc]).run Tryd.prog (w.alloc (.cells (madeCells #[.int .u8 0] 256) 5)) = .ok (goInt 256) y ∧ Below w.heap.size w y ∧ CellsAt 256 y w.heap.size (fun i => .int .u8 (g i : Nat)) ∧ Own y w.heap.size w.heap.size := by
    have bA : Below w.heap.size w (w.alloc (.cells (madeCells #[.int .u8 0] 256) 5)) := (Below.refl _ _).alloc (Nat.le_refl _) _
    have hs : (Tryd.prog.info? 5).map (·.size) = some 1 := by kernel_rfl
    have hg : (w.alloc (.cells (madeCells #[.int .u8 0] 256) 5)).heap[w.heap.size]? = some (.cells (madeCells #[.int .u8 0] 256) 5 (0, 0)) := by
      show (w.heap.push _)[w.heap.size]? = _
      simp
    have hz : (madeCells #[Value.int .u8 0] 256).size = 256 := size_madeCells _ _
    have hD' := hD.below bA
    have hr := run_copy_row (P := Tryd.prog) _ 67 67 3 5 w.heap.size 0 256 256 a 256 cc _ _ ((List.range 256).map fun i => .int .u8 (g i : Nat)) Tryd.underlying67 hs hg (by rw [List.length_map, List.length_range]; exact (Nat.min_self 256).symm) (fun j u hj => by
      have hjn : j < 256 := by
        have := (List.getElem?_eq_some_iff.1 hj).1
        simpa using this
      rw [List.getElem?_map, List.getElem?_range hjn] at hj
      obtain ⟨c, o, h1, h2, h3⟩ := hD' j hjn
      obtain rfl := Option.some.inj h1
      rw [Addr.add_lit, h3]
      exact hj) (by simp [hz]) (by
      intro u hu
      obtain ⟨i, _, rfl⟩ := List.mem_map.1 hu
      rfl)
    refine ⟨_, by simpa using hr, below_setR bA (Nat.le_refl _) _, ⟨?_, fun o ho => ?_, fun o => ?_⟩, ⟨_, rfl, Or.inr ⟨w.heap.size, 256, _, rfl, Nat.le_refl _, setRow_heap _ _ _ _ _ _ hg, Nat.le_refl _, by unfold maxLen; omega, ?_, rfl⟩⟩⟩
    · exact (Array.getElem?_eq_some_iff.1 (setRow_heap _ _ _ _ _ _ hg)).1
    · rw [cell_setRow_same _ _ o _ _ _ _ hg]
      simp [List.getElem?_append, ho]
    · exact frz (setRow_heap _ _ _ _ _ _ hg) o
    · simp [hz]
  obtain ⟨y, hc, hb, hk, ho⟩ := key
  have HMK := Hid.in (make_run (P := Tryd.prog) 67 5 (.int .u8 0) 1 Tryd.underlying67 (by kernel_rfl) rfl 256 (by omega) (by omega) w)
  have HC := Hid.in hc
  have HB := Hid.in (And.intro hb (And.intro hk ho))
  clear hc hb hk hD ho
  go_enter Tryd.func38, Tryd.ntmps38
  go_wp2_with (refine wpl_make (v := .int .i64 256) (u := .int .i64 256) rfl rfl rfl rfl HMK.out ?_)
  rw [HC.out]
  go_wp2
  go_ret
  exact ⟨rfl, HB.out⟩
section
variable {x : World} {g : Bn} {F : Nat → Prop} {N : Nat} {S : BS} {f : Nat → Nat}
/-- the copy, while it is made: lines that are not to come any more are as they should be -/
def Dt (wr : World) (db : Nat) (left : Lit → Bool) (f : Nat → Nat) : Prop := ∃ dd : Nat → Nat, CellsAt 256 wr db (fun o => .int .u8 (dd o)) ∧ ∀ o, o < 256 → left (.int .u32 ((65536 + lineOf o : Nat) : Int)) = false → dd o = f o
theorem dt_next {wr w1 : World} {db : Nat} {left : Lit → Bool} (h : Dt wr db left f) (t : Turned (fun j => j ≠ db) wr w1) (a : Nat) (b : Nat → Nat) (h16 : a % 16 = 0) (hlo : 65536 ≤ a) (hhi : a < 65792) (hb : ∀ t, t < 16 → b t = f (a - 65536 + t)) : Dt (w1.setCells db (a - 65536) (bvs b)) db (fun z => left z && !z.sameKey (.int .u32 (a : Int))) f := by
  obtain ⟨dd, hc, hd⟩ := h
  have c1 := t.cells hc (fun q => q rfl)
  have c2 := cells_setCells (bvs b) (a - 65536) w1 _ c1 (by rw [bvs_len]; omega)
  refine ⟨fun o => if a - 65536 ≤ o ∧ o < a - 65536 + 16 then b (o - (a - 65536)) else dd o, ⟨c2.here, fun o ho => ?_, c2.free⟩, fun o ho hl => ?_⟩
  · rw [c2.cell o ho, bvs_len]
    dsimp only
    by_cases q : a - 65536 ≤ o ∧ o < a - 65536 + 16
    · rw [if_pos q, if_pos q, List.getD_eq_getElem?_getD, bvs_at _ _ (by omega)]
      rfl
    · rw [if_neg q, if_neg q]
  · by_cases q : a - 65536 ≤ o ∧ o < a - 65536 + 16
    · show (if _ then _ else _) = _
      rw [if_pos q, hb _ (by omega)]
      have : a - 65536 + (o - (a - 65536)) = o := by omega
      rw [this]
    · show (if _ then _ else _) = _
      rw [if_neg q]
      refine hd o ho ?_
      have hne : (Lit.int .u32 ((65536 + lineOf o : Nat) : Int)).sameKey (.int .u32 (a : Int)) = false := by
        have : ((65536 + lineOf o : Nat) : Int) ≠ (a : Int) := by
          intro e
          apply q
          have e : 65536 + lineOf o = a := by omega
          unfold lineOf at e
          omega
        simp [Lit.sameKey]
        omega
      dsimp only at hl
      rw [hne] at hl
      simpa using hl
theorem grown_below {w w' : World} (h : w.grownBy w' none) : Below w.heap.size w w' := ⟨h.os, h.tape, h.output, h.size, fun i hi => h.block i hi (by simp)⟩
theorem turned_grows {w w' : World} {b : Nat} (h : Turned (fun j => j = b) w w') : w.grownBy w' (some b) := ⟨h.os, h.tape, h.output, h.size, fun i hi hne => h.block i hi (fun e => hne (by rw [e]))⟩
/-- an entry of what is newer -/
theorem newer_of {D : DataW Value} (co : Co S f) (hH : Has .u32 D (encN S.nw)) (xk : Int) (c : Value) (kl : Lit) (y : DataW Value × List MemPlace) (hkey : keyOf Tryd.prog 31 (.int .u32 xk) = some kl) (hR : rdV c = some y) (hat : ∀ zd, D.atKey kl zd = y.1) (hhas : Maps.has D kl = true) : ∃ (a : Nat) (b : Nat → Nat), xk = a ∧ kl = .int .u32 (a : Int) ∧ c = .agg (bvs b).toArray ∧ a % 16 = 0 ∧ 65536 ≤ a ∧ a < 65792 ∧ ∀ t, t < 16 → b t = f (a - 65536 + t) := by
  obtain ⟨x', e1, e2, hwf⟩ := Maps.keyOf_int_inv Tryd.underlying31 hkey
  have e1 : xk = x' := by simpa using e1
  subst e1
  have hw : 0 ≤ xk ∧ xk ≤ 4294967295 := by
    simpa [Lit.wf, IntKind.bits, IntKind.signed, IntKind.min, IntKind.max] using hwf
  obtain ⟨a, ha⟩ : ∃ a : Nat, xk = a := ⟨xk.toNat, by omega⟩
  subst ha
  obtain ⟨h1, h2⟩ := hH a hwf
  rw [e2] at hhas hat
  rw [hhas] at h1
  obtain ⟨v, hv⟩ := Option.isSome_iff_exists.1 h1.symm
  have q1 := h2 v (.held c) hv
  rw [hat] at q1
  have q2 : y.1 = .held c := by
    have : some (DataW.held c, ([] : List MemPlace)) = some y := hR
    simp at this
    rw [← this]
  rw [q2] at q1
  have q3 : c = v := by simpa using q1
  unfold encN at hv
  cases hn : S.nw (a : Int) with
  | none => rw [hn] at hv; cases hv
  | some b =>
    rw [hn] at hv
    have q4 : Value.agg (bvs b).toArray = v := by simpa using hv
    obtain ⟨i, e, l, s3, ea, eb⟩ := co.se.n2 a b hn
    obtain ⟨l1, l2, l3, l4, l5, l6, l7, l8⟩ := co.se.line i e l
    rw [ea] at l2 l3 l4 l7
    rw [eb] at l7
    exact ⟨a, b, rfl, e2, by rw [q3, q4], l2, l3, l4, l7⟩
set_option maxRecDepth 100000 in
set_option maxHeartbeats 4000000 in
theorem udata (h : Bu x g F N S) (co : Co S f) : Calls Tryd.prog 19 #[.pointer (some ⟨g.p, 0, none⟩)] x fun e w' => e = .returned (.slice (some ⟨x.heap.size, 0, none⟩) 256 256) ∧ CellsAt 256 w' x.heap.size (fun o => .int .u8 (f o)) ∧ Below x.heap.size x w' ∧ Own w' x.heap.size x.heap.size := by
  obtain ⟨V, kn, ka, k, -⟩ := h
  have p2 : x.cell? ⟨g.p, 2, none⟩ = some (.slice (some ⟨g.mb, 0, none⟩) 256 g.mc) := by rw [← co.len]; exact k.c.cell 2 (by decide)
  have hp := k.c.here
  have km := k.m
  rw [co.len] at km
  have HCP := Hid.in (copied_own ⟨g.mb, 0, none⟩ g.mc S.mem x (hand_row km))
  have HK := Hid.in k
  have HCO := Hid.in co
  have hnbx : g.nb < x.heap.size := k.nw.here
  clear km k co
  go_enter Tryd.func19, Tryd.ntmps19
  go_upto_region 2 with (go_at_call 38; refine HCP.out.mono ?_; rintro e y ⟨rfl, hb, hcm, how⟩; have HB := Hid.in hb; have HCM := Hid.in hcm; have HOW := Hid.in how; clear hb hcm how)
  have kY := HK.out.below HB.out
  obtain ⟨D, hown, hHas⟩ := kY.nw
  have y3 : y.cell? ⟨g.p, 3, none⟩ = some (.map (some g.nb)) := kY.c.cell 3 (by decide)
  have yh := kY.c.here
  have HHAS := Hid.in hHas
  clear p2 hp kY hHas
  have HOWN := Hid.in hown
  obtain ⟨ys, hys⟩ : ∃ ys, y.heap.size = ys := ⟨_, rfl⟩
  have HYS := Hid.in hys
  clear hown
  go_wp2_with (first
    | (at_range; refine wpList_range_own _ rfl _ 68 rfl 31 98 (Maps.int_keyed Tryd.underlying31) Tryd.underlying68 _ g.nb kn D rfl HOWN.out ?_; intro w0 hrg0 hg0 hs0; have HRG0 := Hid.in hrg0; have HG0 := Hid.in hg0; have HS0 := Hid.in hs0; clear hrg0 hg0 hs0)
    | go_in)
  go_frame
  rw [hys]
  clear hys
  go_loopw [4] (fun _ wr => ∃ (left : Lit → Bool) (cnt : Nat), wr.ranges Tryd.prog 31 rdV g.nb ys kn D left cnt ∧ (∀ z, left z = true → Maps.has D z = true) ∧ Dt wr x.heap.size left f ∧ Below x.heap.size x wr ∧ Own wr x.heap.size x.heap.size) (fun _ wr => wr.rangeLeft g.nb ys)
  case atStart =>
    refine ⟨_, _, by rw [← HYS.out]; exact HRG0.out, fun _ q => q, ?_, HB.out.trans ((grown_below HG0.out).mono HB.out.size), HOW.out.turned (Turned.of_below (Q := fun _ => False) (grown_below HG0.out)) (fun q => q)⟩
    refine ⟨S.mem, HCM.out.below (grown_below HG0.out), fun o ho hf => ?_⟩
    rcases HCO.out.se.out o ho with q | ⟨i, e, l, q1, q2⟩
    · exact q
    · have h1 := HCO.out.se.n1 i e l q1
      have l4 := (HCO.out.se.line i e l).2.2.2.1
      have h2 := (HHAS.out (e.a : Nat) (wf_u32 (by omega))).1
      rw [q2] at h1 h2
      have h3 : encN S.nw ((65536 + lineOf o : Nat) : Int) = some (.agg (bvs e.b).toArray) := by
        unfold encN
        rw [h1]
        rfl
      rw [h3, hf] at h2
      cases h2
  case round =>
    obtain ⟨left, cnt, hrg, hl, hdt, hbw, how⟩ := hrel
    have HOWR := Hid.in how
    clear how HOW
    have HRG := Hid.in hrg
    have HLF := Hid.in hl
    have HDT := Hid.in hdt
    have HBW := Hid.in hbw
    clear hrg hl hdt hbw HRG0 HG0 HS0
    go_wp2_with (first
      | (at_next; refine wpList_next_ranges _ rfl _ rfl 31 (Maps.int_keyed Tryd.underlying31) rdV (Value.int .u32) (fun v : Value => v) (fun key kl hkey => by obtain ⟨z, e1, _⟩ := Maps.keyOf_int_inv Tryd.underlying31 hkey; exact ⟨z, e1⟩) (fun v _ _ => ⟨v, rfl⟩) g.nb ys kn D left cnt rfl HRG.out ?_ ?_)
      | go_in)
    · intro _ hl0
      have HL0 := Hid.in hl0
      clear hl0
      go_wp2
      go_ret
      obtain ⟨dd, h1, h2⟩ := HDT.out
      refine ⟨rfl, ⟨h1.here, fun o ho => ?_, h1.free⟩, HBW.out, HOWR.out⟩
      rw [h1.cell o ho, h2 o ho (HL0.out _)]
    · intro xk c kl y1 y2 w1 cnt1 hkey hlk hR hat hrg1 hlt hg1 hs1 hen
      obtain ⟨a, b, rfl, rfl, rfl, a16, alo, ahi, hb⟩ := newer_of HCO.out HHAS.out xk c kl (y1, y2) hkey hR hat (HLF.out _ hlk)
      have HRG1 := Hid.in hrg1
      have HLT := Hid.in hlt
      have HG1 := Hid.in hg1
      have HAA := Hid.in (And.intro a16 (And.intro alo (And.intro ahi hb)))
      have hys : x.heap.size < ys := by rw [← HYS.out]; exact HCM.out.here
      have t1 : Turned (fun j => j = ys) wr w1 := ⟨hg1.os, hg1.tape, hg1.output, hg1.size, fun i hi hne => hg1.block i hi (fun e => hne (by simpa using e))⟩
      obtain ⟨X0, hX0⟩ : ∃ X0, w1.alloc (.cells z16 98) = X0 := ⟨_, rfl⟩
      have th0 : X0.there w1.heap.size 0 16 := by rw [← hX0]; exact there_arr w1 _
      obtain ⟨X, hX⟩ : ∃ X, X0.setCells w1.heap.size 0 (bvs b) = X := ⟨_, rfl⟩
      have b0 : Below w1.heap.size w1 X0 := by rw [← hX0]; exact (Below.refl _ _).alloc (Nat.le_refl _) _
      have s0 : w1.heap.size < X0.heap.size := by rw [← hX0]; simp
      have tX : Turned (fun j => j = w1.heap.size) X0 X := by rw [← hX]; exact turned_setCells _ _ _
      have bX : Below w1.heap.size w1 X := b0.trans (tX.below (Nat.le_of_lt s0) (fun j hj => by omega))
      have rX : X.rangeAt w1.heap.size 0 (bvs b) := by rw [← hX]; exact World.rangeAt_setCells_same _ _ _ _ (by rw [bvs_len]; exact th0)
      obtain ⟨dd, hdd, -⟩ := HDT.out
      have cX := ((t1.cells hdd (by omega)).below bX)
      have hcp := copy16 X.drew 3 x.heap.size (a - 65536) w1.heap.size 0 16 16 b 16 16 rfl ((World.rangeAt_drew _ _ _ _).2 rX) ((World.there_drew _ _ _ _).2 (there_row cX (by omega)))
      obtain ⟨Y, hY⟩ : ∃ Y, X.drew.setCells x.heap.size (a - 65536) (bvs b) = Y := ⟨_, rfl⟩
      rw [hY] at hcp
      have tY : Turned (fun j => j = x.heap.size) w1 Y := by
        rw [← hY]
        exact (Turned.of_below bX).drew.trans (turned_setCells _ _ _)
      have bwr : x.heap.size ≤ wr.heap.size := HBW.out.size
      have HREL : Hid (Y.ranges Tryd.prog 31 rdV g.nb ys kn D (fun z => left z && !z.sameKey (.int .u32 (a : Int))) cnt1 ∧ (∀ z, (left z && !z.sameKey (.int .u32 (a : Int))) = true → Maps.has D z = true) ∧ Dt Y x.heap.size (fun z => left z && !z.sameKey (.int .u32 (a : Int))) f ∧ Below x.heap.size x Y ∧ Own Y x.heap.size x.heap.size) := by
        refine ⟨hrg1.kept (turned_grows tY) (by simp; omega) (by simp; omega), fun z hz => HLF.out z (by simp at hz; exact hz.1), ?_, ?_, ?_⟩
        · rw [← hY]
          have tw : Turned (fun j => j ≠ x.heap.size) wr X.drew := ((t1.mono (fun j hj => by omega)).trans (Turned.of_below bX)).drew
          exact dt_next HDT.out tw a b a16 alo ahi hb
        · exact (HBW.out.trans (t1.below bwr (fun j hj => by omega))).trans (tY.below (by have := t1.size; omega) (fun j hj => by omega))
        · rw [← hY]
          exact Own.set _ _ _ ((HOWR.out.turned ((t1.mono (R := fun j => j ≠ x.heap.size) (fun j hj => by omega)).trans (Turned.of_below bX)).drew (fun q => q rfl)))
      have HLN : Hid (∀ z, Calls Tryd.prog 39 #[.slice (some ⟨x.heap.size, 0, none⟩) 256 256, .int .u32 a] z fun e w' => e = .returned (.slice (some ⟨x.heap.size, a - 65536, none⟩) 16 16) ∧ w' = z) := fun z => mline_any x.heap.size a 256 256 z (by omega) a16 (by unfold hasB; simp; omega) (by omega) (by omega) (by omega)
      unfold z16 at hX0
      have HX := Hid.in hX
      clear hs1 tY tX bX rX cX hdd b0 s0 t1 hg1 hrg1 hlt hkey hlk hR hat a16 alo ahi hb hY hX
      go_upto_region 5 with (first
        | (rw [hX0]; refine st_arr w1.heap.size 0 b th0 rfl rfl _ _ rfl rfl rfl ?_)
        | (refine st_arr w1.heap.size 0 b th0 rfl rfl _ _ rfl rfl rfl ?_)
        | go_in)
      try rw [hX0]
      rw [HX.out]
      clear hX0 th0
      go_region_with (go_at_call 39; refine (HLN.out _).mono ?_; rintro e y' ⟨rfl, hy⟩; have hy2 := hy.symm; clear hy; subst hy2)
      all_goals
        go_wp2
        go_roundw
        case rel => exact ⟨_, _, HREL.out⟩
        case measure => rw [HREL.out.1.left_eq, HRG.out.left_eq]; exact HLT.out
end
end Go.Proofs.YtlogdmnhngbkaaaDoor
/-
  BUS' LAW BusSteps: what lasts, plainly, of any number of caches and bytes.
-/
namespace Go.Proofs.YtlogdmnhngbkaaaDoor
open Go Go.RowKit
/-- L: the lines of each cache; m: memory; nw: what is newer; f: what was written last -/
structure Sg (nn len : Nat) (L : Nat → Ln → Prop) (m : Nat → Nat) (nw : Int → Option (Nat → Nat)) (f : Nat → Nat) : Prop where
  line : ∀ i e, L i e → i < nn ∧ e.a % 16 = 0 ∧ 65536 ≤ e.a ∧ e.a < 65536 + len ∧ 1 ≤ e.s ∧ e.s ≤ 3 ∧ (∀ t, t < 16 → e.b t = f (e.a - 65536 + t)) ∧ ∀ t, e.b t < 256
  uni : ∀ i e e', L i e → L i e' → e.a = e'.a → e = e'
  ex : ∀ i j e e', i ≠ j → L i e → L j e' → e.a = e'.a → e.s = 1
  out : ∀ o, o < len → m o = f o ∨ ∃ i e, L i e ∧ e.s = 3 ∧ e.a = 65536 + lineOf o
  n1 : ∀ i e, L i e → e.s = 3 → nw (e.a : Nat) = some e.b
  n2 : ∀ (a : Nat) b, nw a = some b → ∃ i e, L i e ∧ e.s = 3 ∧ e.a = a ∧ e.b = b
theorem Sg.congr {nn len : Nat} {L L' : Nat → Ln → Prop} {m : Nat → Nat} {nw : Int → Option (Nat → Nat)} {f : Nat → Nat} (h : Sg nn len L m nw f) (hL : ∀ i e, L' i e ↔ L i e) : Sg nn len L' m nw f := by
  obtain rfl : L' = L := funext fun i => funext fun e => propext (hL i e)
  exact h
theorem Sg.low {nn len : Nat} {L L' : Nat → Ln → Prop} {m : Nat → Nat} {nw : Int → Option (Nat → Nat)} {f : Nat → Nat} (h : Sg nn len L m nw f) (i : Nat) (e0 : Ln) (h0 : L i e0) (s' : Nat) (hs : s' < e0.s) (hL : ∀ j e, L' j e ↔ ((L j e ∧ ¬ (j = i ∧ e.a = e0.a)) ∨ (s' = 1 ∧ j = i ∧ e = e0.setS 1))) : Sg nn len L' (wbm' m e0) (wbn nw e0) f := by
  obtain ⟨i2, a16, alo, ahi, s1, s3, hb, h8⟩ := h.line i e0 h0
  have same : ∀ j e, L' j e → ∃ e', L j e' ∧ e'.a = e.a ∧ e'.b = e.b ∧ (e.s = 1 ∨ (e = e' ∧ ¬ (j = i ∧ e.a = e0.a))) := by
    intro j e he
    rcases (hL j e).1 he with ⟨u, v⟩ | ⟨u, rfl, rfl⟩
    · exact ⟨e, u, rfl, rfl, Or.inr ⟨rfl, v⟩⟩
    · exact ⟨e0, h0, rfl, rfl, Or.inl rfl⟩
  refine ⟨fun j e he => ?_, fun j e e' he he' q => ?_, fun j j' e e' hj he he' q => ?_, fun o ho => ?_, fun j e he h3 => ?_, fun a b hab => ?_⟩
  · obtain ⟨e', l', q1, q2, q3⟩ := same j e he
    obtain ⟨u1, u2, u3, u4, u5, u6, u7, u8⟩ := h.line j e' l'
    rw [q1] at u2 u3 u4 u7
    rw [q2] at u7 u8
    refine ⟨u1, u2, u3, u4, ?_, ?_, u7, u8⟩
    · rcases q3 with q | q
      · omega
      · rw [q.1]; omega
    · rcases q3 with q | q
      · omega
      · rw [q.1]; omega
  · rcases (hL j e).1 he with ⟨u, v⟩ | ⟨u, u2, u3⟩ <;> rcases (hL j e').1 he' with ⟨x, y⟩ | ⟨x, x2, x3⟩
    · exact h.uni j e e' u x q
    · exact absurd ⟨x2, by rw [q, x3]; rfl⟩ v
    · exact absurd ⟨u2, by rw [← q, u3]; rfl⟩ y
    · rw [u3, x3]
  · obtain ⟨x, lx, x1, x2, x3⟩ := same j e he
    obtain ⟨y, ly, y1, y2, y3⟩ := same j' e' he'
    rcases x3 with x3 | x3
    · exact x3
    · rw [x3.1]
      exact h.ex j j' x y hj lx ly (by rw [x1, y1, q])
  · by_cases c : e0.s = 3 ∧ e0.a = 65536 + lineOf o
    · left
      unfold wbm'
      rw [if_pos c.1]
      unfold wbm
      have : e0.a - 65536 ≤ o ∧ o < e0.a - 65536 + 16 := by
        have := c.2
        unfold lineOf at this
        omega
      have e2 : e0.a - 65536 + (o - (e0.a - 65536)) = o := by omega
      rw [if_pos this, hb _ (by omega), e2]
    · have hm : wbm' m e0 o = m o := by
        unfold wbm'
        split
        · rename_i h3
          unfold wbm
          rw [if_neg]
          intro q
          refine c ⟨h3, ?_⟩
          unfold lineOf
          omega
        · rfl
      rw [hm]
      rcases h.out o ho with q | ⟨j, e, l, q1, q2⟩
      · exact Or.inl q
      · right
        refine ⟨j, e, (hL j e).2 (Or.inl ⟨l, ?_⟩), q1, q2⟩
        rintro ⟨rfl, q3⟩
        have := h.uni j e e0 l h0 q3
        subst this
        exact c ⟨q1, q2⟩
  · rcases (hL j e).1 he with ⟨u, v⟩ | ⟨u, u2, u3⟩
    · have := h.n1 j e u h3
      unfold wbn
      split
      · unfold updO
        rw [if_neg]
        · exact this
        · intro q
          have q : e.a = e0.a := by omega
          by_cases z : j = i
          · exact v ⟨z, q⟩
          · have := h.ex j i e e0 z u h0 q
            omega
      · exact this
    · rw [u3] at h3
      cases h3
  · have key : nw a = some b ∧ (e0.s = 3 → a ≠ e0.a) := by
      unfold wbn at hab
      split at hab
      · unfold updO at hab
        split at hab
        · cases hab
        · rename_i q
          exact ⟨hab, fun _ z => q (by rw [z])⟩
      · rename_i q
        exact ⟨hab, fun z => absurd z q⟩
    obtain ⟨j, e, l, q1, q2, q3⟩ := h.n2 a b key.1
    refine ⟨j, e, (hL j e).2 (Or.inl ⟨l, ?_⟩), q1, q2, q3⟩
    rintro ⟨rfl, q4⟩
    have := h.uni j e e0 l h0 q4
    subst this
    exact key.2 q1 q2.symm
theorem Sg.new {nn len : Nat} {L L' : Nat → Ln → Prop} {m : Nat → Nat} {nw : Int → Option (Nat → Nat)} {f : Nat → Nat} (h : Sg nn len L m nw f) (i a s : Nat) (b : Nat → Nat) (hi : i < nn) (h16 : a % 16 = 0) (hlo : 65536 ≤ a) (hhi : a < 65536 + len) (hs : s = 1 ∨ s = 2) (hl16 : len % 16 = 0) (hno : ∀ e, L i e → e.a ≠ a) (hot : ∀ j e, L j e → e.a = a → e.s = 1 ∧ s = 1) (hb : ∀ t, t < 16 → b t = m (a - 65536 + t)) (h8 : ∀ t, b t < 256) (hL : ∀ j e, L' j e ↔ (L j e ∨ (j = i ∧ e = ⟨a, s, b⟩))) : Sg nn len L' m nw f := by
  refine ⟨fun j e he => ?_, fun j e e' he he' q => ?_, fun j j' e e' hj he he' q => ?_, fun o ho => ?_, fun j e he h3 => ?_, fun a' b' hab => ?_⟩
  · rcases (hL j e).1 he with u | ⟨rfl, rfl⟩
    · exact h.line j e u
    · refine ⟨hi, h16, hlo, hhi, by show 1 ≤ s; omega, by show s ≤ 3; omega, fun t ht => ?_, h8⟩
      show b t = f (a - 65536 + t)
      rw [hb t ht]
      rcases h.out (a - 65536 + t) (by omega) with q | ⟨j', e', l', q1, q2⟩
      · exact q
      · have q3 : e'.a = a := by
          rw [q2]
          unfold lineOf
          omega
        have := (hot j' e' l' q3).1
        omega
  · rcases (hL j e).1 he with u | ⟨u1, u2⟩ <;> rcases (hL j e').1 he' with x | ⟨x1, x2⟩
    · exact h.uni j e e' u x q
    · exact absurd (by rw [q, x2]) (hno e (by rw [← x1]; exact u))
    · exact absurd (by rw [← q, u2]) (hno e' (by rw [← u1]; exact x))
    · rw [u2, x2]
  · rcases (hL j e).1 he with u | ⟨u1, u2⟩ <;> rcases (hL j' e').1 he' with x | ⟨x1, x2⟩
    · exact h.ex j j' e e' hj u x q
    · exact (hot j e u (by rw [q, x2])).1
    · rw [u2]
      exact (hot j' e' x (by rw [← q, u2])).2
    · exact absurd (u1.trans x1.symm) hj
  · rcases h.out o ho with q | ⟨j, e, l, q1, q2⟩
    · exact Or.inl q
    · exact Or.inr ⟨j, e, (hL j e).2 (Or.inl l), q1, q2⟩
  · rcases (hL j e).1 he with u | ⟨u1, u2⟩
    · exact h.n1 j e u h3
    · rw [u2] at h3
      have h3 : s = 3 := h3
      omega
  · obtain ⟨j, e, l, q⟩ := h.n2 a' b' hab
    exact ⟨j, e, (hL j e).2 (Or.inl l), q⟩
theorem Sg.write {nn len : Nat} {L L' : Nat → Ln → Prop} {m : Nat → Nat} {nw : Int → Option (Nat → Nat)} {f : Nat → Nat} (h : Sg nn len L m nw f) (i : Nat) (e0 : Ln) (h0 : L i e0) (h2 : 2 ≤ e0.s) (a z d : Nat) (ha : e0.a = lineOf a) (hz : a % 16 + z ≤ 16) (hL : ∀ j e, L' j e ↔ ((L j e ∧ ¬ (j = i ∧ e.a = e0.a)) ∨ (j = i ∧ e = e0.wr (a % 16) d z))) : Sg nn len L' m (updO nw (e0.a : Nat) (some (e0.wr (a % 16) d z).b)) (written f (a - 65536) z d) := by
  obtain ⟨i2, a16, alo, ahi, s1, s3, hb, h8⟩ := h.line i e0 h0
  obtain ⟨w1, w2, w3⟩ := wr_is e0 (a % 16) d z
  have hal : lineOf a = a - a % 16 := rfl
  have alone : ∀ j e, L j e → ¬ (j = i ∧ e.a = e0.a) → e.a ≠ e0.a := by
    intro j e l hn q
    by_cases x : j = i
    · exact hn ⟨x, q⟩
    · have := h.ex i j e0 e (fun z => x z.symm) h0 l q.symm
      omega
  refine ⟨fun j e he => ?_, fun j e e' he he' q => ?_, fun j j' e e' hj he he' q => ?_, fun o ho => ?_, fun j e he h3 => ?_, fun a' b' hab => ?_⟩
  · rcases (hL j e).1 he with ⟨u, v⟩ | ⟨rfl, rfl⟩
    · obtain ⟨u1, u2, u3, u4, u5, u6, u7, u8⟩ := h.line j e u
      refine ⟨u1, u2, u3, u4, u5, u6, fun t ht => ?_, u8⟩
      rw [u7 t ht]
      unfold written
      rw [if_neg]
      have := alone j e u v
      omega
    · refine ⟨i2, by rw [w1]; exact a16, by rw [w1]; exact alo, by rw [w1]; exact ahi, by omega, by omega, fun t ht => ?_, fun t => ?_⟩
      · rw [w1, w3 t]
        unfold written
        by_cases c : a % 16 ≤ t ∧ t < a % 16 + z
        · have e2 : e0.a - 65536 + t - (a - 65536) = t - a % 16 := by omega
          rw [if_pos c, if_pos (by omega), e2]
        · rw [if_neg c, if_neg (by omega)]
          exact hb t ht
      · rw [w3 t]
        split
        · exact Nat.mod_lt _ (by decide)
        · exact h8 t
  · rcases (hL j e).1 he with ⟨u, v⟩ | ⟨u1, u2⟩ <;> rcases (hL j e').1 he' with ⟨x, y⟩ | ⟨x1, x2⟩
    · exact h.uni j e e' u x q
    · exact absurd ⟨x1, by rw [q, x2, w1]⟩ v
    · exact absurd ⟨u1, by rw [← q, u2, w1]⟩ y
    · rw [u2, x2]
  · rcases (hL j e).1 he with ⟨u, v⟩ | ⟨u1, u2⟩ <;> rcases (hL j' e').1 he' with ⟨x, y⟩ | ⟨x1, x2⟩
    · exact h.ex j j' e e' hj u x q
    · exact absurd (by rw [q, x2, w1]) (alone j e u v)
    · exact absurd (by rw [← q, u2, w1]) (alone j' e' x y)
    · exact absurd (u1.trans x1.symm) hj
  · by_cases c : e0.a = 65536 + lineOf o
    · exact Or.inr ⟨i, _, (hL i _).2 (Or.inr ⟨rfl, rfl⟩), w2, by rw [w1]; exact c⟩
    · have hw : written f (a - 65536) z d o = f o := by
        unfold written
        rw [if_neg]
        intro q
        apply c
        unfold lineOf
        omega
      rw [hw]
      rcases h.out o ho with q | ⟨j, e, l, q1, q2⟩
      · exact Or.inl q
      · exact Or.inr ⟨j, e, (hL j e).2 (Or.inl ⟨l, fun q => c (by rw [← q.2, q2])⟩), q1, q2⟩
  · rcases (hL j e).1 he with ⟨u, v⟩ | ⟨u1, u2⟩
    · unfold updO
      rw [if_neg]
      · exact h.n1 j e u h3
      · have := alone j e u v
        omega
    · rw [u2, w1]
      unfold updO
      rw [if_pos rfl]
  · unfold updO at hab
    split at hab
    · rename_i q
      have q : a' = e0.a := by omega
      refine ⟨i, _, (hL i _).2 (Or.inr ⟨rfl, rfl⟩), w2, by rw [w1]; exact q.symm, ?_⟩
      exact Option.some.inj hab
    · rename_i q
      obtain ⟨j, e, l, q1, q2, q3⟩ := h.n2 a' b' hab
      exact ⟨j, e, (hL j e).2 (Or.inl ⟨l, fun z => q (by rw [← z.2, q2])⟩), q1, q2, q3⟩
end Go.Proofs.YtlogdmnhngbkaaaDoor
