/-
  BUS' LAW BusCoheres: the walk.
-/
import Derived.Test.YtbbaopldebdoiaaBx5
import Derived.Test.YtbbaopldebdoiaaBx6
import Derived.Test.YtbbaopldebdoiaaBx7
import Derived.Test.YtbbaopldebdoiaaBx8
namespace Go.Proofs.Ytbbaopldebdoiaa
open Go Go.RowKit
/-- what is handed in: a row of accesses -/
structure Acc where
  co : Int
  ad : Int
  sz : Int
  st : Bool
  da : Nat
def Accs (w : World) (p : Option Addr) (m : Nat) (g : Nat → Acc) : Prop := ∀ i, i < m → ∃ b o, p = some ⟨b, o, none⟩ ∧ b < w.heap.size ∧ w.cell? ⟨b, o + i * 5, none⟩ = some (.int .i64 (g i).co) ∧ w.cell? ⟨b, o + i * 5 + 1, none⟩ = some (.int .i64 (g i).ad) ∧ w.cell? ⟨b, o + i * 5 + 2, none⟩ = some (.int .i64 (g i).sz) ∧ w.cell? ⟨b, o + i * 5 + 3, none⟩ = some (.bool (g i).st) ∧ w.cell? ⟨b, o + i * 5 + 4, none⟩ = some (.int .u32 (g i).da) ∧ I64 (g i).co ∧ I64 (g i).ad ∧ I64 (g i).sz ∧ (g i).da < 4294967296
theorem fits_of (A z : Nat) (hz : z = 1 ∨ z = 2 ∨ z = 4) (h : A % z = 0) : fits A z = true := by
  unfold fits
  rcases hz with rfl | rfl | rfl
  · rfl
  · simp [h]
  · simp [h]
theorem co_new (cyc : Nat) (n ws : Nat → Nat) (hn : ∀ i, i < 2 → 1 ≤ n i) (hw : ∀ i, i < 2 → 1 ≤ ws i) : Co (newB cyc n ws (fun _ => 0)) (fun _ => 0) := by
  have st : ∀ i, i < 2 → Stc ((newB cyc n ws (fun _ => 0)).c i) := fun i hi => ⟨hn i hi, hw i hi, fun q hq e he => (by cases he), fun q hq => List.Pairwise.nil⟩
  have no : ∀ i e, ¬ ((newB cyc n ws (fun _ => 0)).c i).L e := fun i e h => by
    obtain ⟨q, hq, he⟩ := h
    cases he
  refine ⟨rfl, rfl, st 0 (by omega), st 1 (by omega), ⟨fun i e h => absurd h.2 (no i e), fun i e e' h => absurd h.2 (no i e), fun i j e e' hij h => absurd h.2 (no i e), fun o ho => Or.inl rfl, fun i e h => absurd h.2 (no i e), fun a b h => by cases h⟩, fun o => by show 0 < 256; decide⟩
theorem i64_div (c : Int) (k : Int) (hc : I64 c) (hk : 1 < k) : I64 (c.tdiv k) := by
  obtain ⟨h1, h2⟩ := hc
  by_cases h : 0 ≤ c
  · have := Int.tdiv_le_self k h
    have := Int.tdiv_nonneg h (by omega : 0 ≤ k)
    exact ⟨by omega, by omega⟩
  · have e : c = -(-c) := by omega
    rw [e, Int.neg_tdiv]
    have := Int.tdiv_le_self k (by omega : 0 ≤ -c)
    have := Int.tdiv_nonneg (by omega : 0 ≤ -c) (by omega : 0 ≤ k)
    exact ⟨by omega, by omega⟩
theorem wrap_id (x : Int) (h : I64 x) : IntKind.i64.wrap x = x := by
  obtain ⟨h1, h2⟩ := h
  simp [IntKind.wrap, IntKind.bits, IntKind.signed]
  omega
theorem own_list {w : World} {B b : Nat} {f : Nat → Nat} (h : Own w B b) (hc : CellsAt 256 w b (fun o => .int .u8 (f o))) : w.ownsRow B 5 1 (.slice (some ⟨b, 0, none⟩) 256 256) 256 ((List.range 256).map fun i => .int .u8 (f i : Nat)) := by
  obtain ⟨xs, h⟩ := h
  have hl : xs.length = 256 := by
    have := h.1
    omega
  have : xs = (List.range 256).map fun i => .int .u8 (f i : Nat) := by
    apply List.ext_getElem?
    intro i
    by_cases hi : i < 256
    · rw [← World.ownsRow.cellAt h i (by omega), hc.cell i hi, List.getElem?_map, List.getElem?_range hi]
      rfl
    · rw [List.getElem?_eq_none (by omega), List.getElem?_eq_none (by simp; omega)]
  rw [← this]
  exact h
theorem Cw.wrote {w0 x y z : World} {g : Bn} {N N' fb : Nat} {S S' : BS} {f : Nat → Nat} {A d n : Nat} (k : Cw w0 x g N fb S f) (u : Bu y g (fun j => j < w0.heap.size ∨ j = fb) N' S') (t : Turned (fun j => ¬ (j < w0.heap.size ∨ j = fb)) x y) (co : Co S' (written f A n d)) (c : CellsAt 256 z fb (fun o => .int .u8 (written f A n d o))) (t2 : Turned (fun j => j = fb) y z) : Cw w0 z g N' fb S' (written f A n d) := by
  have lo := k.lo
  have ly : Below w0.heap.size w0 y := k.low.trans (t.below k.low.size (fun j q => by
    by_cases c : j < w0.heap.size
    · exact absurd (Or.inl c) q
    · omega))
  refine ⟨(u.turn t2 (fun j hj _ => Or.inr hj)).less (fun j hj => Or.inl hj), co, c, ly.trans (t2.below ly.size (fun j hj => by omega)), lo, fun o => ?_⟩
  unfold written
  split
  · exact Nat.mod_lt _ (by decide)
  · exact k.f8 o
def two (a b : Nat) (i : Nat) : Nat := if i = 0 then a else b
set_option maxRecDepth 100000 in
set_option maxHeartbeats 8000000 in
theorem coh_good (c1 c2 c3 : Int) (wp : Option Addr) (m cw : Nat) (ga : Nat → Acc) (w : World) (hc1 : I64 c1) (hc2 : I64 c2) (hc3 : I64 c3) (hw : Accs w wp m ga) : Calls Try.prog 3 #[.int .i64 c1, .int .i64 c2, .int .i64 c3, .slice wp m cw] w fun e w' => e = .returned (.bool true) ∧ Below w.heap.size w w' := by
  have HW := Hid.in hw
  have HC1 := Hid.in hc1
  have HC2 := Hid.in hc2
  have HC3 := Hid.in hc3
  have qd1 := i64_div c1 8 hc1 (by omega)
  have qd2 := i64_div c2 4 hc2 (by omega)
  have wd1 := wrap_id _ qd1
  have wd2 := wrap_id _ qd2
  obtain ⟨d1, hd1⟩ : ∃ d1, c1.tdiv 8 = d1 := ⟨_, rfl⟩
  obtain ⟨d2, hd2⟩ : ∃ d2, c2.tdiv 4 = d2 := ⟨_, rfl⟩
  rw [hd1] at qd1
  rw [hd2] at qd2
  have HD1 := Hid.in qd1
  have HD2 := Hid.in qd2
  rw [hd1] at wd1
  rw [hd2] at wd2
  clear qd1 qd2
  have hj1 : pk c1 3 < 3 := pk_lt _ _ (by decide)
  have hj2 : pk d1 3 < 3 := pk_lt _ _ (by decide)
  have hi1 : pk c2 2 < 2 := pk_lt _ _ (by decide)
  have hi2 : pk d2 2 < 2 := pk_lt _ _ (by decide)
  obtain ⟨j1, ej1⟩ : ∃ j1, pk c1 3 = j1 := ⟨_, rfl⟩
  obtain ⟨j2, ej2⟩ : ∃ j2, pk d1 3 = j2 := ⟨_, rfl⟩
  obtain ⟨i1, ei1⟩ : ∃ i1, pk c2 2 = i1 := ⟨_, rfl⟩
  obtain ⟨i2, ei2⟩ : ∃ i2, pk d2 2 = i2 := ⟨_, rfl⟩
  rw [ej1] at hj1
  rw [ej2] at hj2
  rw [ei1] at hi1
  rw [ei2] at hi2
  obtain ⟨n1, hn1⟩ : ∃ n1, n1 = 2 ^ j1 := ⟨_, rfl⟩
  obtain ⟨n2, hn2⟩ : ∃ n2, n2 = 2 ^ j2 := ⟨_, rfl⟩
  have hs1 := pow_is j1 (by omega) n1 hn1
  have hs2 := pow_is j2 (by omega) n2 hn2
  have HP1 : Hid (n1 = 1 ∨ n1 = 2 ∨ n1 = 4 ∨ n1 = 8 ∨ n1 = 16) := by
    show n1 = 1 ∨ n1 = 2 ∨ n1 = 4 ∨ n1 = 8 ∨ n1 = 16
    rw [hn1]
    exact pow_of j1 (by omega)
  have HP2 : Hid (n2 = 1 ∨ n2 = 2 ∨ n2 = 4 ∨ n2 = 8 ∨ n2 = 16) := by
    show n2 = 1 ∨ n2 = 2 ∨ n2 = 4 ∨ n2 = 8 ∨ n2 = 16
    rw [hn2]
    exact pow_of j2 (by omega)
  have HJ1 := Hid.in ej1
  have HJ2 := Hid.in ej2
  have HI1 := Hid.in ei1
  have HI2 := Hid.in ei2
  obtain ⟨kw1, hkw1⟩ : ∃ kw1, 1 + i1 = kw1 := ⟨_, rfl⟩
  obtain ⟨kw2, hkw2⟩ : ∃ kw2, 1 + i2 = kw2 := ⟨_, rfl⟩
  have ek1 : (1 : Int) + i1 = kw1 := by omega
  have ek2 : (1 : Int) + i2 = kw2 := by omega
  have wk1 := wrap_id kw1 ⟨by omega, by omega⟩
  have wk2 := wrap_id kw2 ⟨by omega, by omega⟩
  have HKW : Hid (1 ≤ kw1 ∧ kw1 ≤ 4 ∧ 1 ≤ kw2 ∧ kw2 ≤ 4) := by show 1 ≤ kw1 ∧ kw1 ≤ 4 ∧ 1 ≤ kw2 ∧ kw2 ≤ 4; omega
  clear hw hc1 hc2 hc3 ej1 ej2 ei1 ei2 hn1 hn2 hi1 hi2 hkw1 hkw2
  go_enter Try.func3, Try.ntmps3
  go_upto_region 1 with fail
  go_cut [9] (fun sv wc => ∃ sb, sv = .slice (some ⟨sb, 0, none⟩) 2 2 ∧ (∀ i, i < 2 → wc.cell? ⟨sb, i * 2, none⟩ = some (.int .i64 (two n1 n2 i)) ∧ wc.cell? ⟨sb, i * 2 + 1, none⟩ = some (.int .i64 (two kw1 kw2 i))) ∧ sb < wc.heap.size ∧ Below w.heap.size w wc)
  case first =>
    go_region_with (first
      | (go_at_call_of 4 (Value.int .i64 c1)
         refine (pick_i c1 3 3 rfl _ HC1.out (by decide)).mono ?_
         rintro e w1 ⟨rfl, rfl⟩
         rw [HJ1.out])
      | (go_at_call_of 4 (Value.int .i64 c2)
         refine (pick_i c2 2 2 rfl _ HC2.out (by decide)).mono ?_
         rintro e w1 ⟨rfl, rfl⟩
         rw [HI1.out])
      | (go_at_call_of 4 (Value.int .i64 d1)
         refine (pick_i d1 3 3 rfl _ HD1.out (by decide)).mono ?_
         rintro e w1 ⟨rfl, rfl⟩
         rw [HJ2.out])
      | (go_at_call_of 4 (Value.int .i64 d2)
         refine (pick_i d2 2 2 rfl _ HD2.out (by decide)).mono ?_
         rintro e w1 ⟨rfl, rfl⟩
         rw [HI2.out]))
    all_goals
      go_wp2
      go_meet
      case rel =>
        have bA : Below w.heap.size w (w.alloc (.cells #[.int .i64 n1, .int .i64 kw1, .int .i64 n2, .int .i64 kw2] 25)).drew := ((Below.refl _ _).alloc (Nat.le_refl _) _).drew
        refine ⟨w.heap.size, rfl, fun i hi => ?_, by simp, bA⟩
        have cN : ∀ o, (w.alloc (.cells #[.int .i64 n1, .int .i64 kw1, .int .i64 n2, .int .i64 kw2] 25)).drew.cell? ⟨w.heap.size, o, none⟩ = (#[Value.int .i64 n1, .int .i64 kw1, .int .i64 n2, .int .i64 kw2] : Array Value)[o]? := fun o => World.cell?_alloc_new w _ _ o
        match i, hi with
        | 0, _ => exact ⟨cN 0, cN 1⟩
        | 1, _ => exact ⟨cN 2, cN 3⟩
  case rest =>
    obtain ⟨sb, rfl, hcs, hsb, hbw⟩ := hcut
    obtain ⟨wcold, rfl⟩ : ∃ y, y = wc := ⟨_, rfl⟩
    have HCS := Hid.in hcs
    have HSB := Hid.in hsb
    have HBW := Hid.in hbw
    clear hcs hsb hbw HJ1 HJ2 HI1 HI2 HD1 HD2 HC1 HC2 hs1 hs2 ek1 ek2 wk1 wk2 wd1 wd2 hj1 hj2
    obtain ⟨cyc, ecyc⟩ : ∃ cyc, pk c3 11 = cyc := ⟨_, rfl⟩
    have HCY : Hid (cyc ≤ 10) := by
      show cyc ≤ 10
      have := pk_lt c3 11 (by decide)
      omega
    have HCE := Hid.in ecyc
    clear ecyc
    have hmk : ∀ u : World, (Instr.makeSlice 32 (.int .i64 256) (.int .i64 256)).run Try.prog u = .ok (.slice (some ⟨u.heap.size, 0, none⟩) 256 256) (u.alloc (.cells (madeCells #[.int .u8 0] 256) 5)) := make_run (P := Try.prog) 32 5 (.int .u8 0) 1 Try.underlying32 (by kernel_rfl) rfl 256 (by omega) (by omega)
    have HNW : Hid (∀ (y : World), Below wcold.heap.size wcold y → Calls Try.prog 5 #[.slice (some ⟨sb, 0, none⟩) 2 2, .int .i64 cyc, .slice (some ⟨y.heap.size, 0, none⟩) 256 256] (y.alloc (.cells (madeCells #[.int .u8 0] 256) 5)) fun e w' => ∃ g : Bn, e = .returned (.tuple #[.pointer (some ⟨g.p, 0, none⟩), .nilIface]) ∧ Bu w' g (fun j => j < wcold.heap.size) 0 (newB cyc (two n1 n2) (two kw1 kw2) (fun _ => 0)) ∧ Below wcold.heap.size wcold w') := fun y hy => by
      have bA : Below y.heap.size y (y.alloc (.cells (madeCells #[.int .u8 0] 256) 5)) := (Below.refl _ _).alloc (Nat.le_refl _) _
      have b2 := hy.trans (bA.mono hy.size)
      have cN := cells_new (t := 5) y (made_cell (.int .u8 0) 256)
      refine (unew (y.alloc (.cells (madeCells #[.int .u8 0] 256) 5)) sb 2 (two n1 n2) (two kw1 kw2) cyc (some ⟨y.heap.size, 0, none⟩) 256 (fun _ => 0) (fun i hi => ⟨(b2.cell (p := ⟨sb, i * 2, none⟩) HSB.out).trans (HCS.out i hi).1, (b2.cell (p := ⟨sb, i * 2 + 1, none⟩) HSB.out).trans (HCS.out i hi).2⟩) (Nat.lt_of_lt_of_le HSB.out b2.size) (fun i hi => by
        match i, hi with
        | 0, _ => exact HP1.out
        | 1, _ => exact HP2.out) (fun i hi => by
        match i, hi with
        | 0, _ => exact ⟨HKW.out.1, HKW.out.2.1⟩
        | 1, _ => exact ⟨HKW.out.2.2.1, HKW.out.2.2.2⟩) HCY.out (hand_row cN) (fun q => by cases q) (fun _ => by decide)).mono ?_
      rintro e w' ⟨g, rfl, hu, hb⟩
      exact ⟨g, rfl, hu.less (fun j hj => Nat.lt_of_lt_of_le hj b2.size), b2.trans (hb.mono b2.size)⟩
    go_upto_region 2 with fail
    go_cut [10, 11] (fun pv ev wd => ∃ g : Bn, pv = .pointer (some ⟨g.p, 0, none⟩) ∧ ev = .nilIface ∧ Bu wd g (fun j => j < wcold.heap.size) 0 (newB cyc (two n1 n2) (two kw1 kw2) (fun _ => 0)) ∧ Below wcold.heap.size wcold wd)
    case first =>
      have HBD : Hid (Below wcold.heap.size wcold wcold.drew) := ⟨rfl, rfl, rfl, Nat.le_refl _, fun _ _ => rfl⟩
      go_region_with (first
        | (go_at_call 4
           refine (pick_i c3 11 11 rfl _ HC3.out (by decide)).mono ?_
           rintro e w1 ⟨rfl, rfl⟩
           rw [HCE.out])
        | (go_at_call 5
           refine (HNW.out _ HBD.out).mono ?_
           rintro e w1 ⟨g, rfl, hu, hb⟩
           have HU := Hid.in hu
           have HB := Hid.in hb
           clear hu hb))
      all_goals
        go_wp2
        go_meet
        case rel => exact ⟨g, rfl, rfl, HU.out, HB.out⟩
    case rest =>
      obtain ⟨g, rfl, rfl, hu, hb⟩ := hcut
      have HU := Hid.in hu
      have HB := Hid.in (HBW.out.trans (hb.mono HBW.out.size))
      have hwc : w.heap.size ≤ wc.heap.size := HB.out.size
      have HWS : Hid (∀ j, j < w.heap.size → j < wcold.heap.size) := fun j hj => Nat.lt_of_lt_of_le hj HBW.out.size
      clear hu hb HNW HCE HC3
      go_wp2_with fail
      obtain ⟨X, hX⟩ : ∃ X, wc.alloc (.cells (madeCells #[.int .u8 0] 256) 5) = X := ⟨_, rfl⟩
      obtain ⟨fb, hfb⟩ : ∃ fb, wc.heap.size = fb := ⟨_, rfl⟩
      have K0 : Cw w X g 0 fb (newB cyc (two n1 n2) (two kw1 kw2) (fun _ => 0)) (fun _ => 0) := by
        have bA : Below wc.heap.size wc X := by rw [← hX]; exact (Below.refl _ _).alloc (Nat.le_refl _) _
        have sX : X.heap.size = wc.heap.size + 1 := by rw [← hX]; simp
        have q1 := cells_new (t := 5) wc (made_cell (.int .u8 0) 256)
        rw [hX, hfb] at q1
        refine ⟨(HU.out.fresh bA).less (fun j hj => ?_), co_new cyc _ _ (fun i hi => ?_) (fun i hi => ?_), q1, HB.out.trans (bA.mono hwc), by omega, fun _ => by decide⟩
        · rcases hj with hj | hj
          · exact Or.inl (HWS.out j hj)
          · exact Or.inr (by omega)
        · match i, hi with
          | 0, _ => have := HP1.out; show 1 ≤ n1; omega
          | 1, _ => have := HP2.out; show 1 ≤ n2; omega
        · match i, hi with
          | 0, _ => exact HKW.out.1
          | 1, _ => exact HKW.out.2.2.1
      have HK0 := Hid.in K0
      rw [hX, hfb]
      clear K0 hX hfb HU HB HBW HCS HSB HP1 HP2 HKW hmk hwc HCY HWS
      go_loopw [13] (fun kv wr => ∃ (k N : Nat) (S : BS) (f : Nat → Nat), kv = .int .i64 k ∧ k ≤ 400 ∧ N ≤ 2 * k ∧ Cw w wr g N fb S f ∧ Idle S) (fun kv _ => 401 - (intOf kv).toNat)
      case atStart => exact ⟨0, 0, _, _, rfl, Nat.zero_le _, Nat.zero_le _, HK0.out, rfl, rfl, rfl⟩
      case round =>
        obtain ⟨k, N, S, f, rfl, hk, hN, K, hid⟩ := hrel
        have HK := Hid.in K
        have HID := Hid.in hid
        have HN := Hid.in hN
        clear K hid hN HK0
        by_cases hkm : k < m
        · by_cases hk2 : k < 400
          · obtain ⟨ab, ao, hwp, hab, e0, e1, e2, e3, e4, i0, i1, i2, d32⟩ := HW.out k hkm
            subst hwp
            have HE := Hid.in (And.intro hab (And.intro e3 e4))
            have lw := HK.out.low
            have e0' := (lw.cell (p := ⟨ab, ao + k * 5, none⟩) hab).trans e0
            have e1' := (lw.cell (p := ⟨ab, ao + k * 5 + 1, none⟩) hab).trans e1
            have e2' := (lw.cell (p := ⟨ab, ao + k * 5 + 2, none⟩) hab).trans e2
            have hab' : ab < wr.heap.size := Nat.lt_of_lt_of_le hab lw.size
            have HI0 := Hid.in i0
            have HI1 := Hid.in i1
            have HI2 := Hid.in i2
            have HD := Hid.in d32
            clear lw e0 e1 e2 e3 e4 i0 i1 i2 d32 hab
            generalize (ga k).co = gc at e0' HI0
            generalize (ga k).ad = gad at e1' HI1
            generalize (ga k).sz = gz at e2' HI2
            generalize (ga k).st = gs at HE
            generalize (ga k).da = gd at HE HD
            obtain ⟨c, ec⟩ : ∃ c, pk gc 2 = c := ⟨_, rfl⟩
            have hc2 : c < 2 := by rw [← ec]; exact pk_lt _ _ (by decide)
            have HEC := Hid.in ec
            obtain ⟨jz, hjz⟩ : ∃ jz, pk gz 3 = jz := ⟨_, rfl⟩
            have hj3 : jz < 3 := by rw [← hjz]; exact pk_lt _ _ (by decide)
            have HJZ := Hid.in hjz
            obtain ⟨z, hz124, hzc⟩ : ∃ z : Nat, (z = 1 ∨ z = 2 ∨ z = 4) ∧ (wr.alloc (.cells #[.int .i64 1, .int .i64 2, .int .i64 4] 3)).cell? ⟨wr.heap.size, jz, none⟩ = some (.int .i64 z) := by
              have : jz = 0 ∨ jz = 1 ∨ jz = 2 := by omega
              rcases this with rfl | rfl | rfl
              · exact ⟨1, Or.inl rfl, World.cell?_alloc_new _ _ _ _⟩
              · exact ⟨2, Or.inr (Or.inl rfl), World.cell?_alloc_new _ _ _ _⟩
              · exact ⟨4, Or.inr (Or.inr rfl), World.cell?_alloc_new _ _ _ _⟩
            clear hjz ec
            go_upto_region 11 with (first
              | (go_at_call_of 4 (Value.int .i64 gc)
                 refine (pick_i gc 2 2 rfl _ HI0.out (by decide)).mono ?_
                 rintro e w1 ⟨rfl, hww⟩
                 rw [HEC.out, hww]
                 clear hww)
              | (go_at_call_of 4 (Value.int .i64 gz)
                 refine (pick_i gz 3 3 rfl _ HI2.out (by decide)).mono ?_
                 rintro e w1 ⟨rfl, hww⟩
                 rw [HJZ.out, hww]
                 clear hww))
            obtain ⟨X1, hX1⟩ : ∃ X1, wr.alloc (.cells #[.int .i64 1, .int .i64 2, .int .i64 4] 3) = X1 := ⟨_, rfl⟩
            have b1 : Below wr.heap.size wr X1 := by rw [← hX1]; exact (Below.refl _ wr).alloc (Nat.le_refl _) _
            rw [hX1]
            have f1 := (b1.cell (p := ⟨ab, ao + k * 5 + 1, none⟩) hab').trans e1'
            have hab1 : ab < X1.heap.size := Nat.lt_of_lt_of_le hab' b1.size
            have HK1 := Hid.in (HK.out.below b1)
            clear b1 hX1 e0' e1' e2' hab' hzc HJZ hj3 HI2 HK HEC HI0
            obtain ⟨q, hq⟩ : ∃ q, 256 / z = q := ⟨_, rfl⟩
            obtain ⟨A, hA⟩ : ∃ A, pk gad q * z = A := ⟨_, rfl⟩
            have hAz : A % z = 0 ∧ A + z ≤ 256 := by
              have hq0 : 0 < q := by rw [← hq]; rcases hz124 with rfl | rfl | rfl <;> decide
              have h1 := pk_lt gad q hq0
              rw [← hA]
              rcases hz124 with rfl | rfl | rfl
              all_goals
                have h2 : q = _ := hq.symm
                simp only [Nat.reduceDiv] at h2
                omega
            have HAZ := Hid.in hAz
            have HQ := Hid.in hq
            have HA := Hid.in hA
            have HZ := Hid.in hz124
            clear hq hA hAz hz124
            refine wp_any (reg11 (z := z) (A := A) HZ.out hkm f1 HI1.out (by rw [HQ.out]; exact HA.out) HAZ.out.2 ?_)
            intro a89 a90 a91 a92 a93 a94 a95 a96 a97 a98 y2 hy2
            have HK2 := Hid.in (HK1.out.below hy2)
            obtain ⟨at', hat⟩ : ∃ at', 65536 + A = at' := ⟨_, rfl⟩
            have hat2 : (65536 : Int) + A = at' := by omega
            have HAT : Hid (65536 ≤ at' ∧ at' < 65792 ∧ at' - 65536 = A) := by
              show 65536 ≤ at' ∧ at' < 65792 ∧ at' - 65536 = A
              have h1 := HAZ.out.2
              have h2 := HZ.out
              omega
            have hat32 : (at' : Int) % 4294967296 = at' := by have := HAT.out; omega
            have hatW := wrap_id at' ⟨by omega, by have := HAT.out; omega⟩
            have HFT : Hid (fits at' z = true) := by
              refine fits_of at' z HZ.out ?_
              have h1 := HAZ.out.1
              rw [← hat]
              rcases HZ.out with rfl | rfl | rfl <;> omega
            have hA256 : A < 256 := by
              have h1 := HAZ.out.2
              have h2 := HZ.out
              omega
            clear hy2 f1 hab1 HK1 HI1 HQ HA hat
            go_upto_block 2 with fail
            refine wp_any (blk2 (sto := gs) HK2.out HID.out (by have := HN.out; omega) hc2 HAT.out.1 HAT.out.2.1 hkm HE.out.1 HE.out.2.1 ?_)
            intro b8 b18 b19 b20 b21 b22 b23 b24 b102 b103 b104 b105 b106 b107 b108 b109 b110 b111 b112 b113 b114 b115 b116 b117 b118 b119 b120 b121 b122 b123 b124 b125 b126 b127 b128 b129 b130 b131 b132 b133 b134 b135 b136 b137 b138 b139 b140 b141 b142 b143 b144 b145 b146 b147 b148 b149 b150 b151 b152 b153 b154 b155 b156 b157 b158 b159 b160 b161 b162 b163 b164 b165 b166 b167 b168 b169 y3 S3 N3 hC3 hI3 hE3 hN3
            have lw := hC3.low
            have x3 : y3.cell? ⟨ab, ao + k * 5 + 3, none⟩ = some (.bool gs) := (lw.cell (p := ⟨ab, ao + k * 5 + 3, none⟩) HE.out.1).trans HE.out.2.1
            have x4 : y3.cell? ⟨ab, ao + k * 5 + 4, none⟩ = some (.int .u32 gd) := (lw.cell (p := ⟨ab, ao + k * 5 + 4, none⟩) HE.out.1).trans HE.out.2.2
            have xh := Nat.lt_of_lt_of_le HE.out.1 lw.size
            have HC3 := Hid.in hC3
            have HI3 := Hid.in hI3
            have HN3 := Hid.in hN3
            have HZ4 := Hid.in (fits_le at' z HFT.out)
            clear lw hC3 hI3 hN3 HK2 HID
            cases gs
            · have HRD := Hid.in (cw_read HC3.out c at' z hc2 HAT.out.1 HAT.out.2.1 HFT.out (by exact hE3))
              rw [HAT.out.2.2] at HRD
              obtain ⟨rv, hrv⟩ : ∃ rv, leN (fun t => f (A + t)) z = rv := ⟨_, rfl⟩
              rw [hrv] at HRD
              have HRV := Hid.in hrv
              clear hE3 x4 hrv
              go_upto_block 8 with (go_at_call 11; refine HRD.out.mono ?_; rintro e y4 ⟨rfl, S4, hC4, ha4, ho4⟩; have HC4 := Hid.in hC4; have HA4 := Hid.in (And.intro ha4 ho4); clear hC4 ha4 ho4)
              clear x3 xh
              refine wp_any (blk8 (z := z) (f := f) (by first | rfl | exact w64s z HZ4.out.2.1 | exact wrap_id _ ⟨by omega, by have := HZ4.out.2.1; omega⟩) HC4.out.cf HC4.out.f8 HZ4.out.2.1 HAZ.out.2 ?_)
              intro c30 c216 c217 c218 c219 c220 c221 c222 c223 c224 c225 c226 c227 c228 c229
              rw [HRV.out]
              go_wp2
              go_roundw
              case rel =>
                refine ⟨k + 1, N3, S4, f, by simp, by omega, by have := HN3.out; have := HN.out; omega, HC4.out, ?_⟩
                have q := HI3.out
                exact ⟨by rw [HA4.out.1]; exact q.1, by rw [HA4.out.1]; exact q.2.1, by rw [HA4.out.2]; exact q.2.2⟩
              case measure => simp [intOf]; omega
            · have HWR := Hid.in (cw_write HC3.out (by have := HN3.out; have := HN.out; omega) c at' z gd hc2 HAT.out.1 HAT.out.2.1 HD.out HFT.out (by exact hE3))
              rw [HAT.out.2.2] at HWR
              clear hE3
              go_upto_block 6 with (go_at_call 10; refine HWR.out.mono ?_; rintro e y4 ⟨rfl, S4, hu4, ht4, hco4, ha4, ho4⟩; have HU4 := Hid.in hu4; have HT4 := Hid.in ht4; have HCO4 := Hid.in hco4; have HA4 := Hid.in (And.intro ha4 ho4); clear hu4 ht4 hco4 ha4 ho4)
              clear x3 x4 xh
              have lo4 := HC3.out.lo
              have ly4 : Below w.heap.size w y4 := HC3.out.low.trans (HT4.out.below HC3.out.low.size (fun j q => by
                by_cases c : j < w.heap.size
                · exact absurd (Or.inl c) q
                · omega))
              refine wp_any (blk6 (z := z) (f := f) (gd := gd) (w0 := w) ly4 lo4 (HT4.out.cells HC3.out.cf (fun q => q (Or.inr rfl))) HZ4.out.2.1 hkm HE.out.1 HE.out.2.2 HAZ.out.2 ?_)
              intro c26 c187 c188 c189 c190 c191 c192 c193 c194 c195 c196 c197 c198 c199 c200 c201 c202 c203 c204 c205 y5 hc5 ht5
              have HC5 := Hid.in (HC3.out.wrote HU4.out HT4.out HCO4.out hc5 ht5)
              clear hc5 ht5 ly4 lo4
              go_wp2
              go_roundw
              case rel =>
                refine ⟨k + 1, N3 + 1, S4, _, by simp, by omega, by have := HN3.out; have := HN.out; omega, HC5.out, ?_⟩
                have q := HI3.out
                exact ⟨by rw [HA4.out.1]; exact q.1, by rw [HA4.out.1]; exact q.2.1, by rw [HA4.out.2]; exact q.2.2⟩
              case measure => simp [intOf]; omega
          · have hkd : decide ((k : Int) < 400) = false := by simp; omega
            have hkm' : (k : Int) < (m : Int) := by omega
            have HDT := Hid.in (udata HK.out.u HK.out.co)
            go_wp2_with (first
              | (go_at_call 12; refine HDT.out.mono ?_; rintro e y5 ⟨rfl, hc5, hb5, ho5⟩; have HC5 := Hid.in hc5; have HB5 := Hid.in hb5; have HO5 := Hid.in ho5; clear hc5 hb5 ho5)
              | (go_at_call 13; refine (bytes_any (some ⟨wr.heap.size, 0, none⟩) 256 256 wr.heap.size fb 256 f _ (own_list HO5.out HC5.out) ((HK.out.cf).below HB5.out) HK.out.f8 (fun q => by have h1 := HK.out.cf.here; simp [Value.ownBlock] at q; omega) (by omega) HB5.out.size).mono ?_; rintro e y6 ⟨rfl, ht6⟩; have HT6 := Hid.in ht6; clear ht6))
            go_ret
            refine ⟨rfl, ?_⟩
            have b5 := HK.out.low.trans (HB5.out.mono HK.out.low.size)
            exact b5.trans (HT6.out.below b5.size (fun j q => by
              have h1 := HK.out.low.size
              simp [Value.ownBlock] at q
              omega))
        · have hkd : decide ((k : Int) < (m : Int)) = false := by simp; omega
          have HDT := Hid.in (udata HK.out.u HK.out.co)
          go_wp2_with (first
            | (go_at_call 12; refine HDT.out.mono ?_; rintro e y5 ⟨rfl, hc5, hb5, ho5⟩; have HC5 := Hid.in hc5; have HB5 := Hid.in hb5; have HO5 := Hid.in ho5; clear hc5 hb5 ho5)
            | (go_at_call 13; refine (bytes_any (some ⟨wr.heap.size, 0, none⟩) 256 256 wr.heap.size fb 256 f _ (own_list HO5.out HC5.out) ((HK.out.cf).below HB5.out) HK.out.f8 (fun q => by have h1 := HK.out.cf.here; simp [Value.ownBlock] at q; omega) (by omega) HB5.out.size).mono ?_; rintro e y6 ⟨rfl, ht6⟩; have HT6 := Hid.in ht6; clear ht6))
          go_ret
          refine ⟨rfl, ?_⟩
          have b5 := HK.out.low.trans (HB5.out.mono HK.out.low.size)
          exact b5.trans (HT6.out.below b5.size (fun j q => by
            have h1 := HK.out.low.size
            simp [Value.ownBlock] at q
            omega))
end Go.Proofs.Ytbbaopldebdoiaa
