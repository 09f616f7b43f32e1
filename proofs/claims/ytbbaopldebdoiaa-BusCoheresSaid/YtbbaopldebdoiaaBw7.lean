/-
  BUS: New, the walk.
-/
import Derived.Test.YtbbaopldebdoiaaBw6
import Derived.Laws.OwnMore
namespace Go.Proofs.Ytbbaopldebdoiaa
open Go Go.RowKit
/-- a bus that is new -/
def newB (cyc : Nat) (n ws : Nat → Nat) (m : Nat → Nat) : BS := ⟨2, cyc, fun i => ⟨ws i, n i, fun _ => []⟩, 256, m, fun _ => none, fun _ => none, 1, false, 0⟩
theorem NewI.fin {x w y : World} {cyc : Nat} {n ws : Nat → Nat} {v : Value} {P H : Nat → Nat} {m : Nat → Nat} (d : NewI x w cyc n ws 2 v P H) (b : Below w.heap.size w y) (cm : CellsAt 256 y w.heap.size (fun i => .int .u8 (m i))) (hc : cyc ≤ 10) (hm : ∀ o, m o < 256) : ∃ g : Bn, g.p = x.heap.size + 2 ∧ Bu (y.setCell ⟨x.heap.size + 2, 2, none⟩ (.slice (some ⟨w.heap.size, 0, none⟩) 256 256)) g (fun j => j < x.heap.size) 0 (newB cyc n ws m) ∧ Below x.heap.size x (y.setCell ⟨x.heap.size + 2, 2, none⟩ (.slice (some ⟨w.heap.size, 0, none⟩) 256 256)) := by
  obtain ⟨rb, cap, rfl⟩ := own_succ d.row
  have e := d.below b
  have hw2 := d.c.here
  have rbw := own_base d.row rb rfl
  have ecap : 2 ≤ cap ∧ cap ≤ 9223372036854775807 := by
    rcases d.row.2 with ⟨q, -⟩ | ⟨g, c, cur, q, -, -, q1, q2, -⟩
    · cases q
    · simp at q
      obtain ⟨-, rfl⟩ := q
      unfold maxLen at q2
      exact ⟨q1, q2⟩
  have tS : Turned (fun j => j = x.heap.size + 2) y (y.setCell ⟨x.heap.size + 2, 2, none⟩ (.slice (some ⟨w.heap.size, 0, none⟩) 256 256)) := (Turned.refl (fun j => j = x.heap.size + 2) y).set rfl _ _
  have cS := e.c.set 2 (by decide) (.slice (some ⟨w.heap.size, 0, none⟩) 256 256)
  have hY : w.heap.size ≤ y.heap.size := b.size
  have mn : ∀ i z, mine (P i) (H i) (n i) (fun _ => Value.slice none 0 0) z → z = P i ∨ z = H i := by
    rintro i z (q | q | ⟨j, -, q⟩)
    · exact Or.inl q
    · exact Or.inr q
    · simp [Value.ownBlock] at q
  have hP : ∀ i, i < 2 → P i < w.heap.size ∧ H i < w.heap.size := fun i hi => ⟨(d.ch i hi).c.here, (d.ch i hi).v.here⟩
  have hq := d.hi
  have bx : Below x.heap.size x (y.setCell ⟨x.heap.size + 2, 2, none⟩ (.slice (some ⟨w.heap.size, 0, none⟩) 256 256)) := e.b.trans (tS.below e.b.size (fun j hj => by omega))
  have key : Bm (y.setCell ⟨x.heap.size + 2, 2, none⟩ (.slice (some ⟨w.heap.size, 0, none⟩) 256 256)) x.heap.size (x.heap.size + 2) rb cap w.heap.size 256 x.heap.size (x.heap.size + 1) 0 0 P H n (fun _ _ => .slice none 0 0) (newB cyc n ws m) := by
    refine ⟨⟨cS.here, fun o ho => ?_, cS.free⟩, ?_, fun i hi => ?_, tS.cells cm (by omega), e.nw.turned tS (by omega), e.ak.turned tS (by omega), ?_, fun i hi z hz hmz => ?_, fun i j hi hj hij z h1 h2 => ?_, fun z hz => ?_, ?_, ?_, hm⟩
    · rw [cS.cell o ho]
      match o, ho with
      | 0, _ => rfl
      | 1, _ => rfl
      | 2, _ => rfl
      | 3, _ => rfl
      | 4, _ => rfl
      | 5, _ => rfl
      | 6, _ => rfl
      | 7, _ => rfl
      | q + 8, h => exact absurd h (by omega)
    · have r := own_turned e.row tS (fun j hj q => by
        have hj : rb = j := by simpa [Value.ownBlock] using hj
        omega)
      refine ⟨(own_base r rb rfl).2, fun o ho => ?_, fun o => World.ownsRow.frozenAt r o⟩
      rw [World.ownsRow.cellAt r o (by show o < 2 * 1; have : o < 2 := ho; omega)]
      exact ptrs_at P 2 o ho
    · have hi : i < 2 := hi
      obtain ⟨q1, q2, -, -⟩ := hq i hi
      exact ch_off (e.ch i hi) tS (by omega) (by omega)
    · refine ⟨by omega, by omega, by omega, by omega, by omega, by omega, by omega, by omega, by omega, by omega⟩
    · have hi : i < 2 := hi
      obtain ⟨q1, q2, q3, q4⟩ := hq i hi
      obtain ⟨p1, p2⟩ := hP i hi
      have q3 : rb ≠ P i := fun e => q3 (by simp [Value.ownBlock, e])
      have q4 : rb ≠ H i := fun e => q4 (by simp [Value.ownBlock, e])
      rcases mn i z hmz with e1 | e1 <;> rcases hz with e2 | e2 | e2 | e2 | e2 <;> omega
    · have hi : i < 2 := hi
      have hj : j < 2 := hj
      obtain ⟨r1, r2, r3⟩ := d.dis i j hi hj hij
      obtain ⟨s1, s2, s3⟩ := d.dis j i hj hi (fun e => hij e.symm)
      rcases mn i z h1 with e1 | e1 <;> rcases mn j z h2 with e2 | e2
      · exact r1 (e1.symm.trans e2)
      · exact r2 (e1.symm.trans e2)
      · exact s2 (e2.symm.trans e1)
      · exact r3 (e1.symm.trans e2)
    · rcases hz with e2 | e2 | e2 | e2 | e2 <;> omega
    · exact ⟨by show 1 ≤ 2; omega, by show 2 ≤ 2; omega, hc, by show 256 ≤ 4096; omega, by show 256 % 16 = 0; decide, by show 1 < 2; omega, by show 0 ≤ 10; omega⟩
    · exact ⟨ecap.1, Nat.le_refl _, ecap.2, by omega⟩
  refine ⟨⟨x.heap.size, x.heap.size + 2, rb, cap, w.heap.size, 256, x.heap.size, x.heap.size + 1, P, H, n⟩, rfl, ⟨fun _ _ => .slice none 0 0, 0, 0, key, Nat.le_refl _, Nat.le_refl _, fun z hz => ⟨Nat.lt_of_lt_of_le hz bx.size, ?_⟩⟩, bx⟩
  rintro (q | ⟨i, hi, q⟩)
  · have := key.lo z q
    omega
  · have := (mine_lt (key.ch i hi) z q).2
    omega
set_option maxRecDepth 100000 in
set_option maxHeartbeats 4000000 in
theorem unew (x : World) (sb sc : Nat) (n ws : Nat → Nat) (cyc : Nat) (q : Option Addr) (dc : Nat) (m : Nat → Nat) (hs : ∀ i, i < 2 → x.cell? ⟨sb, i * 2, none⟩ = some (.int .i64 (n i)) ∧ x.cell? ⟨sb, i * 2 + 1, none⟩ = some (.int .i64 (ws i))) (hsb : sb < x.heap.size) (hn : ∀ i, i < 2 → n i = 1 ∨ n i = 2 ∨ n i = 4 ∨ n i = 8 ∨ n i = 16) (hw : ∀ i, i < 2 → 1 ≤ ws i ∧ ws i ≤ 4) (hc : cyc ≤ 10) (hD : HandB x q 256 m) (hq0 : q = none → dc = 0) (hm : ∀ o, m o < 256) : Calls Try.prog 5 #[.slice (some ⟨sb, 0, none⟩) 2 sc, .int .i64 cyc, .slice q 256 dc] x fun e w' => ∃ g : Bn, e = .returned (.tuple #[.pointer (some ⟨g.p, 0, none⟩), .nilIface]) ∧ Bu w' g (fun j => j < x.heap.size) 0 (newB cyc n ws m) ∧ Below x.heap.size x w' := by
  obtain ⟨W, hW⟩ : ∃ W, ((x.alloc (.map #[] 0)).alloc (.map #[] 0)).alloc (.cells #[.slice none 0 0, .int .i64 cyc, .slice none 0 0, .map (some x.heap.size), .map (some (x.heap.size + 1)), .int .i64 1, .bool false, .int .i64 0] 56) = W := ⟨_, rfl⟩
  have d0 : NewI x W cyc n ws 0 (.slice none 0 0) (fun _ => 0) (fun _ => 0) := by
    have b1 : Below x.heap.size x (x.alloc (.map #[] 0)) := (Below.refl _ _).alloc (Nat.le_refl _) _
    have s1 : (x.alloc (.map #[] 0)).heap.size = x.heap.size + 1 := by simp
    have b2 : Below (x.alloc (.map #[] 0)).heap.size (x.alloc (.map #[] 0)) ((x.alloc (.map #[] 0)).alloc (.map #[] 0)) := (Below.refl _ _).alloc (Nat.le_refl _) _
    have s2 : ((x.alloc (.map #[] 0)).alloc (.map #[] 0)).heap.size = x.heap.size + 2 := by simp
    have b3 : Below ((x.alloc (.map #[] 0)).alloc (.map #[] 0)).heap.size ((x.alloc (.map #[] 0)).alloc (.map #[] 0)) W := by rw [← hW]; exact (Below.refl _ _).alloc (Nat.le_refl _) _
    have m1 := ((map_made x 33 .u32).below b2).below b3
    have m2 := (map_made (x.alloc (.map #[] 0)) 3 .i64).below b3
    rw [s1] at m2
    refine ⟨?_, m1, m2, World.ownsRow_nil _ _ _ _, fun i hi => absurd hi (by omega), fun i hi => absurd hi (by omega), fun i j hi => absurd hi (by omega), (b1.trans (b2.mono (by omega))).trans (b3.mono (by omega))⟩
    rw [← hW, ← s2]
    refine ⟨by simp, fun o ho => ?_, fun o => World.frozen?_alloc_at _ _ _ _ rfl⟩
    rw [World.cell?_alloc_new, Array.getElem?_eq_getElem (by show o < 8; exact ho)]
    match o, ho with
    | 0, _ => rfl
    | 1, _ => rfl
    | 2, _ => rfl
    | 3, _ => rfl
    | 4, _ => rfl
    | 5, _ => rfl
    | 6, _ => rfl
    | 7, _ => rfl
    | q + 8, h => exact absurd h (by omega)
  have HD0 := Hid.in d0
  have HS := Hid.in hs
  have HSB := Hid.in hsb
  have HN := Hid.in hn
  have HWS := Hid.in hw
  have HC := Hid.in hc
  have HDD := Hid.in hD
  have HQ0 := Hid.in hq0
  have HM := Hid.in hm
  have c0 : ¬ ((cyc : Int) < 0) := by omega
  have c1 : ¬ ((cyc : Int) > 10) := by omega
  have hmm : ∀ (t : TypeId) (u : World), (Instr.makeMap t none).run Try.prog u = .ok (.map (some u.heap.size)) (u.alloc (.map #[] 0)) := fun _ _ => rfl
  clear d0 hs hsb hn hw hc hD hq0 hm
  go_enter Try.func5, Try.ntmps5
  go_upto_region 4 with fail
  try rw [hW]
  clear hW
  go_wp2
  go_loopw [40] (fun iv wr => ∃ (k : Nat) (v : Value) (P H : Nat → Nat), iv = .int .i64 k ∧ k ≤ 2 ∧ NewI x wr cyc n ws k v P H) (fun iv _ => 3 - (intOf iv).toNat)
  case atStart => exact ⟨0, _, _, _, rfl, by omega, HD0.out⟩
  case round =>
    obtain ⟨k, v, P, H, rfl, hk, hI⟩ := hrel
    have HI := Hid.in hI
    clear hI HD0
    by_cases hlt : k < 2
    · have hlt' : (k : Int) < 2 := by omega
      have b0 := HI.out.b
      have s0 : wr.cell? ⟨sb, k * 2, none⟩ = some (.int .i64 (n k)) := (b0.cell (p := ⟨sb, k * 2, none⟩) HSB.out).trans (HS.out k hlt).1
      have s1 : wr.cell? ⟨sb, k * 2 + 1, none⟩ = some (.int .i64 (ws k)) := (b0.cell (p := ⟨sb, k * 2 + 1, none⟩) HSB.out).trans (HS.out k hlt).2
      have sh := Nat.lt_of_lt_of_le HSB.out b0.size
      obtain ⟨X, hX⟩ : ∃ X, wr.alloc (.cells #[.int .i64 (n k), .int .i64 (ws k)] 25) = X := ⟨_, rfl⟩
      have x0 : X.cell? ⟨wr.heap.size, 0, none⟩ = some (.int .i64 (n k)) := by rw [← hX]; exact World.cell?_alloc_new wr _ _ 0
      have x1 : X.cell? ⟨wr.heap.size, 1, none⟩ = some (.int .i64 (ws k)) := by rw [← hX]; exact World.cell?_alloc_new wr _ _ 1
      have xh : wr.heap.size < X.heap.size := by rw [← hX]; simp
      have dX := HI.out.below (y := X) (by rw [← hX]; exact (Below.refl _ _).alloc (Nat.le_refl _) _)
      have HDX := Hid.in dX
      have HNG := Hid.in (new_good x.heap.size (n k) (ws k) X dX.b.size (HN.out k hlt) (HWS.out k hlt))
      clear b0 dX
      go_upto_region 7 with fail
      try rw [hX]
      clear hX s0 s1 sh
      go_upto_region 10 with (go_at_call 14; refine HNG.out.mono ?_; rintro e y ⟨p, h, rfl, hch, hb, hp, hh⟩; have HCH := Hid.in hch; have HB := Hid.in hb; have HPH := Hid.in (And.intro hp hh); clear hch hb hp hh)
      have dY := HDX.out.below HB.out
      have y0 : y.cell? ⟨x.heap.size + 2, 0, none⟩ = some v := dY.c.cell 0 (by decide)
      have yh := dY.c.here
      have yr := dY.row
      have el := ptrs_len P k
      obtain ⟨g2, cap, z, hrun, r1, r2, r3⟩ := app_ptr (B := x.heap.size + 3) y v (ptrs P k) p (by rw [el]; exact yr) (by rw [el]; omega) (by omega)
      rw [el] at hrun r1
      have z0 : z.cell? ⟨x.heap.size + 2, 0, none⟩ = some v := r2.to_cell yh (fun q => by have := (own_base yr _ q).1; omega) y0
      have zf : z.frozen? ⟨x.heap.size + 2, 0, none⟩ = false := (World.frozen?_of_block (r2.block (x.heap.size + 2) yh (fun q : v.ownBlock = some (x.heap.size + 2) => by have := (own_base yr _ q).1; omega))).trans (dY.c.free 0)
      have zh := Nat.lt_of_lt_of_le yh r2.size
      have xw : x.heap.size + 2 < X.heap.size := HDX.out.c.here
      have vX : ∀ j, v.ownBlock = some j → j < X.heap.size := fun j hj => (own_base HDX.out.row j hj).2
      have hadd := NewI.add dY (p := p) (h := h) (by have := HPH.out.1; omega) (by have := HPH.out.2; omega) HCH.out.c.here HCH.out.v.here (fun q => by have := vX _ q; have := HPH.out.1; omega) (fun q => by have := vX _ q; have := HPH.out.2; omega) HCH.out (fun i hi => by
        have h1 := (HDX.out.ch i hi).c.here
        have h2 := (HDX.out.ch i hi).v.here
        have h3 := HPH.out.1
        have h4 := HPH.out.2
        omega) r2 r1 r3
      have HADD := Hid.in hadd
      clear hadd r1 r2 r3 yr dY el xw vX x0 x1 xh
      go_wp2_with (at_builtin; refine wpList_append_run rfl rfl rfl rfl hrun ?_)
      go_roundw
      case rel => exact ⟨k + 1, _, _, _, by simp, by omega, HADD.out⟩
      case measure =>
        simp [intOf]
        omega
    · obtain rfl : k = 2 := by omega
      have HCP := Hid.in (copied_any q 256 dc m wr (HDD.out.below HI.out.b) HQ0.out (by omega))
      go_wp2_with (first
        | (go_at_call 15; refine (isData_any q 256 dc _ rfl (by omega)).mono ?_; rintro e y ⟨rfl, hy⟩; have hy2 := hy.symm; clear hy; subst hy2)
        | (go_at_call 16; refine HCP.out.mono ?_; rintro e y ⟨rfl, hb, hcm⟩; have HB := Hid.in hb; have HCM := Hid.in hcm; have y2 : y.cell? ⟨x.heap.size + 2, 2, none⟩ = some (.slice none 0 0) := (HI.out.below hb).c.cell 2 (by decide); have yf := (HI.out.below hb).c.free 2; have yh := (HI.out.below hb).c.here; clear hb hcm))
      obtain ⟨g, g1, g2, g3⟩ := HI.out.fin HB.out HCM.out HC.out HM.out
      refine bodyPost_ret (v := .tuple #[.pointer (some ⟨x.heap.size + 2, 0, none⟩), .nilIface]) (by simp [results, Try.results5, go_sem]) rfl ⟨g, by rw [g1], g2, g3⟩
end Go.Proofs.Ytbbaopldebdoiaa
