/-
  THE ANSWER: Search, where it may be.
-/
import Derived.Test.YthbffonedpeeiaaDoorJf
namespace Go.Proofs.YthbffonedpeeiaaDoor
open Go Go.RowKit
def RS.ofs (S : RS) (i : Nat) : List Int := (List.range (S.at i).z).map fun b => lastI (S.src ((S.at i).a + b)) i
theorem RS.ofs_len (S : RS) (i : Nat) : (S.ofs i).length = (S.at i).z := by simp [RS.ofs]
theorem RS.ofs_at (S : RS) (i b : Nat) (h : b < (S.at i).z) : (S.ofs i).getD b 0 = lastI (S.src ((S.at i).a + b)) i := by
  simp [RS.ofs, List.getD_eq_getElem?_getD, h]
def RS.lack (S : RS) (k : Int) : Bool := decide (k ≠ -1) && !(S.at k.toNat).hv
def RS.unk (S : RS) (k : Nat) : Bool := (S.at k).st && !(S.at k).pl
def RS.byteOf (S : RS) (y : Nat) (k : Int) : Nat := (S.at k.toNat).d / 256 ^ (y - (S.at k.toNat).a) % 256
def RS.gvN (S : RS) (a : Nat) (l : List Int) : Nat → Nat
  | 0 => 0
  | b + 1 => S.gvN a l b + if l.getD b 0 = -1 then 0 else S.byteOf (a + b) (l.getD b 0) * 256 ^ b
theorem RS.gvN_lt (S : RS) (a : Nat) (l : List Int) : ∀ b, S.gvN a l b < 256 ^ b
  | 0 => by simp [RS.gvN]
  | b + 1 => by
    have := RS.gvN_lt S a l b
    have hb : S.byteOf (a + b) (l.getD b 0) < 256 := Nat.mod_lt _ (by decide)
    have hm : S.byteOf (a + b) (l.getD b 0) * 256 ^ b ≤ 255 * 256 ^ b := Nat.mul_le_mul_right _ (by omega)
    unfold RS.gvN
    rw [Nat.pow_succ]
    split <;> omega
def RS.unks (S : RS) (i : Nat) : Bool := (List.range i).any S.unk
def RS.lacks (S : RS) (i : Nat) : Bool := (List.range (S.at i).z).any fun b => S.lack ((S.ofs i).getD b 0)
def RS.found (S : RS) (i : Nat) (bold : Bool) : Value := if (!bold && S.unks i) || S.lacks i then .agg #[.bool true, .int .i64 0, .int .u32 0] else .agg #[.bool false, .int .i64 (gmN (S.ofs i) (S.at i).z), .int .u32 (S.gvN (S.at i).a (S.ofs i) (S.at i).z)]
theorem any_t {f : Nat → Bool} {n k : Nat} (h : k < n) (hk : f k = true) : (List.range n).any f = true := by
  rw [List.any_eq_true]
  exact ⟨k, List.mem_range.2 h, hk⟩
theorem any_f {f : Nat → Bool} {n : Nat} (h : ∀ k, k < n → f k = false) : (List.range n).any f = false := by
  rw [List.any_eq_false]
  exact fun i hi => by rw [h i (List.mem_range.1 hi)]; simp
set_option maxRecDepth 100000 in
set_option maxHeartbeats 2000000 in
theorem rsearch_good (B p : Nat) (v : Value) (S : RS) (seq : Int) (bold : Bool) (i : Nat) (w : World) (k : Rm w B p v S) (hi : i < S.on.length) (hr : First (S.isN seq) S.on.length i) (hst : (S.at i).st = false) (hpl : (S.at i).pl = true) (haz : (S.at i).a + (S.at i).z ≤ 4294967296) : Calls Tryd.prog 15 #[.pointer (some ⟨p, 0, none⟩), .int .i64 seq, .bool bold] w fun e w' => e = .returned (.tuple #[S.found i bold, .int .i64 0]) ∧ Below w.heap.size w w' := by
  obtain ⟨X, hX, hb, cX, hsX⟩ := boxF w
  have kX := k.below hb
  have hs := k.small.1
  have hmul : (i : Int) * 13 = ((i * 13 : Nat) : Int) := by omega
  have hneg : ¬ (i : Int) < 0 := by omega
  have hnd : decide ((i : Int) < 0) = false := decide_eq_false hneg
  obtain ⟨g, cap, hv, hpg, hc1, hc2, hrow⟩ := kX.rows i hi
  obtain ⟨x1, x2, -⟩ := hrow X (Below.refl _ _)
  obtain ⟨-, y1, y2, -⟩ := rrow_cells x2
  rw [hst] at y1
  rw [hpl] at y2
  have HX := Hid.in hX
  have HB := Hid.in hb
  have HCX := Hid.in cX
  have HKX := Hid.in kX
  have HRW := Hid.in hrow
  have HV := Hid.in hv
  have HC := Hid.in (rfind_any B p v S seq X kX)
  have HR := Hid.in hr
  have HFIT := Hid.in (k.fit i hi)
  have hz4 : (S.at i).z ≤ 4 := by have := (k.fit i hi).z; omega
  have HAZ := Hid.in haz
  have HZ4 := Hid.in hz4
  clear k hr hst hpl kX hX hb cX hrow x2 hv hc1 hc2 haz hz4
  go_enter Tryd.func15, Tryd.ntmps15
  go_upto_region 1 with fail
  rw [HX.out]
  go_upto_region 2 with (first | (go_at_call 42; refine HC.out.mono ?_; rintro e w2 ⟨r2, rfl, h1, rfl⟩; obtain rfl := h1.uniq HR.out; clear h1))
  obtain ⟨Y, hY, bY, cY, hsY⟩ := boxF w2
  have HCA := Hid.in (HCX.out.below bY)
  have HBY := Hid.in (below2 HB.out bY)
  have HKY := Hid.in (HKX.out.below bY)
  have HY := Hid.in hY
  have HCY := Hid.in cY
  rw [hsX] at HCY
  have hlt : w.heap.size < Y.heap.size := by omega
  have HLO : Hid (∀ j, rmine p v j → j < w2.heap.size) := fun j hj => (HKX.out.low j hj).2
  clear hY bY cY
  go_wp2
  rw [HY.out]
  clear x1 y1 y2
  go_loopw [10] (fun u wr => ∃ j : Nat, u = .int .i64 j ∧ j ≤ i ∧ (bold = false → ∀ t, t < j → S.unk t = false) ∧ Y = wr) (fun v _ => 33 - (intOf v).toNat)
  case atStart => exact ⟨0, rfl, by omega, fun _ t ht => by omega, rfl⟩
  case round =>
    obtain ⟨j, rfl, hj, hno, rfl⟩ := hrel
    have HNO := Hid.in hno
    clear hno
    by_cases hji : j < i
    · obtain ⟨g2, cap2, hv2, -, -, -, hrow2⟩ := HKY.out.rows j (by omega)
      rw [HV.out] at hv2
      cases hv2
      obtain ⟨x1, x2, -⟩ := hrow2 Y (Below.refl _ _)
      obtain ⟨-, y1, y2, -⟩ := rrow_cells x2
      have hmulj : (j : Int) * 13 = ((j * 13 : Nat) : Int) := by omega
      have HUN : Hid (S.unk j = ((S.at j).st && !(S.at j).pl)) := rfl
      generalize (S.at j).st = sb at y1 HUN
      generalize (S.at j).pl = pb at y2 HUN
      clear hrow2 x2
      cases sb
      · go_wp2
        go_roundw
        case rel =>
          refine ⟨j + 1, by simp, by omega, fun hb t ht => ?_, trivial⟩
          rcases Nat.lt_or_ge t j with q | q
          · exact HNO.out hb t q
          · obtain rfl : t = j := by omega
            exact HUN.out
        case measure =>
          simp [intOf]
          omega
      · cases pb
        · cases bold
          · have hc := HCA.out
            have c0 := hc.cell 0 (by decide)
            have c1 := hc.cell 1 (by decide)
            have c2 := hc.cell 2 (by decide)
            have f0 := hc.free 0
            have f1 := hc.free 1
            have f2 := hc.free 2
            simp only [fnd] at c0 c1 c2
            clear hc
            go_wp2
            obtain ⟨z, zb⟩ := wrote3 HCA.out HBY.out (.bool true) (.int .i64 0) (.int .u32 0)
            refine bodyPost_ret (results_rf Tryd.results15 _ _ w.heap.size _ _ _ _ rfl rfl (z.cell 0 (by decide)) (z.cell 1 (by decide)) (z.cell 2 (by decide))) rfl ⟨?_, zb⟩
            have hu : S.unks i = true := any_t hji HUN.out
            unfold RS.found
            rw [hu]
            rfl
          · go_wp2
            go_roundw
            case rel => exact ⟨j + 1, by simp, by omega, (fun hb => nomatch hb), trivial⟩
            case measure =>
              simp [intOf]
              omega
        · go_wp2
          go_roundw
          case rel =>
            refine ⟨j + 1, by simp, by omega, fun hb t ht => ?_, trivial⟩
            rcases Nat.lt_or_ge t j with q | q
            · exact HNO.out hb t q
            · obtain rfl : t = j := by omega
              exact HUN.out
          case measure =>
            simp [intOf]
            omega
    · obtain rfl : j = i := by omega
      have HUF : Hid ((!bold && S.unks j) = false) := by
        show (!bold && S.unks j) = false
        cases bold
        · rw [show S.unks j = false from any_f (HNO.out rfl)]
          rfl
        · rfl
      clear HNO
      go_wp2
      obtain ⟨l, hl⟩ : ∃ l, S.ofs j = l := ⟨_, rfl⟩
      have HL := Hid.in hl
      have hll : l.length = (S.at j).z := by rw [← hl]; exact S.ofs_len j
      clear hl
      have HCY0 : Hid (CellsAt 3 Y (w.heap.size + 1) (fnd false (gmN l 0) (S.gvN (S.at j).a l 0))) := HCY.out
      go_loopw [11] (fun u wr => ∃ b : Nat, u = .int .i64 b ∧ b ≤ (S.at j).z ∧ (∀ t, t < b → S.lack (l.getD t 0) = false) ∧ CellsAt 3 wr (w.heap.size + 1) (fnd false (gmN l b) (S.gvN (S.at j).a l b)) ∧ Turned (fun q => q = w.heap.size + 1) Y wr) (fun v _ => 5 - (intOf v).toNat)
      case atStart => exact ⟨0, rfl, by omega, fun t ht => by omega, HCY0.out, Turned.refl _ _⟩
      case round =>
        obtain ⟨b, rfl, hb, hno, hcl, ht⟩ := hrel
        have HNO := Hid.in hno
        have HCL := Hid.in hcl
        have HT := Hid.in ht
        have kW : Rm wr B p v S := HKY.out.turned ht (fun q hq e => by have := HLO.out q hq; omega)
        have HKW := Hid.in kW
        obtain ⟨g2, cap2, hv2, -, -, -, hrow2⟩ := kW.rows j hi
        rw [HV.out] at hv2
        cases hv2
        obtain ⟨x1, x2, -, x4⟩ := hrow2 wr (Below.refl _ _)
        obtain ⟨-, -, -, y3, y4, -⟩ := rrow_cells x2
        have hfa := HFIT.out.a
        have hz4 := HZ4.out
        obtain ⟨za, hza⟩ : ∃ za, (S.at j).z = za := ⟨_, rfl⟩
        obtain ⟨aa, haa⟩ : ∃ aa, (S.at j).a = aa := ⟨_, rfl⟩
        rw [hza] at y4 hz4 hb
        rw [haa] at y3 hfa
        have HZA := Hid.in hza
        have HAA := Hid.in haa
        clear hno hcl ht kW hrow2 x2 hza haa
        by_cases hbz : b < za
        · have HSRC := Hid.in (rsource_any B p v S j (aa + b) wr HKW.out (by omega))
          obtain ⟨x, hx⟩ : ∃ x, l.getD b 0 = x := ⟨_, rfl⟩
          have HXX := Hid.in hx
          have HLX : Hid (x = lastI (S.src (aa + b)) j) := by
            show _ = _
            rw [← hx, ← HL.out, S.ofs_at j b (by rw [HZA.out]; exact hbz), HAA.out]
          have hadd : (aa : Int) + (b : Int) ≤ 4294967300 := by omega
          go_upto_region 15 with (first
            | (go_at_call 48; rw [← Int.natCast_add]; refine HSRC.out.mono ?_; rintro e w5 ⟨rfl, hb5⟩; rw [← HLX.out]; have HB5 := Hid.in hb5; clear hb5))
          have bw5 := HBY.out.trans ((HT.out.below (by omega) (fun q e => by omega)).trans (HB5.out.mono HT.out.size |>.mono (by omega)))
          clear x1 x4 y3 y4
          clear hx
          by_cases hx1 : x = -1
          · subst hx1
            go_wp2
            go_roundw
            case rel =>
              refine ⟨b + 1, by simp, by rw [HZA.out]; omega, fun t ht => ?_, ?_, HT.out.trans (Turned.of_below HB5.out)⟩
              · rcases Nat.lt_or_ge t b with q | q
                · exact HNO.out t q
                · obtain rfl : t = b := by omega
                  rw [HXX.out]
                  rfl
              · unfold gmN RS.gvN
                rw [HXX.out]
                exact HCL.out.below HB5.out
            case measure =>
              simp [intOf]
              omega
          · obtain ⟨kk, hk, hkj, hks⟩ := (lastI_t (S.src (aa + b)) j).resolve_left (by rw [← HLX.out]; exact hx1)
            obtain rfl : x = kk := HLX.out.trans hk
            unfold RS.src at hks
            simp only [Bool.and_eq_true, decide_eq_true_eq] at hks
            obtain ⟨g3, cap3, hv3, -, -, -, hrow3⟩ := (HKW.out.below HB5.out).rows kk (by omega)
            rw [HV.out] at hv3
            cases hv3
            obtain ⟨x1, x2, -, x4⟩ := hrow3 w5 (Below.refl _ _)
            have fitk := HKW.out.fit kk (by omega)
            obtain ⟨e, he⟩ : ∃ e, S.at kk = e := ⟨_, rfl⟩
            have HE := Hid.in he
            rw [he] at x2 hks fitk
            have HX2 := Hid.in x2
            have hmulk : (kk : Int) * 13 = ((kk * 13 : Nat) : Int) := by omega
            have hkneg : ¬ (kk : Int) < 0 := by omega
            have hknd : decide ((kk : Int) < 0) = false := decide_eq_false hkneg
            have HKS := Hid.in hks.2.2
            have HFK := Hid.in fitk
            clear hrow3 x2 he hks fitk hx1 hk
            go_upto_region 17 with (first
              | (refine ld_ent g (kk * 13) e HX2.out rfl _ rfl rfl ?_)
              | (refine st_ent e zre rfl w5.heap.size rfl rfl rfl _ _ rfl rfl rfl ?_))
            obtain ⟨Z, hZ, rZ, bZ, hsZ⟩ := rboxed e w5 89
            rw [hZ]
            obtain ⟨-, -, -, z3, -, z5, z6, -⟩ := rrow_cells0 rZ
            have HBZ := Hid.in (bw5.trans (bZ.mono bw5.size))
            have HCZ := Hid.in (HCL.out.below (below2 HB5.out bZ))
            have HTZ := Hid.in (HT.out.trans (Turned.of_below (below2 HB5.out bZ)))
            have HRZ := Hid.in rZ
            have hZl : w5.heap.size < Z.heap.size := by omega
            have h5l : w.heap.size + 1 < w5.heap.size := by have := HB5.out.size; have := HT.out.size; omega
            clear hZ rZ bZ x1 x4
            obtain ⟨hb, hhv⟩ : ∃ hb, e.hv = hb := ⟨_, rfl⟩
            rw [hhv] at z5
            have HHV := Hid.in hhv
            clear hhv
            cases hb
            · have hcA := HTZ.out.cells HCA.out (by omega)
              have HCAZ := Hid.in hcA
              have hc := hcA
              have c0 := hc.cell 0 (by decide)
              have c1 := hc.cell 1 (by decide)
              have c2 := hc.cell 2 (by decide)
              have f0 := hc.free 0
              have f1 := hc.free 1
              have f2 := hc.free 2
              simp only [fnd] at c0 c1 c2
              clear hc
              clear hcA
              go_wp2
              obtain ⟨z, zb⟩ := wrote3 HCAZ.out HBZ.out (.bool true) (.int .i64 0) (.int .u32 0)
              refine bodyPost_ret (results_rf Tryd.results15 _ _ w.heap.size _ _ _ _ rfl rfl (z.cell 0 (by decide)) (z.cell 1 (by decide)) (z.cell 2 (by decide))) rfl ⟨?_, zb⟩
              have hlk : S.lacks j = true := any_t (k := b) (by rw [HZA.out]; exact hbz) (by
                unfold RS.lack
                rw [HL.out, HXX.out, Int.toNat_natCast, HE.out, HHV.out, decide_eq_true (by omega)]
                rfl)
              unfold RS.found
              rw [HUF.out, hlk]
              rfl
            · have hc := HCZ.out
              have c1 := hc.cell 1 (by decide)
              have f1 := hc.free 1
              simp only [fnd] at c1
              have hm1 := gmN_lt l b
              have hv1 := S.gvN_lt (S.at j).a l b
              obtain ⟨gm, hgm⟩ : ∃ gm, gmN l b = gm := ⟨_, rfl⟩
              obtain ⟨gv, hgv⟩ : ∃ gv, S.gvN (S.at j).a l b = gv := ⟨_, rfl⟩
              have HGM := Hid.in hgm
              have HGV := Hid.in hgv
              rw [hgm] at c1 hm1
              rw [hgv] at hv1
              have hor := or_mask gm b hm1 (by omega)
              have hcl2 := hc.here
              clear hc hgm hgv
              go_upto_region 19 with fail
              go_region
              go_upto_region 20 with fail
              obtain ⟨W6, hW6⟩ : ∃ W6, (Z.setCell ⟨w.heap.size + 1, 1, none⟩ (.int .i64 (bits BinOp.or IntKind.i64 (gm : Int) (wrap64 (2 ^ b))))).drew = W6 := ⟨_, rfl⟩
              rw [hW6]
              rw [wrap_pow b (by omega), hor] at hW6
              have k6 : CellsAt 3 W6 (w.heap.size + 1) (fnd false (gm + 2 ^ b) gv) := by
                rw [← hW6]
                refine ((HCZ.out.set 1 (by decide) (.int .i64 ((gm + 2 ^ b : Nat) : Int))).drew).ext (fun o ho => ?_)
                match o, ho with
                | 0, _ => rfl
                | 1, _ => rfl
                | 2, _ => exact congrArg (fun x : Nat => Value.int .u32 x) HGV.out
              have t6 : Turned (fun q => q = w.heap.size + 1) Z W6 := by
                rw [← hW6]
                exact ((Turned.refl (fun q => q = w.heap.size + 1) Z).set rfl 1 _).drew
              obtain ⟨bb, hbb⟩ : ∃ bb, w5.heap.size = bb := ⟨_, rfl⟩
              rw [hbb] at HRZ hZl h5l
              rw [hbb]
              have r6 := range_turned HRZ.out t6 hZl (by omega)
              obtain ⟨-, -, -, a3, -, -, a6, -⟩ := rrow_cells0 r6
              have ha3 : e.a ≤ aa + b := HKS.out.1
              have hez : e.z ≤ 4 := by have := HFK.out.z; omega
              have ha4 : aa + b < e.a + e.z := HKS.out.2
              obtain ⟨kq, hkq⟩ : ∃ kq, aa + b - e.a = kq := ⟨_, rfl⟩
              obtain ⟨by8, hby⟩ : ∃ by8, e.d / 256 ^ kq % 256 = by8 := ⟨_, rfl⟩
              have hb8 : by8 < 256 := by rw [← hby]; exact Nat.mod_lt _ (by decide)
              have hed : e.d < 4294967296 := HFK.out.d
              have HG1 : Hid (gm + 2 ^ b = gmN l (b + 1)) := by
                show gm + 2 ^ b = gmN l b + if l.getD b 0 = -1 then 0 else 2 ^ b
                rw [HXX.out, if_neg (by omega), HGM.out]
              have HG2 : Hid (S.gvN (S.at j).a l (b + 1) = gv + by8 * 256 ^ b) := by
                show S.gvN (S.at j).a l b + (if l.getD b 0 = -1 then 0 else S.byteOf ((S.at j).a + b) (l.getD b 0) * 256 ^ b) = _
                unfold RS.byteOf
                rw [HXX.out, if_neg (by omega), Int.toNat_natCast, HE.out, show (S.at j).a + b = aa + b by rw [HAA.out], hkq, hby, HGV.out]
              obtain ⟨ea, hea⟩ : ∃ ea, e.a = ea := ⟨_, rfl⟩
              obtain ⟨ed, hed2⟩ : ∃ ed, e.d = ed := ⟨_, rfl⟩
              rw [hea] at a3 ha3 ha4 hkq
              rw [hed2] at a6 hed hby
              have hw1 : IntKind.i64.wrap ((aa : Int) + (b : Int) - (ea : Int)) = (kq : Int) := by
                simp only [IntKind.wrap_i64]
                omega
              have hw2 : IntKind.i64.wrap (8 * (kq : Int)) = 8 * (kq : Int) := by
                simp only [IntKind.wrap_i64]
                omega
              have hw3 : IntKind.i64.wrap (8 * (b : Int)) = 8 * (b : Int) := by
                simp only [IntKind.wrap_i64]
                omega
              have hkq4 : kq < 4 := by omega
              have HLACK : Hid (S.lack (l.getD b 0) = false) := by
                show S.lack (l.getD b 0) = false
                unfold RS.lack
                rw [HXX.out, Int.toNat_natCast, HE.out, HHV.out]
                simp
              have HG3 : Hid (bits BinOp.or IntKind.u32 (gv : Int) (bits BinOp.and IntKind.u32 ((ed : Int) / 2 ^ (8 * kq)) 255 * 2 ^ (8 * b) % 4294967296) = (S.gvN (S.at j).a l (b + 1) : Nat)) := by
                have hd : ed / 2 ^ (8 * kq) < 4294967296 := Nat.lt_of_le_of_lt (Nat.div_le_self _ _) hed
                have e1 : (ed : Int) / 2 ^ (8 * kq) = ((ed / 2 ^ (8 * kq) : Nat) : Int) := by simp
                have e2 : bits BinOp.and IntKind.u32 ((ed : Int) / 2 ^ (8 * kq)) 255 = (by8 : Int) := by
                  rw [e1, show (255 : Int) = ((255 : Nat) : Int) from rfl, u32_and_nat _ _ hd (by decide), show (255 : Nat) = 2 ^ 8 - 1 from rfl, Nat.and_two_pow_sub_one_eq_mod, pow_is]
                  exact congrArg Nat.cast hby
                show bits BinOp.or IntKind.u32 (gv : Int) (bits BinOp.and IntKind.u32 ((ed : Int) / 2 ^ (8 * kq)) 255 * 2 ^ (8 * b) % 4294967296) = _
                rw [e2, HG2.out]
                exact or_step gv by8 b hv1 hb8 (by omega)
              have hkq5 : ¬ 8 * (kq : Int) < 0 := by omega
              have HK6 := Hid.in k6
              have HT6 := Hid.in (HTZ.out.trans t6)
              clear hW6 c1 f1 hor hm1 z3 z5 z6 k6 t6 r6 hbb hcl2 hea hed2 hkq ha4 ha3
              refine wp_region_held_drew (S := fun w' => w'.cell? ⟨bb, 3, none⟩ = some (.int .i64 ea) ∧ w'.cell? ⟨bb, 6, none⟩ = some (.int .u32 ed)) (by kernel_rfl) ?_ (fun hHeld => ?_)
              · exact ⟨a3, a6⟩
              have k7 := HK6.out.drew
              have t7 := HT6.out.drew
              clear a3 a6
              generalize W6.drew = W7 at k7 t7 hHeld ⊢
              have c2 := k7.cell 2 (by decide)
              have f2 := k7.free 2
              simp only [fnd] at c2
              have HK7 := Hid.in k7
              have HT7 := Hid.in t7
              have hbne : bb ≠ w.heap.size + 1 := by omega
              have HKP : Hid (∀ (x : World) (u : Value), (x.cell? ⟨bb, 3, none⟩ = some (.int .i64 ea) ∧ x.cell? ⟨bb, 6, none⟩ = some (.int .u32 ed)) → ((x.setCell ⟨w.heap.size + 1, 2, none⟩ u).cell? ⟨bb, 3, none⟩ = some (.int .i64 ea) ∧ (x.setCell ⟨w.heap.size + 1, 2, none⟩ u).cell? ⟨bb, 6, none⟩ = some (.int .u32 ed))) := fun x u hx => ⟨(World.cell?_setCell_far _ _ _ _ (Ne.symm hbne)).trans hx.1, (World.cell?_setCell_far _ _ _ _ (Ne.symm hbne)).trans hx.2⟩
              clear k7 t7
              refine wpAnyH_take (i := 0) (oi := { dst := some 116, op := Op.fieldAddr 47 (Operand.tmp 9) 2, type := 0, pos := "lsq.go:143", after := #[], guard := none }) (v := ?_) rfl (by kernel_rfl) (by kernel_rfl) (by kernel_rfl) (fun _ _ _ h => h) (Or.inl ⟨by rfl, ?_⟩) (by assumption) ?_
              rotate_left
              · (intro w hSw; (try dsimp only at hSw); (go_simp <;> with_reducible rfl))
              try simp only [Act.put, List.setIfInBounds_toArray, List.set_cons_zero, List.set_cons_succ]
              refine wpAnyH_take (i := 2) (oi := { dst := some 118, op := Op.fieldAddr 89 (Operand.tmp 14) 6, type := 0, pos := "lsq.go:143", after := #[], guard := none }) (v := ?_) rfl (by kernel_rfl) (by kernel_rfl) (by kernel_rfl) (fun _ _ _ h => h) (Or.inl ⟨by rfl, ?_⟩) (by assumption) ?_
              rotate_left
              · (intro w hSw; (try dsimp only at hSw); (go_simp <;> with_reducible rfl))
              try simp only [Act.put, List.setIfInBounds_toArray, List.set_cons_zero, List.set_cons_succ]
              refine wpAnyH_take (i := 3) (oi := { dst := some 119, op := Op.load 38 (Operand.tmp 118), type := 38, pos := "lsq.go:143", after := #[{ on := 2, ground := Go.Ground.data }], guard := none }) (v := ?_) rfl (by kernel_rfl) (by kernel_rfl) (by kernel_rfl) (fun _ _ _ h => h) (Or.inl ⟨by rfl, ?_⟩) (by assumption) ?_
              rotate_left
              · (intro w hSw; (try dsimp only at hSw); (go_simp <;> with_reducible rfl))
              try simp only [Act.put, List.setIfInBounds_toArray, List.set_cons_zero, List.set_cons_succ]
              refine wpAnyH_take (i := 4) (oi := { dst := some 120, op := Op.move (Operand.tmp 12), type := 3, pos := "lsq.go:143", after := #[], guard := none }) (v := ?_) rfl (by kernel_rfl) (by kernel_rfl) (by kernel_rfl) (fun _ _ _ h => h) (Or.inl ⟨by rfl, ?_⟩) (by assumption) ?_
              rotate_left
              · (intro w hSw; (try dsimp only at hSw); (go_simp <;> with_reducible rfl))
              try simp only [Act.put, List.setIfInBounds_toArray, List.set_cons_zero, List.set_cons_succ]
              refine wpAnyH_take (i := 5) (oi := { dst := some 121, op := Op.fieldAddr 89 (Operand.tmp 14) 3, type := 0, pos := "lsq.go:143", after := #[], guard := none }) (v := ?_) rfl (by kernel_rfl) (by kernel_rfl) (by kernel_rfl) (fun _ _ _ h => h) (Or.inl ⟨by rfl, ?_⟩) (by assumption) ?_
              rotate_left
              · (intro w hSw; (try dsimp only at hSw); (go_simp <;> with_reducible rfl))
              try simp only [Act.put, List.setIfInBounds_toArray, List.set_cons_zero, List.set_cons_succ]
              refine wpAnyH_take (i := 6) (oi := { dst := some 122, op := Op.load 3 (Operand.tmp 121), type := 3, pos := "lsq.go:143", after := #[{ on := 5, ground := Go.Ground.data }], guard := none }) (v := ?_) rfl (by kernel_rfl) (by kernel_rfl) (by kernel_rfl) (fun _ _ _ h => h) (Or.inl ⟨by rfl, ?_⟩) (by assumption) ?_
              rotate_left
              · (intro w hSw; (try dsimp only at hSw); (go_simp <;> with_reducible rfl))
              try simp only [Act.put, List.setIfInBounds_toArray, List.set_cons_zero, List.set_cons_succ]
              refine wpAnyH_take (i := 7) (oi := { dst := some 123, op := Op.binOp BinOp.sub 3 (Operand.tmp 120) (Operand.tmp 122) 3, type := 3, pos := "lsq.go:143", after := #[{ on := 4, ground := Go.Ground.data }, { on := 6, ground := Go.Ground.data }], guard := none }) (v := ?_) rfl (by kernel_rfl) (by kernel_rfl) (by kernel_rfl) (fun _ _ _ h => h) (Or.inl ⟨by rfl, ?_⟩) (by assumption) ?_
              rotate_left
              · (intro w hSw; (try dsimp only at hSw); (go_simp <;> with_reducible rfl))
              try simp only [Act.put, List.setIfInBounds_toArray, List.set_cons_zero, List.set_cons_succ]
              refine wpAnyH_take (i := 8) (oi := { dst := some 124, op := Op.binOp BinOp.mul 3 (Operand.const (Value.int IntKind.i64 8)) (Operand.tmp 123) 3, type := 3, pos := "lsq.go:143", after := #[{ on := 7, ground := Go.Ground.data }], guard := none }) (v := ?_) rfl (by kernel_rfl) (by kernel_rfl) (by kernel_rfl) (fun _ _ _ h => h) (Or.inl ⟨by rfl, ?_⟩) (by assumption) ?_
              rotate_left
              · (intro w hSw; (try dsimp only at hSw); (go_simp <;> with_reducible rfl))
              try simp only [Act.put, List.setIfInBounds_toArray, List.set_cons_zero, List.set_cons_succ]
              refine wpAnyH_take (i := 9) (oi := { dst := some 125, op := Op.binOp BinOp.shr 38 (Operand.tmp 119) (Operand.tmp 124) 3, type := 38, pos := "lsq.go:143", after := #[{ on := 3, ground := Go.Ground.data }, { on := 8, ground := Go.Ground.data }], guard := none }) (v := ?_) rfl (by kernel_rfl) (by kernel_rfl) (by kernel_rfl) (fun _ _ _ h => h) (Or.inl ⟨by rfl, ?_⟩) (by assumption) ?_
              rotate_left
              · (intro w hSw; (try dsimp only at hSw); (go_simp <;> with_reducible rfl))
              try simp only [Act.put, List.setIfInBounds_toArray, List.set_cons_zero, List.set_cons_succ]
              refine wpAnyH_take (i := 10) (oi := { dst := some 126, op := Op.binOp BinOp.and 38 (Operand.tmp 125) (Operand.const (Value.int IntKind.u32 255)) 38, type := 38, pos := "lsq.go:143", after := #[{ on := 9, ground := Go.Ground.data }], guard := none }) (v := ?_) rfl (by kernel_rfl) (by kernel_rfl) (by kernel_rfl) (fun _ _ _ h => h) (Or.inl ⟨by rfl, ?_⟩) (by assumption) ?_
              rotate_left
              · (intro w hSw; (try dsimp only at hSw); (go_simp <;> with_reducible rfl))
              try simp only [Act.put, List.setIfInBounds_toArray, List.set_cons_zero, List.set_cons_succ]
              refine wpAnyH_take (i := 11) (oi := { dst := some 127, op := Op.move (Operand.tmp 11), type := 3, pos := "lsq.go:143", after := #[], guard := none }) (v := ?_) rfl (by kernel_rfl) (by kernel_rfl) (by kernel_rfl) (fun _ _ _ h => h) (Or.inl ⟨by rfl, ?_⟩) (by assumption) ?_
              rotate_left
              · (intro w hSw; (try dsimp only at hSw); (go_simp <;> with_reducible rfl))
              try simp only [Act.put, List.setIfInBounds_toArray, List.set_cons_zero, List.set_cons_succ]
              refine wpAnyH_take (i := 12) (oi := { dst := some 128, op := Op.binOp BinOp.mul 3 (Operand.const (Value.int IntKind.i64 8)) (Operand.tmp 127) 3, type := 3, pos := "lsq.go:143", after := #[{ on := 11, ground := Go.Ground.data }], guard := none }) (v := ?_) rfl (by kernel_rfl) (by kernel_rfl) (by kernel_rfl) (fun _ _ _ h => h) (Or.inl ⟨by rfl, ?_⟩) (by assumption) ?_
              rotate_left
              · (intro w hSw; (try dsimp only at hSw); (go_simp <;> with_reducible rfl))
              try simp only [Act.put, List.setIfInBounds_toArray, List.set_cons_zero, List.set_cons_succ]
              refine wpAnyH_take (i := 13) (oi := { dst := some 129, op := Op.binOp BinOp.shl 38 (Operand.tmp 126) (Operand.tmp 128) 3, type := 38, pos := "lsq.go:143", after := #[{ on := 10, ground := Go.Ground.data }, { on := 12, ground := Go.Ground.data }], guard := none }) (v := ?_) rfl (by kernel_rfl) (by kernel_rfl) (by kernel_rfl) (fun _ _ _ h => h) (Or.inl ⟨by rfl, ?_⟩) (by assumption) ?_
              rotate_left
              · (intro w hSw; (try dsimp only at hSw); (go_simp <;> with_reducible rfl))
              try simp only [Act.put, List.setIfInBounds_toArray, List.set_cons_zero, List.set_cons_succ]
              refine wpAnyH_ready (rs := [1]) (by kernel_rfl) (by simp) ?_
              refine AllReadyH.cons (o := { dst := some 117, op := Op.load 38 (Operand.tmp 116), type := 38, pos := "lsq.go:143", after := #[{ on := 0, ground := Go.Ground.data }], guard := none }) rfl (fun K hK => ?_) ?_
              · go_simp
                refine hK.out _ _ ?_ (fun hHeld2 => ?_)
                · exact hHeld
                clear hK K hHeld
                have hHeld := hHeld2
                clear hHeld2
                try simp only [Act.put, List.setIfInBounds_toArray, List.set_cons_zero, List.set_cons_succ]
                refine wpAnyH_take (i := 14) (oi := { dst := some 130, op := Op.binOp BinOp.or 38 (Operand.tmp 117) (Operand.tmp 129) 38, type := 38, pos := "lsq.go:143", after := #[{ on := 1, ground := Go.Ground.data }, { on := 13, ground := Go.Ground.data }], guard := none }) (v := ?_) rfl (by kernel_rfl) (by kernel_rfl) (by kernel_rfl) (fun _ _ _ h => h) (Or.inl ⟨by rfl, ?_⟩) (by assumption) ?_
                rotate_left
                · (intro w hSw; (try dsimp only at hSw); (go_simp <;> with_reducible rfl))
                try simp only [Act.put, List.setIfInBounds_toArray, List.set_cons_zero, List.set_cons_succ]
                refine wpAnyH_take (i := 15) (oi := { dst := some 131, op := Op.fieldAddr 47 (Operand.tmp 9) 2, type := 0, pos := "lsq.go:143", after := #[{ on := 0, ground := Go.Ground.phase }, { on := 1, ground := Go.Ground.phase }, { on := 2, ground := Go.Ground.phase }, { on := 3, ground := Go.Ground.phase }, { on := 4, ground := Go.Ground.phase }, { on := 5, ground := Go.Ground.phase }, { on := 6, ground := Go.Ground.phase }, { on := 7, ground := Go.Ground.phase }, { on := 8, ground := Go.Ground.phase }, { on := 9, ground := Go.Ground.phase }, { on := 10, ground := Go.Ground.phase }, { on := 11, ground := Go.Ground.phase }, { on := 12, ground := Go.Ground.phase }, { on := 13, ground := Go.Ground.phase }, { on := 14, ground := Go.Ground.phase }], guard := none }) (v := ?_) rfl (by kernel_rfl) (by kernel_rfl) (by kernel_rfl) (fun _ _ _ h => h) (Or.inl ⟨by rfl, ?_⟩) (by assumption) ?_
                rotate_left
                · (intro w hSw; (try dsimp only at hSw); (go_simp <;> with_reducible rfl))
                try simp only [Act.put, List.setIfInBounds_toArray, List.set_cons_zero, List.set_cons_succ]
                refine wpAnyH_ready (rs := [16]) (by kernel_rfl) (by simp) ?_
                refine AllReadyH.cons (o := { dst := none, op := Op.store 38 (Operand.tmp 131) (Operand.tmp 130), type := 0, pos := "lsq.go:143", after := #[{ on := 15, ground := Go.Ground.data }, { on := 14, ground := Go.Ground.data }, { on := 0, ground := Go.Ground.phase }, { on := 1, ground := Go.Ground.phase }, { on := 2, ground := Go.Ground.phase }, { on := 3, ground := Go.Ground.phase }, { on := 4, ground := Go.Ground.phase }, { on := 5, ground := Go.Ground.phase }, { on := 6, ground := Go.Ground.phase }, { on := 7, ground := Go.Ground.phase }, { on := 8, ground := Go.Ground.phase }, { on := 9, ground := Go.Ground.phase }, { on := 10, ground := Go.Ground.phase }, { on := 11, ground := Go.Ground.phase }, { on := 12, ground := Go.Ground.phase }, { on := 13, ground := Go.Ground.phase }, { on := 14, ground := Go.Ground.phase }], guard := none }) rfl (fun K hK => ?_) ?_
                · go_simp
                  refine hK.out _ _ ?_ (fun hHeld2 => ?_)
                  · exact HKP.out _ _ hHeld
                  clear hK K hHeld
                  have hHeld := hHeld2
                  clear hHeld2
                  try simp only [Act.put, List.setIfInBounds_toArray, List.set_cons_zero, List.set_cons_succ]
                  refine wpAnyH_done (by kernel_rfl) ?_ _
                  go_wp2_with fail
                  go_roundw
                  case rel =>
                    refine ⟨b + 1, by simp, by rw [HZA.out]; omega, fun t ht => ?_, (HK7.out.set 2 (by decide) _).ext (fun o ho => ?_), HT7.out.set rfl 2 _⟩
                    · rcases Nat.lt_or_ge t b with q | q
                      · exact HNO.out t q
                      · obtain rfl : t = b := by omega
                        exact HLACK.out
                    · match o, ho with
                      | 0, _ => rfl
                      | 1, _ => exact congrArg (fun x : Nat => Value.int .i64 x) HG1.out
                      | 2, _ => exact congrArg (fun x : Int => Value.int .u32 x) HG3.out
                  case measure =>
                    simp [intOf]
                    omega
                exact AllReadyH.nil
              exact AllReadyH.nil
        · obtain rfl : b = za := by omega
          have hcA := HT.out.cells HCA.out (by omega)
          have HCAW := Hid.in hcA
          have bwr := HBY.out.trans (HT.out.below (by omega) (fun q e => by omega))
          have HBWR := Hid.in bwr
          have r0 := HCL.out.cell 0 (by decide)
          have r1 := HCL.out.cell 1 (by decide)
          have r2 := HCL.out.cell 2 (by decide)
          simp only [fnd] at r0 r1 r2
          have hc := hcA
          have c0 := hc.cell 0 (by decide)
          have c1 := hc.cell 1 (by decide)
          have c2 := hc.cell 2 (by decide)
          have f0 := hc.free 0
          have f1 := hc.free 1
          have f2 := hc.free 2
          simp only [fnd] at c0 c1 c2
          clear hc
          clear hcA bwr
          have HFD : Hid (S.found j bold = .agg #[.bool false, .int .i64 (gmN l b), .int .u32 (S.gvN (S.at j).a l b)]) := by
            show S.found j bold = _
            unfold RS.found RS.lacks
            rw [HUF.out, HL.out, HZA.out, any_f HNO.out]
            rfl
          go_wp2
          obtain ⟨z, zb⟩ := wrote3 HCAW.out HBWR.out (.bool false) (.int .i64 (gmN l b)) (.int .u32 (S.gvN (S.at j).a l b))
          refine bodyPost_ret (results_rf Tryd.results15 _ _ w.heap.size _ _ _ _ rfl rfl (z.cell 0 (by decide)) (z.cell 1 (by decide)) (z.cell 2 (by decide))) rfl ⟨?_, zb⟩
          rw [HFD.out]
          rfl
end Go.Proofs.YthbffonedpeeiaaDoor
