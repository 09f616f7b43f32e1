/-
  THE ANSWER: Address of a store.
-/
import Derived.Test.YthbffonedpeeiaaDoorJl
namespace Go.Proofs.YthbffonedpeeiaaDoor
open Go Go.RowKit
set_option maxRecDepth 100000 in
set_option maxHeartbeats 6000000 in
theorem raddr_store (B p : Nat) (v : Value) (S : RS) (seq : Int) (i a z : Nat) (w : World) (k : Rm w B p v S) (hr : First (S.isN seq) S.on.length i) (hi : i < S.on.length) (hpl : (S.at i).pl = false) (hrt : (S.at i).rt = false) (hst : (S.at i).st = true) (ha : a < 4294967296) (hm : (z = 1 ∨ z = 2 ∨ z = 4) ∧ a % z = 0) : Calls Tryd.prog 11 #[.pointer (some ⟨p, 0, none⟩), .int .i64 seq, .int .i64 a, .int .i64 z] w fun e w' => ∃ r, e = .returned (.tuple #[.int .i64 ((S.set i ((S.at i).put a z)).num r), .int .i64 0]) ∧ First ((S.set i ((S.at i).put a z)).bads i a z seq) S.on.length r ∧ RStep w w' B p v v (S.set i ((S.at i).put a z)) := by
  have HC := Hid.in (rfind_any B p v S seq w k)
  have HR := Hid.in hr
  have hs := k.small.1
  have hmul : (i : Int) * 13 = ((i * 13 : Nat) : Int) := by omega
  have hneg : ¬ (i : Int) < 0 := by omega
  have hnd : decide ((i : Int) < 0) = false := decide_eq_false hneg
  obtain ⟨g, cap, hv, hpg, -, -, hrow⟩ := k.rows i hi
  obtain ⟨x1, x2, x3, x4⟩ := hrow w (Below.refl _ _)
  obtain ⟨-, y1, y2, y3, y4, -, -, -, y12⟩ := rrow_cells x2
  rw [hst] at y1
  rw [hpl] at y2
  rw [hrt] at y12
  have f2 := x3 (i * 13 + 2)
  have f3 := x3 (i * 13 + 3)
  have f4 := x3 (i * 13 + 4)
  have HV := Hid.in hv
  have hpg2 : g ≠ p := Ne.symm hpg
  have HS3 := Hid.in fun ai zi h1 h2 => k.put3 hv i hi a z ha hm.1 ai zi h1 h2
  obtain ⟨ai, hai⟩ : ∃ ai : Int, (a : Int) = ai := ⟨_, rfl⟩
  obtain ⟨zi, hzi⟩ : ∃ zi : Int, (z : Int) = zi := ⟨_, rfl⟩
  obtain ⟨az, haz⟩ : ∃ az : Int, ai + zi = az := ⟨_, rfl⟩
  have hz : zi = 1 ∨ zi = 2 ∨ zi = 4 := by omega
  have hwaz : IntKind.i64.wrap (ai + zi) = az := by
    simp only [IntKind.wrap_i64]
    omega
  have hwaz2 : wrap64 (ai + zi) = az := by
    unfold wrap64
    omega
  have ht : ai.tmod zi = 0 := by
    rw [Int.tmod_eq_emod_of_nonneg (by omega), ← hai, ← hzi]
    have := hm.2
    omega
  have hst' : ((S.at i).put a z).st = true := hst
  have hsl : (S.set i ((S.at i).put a z)).on.length = S.on.length := S.set_len i _
  have hti : (S.set i ((S.at i).put a z)).at i = (S.at i).put a z := S.at_set i _ hi
  rw [hai, hzi]
  have HAI := Hid.in hai
  have HZI := Hid.in hzi
  have HAZ := Hid.in haz
  obtain ⟨m, hmm⟩ : ∃ m, S.on.length = m := ⟨_, rfl⟩
  rw [hmm] at x1 hs hi hsl
  rw [hmm]
  obtain ⟨T, hT⟩ : ∃ T, S.set i ((S.at i).put a z) = T := ⟨_, rfl⟩
  rw [hT] at HS3 hsl hti
  rw [hT]
  have HTI := Hid.in (show (T.at i).st = true by rw [hti]; exact hst')
  have HSL := Hid.in hsl
  have HVM : Hid (v = .slice (some ⟨g, 0, none⟩) m cap) := by rw [← hmm]; exact HV.out
  clear k hr hrow x2 x3 hv hpl hrt hst hai hzi hm ha haz hst' hsl hti hT hmm
  rcases hz with rfl | rfl | rfl
  all_goals
    go_enter Tryd.func11, Tryd.ntmps11
    go_upto_region 9 with (first | (go_at_call 42; refine HC.out.mono ?_; rintro e w2 ⟨r2, rfl, h1, rfl⟩; obtain rfl := h1.uniq HR.out; clear h1))
    have hS := HS3.out _ _ HAI.out HZI.out
    generalize (((w2.setCell ⟨g, i * 13 + 2, none⟩ (.bool true)).setCell ⟨g, i * 13 + 3, none⟩ (.int .i64 ai)).setCell ⟨g, i * 13 + 4, none⟩ (.int .i64 _)) = W at hS ⊢
    clear x1 y1 y2 y3 y4 y12 f2 f3 f4 x4 ht
    have HSS := Hid.in hS
    have HK := Hid.in hS.q
    obtain ⟨hp, -, c1, -⟩ := hS.q.cells
    rw [HVM.out] at c1
    have HC1 := Hid.in c1
    obtain ⟨g', cap', hv', -, -, -, hrow⟩ := hS.q.rows i (by rw [HSL.out]; exact hi)
    rw [HVM.out, HSL.out] at hv'
    cases hv'
    obtain ⟨-, x2, -⟩ := hrow W (Below.refl _ _)
    obtain ⟨-, y1, -⟩ := rrow_cells x2
    rw [HTI.out] at y1
    have hadd : IntKind.i64.wrap ((i : Int) + 1) = ((i + 1 : Nat) : Int) := by
      simp only [IntKind.wrap_i64]
      omega
    clear hS hrow x2
    go_wp2
    clear c1 y1 hadd
    go_loopw [11] (fun u wr => ∃ j : Nat, u = .int .i64 j ∧ i < j ∧ j ≤ m ∧ (∀ t, t < j → T.bads i a z seq t = false) ∧ Below W.heap.size W wr) (fun v _ => 33 - (intOf v).toNat)
    case atStart =>
      refine ⟨i + 1, rfl, by omega, by omega, fun t ht => ?_, Below.refl _ _⟩
      unfold RS.bads
      rw [decide_eq_false (by omega)]
      rfl
    case round =>
      obtain ⟨j, rfl, hij, hj, hno, hbw⟩ := hrel
      have HN := Hid.in hno
      have HBW := Hid.in hbw
      have c1 := (hbw.cell (p := ⟨p, 1, none⟩) hp).trans HC1.out
      have hpw : p < wr.heap.size := Nat.lt_of_lt_of_le hp hbw.size
      clear hno
      by_cases hjm : j < m
      · obtain ⟨g', cap', hv', -, -, -, hrow⟩ := HK.out.rows j (by rw [HSL.out]; exact hjm)
        rw [HVM.out, HSL.out] at hv'
        cases hv'
        obtain ⟨-, x2, -⟩ := hrow wr hbw
        have fit := HK.out.fit j (by rw [HSL.out]; exact hjm)
        obtain ⟨e, he⟩ : ∃ e, T.at j = e := ⟨_, rfl⟩
        have HE := Hid.in he
        rw [he] at x2 fit
        have HX2 := Hid.in x2
        have hmul : (j : Int) * 13 = ((j * 13 : Nat) : Int) := by omega
        have hez : e.z ≤ 4 := by have := fit.z; omega
        have hea := fit.a
        have HBD : Hid (∀ q, e.bad a z seq = q → T.bads i a z seq j = q) := fun q h => by
          unfold RS.bads
          rw [HE.out, decide_eq_true hij, h]
          rfl
        clear hrow x2 he fit hbw
        go_upto_region 15 with (first
          | (refine ld_ent g (j * 13) e HX2.out rfl _ rfl rfl ?_)
          | (refine st_ent e zre rfl wr.heap.size rfl rfl rfl _ _ rfl rfl rfl ?_))
        obtain ⟨Z, hZ, rZ, bZ, hsZ⟩ := rboxed e wr 89
        rw [hZ]
        have HRZ := Hid.in rZ
        have HBZ := Hid.in (HBW.out.trans (bZ.mono HBW.out.size))
        clear hZ rZ bZ c1 hpw
        go_wp2
        go_loopw [13] (fun u wr2 => ∃ b : Nat, u = .int .i64 b ∧ b ≤ e.z ∧ (∀ t, t < b → e.bad1 a z seq t = false) ∧ Z = wr2) (fun v _ => 5 - (intOf v).toNat)
        case atStart => exact ⟨0, rfl, by omega, fun t ht => by omega, rfl⟩
        case round =>
          obtain ⟨b, rfl, hb, hnb, rfl⟩ := hrel
          have HNB := Hid.in hnb
          clear hnb
          obtain ⟨z0, -, -, z3, z4, -, -, z7, -⟩ := rrow_cells0 HRZ.out
          by_cases hbz : b < e.z
          · have hbz' : (b : Int) < (e.z : Int) := by omega
            obtain ⟨lb, hlb⟩ : ∃ lb, e.ld = lb := ⟨_, rfl⟩
            rw [hlb] at z7
            have HLB := Hid.in hlb
            clear hlb
            cases lb
            · have HSF : Hid (e.bad a z seq = false) := by
                show e.bad a z seq = false
                unfold Re.bad
                rw [HLB.out]
                rfl
              go_wp2
              go_roundw
              case rel =>
                refine ⟨j + 1, by simp, by omega, by omega, fun t ht => ?_, HBZ.out⟩
                rcases Nat.lt_or_ge t j with q | q
                · exact HN.out t q
                · obtain rfl : t = j := by omega
                  exact HBD.out _ HSF.out
              case measure =>
                simp [intOf]
                omega
            · have zf := rrow_from HRZ.out b (by omega)
              rw [Nat.zero_add] at zf
              obtain ⟨x, hx⟩ : ∃ x, e.f b = x := ⟨_, rfl⟩
              rw [hx] at zf
              have HX := Hid.in hx
              obtain ⟨ea, hea2⟩ : ∃ ea : Int, (e.a : Int) = ea := ⟨_, rfl⟩
              rw [hea2] at z3
              obtain ⟨ab, hab⟩ : ∃ ab : Int, ea + b = ab := ⟨_, rfl⟩
              have hws : IntKind.i64.wrap (ea + (b : Int)) = ab := by
                simp only [IntKind.wrap_i64]
                omega
              have hws2 : wrap64 (ea + (b : Int)) = ab := by
                unfold wrap64
                omega
              have hA := HAI.out
              have hZ := HZI.out
              have hAZ := HAZ.out
              have k1 : decide (a ≤ e.a + b) = decide (ai ≤ ab) := decide_eq_decide.2 (by omega)
              have k2 : decide (e.a + b < a + z) = decide (ab < az) := decide_eq_decide.2 (by omega)
              have HB1 : Hid (e.bad1 a z seq b = (decide (ai ≤ ab) && (decide (ab < az) && decide (x < seq)))) := by
                show e.bad1 a z seq b = _
                unfold Re.bad1
                rw [k1, k2, hx]
              clear hx hA hZ hAZ k1 k2 hea hea2 hab
              have HNO : Hid (∀ q, e.bad1 a z seq b = q → q = false → ∀ t, t < b + 1 → e.bad1 a z seq t = false) := fun q h1 h2 t ht => by
                rcases Nat.lt_or_ge t b with q | q
                · exact HNB.out t q
                · obtain rfl : t = b := by omega
                  rw [h1, h2]
              by_cases t1 : ai ≤ ab
              · have d1 : decide (ai ≤ ab) = true := decide_eq_true t1
                by_cases t2 : ab < az
                · have d2 : decide (ab < az) = true := decide_eq_true t2
                  by_cases t3 : x < seq
                  · have HS1 : Hid (e.bad1 a z seq b = true) := by
                      show e.bad1 a z seq b = true
                      rw [HB1.out, d1, d2, decide_eq_true t3]
                      rfl
                    go_wp2
                    refine bodyPost_ret (results_tmp2 Tryd.results11 _ _ _) rfl ?_
                    refine ⟨j, ?_, Or.inl ⟨j, hjm, HBD.out _ ?_, HN.out, rfl⟩, HSS.out.trans (RStep.same HK.out HBZ.out)⟩
                    · unfold RS.num
                      rw [if_neg (by omega), Int.toNat_natCast, HE.out]
                      rfl
                    · unfold Re.bad
                      rw [HLB.out, any_t hbz HS1.out]
                      rfl
                  · have d3 : decide (x < seq) = false := decide_eq_false t3
                    have HS1 := Hid.in (HNO.out _ HB1.out (by rw [d1, d2, d3]; rfl))
                    go_wp2
                    go_roundw
                    case rel => exact ⟨b + 1, by simp, by omega, HS1.out, trivial⟩
                    case measure =>
                      simp [intOf]
                      omega
                · have d2 : decide (ab < az) = false := decide_eq_false t2
                  have HS1 := Hid.in (HNO.out _ HB1.out (by rw [d1, d2]; rfl))
                  go_wp2
                  go_roundw
                  case rel => exact ⟨b + 1, by simp, by omega, HS1.out, trivial⟩
                  case measure =>
                    simp [intOf]
                    omega
              · have d1 : decide (ai ≤ ab) = false := decide_eq_false t1
                have HS1 := Hid.in (HNO.out _ HB1.out (by rw [d1]; rfl))
                go_wp2
                go_roundw
                case rel => exact ⟨b + 1, by simp, by omega, HS1.out, trivial⟩
                case measure =>
                  simp [intOf]
                  omega
          · have hbz' : ¬ (b : Int) < (e.z : Int) := by omega
            have hbd : decide ((b : Int) < (e.z : Int)) = false := decide_eq_false hbz'
            have hbd2 : decide (b < e.z) = false := decide_eq_false hbz
            have HSF : Hid (e.bad a z seq = false) := by
              show e.bad a z seq = false
              unfold Re.bad
              rw [any_f (fun t ht => HNB.out t (by omega)), Bool.and_false]
            go_wp2
            go_roundw
            case rel =>
              refine ⟨j + 1, by simp, by omega, by omega, fun t ht => ?_, HBZ.out⟩
              rcases Nat.lt_or_ge t j with q | q
              · exact HN.out t q
              · obtain rfl : t = j := by omega
                exact HBD.out _ HSF.out
            case measure =>
              simp [intOf]
              omega
      · obtain rfl : j = m := by omega
        go_wp2
        refine bodyPost_ret (results_tmp2 Tryd.results11 _ _ _) rfl ?_
        exact ⟨-1, rfl, Or.inr ⟨HN.out, rfl⟩, HSS.out.trans (RStep.same HK.out HBW.out)⟩
end Go.Proofs.YthbffonedpeeiaaDoor
