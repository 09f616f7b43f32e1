/-
  THE ANSWER: Spoil.
-/
import Derived.Test.YthbffonedpeeiaaDoorJi
namespace Go.Proofs.YthbffonedpeeiaaDoor
open Go Go.RowKit
/-- has it a byte of memory, of a line? -/
def Re.spo1 (e : Re) (L : Int) (b : Nat) : Bool := decide (e.f b = -1) && decide ((e.a : Int) - (e.a : Int) % 16 = L)
def Re.spo (e : Re) (L : Int) : Bool := e.ld && (List.range e.z).any (e.spo1 L)
def RS.num (S : RS) (r : Int) : Int := if r = -1 then -1 else (S.at r.toNat).n
set_option maxRecDepth 100000 in
set_option maxHeartbeats 1000000 in
theorem rspoil_any (B p : Nat) (v : Value) (S : RS) (y : Nat) (w : World) (k : Rm w B p v S) (hy : y < 4294967296) : Calls Tryd.prog 26 #[.pointer (some ⟨p, 0, none⟩), .int .i64 y] w fun e w' => ∃ r, e = .returned (.int .i64 (S.num r)) ∧ First (fun i => (S.at i).spo ((y : Int) - (y : Int) % 16)) S.on.length r ∧ Below w.heap.size w w' := by
  obtain ⟨hp, -, c1, -⟩ := k.cells
  have hs := k.small.1
  obtain ⟨q, cap, hv, -, -⟩ := own_rrow k.l
  rw [hv] at c1
  have HK := Hid.in k
  have HV := Hid.in hv
  obtain ⟨m, hm⟩ : ∃ m, S.on.length = m := ⟨_, rfl⟩
  have HM := Hid.in hm
  rw [hm] at c1 hs ⊢
  have HC1 := Hid.in c1
  obtain ⟨L, hL⟩ : ∃ L : Int, (y : Int) - (y : Int) % 16 = L := ⟨_, rfl⟩
  have hwL : IntKind.i64.wrap L = L := by
    simp only [IntKind.wrap_i64]
    omega
  rw [hL]
  clear k hv hm
  go_enter Tryd.func26, Tryd.ntmps26
  go_wp2
  clear c1
  go_loopw [5] (fun u wr => ∃ i : Nat, u = .int .i64 i ∧ i ≤ m ∧ (∀ j, j < i → (S.at j).spo L = false) ∧ Below w.heap.size w wr) (fun v _ => 33 - (intOf v).toNat)
  case atStart => exact ⟨0, rfl, by omega, fun j hj => by omega, Below.refl _ _⟩
  case round =>
    obtain ⟨i, rfl, hi, hno, hbw⟩ := hrel
    have HN := Hid.in hno
    have HBW := Hid.in hbw
    have c1 := (hbw.cell (p := ⟨p, 1, none⟩) hp).trans HC1.out
    have hpw : p < wr.heap.size := Nat.lt_of_lt_of_le hp hbw.size
    clear hno
    by_cases him : i < m
    · obtain ⟨g, cap', hv', -, -, -, hrow⟩ := HK.out.rows i (by rw [HM.out]; exact him)
      rw [HV.out] at hv'
      cases hv'
      obtain ⟨-, x2, -⟩ := hrow wr hbw
      have fit := HK.out.fit i (by rw [HM.out]; exact him)
      obtain ⟨e, he⟩ : ∃ e, S.at i = e := ⟨_, rfl⟩
      have HE := Hid.in he
      rw [he] at x2 fit
      have HX2 := Hid.in x2
      have hmul : (i : Int) * 13 = ((i * 13 : Nat) : Int) := by omega
      have hez : e.z ≤ 4 := by have := fit.z; omega
      have hea := fit.a
      clear hrow x2 he fit hbw
      go_upto_region 6 with (first
        | (refine ld_ent g (i * 13) e HX2.out rfl _ rfl rfl ?_)
        | (refine st_ent e zre rfl wr.heap.size rfl rfl rfl _ _ rfl rfl rfl ?_))
      obtain ⟨Z, hZ, rZ, bZ, hsZ⟩ := rboxed e wr 89
      rw [hZ]
      have HRZ := Hid.in rZ
      have HBZ := Hid.in (HBW.out.trans (bZ.mono HBW.out.size))
      have HC1Z : Hid (Z.cell? ⟨p, 1, none⟩ = some (.slice (some ⟨g, 0, none⟩) m cap)) := (HBZ.out.cell (p := ⟨p, 1, none⟩) hp).trans HC1.out
      clear hZ rZ bZ c1 hpw
      go_wp2
      go_loopw [7] (fun u wr2 => ∃ b : Nat, u = .int .i64 b ∧ b ≤ e.z ∧ (∀ t, t < b → e.spo1 L t = false) ∧ Z = wr2) (fun v _ => 5 - (intOf v).toNat)
      case atStart => exact ⟨0, rfl, by omega, fun t ht => by omega, rfl⟩
      case round =>
        obtain ⟨b, rfl, hb, hnb, rfl⟩ := hrel
        have HNB := Hid.in hnb
        clear hnb
        obtain ⟨z0, -, -, z3, z4, -, -, z7, -⟩ := rrow_cells0 HRZ.out
        by_cases hbz : b < e.z
        · have hbz' : (b : Int) < (e.z : Int) := by omega
          obtain ⟨lb, hlb⟩ : ∃ lb, e.ld = lb := ⟨_, rfl⟩
          rw [hlb] at z7
          have HLB := Hid.in hlb
          clear hlb
          cases lb
          · have HSF : Hid (e.spo L = false) := by
              show e.spo L = false
              unfold Re.spo
              rw [HLB.out]
              rfl
            go_wp2
            go_roundw
            case rel =>
              refine ⟨i + 1, by simp, by omega, fun t ht => ?_, HBZ.out⟩
              rcases Nat.lt_or_ge t i with q | q
              · exact HN.out t q
              · obtain rfl : t = i := by omega
                rw [HE.out]
                exact HSF.out
            case measure =>
              simp [intOf]
              omega
          · have zf := rrow_from HRZ.out b (by omega)
            rw [Nat.zero_add] at zf
            obtain ⟨x, hx⟩ : ∃ x, e.f b = x := ⟨_, rfl⟩
            rw [hx] at zf
            have HX := Hid.in hx
            obtain ⟨ea, hea2⟩ : ∃ ea : Int, (e.a : Int) = ea := ⟨_, rfl⟩
            rw [hea2] at z3
            have HEA := Hid.in hea2
            obtain ⟨lq, hlq⟩ : ∃ lq, ea - ea % 16 = lq := ⟨_, rfl⟩
            have hws : IntKind.i64.wrap lq = lq := by
              simp only [IntKind.wrap_i64]
              omega
            have hws2 : wrap64 (ea - ea.tmod 16) = lq := by
              unfold wrap64
              rw [Int.tmod_eq_emod_of_nonneg (by omega)]
              omega
            have HLQ := Hid.in hlq
            clear hx
            by_cases hx1 : x = -1
            · subst hx1
              by_cases hl : lq = L
              · have hl2 : (lq == L) = true := by simpa using hl
                have HS1 : Hid (e.spo1 L b = true) := by
                  show e.spo1 L b = true
                  unfold Re.spo1
                  rw [HX.out, HEA.out, HLQ.out, decide_eq_true hl]
                  rfl
                clear hea hea2
                go_wp2
                go_ret
                refine ⟨i, ?_, Or.inl ⟨i, him, ?_, HN.out, rfl⟩, HBZ.out⟩
                · unfold RS.num
                  rw [if_neg (by omega), Int.toNat_natCast, HE.out]
                  rfl
                · show (S.at i).spo L = true
                  rw [HE.out]
                  unfold Re.spo
                  rw [HLB.out, any_t hbz HS1.out]
                  rfl
              · have hl2 : (lq == L) = false := by simpa using hl
                have HS1 : Hid (e.spo1 L b = false) := by
                  show e.spo1 L b = false
                  unfold Re.spo1
                  rw [HX.out, HEA.out, HLQ.out, decide_eq_false hl]
                  rfl
                clear hea hea2
                go_wp2
                go_roundw
                case rel =>
                  refine ⟨b + 1, by simp, by omega, fun t ht => ?_, trivial⟩
                  rcases Nat.lt_or_ge t b with q | q
                  · exact HNB.out t q
                  · obtain rfl : t = b := by omega
                    exact HS1.out
                case measure =>
                  simp [intOf]
                  omega
            · have hx2 : (x == -1) = false := by simpa using hx1
              have HS1 : Hid (e.spo1 L b = false) := by
                show e.spo1 L b = false
                unfold Re.spo1
                rw [HX.out, decide_eq_false hx1]
                rfl
              clear hea hea2
              go_wp2
              go_roundw
              case rel =>
                refine ⟨b + 1, by simp, by omega, fun t ht => ?_, trivial⟩
                rcases Nat.lt_or_ge t b with q | q
                · exact HNB.out t q
                · obtain rfl : t = b := by omega
                  exact HS1.out
              case measure =>
                simp [intOf]
                omega
        · have hbz' : ¬ (b : Int) < (e.z : Int) := by omega
          have hbd : decide ((b : Int) < (e.z : Int)) = false := decide_eq_false hbz'
          have hbd2 : decide (b < e.z) = false := decide_eq_false hbz
          have HSF : Hid (e.spo L = false) := by
            show e.spo L = false
            unfold Re.spo
            rw [any_f (fun t ht => HNB.out t (by omega)), Bool.and_false]
          go_wp2
          go_roundw
          case rel =>
            refine ⟨i + 1, by simp, by omega, fun t ht => ?_, HBZ.out⟩
            rcases Nat.lt_or_ge t i with q | q
            · exact HN.out t q
            · obtain rfl : t = i := by omega
              rw [HE.out]
              exact HSF.out
          case measure =>
            simp [intOf]
            omega
    · obtain rfl : i = m := by omega
      go_wp2
      go_ret
      exact ⟨-1, rfl, Or.inr ⟨HN.out, rfl⟩, HBW.out⟩
end Go.Proofs.YthbffonedpeeiaaDoor
