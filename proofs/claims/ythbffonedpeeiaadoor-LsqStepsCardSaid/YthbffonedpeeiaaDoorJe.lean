/-
  THE ANSWER: source, without.
-/
import Derived.Test.YthbffonedpeeiaaDoorJd
namespace Go.Proofs.YthbffonedpeeiaaDoor
open Go Go.RowKit
theorem rrow_cells0 {x : World} {g : Nat} {e : Re} (h : x.rangeAt g 0 e.vs) : x.cell? ⟨g, 0, none⟩ = some (.int .i64 e.n) ∧ x.cell? ⟨g, 1, none⟩ = some (.bool e.st) ∧ x.cell? ⟨g, 2, none⟩ = some (.bool e.pl) ∧ x.cell? ⟨g, 3, none⟩ = some (.int .i64 e.a) ∧ x.cell? ⟨g, 4, none⟩ = some (.int .i64 e.z) ∧ x.cell? ⟨g, 5, none⟩ = some (.bool e.hv) ∧ x.cell? ⟨g, 6, none⟩ = some (.int .u32 e.d) ∧ x.cell? ⟨g, 7, none⟩ = some (.bool e.ld) ∧ x.cell? ⟨g, 12, none⟩ = some (.bool e.rt) :=
  ⟨h 0 _ rfl, h 1 _ rfl, h 2 _ rfl, h 3 _ rfl, h 4 _ rfl, h 5 _ rfl, h 6 _ rfl, h 7 _ rfl, h 12 _ rfl⟩
def RS.src (S : RS) (y : Nat) (i : Nat) : Bool := (S.at i).st && ((S.at i).pl && decide ((S.at i).a ≤ y ∧ y < (S.at i).a + (S.at i).z))
set_option maxRecDepth 100000 in
set_option maxHeartbeats 400000 in
theorem rsource_any (B p : Nat) (v : Value) (S : RS) (i y : Nat) (w : World) (k : Rm w B p v S) (hi : i ≤ S.on.length) : Calls Tryd.prog 48 #[.pointer (some ⟨p, 0, none⟩), .int .i64 i, .int .i64 y] w fun e w' => e = .returned (.int .i64 (lastI (S.src y) i)) ∧ Below w.heap.size w w' := by
  have hs := k.small.1
  have HK := Hid.in k
  clear k
  go_enter Tryd.func48, Tryd.ntmps48
  go_wp2
  go_loopw [7] (fun u wr => ∃ j : Nat, u = .int .i64 ((j : Int) - 1) ∧ j ≤ i ∧ lastI (S.src y) i = lastI (S.src y) j ∧ Below w.heap.size w wr) (fun v _ => (intOf v + 1).toNat)
  case atStart => exact ⟨i, rfl, Nat.le_refl _, rfl, Below.refl _ _⟩
  case round =>
    obtain ⟨j, rfl, hj, hlast, hbw⟩ := hrel
    have HL := Hid.in hlast
    have HBW := Hid.in hbw
    clear hlast
    by_cases h0 : 0 < j
    · obtain ⟨j, rfl⟩ : ∃ j', j = j' + 1 := ⟨j - 1, by omega⟩
      have hjl : j < S.on.length := by omega
      obtain ⟨g, cap, hv, -, hc1, hc2, hrow⟩ := HK.out.rows j hjl
      obtain ⟨x1, x2, -, x4⟩ := hrow wr hbw
      have fit := HK.out.fit j hjl
      have HX2 := Hid.in x2
      have hmul : (j : Int) * 13 = ((j * 13 : Nat) : Int) := by omega
      have hj1 : ((j + 1 : Nat) : Int) - 1 = j := by omega
      rw [hj1]
      have HLN : Hid (lastI (S.src y) (j + 1) = if S.src y j then (j : Int) else lastI (S.src y) j) := rfl
      obtain ⟨e, he⟩ : ∃ e, S.at j = e := ⟨_, rfl⟩
      have HE := Hid.in he
      rw [he] at HX2 fit
      have hea := fit.a
      have hez : e.z ≤ 4 := by have := fit.z; omega
      clear hrow x2 hbw he fit hv
      go_upto_region 5 with (first
        | (refine ld_ent g (j * 13) e HX2.out rfl _ rfl rfl ?_)
        | (refine st_ent e zre rfl wr.heap.size rfl rfl rfl _ _ rfl rfl rfl ?_))
      obtain ⟨Y, hY, rY, bY, hsY⟩ := rboxed e wr 89
      rw [hY]
      obtain ⟨-, y1, y2, y3, y4, -⟩ := rrow_cells0 rY
      have HBY := Hid.in (HBW.out.trans (bY.mono HBW.out.size))
      have hwr : IntKind.i64.wrap ((e.a : Int) + (e.z : Int)) = (e.a : Int) + (e.z : Int) := by
        simp only [IntKind.wrap_i64]
        omega
      have HSR : Hid (S.src y j = (e.st && (e.pl && decide (e.a ≤ y ∧ y < e.a + e.z)))) := by
        show S.src y j = _
        unfold RS.src
        rw [HE.out]
      clear hY rY bY x1 x4
      generalize e.st = sb at y1 HSR
      generalize e.pl = pb at y2 HSR
      cases sb
      · go_wp2
        go_roundw
        case rel => exact ⟨j, rfl, by omega, by rw [HL.out, HLN.out, HSR.out]; rfl, HBY.out⟩
        case measure => simp [intOf]
      · cases pb
        · go_wp2
          go_roundw
          case rel => exact ⟨j, rfl, by omega, by rw [HL.out, HLN.out, HSR.out]; rfl, HBY.out⟩
          case measure => simp [intOf]
        · obtain ⟨ea, hea2⟩ : ∃ ea : Int, (e.a : Int) = ea := ⟨_, rfl⟩
          obtain ⟨ez, hez2⟩ : ∃ ez : Int, (e.z : Int) = ez := ⟨_, rfl⟩
          rw [hea2] at y3 hwr
          rw [hez2] at y4 hwr
          by_cases h1 : e.a ≤ y
          · have h1' : ea ≤ (y : Int) := by omega
            have h1d : decide (ea ≤ (y : Int)) = true := decide_eq_true h1'
            by_cases h2 : y < e.a + e.z
            · have h2' : (y : Int) < ea + ez := by omega
              have h2d : decide ((y : Int) < ea + ez) = true := decide_eq_true h2'
              have HH := Hid.in (And.intro h1 h2)
              clear h1 h2 hea hez hea2 hez2 h1' h2'
              go_wp2
              go_ret
              refine ⟨?_, HBY.out⟩
              rw [HL.out, HLN.out, HSR.out, decide_eq_true HH.out]
              rfl
            · have h2' : ¬ (y : Int) < ea + ez := by omega
              have h2d : decide ((y : Int) < ea + ez) = false := decide_eq_false h2'
              have HH := Hid.in h2
              clear h1 h2 hea hez hea2 hez2 h1' h2'
              go_wp2
              go_roundw
              case rel => exact ⟨j, rfl, by omega, by rw [HL.out, HLN.out, HSR.out, decide_eq_false (fun q => HH.out q.2)]; rfl, HBY.out⟩
              case measure => simp [intOf]
          · have h1' : ¬ ea ≤ (y : Int) := by omega
            have h1d : decide (ea ≤ (y : Int)) = false := decide_eq_false h1'
            have HH := Hid.in h1
            clear h1 hea hez hea2 hez2 h1'
            go_wp2
            go_roundw
            case rel => exact ⟨j, rfl, by omega, by rw [HL.out, HLN.out, HSR.out, decide_eq_false (fun q => HH.out q.1)]; rfl, HBY.out⟩
            case measure => simp [intOf]
    · obtain rfl : j = 0 := by omega
      go_wp2
      go_ret
      exact ⟨by rw [HL.out]; rfl, HBW.out⟩
end Go.Proofs.YthbffonedpeeiaaDoor
