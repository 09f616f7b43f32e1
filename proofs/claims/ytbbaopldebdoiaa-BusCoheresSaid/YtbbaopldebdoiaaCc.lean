/-
  CACHE: State, isLine, mayStand, part, number, put.
-/
import Derived.Test.YtbbaopldebdoiaaCb
namespace Go.Proofs.Ytbbaopldebdoiaa
open Go Go.RowKit
set_option maxRecDepth 100000 in
set_option maxHeartbeats 1000000 in
theorem state_at (B p h c : Nat) (V : Nat → Value) (S : CS) (a i : Nat) (w : World) (k : Ch w B p h c V S) (ha : a < 4294967296) (hA : At (S.set (S.of a)) a i) : Calls Try.prog 18 #[.pointer (some ⟨p, 0, none⟩), .int .u32 a] w fun e w' => e = .returned (.int .i64 (((S.set (S.of a)).getD i l0).s : Nat)) ∧ Below w.heap.size w w' := by
  have HK := Hid.in k
  have hp := k.c.here
  have hO := S.of_lt a k.small.2.2.1
  have HO := Hid.in hO
  obtain ⟨q, cap, hv, hcap, hel⟩ := own_lines (k.l _ hO)
  obtain ⟨g, rfl, -, hg, -, -, -, d1, -⟩ := hel i hA.1
  have HD := Hid.in (And.intro hg d1)
  have HV := Hid.in hv
  have hil := hA.1
  have h4 := k.four _ hO
  obtain ⟨m, hm⟩ : ∃ m, (S.set (S.of a)).length = m := ⟨_, rfl⟩
  have HM := Hid.in hm
  rw [hm] at hil h4
  obtain ⟨r, hr⟩ : ∃ r, S.of a = r := ⟨_, rfl⟩
  have HR := Hid.in hr
  have HA := Hid.in hA
  obtain ⟨s, hs⟩ : ∃ s, ((S.set (S.of a)).getD i l0).s = s := ⟨_, rfl⟩
  have HS := Hid.in hs
  rw [hs]
  clear hA k hO hel hcap hv hm d1 hg hr hs
  go_enter Try.func18, Try.ntmps18
  go_wp2_with (first
    | (go_at_call 29
       have HT := HX.out
       rw [← HM.out, ← HV.out]
       refine (find_at B _ (S.set (S.of a)) a i _ (HT.l _ HO.out) (HT.four _ HO.out) ha HA.out).mono ?_
       rintro e w2 ⟨rfl, rfl⟩
       have d1 := (HB.out.cell (p := ⟨g, i * 18 + 1, none⟩) HD.out.1).trans HD.out.2
       rw [HS.out] at d1
       rw [HV.out, HM.out]
       clear HT)
    | (go_at_call 28
       refine (setOf_any B p h c V S a _ HK.out ha).mono ?_
       rintro e w1 ⟨rfl, hb⟩
       have k1 := HK.out.below hb
       have HX := Hid.in k1
       have ch := k1.v.cell _ HO.out
       have hh1 := k1.v.here
       have HB := Hid.in hb
       rw [HR.out] at ch ⊢
       rw [← HR.out, HV.out, HM.out, HR.out] at ch
       clear k1 hb))
  go_ret
  exact ⟨rfl, HB.out⟩
set_option maxRecDepth 100000 in
set_option maxHeartbeats 1000000 in
theorem state_no (B p h c : Nat) (V : Nat → Value) (S : CS) (a : Nat) (w : World) (k : Ch w B p h c V S) (ha : a < 4294967296) (hA : No (S.set (S.of a)) a) : Calls Try.prog 18 #[.pointer (some ⟨p, 0, none⟩), .int .u32 a] w fun e w' => e = .returned (.int .i64 0) ∧ Below w.heap.size w w' := by
  have HK := Hid.in k
  have hp := k.c.here
  have hO := S.of_lt a k.small.2.2.1
  have HO := Hid.in hO
  have HA := Hid.in hA
  obtain ⟨q, cap, hv, hcap, hel⟩ := own_lines (k.l _ hO)
  have HV := Hid.in hv
  obtain ⟨m, hm⟩ : ∃ m, (S.set (S.of a)).length = m := ⟨_, rfl⟩
  have HM := Hid.in hm
  obtain ⟨r, hr⟩ : ∃ r, S.of a = r := ⟨_, rfl⟩
  have HR := Hid.in hr
  clear hA k hO hel hcap hv hm hr
  go_enter Try.func18, Try.ntmps18
  go_wp2_with (first
    | (go_at_call 29
       have HT := HX.out
       rw [← HM.out, ← HV.out]
       refine (find_no B _ (S.set (S.of a)) a _ (HT.l _ HO.out) (HT.four _ HO.out) ha HA.out).mono ?_
       rintro e w2 ⟨rfl, rfl⟩
       rw [HV.out, HM.out]
       clear HT)
    | (go_at_call 28
       refine (setOf_any B p h c V S a _ HK.out ha).mono ?_
       rintro e w1 ⟨rfl, hb⟩
       have k1 := HK.out.below hb
       have HX := Hid.in k1
       have ch := k1.v.cell _ HO.out
       have hh1 := k1.v.here
       have HB := Hid.in hb
       rw [HR.out] at ch ⊢
       rw [← HR.out, HV.out, HM.out, HR.out] at ch
       clear k1 hb))
  go_ret
  exact ⟨rfl, HB.out⟩
theorem isLine_any (a : Nat) (w : World) (ha : a < 4294967296) : Calls Try.prog 41 #[.int .u32 a] w fun e w' => e = .returned (.bool (decide (a % 16 = 0))) ∧ w' = w := by
  by_cases h : a % 16 = 0
  · have h1 : (a : Int) % 16 = 0 := by omega
    go_enter Try.func41, Try.ntmps41
    go_wp2
    go_ret
    exact ⟨by simp [h, h1], rfl⟩
  · have h1 : ¬ (a : Int) % 16 = 0 := by omega
    go_enter Try.func41, Try.ntmps41
    go_wp2
    go_ret
    exact ⟨by simp [h, h1], rfl⟩
/-- may so many bytes stand there? -/
def fits (a : Nat) (z : Int) : Bool := decide (z = 1) || decide (z = 2 ∧ a % 2 = 0) || decide (z = 4 ∧ a % 4 = 0)
set_option maxRecDepth 100000 in
set_option maxHeartbeats 1000000 in
theorem mayStand_any (a : Nat) (z : Int) (w : World) (ha : a < 4294967296) : Calls Try.prog 36 #[.int .u32 a, .int .i64 z] w fun e w' => e = .returned (.bool (fits a z)) ∧ w' = w := by
  have hu : undef = Value.tuple #[] := rfl
  by_cases h1 : z = 1
  · subst h1
    have e1 : fits a 1 = true := rfl
    rw [e1]
    go_enter Try.func36, Try.ntmps36
    go_wp2
    go_ret
    exact ⟨by simp, rfl⟩
  · by_cases h2 : z = 2
    · subst h2
      have e1 : fits a 2 = decide (a % 2 = 0) := by simp [fits]
      rw [e1]
      go_enter Try.func36, Try.ntmps36
      go_wp2
      go_ret
      refine ⟨?_, rfl⟩
      by_cases q : a % 2 = 0
      · have : (a : Int) % 2 = 0 := by omega
        simp [q, this]
      · have : ¬ (a : Int) % 2 = 0 := by omega
        simp [q, this]
    · by_cases h4 : z = 4
      · subst h4
        have e1 : fits a 4 = decide (a % 4 = 0) := by simp [fits]
        rw [e1]
        go_enter Try.func36, Try.ntmps36
        go_wp2
        go_ret
        refine ⟨?_, rfl⟩
        by_cases q : a % 4 = 0
        · have : (a : Int) % 4 = 0 := by omega
          simp [q, this]
        · have : ¬ (a : Int) % 4 = 0 := by omega
          simp [q, this]
      · have e1 : fits a z = false := by simp [fits, h1, h2, h4]
        rw [e1]
        have d1 : (z == 1) = false := by simp [h1]
        have d2 : (z == 2) = false := by simp [h2]
        have d4 : (z == 4) = false := by simp [h4]
        go_enter Try.func36, Try.ntmps36
        go_wp2
        go_ret
        exact ⟨rfl, rfl⟩
theorem run_sliceAt_array_lhm {P : Program} (w : World) (t : TypeId) (a : Addr) (ht : P.underlying t = some (.array (P.arrayLen t) (P.elem t))) (kl kh km : IntKind) (l h m : Int) (h0 : 0 ≤ l) (h1 : l ≤ h) (h2 : h ≤ m) (h3 : m ≤ P.arrayLen t) :
    (Instr.sliceAt t (.pointer (some a)) (some (.int kl l)) (some (.int kh h)) (some (.int km m))).run P w =
      ((sizeOf (P.elem t)).run P w).andThen fun s w => .ok (slicedAt a l.toNat h.toNat m.toNat s) w := by
  have eh : (h.toNat : Int) = h := Int.toNat_of_nonneg (by omega)
  have em : (m.toNat : Int) = m := Int.toNat_of_nonneg (by omega)
  simp [Instr.sliceAt, Instr.sureAddr, slicedAt, run_underlying ht, Instr.sliceBounds, run_sliceBound, *, (by omega : 0 ≤ h), (by omega : 0 ≤ m)]
theorem part_slice (g o r z : Nat) (w : World) (hz : r + z ≤ 16) (hz0 : 0 < z) : (Instr.sliceAt 73 (.pointer (some ⟨g, o, none⟩)) (some (.int .i64 r)) (some (.int .i64 (r + z : Int))) (some (.int .i64 (r + z : Int)))).run Try.prog w = .ok (.slice (some ⟨g, o + r, none⟩) z z) w := by
  have hal : Try.prog.arrayLen 73 = 16 := by kernel_rfl
  have hel : Try.prog.elem 73 = 5 := by kernel_rfl
  rw [run_sliceAt_array_lhm w _ _ (by rw [hal, hel]; exact Try.underlying73) _ _ _ _ _ _ (by omega) (by omega) (by omega) (by rw [hal]; omega), hel]
  have hsz : (sizeOf 5).run Try.prog w = .ok 1 w := by
    obtain ⟨i, hi, h2⟩ : ∃ i, Try.prog.info? 5 = some i ∧ i.size = 1 := by
      have h : (Try.prog.info? 5).map (·.size) = some 1 := by kernel_rfl
      cases q : Try.prog.info? 5 with
      | none => rw [q] at h; simp at h
      | some i => rw [q] at h; exact ⟨i, rfl, by simpa using h⟩
    simp [sizeOf, typeInfo, hi, h2]
  rw [hsz]
  have e1 : ((r : Int) + z).toNat = r + z := by omega
  have e2 : (r : Int).toNat = r := by omega
  simp [Result.andThen, slicedAt, e1, e2, Addr.add_mid]
  omega
theorem part_any (g o a z : Nat) (w : World) (ha : a < 4294967296) (hz : a % 16 + z ≤ 16) (hz0 : 0 < z) : Calls Try.prog 39 #[.pointer (some ⟨g, o, none⟩), .int .u32 a, .int .i64 z] w fun e w' => e = .returned (.slice (some ⟨g, o + 2 + a % 16, none⟩) z z) ∧ w' = w := by
  obtain ⟨r, hr⟩ : ∃ r, a % 16 = r := ⟨_, rfl⟩
  have hr2 : (a : Int) % 16 = r := by omega
  rw [hr] at hz ⊢
  have hsl := part_slice g (o + 2) r z w hz hz0
  clear hr
  go_enter Try.func39, Try.ntmps39
  go_wp2
  go_ret
  exact ⟨rfl, rfl⟩
end Go.Proofs.Ytbbaopldebdoiaa
