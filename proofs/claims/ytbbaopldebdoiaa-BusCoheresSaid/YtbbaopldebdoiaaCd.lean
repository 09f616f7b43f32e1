/-
  CACHE: number, put: bytes as numbers, the low one first.
-/
import Derived.Test.YtbbaopldebdoiaaCc
import Derived.Laws.BitsAllLaws
namespace Go.Proofs.Ytbbaopldebdoiaa
open Go Go.RowKit
def leN (b : Nat → Nat) : Nat → Nat
  | 0 => 0
  | k + 1 => leN b k + b k * 256 ^ k
theorem leN_lt (b : Nat → Nat) : ∀ k, (∀ t, t < k → b t < 256) → leN b k < 256 ^ k
  | 0, _ => by simp [leN]
  | k + 1, h => by
    have h1 := leN_lt b k (fun t ht => h t (by omega))
    have h2 : b k * 256 ^ k ≤ 255 * 256 ^ k := Nat.mul_le_mul_right _ (by have := h k (by omega); omega)
    have h3 : 256 ^ (k + 1) = 256 * 256 ^ k := by rw [Nat.pow_succ, Nat.mul_comm]
    show leN b k + b k * 256 ^ k < _
    omega
theorem leN_congr (b c : Nat → Nat) : ∀ k, (∀ t, t < k → b t = c t) → leN b k = leN c k
  | 0, _ => rfl
  | k + 1, h => by simp only [leN, leN_congr b c k (fun t ht => h t (by omega)), h k (by omega)]
theorem or_step (x y k : Nat) (hx : x < 256 ^ k) (hy : y < 256) (hk : k < 4) : bits .or .u32 (x : Int) ((y : Int) * 2 ^ (8 * k) % 4294967296) = ((x + y * 256 ^ k : Nat) : Int) := by
  have e : (2 : Nat) ^ (8 * k) = 256 ^ k := by rw [Nat.pow_mul]
  have hp : 256 ^ k ≤ 16777216 := by
    have : 256 ^ k ≤ 256 ^ 3 := Nat.pow_le_pow_right (by omega) (by omega)
    omega
  have h1 : y * 256 ^ k < 4294967296 := by
    have : y * 256 ^ k ≤ 255 * 256 ^ k := Nat.mul_le_mul_right _ (by omega)
    omega
  have e1 : (y : Int) * 2 ^ (8 * k) % 4294967296 = ((y * 256 ^ k : Nat) : Int) := by
    have : (y : Int) * 2 ^ (8 * k) = ((y * 256 ^ k : Nat) : Int) := by
      rw [← e]
      simp
    rw [this]
    omega
  rw [e1, u32_or_nat _ _ (by omega) h1, Nat.or_comm, nat_join (8 * k) _ _ (by rw [e]; exact Nat.mul_mod_left _ _) (by rw [e]; exact hx), Nat.add_comm]
set_option maxRecDepth 100000 in
set_option maxHeartbeats 1000000 in
theorem number_any (g o z : Nat) (b : Nat → Nat) (w : World) (_hg : g < w.heap.size) (hz : z ≤ 4) (hb : ∀ t, t < z → b t < 256) (hc : ∀ t, t < z → w.cell? ⟨g, o + t, none⟩ = some (.int .u8 (b t))) : Calls Try.prog 40 #[.slice (some ⟨g, o, none⟩) z z] w fun e w' => e = .returned (.int .u32 (leN b z : Nat)) ∧ w' = w := by
  have HC := Hid.in hc
  have HB := Hid.in hb
  clear hc hb
  go_enter Try.func40, Try.ntmps40
  go_wp2
  go_loopw [3, 8] (fun u v wr => ∃ j : Nat, v = .int .i64 j ∧ j ≤ z ∧ u = .int .u32 (leN b j : Nat) ∧ w = wr) (fun _ v _ => 5 - (intOf v).toNat)
  case atStart => exact ⟨0, rfl, Nat.zero_le _, rfl, rfl⟩
  case round =>
    obtain ⟨j, rfl, hj, rfl, rfl⟩ := hrel
    by_cases hjz : j < z
    · have c1 := HC.out j hjz
      have hb1 := HB.out j hjz
      have hlt := leN_lt b j (fun t ht => HB.out t (by omega))
      obtain ⟨x, hx⟩ : ∃ x, leN b j = x := ⟨_, rfl⟩
      obtain ⟨y, hy⟩ : ∃ y, b j = y := ⟨_, rfl⟩
      have HX := Hid.in hx
      have HY := Hid.in hy
      rw [hx] at hlt
      rw [hx]
      rw [hy] at c1 hb1
      have hor := Hid.in (or_step x y j hlt hb1 (by omega))
      have hj4 : j < 4 := by omega
      clear hlt hx hy
      go_wp2
      go_roundw
      case rel =>
        refine ⟨j + 1, by simp, by omega, ?_, trivial⟩
        rw [hor.out]
        show _ = Value.int .u32 ((leN b j + b j * 256 ^ j : Nat) : Int)
        rw [HX.out, HY.out]
      case measure => simp [intOf]; omega
    · obtain rfl : j = z := by omega
      go_wp2
      go_ret
      exact ⟨rfl, rfl⟩
def Ln.putN (e : Ln) (q d : Nat) : Nat → Ln
  | 0 => e
  | j + 1 => (e.putN q d j).setB (q + j) (d / 256 ^ j % 256)
theorem getD_setL (l : List Ln) (i : Nat) (y : Ln) (hi : i < l.length) : (l.set i y).getD i l0 = y := by
  simp [List.getD_eq_getElem?_getD, hi]
set_option maxRecDepth 100000 in
set_option maxHeartbeats 1000000 in
theorem put_any (B g r q z d cap : Nat) (l : List Ln) (w : World) (k : w.ownsRow B 86 18 (.slice (some ⟨g, 0, none⟩) l.length cap) l.length (flatL l)) (hr : r < l.length) (hq : q + z ≤ 16) (hz : z ≤ 4) (_hd : d < 4294967296) : Calls Try.prog 38 #[.slice (some ⟨g, r * 18 + 2 + q, none⟩) z z, .int .u32 d] w fun e w' => e = .returned (.tuple #[]) ∧ w'.ownsRow B 86 18 (.slice (some ⟨g, 0, none⟩) l.length cap) l.length (flatL (l.set r ((l.getD r l0).putN q d z))) ∧ Turned (fun k => k = g) w w' := by
  have HR := Hid.in hr
  have HK := Hid.in k
  obtain ⟨L, hL⟩ : ∃ L : Nat → List Ln, L = fun j => l.set r ((l.getD r l0).putN q d j) := ⟨_, rfl⟩
  have HL0 : Hid (L 0 = l) := by
    show L 0 = l
    rw [hL]
    show l.set r (l.getD r l0) = l
    apply List.ext_getElem?
    intro j
    by_cases e : r = j
    · subst e
      rw [List.getElem?_set_self hr, List.getD_eq_getElem?_getD, List.getElem?_eq_getElem hr]
      rfl
    · rw [List.getElem?_set_ne e]
  have HL1 : Hid (∀ j, j < z → (flatL (L j)).set (r * 18 + 2 + (q + j)) (.int .u8 (d / 256 ^ j % 256 : Nat)) = flatL (L (j + 1))) := by
    intro j hj
    rw [hL]
    show (flatL (l.set r ((l.getD r l0).putN q d j))).set _ _ = flatL (l.set r ((l.getD r l0).putN q d (j + 1)))
    rw [flatL_setB _ r (q + j) _ (by simpa using hr) (by omega), getD_setL _ _ _ hr, List.set_set]
    rfl
  have HLn : Hid (∀ j, (L j).length = l.length) := by
    intro j
    rw [hL]
    simp
  have HLz : Hid (L z = l.set r ((l.getD r l0).putN q d z)) := by
    show L z = _
    rw [hL]
  clear hL k hr
  go_enter Try.func38, Try.ntmps38
  go_wp2
  go_loopw [7] (fun v wr => ∃ j : Nat, v = .int .i64 j ∧ j ≤ z ∧ wr.ownsRow B 86 18 (.slice (some ⟨g, 0, none⟩) l.length cap) l.length (flatL (L j)) ∧ Turned (fun k => k = g) w wr) (fun v _ => 5 - (intOf v).toNat)
  case atStart => exact ⟨0, rfl, Nat.zero_le _, by rw [HL0.out]; exact HK.out, Turned.refl _ _⟩
  case round =>
    obtain ⟨j, rfl, hj, hk, ht⟩ := hrel
    have HW := Hid.in hk
    have HT := Hid.in ht
    by_cases hjz : j < z
    · have hk2 := hk
      rw [← HLn.out j] at hk2
      obtain ⟨q', cap', hv, -, hel⟩ := own_lines hk2
      obtain ⟨g', hg1, -, hg2, hrg, -, -, -, hfr⟩ := hel r (by rw [HLn.out]; exact HR.out)
      have hgg : g' = g := by
        rw [hg1] at hv
        simp only [Value.slice.injEq, Option.some.injEq, Addr.mk.injEq] at hv
        exact hv.1.1.symm
      rw [hgg] at hrg hg2 hfr
      have c1 := hrg (2 + (q + j)) _ (Ln.at2 _ (q + j) (by omega))
      rw [← Nat.add_assoc, ← Nat.add_assoc] at c1
      obtain ⟨y, hy⟩ : ∃ y, ((L j).getD r l0).b (q + j) = y := ⟨_, rfl⟩
      rw [hy] at c1
      have f1 := hfr (r * 18 + 2 + q + j)
      have hj4 : j < 4 := by omega
      clear hk hk2 ht hel hv hg1 hrg hfr hgg hy
      go_wp2
      go_roundw
      case rel =>
        have ev : (d : Int) / 2 ^ (8 * j) % 256 = ((d / 256 ^ j % 256 : Nat) : Int) := by
          have e : (2 : Nat) ^ (8 * j) = 256 ^ j := by rw [Nat.pow_mul]
          rw [← e]
          simp
        refine ⟨j + 1, by simp, by omega, ?_, HT.out.set rfl _ _⟩
        rw [ev, ← HL1.out j hjz, Nat.add_assoc (r * 18 + 2)]
        exact own_set HW.out _ _
      case measure => simp [intOf]; omega
    · obtain rfl : j = z := by omega
      clear hk ht
      go_wp2
      refine bodyPost_end (results_none Try.results38 _ _ _) rfl ?_
      exact ⟨rfl, by rw [← HLz.out]; exact HW.out, HT.out⟩
end Go.Proofs.Ytbbaopldebdoiaa
