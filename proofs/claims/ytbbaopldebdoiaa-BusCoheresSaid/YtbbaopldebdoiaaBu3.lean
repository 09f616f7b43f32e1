/-
  BUS: its small functions.
-/
import Derived.Test.YtbbaopldebdoiaaBu2
namespace Go.Proofs.Ytbbaopldebdoiaa
open Go Go.RowKit
theorem blineOf_any (a : Nat) (w : World) (ha : a < 4294967296) : Calls Try.prog 19 #[.int .u32 a] w fun e w' => e = .returned (.int .u32 (lineOf a : Nat)) ∧ w' = w := by
  have h1 : (a : Int) - (a : Int) % 16 = ((lineOf a : Nat) : Int) := by unfold lineOf; omega
  have h2 : lineOf a < 4294967296 := by unfold lineOf; omega
  have h3 : (a : Int).tmod 16 = (a : Int) % 16 := Int.tmod_eq_emod_of_nonneg (by omega)
  have h4 : ((lineOf a : Nat) : Int) % 4294967296 = ((lineOf a : Nat) : Int) := by omega
  go_enter Try.func19, Try.ntmps19
  go_wp2
  go_ret
  refine ⟨?_, rfl⟩
  first
    | rfl
    | (rw [h1]; try rw [h4])
    | skip
def hasB (a len : Nat) : Bool := decide (65536 ≤ a ∧ a < 65536 + len)
theorem mhas_any (q : Option Addr) (a len mc : Nat) (w : World) (ha : a < 4294967296) (hl : len ≤ 4096) : Calls Try.prog 27 #[.slice q len mc, .int .u32 a] w fun e w' => e = .returned (.bool (hasB a len)) ∧ w' = w := by
  have h0 : (len : Int) % 4294967296 = (len : Int) := by omega
  have h1 : decide (((a : Int) - 65536) % 4294967296 < (len : Int)) = hasB a len := by
    unfold hasB
    rw [decide_eq_decide]
    omega
  go_enter Try.func27, Try.ntmps27
  go_wp2
  go_ret
  exact ⟨by rw [← h1]; rfl, rfl⟩
theorem mline_any (mb a len mc : Nat) (w : World) (ha : a < 4294967296) (h16 : a % 16 = 0) (hh : hasB a len = true) (hl : len ≤ 4096) (hl16 : len % 16 = 0) (hm : len ≤ mc) : Calls Try.prog 25 #[.slice (some ⟨mb, 0, none⟩) len mc, .int .u32 a] w fun e w' => e = .returned (.slice (some ⟨mb, a - 65536, none⟩) 16 16) ∧ w' = w := by
  have hb : 65536 ≤ a ∧ a < 65536 + len := by simpa [hasB] using hh
  have HE : Hid (a - 65536 + 16 - (a - 65536) = 16) := by show a - 65536 + 16 - (a - 65536) = 16; omega
  have h1 : a - 65536 + 16 ≤ mc := by omega
  have h2 : 65536 ≤ a := hb.1
  have h3 : a < 69632 := by omega
  clear hb hh h16 hl16
  go_enter Try.func25, Try.ntmps25
  go_wp2
  go_ret
  refine ⟨?_, rfl⟩
  show Ending.returned (Value.slice _ (a - 65536 + 16 - (a - 65536)) (a - 65536 + 16 - (a - 65536))) = _
  rw [HE.out]
end Go.Proofs.Ytbbaopldebdoiaa
