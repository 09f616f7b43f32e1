/-
  THE PROGRAM's Encode.
-/
import Derived.Test.YtcepcjodhmjghaaDoorEa
import Derived.Test.YtcepcjodhmjghaaDoorEb
import Derived.Deep.RegionHeld3
namespace Go.Proofs.YtcepcjodhmjghaaDoor
open Go Go.RowKit
theorem Hid.in' {p : Prop} (h : p) : Hid p := h
set_option maxRecDepth 100000 in
set_option maxHeartbeats 1000000 in
theorem encode_none (op rd rs1 rs2 imm : Int) (k : Nat) (hk : opN op = k) (h : fmtAt k = 0 ∨ fitB (fmtAt k) rd rs1 rs2 imm = false) (w : World) (hL : Laid w) :
    Calls Tryd.prog 11 #[.agg #[.int .i64 op, .int .i64 rd, .int .i64 rs1, .int .i64 rs2, .int .i64 imm]] w fun e w' => e = .returned (.tuple #[.int .u32 0, .bool false]) ∧ Below w.heap.size w w' := by
  have HL : Hid (∀ o, Laid (w.alloc o)) := fun o => hL.alloc o
  have HK : Hid (opN op = k) := hk
  clear hL hk
  by_cases hf : fmtAt k = 0
  · have h0 : ((fmtAt k : Int) == 0) = true := by simp [hf]
    clear h hf
    go_enter Tryd.func11, Tryd.ntmps11
    go_wp2_with (go_at_call 19; refine (shapeOf_out _ k HK.out _ (HL.out _)).mono ?_; rintro e w1 ⟨rfl, hb1⟩)
    go_ret2
    obtain ⟨k1, k2, k3, k4⟩ := keepA hb1
    exact ⟨rfl, k4.alloc k4.size _⟩
  · have h1 : fitB (fmtAt k) rd rs1 rs2 imm = false := h.resolve_left hf
    have h0 : ((fmtAt k : Int) == 0) = false := by simpa using hf
    clear h hf
    go_enter Tryd.func11, Tryd.ntmps11
    go_wp2_with (first | (go_at_call 19; refine (shapeOf_out _ k HK.out _ (HL.out _)).mono ?_; rintro e w1 ⟨rfl, hb1⟩; obtain ⟨k1, k2, k3, k4⟩ := keepA hb1; have HL1 := Hid.in' ((HL.out _).below hb1); clear k2 hb1) | (go_at_call 25; refine (fits_any (fmtAt k) (fmt_lt k) op rd rs1 rs2 imm _ (HL1.out.alloc _)).mono ?_; rintro e w2 ⟨rfl, hb2⟩))
    go_ret2
    obtain ⟨b1, z1⟩ := chain_next k4 k4.size (keepA hb2).2.2.2
    exact ⟨rfl, b1⟩
theorem ret_ib {k : IntKind} {a b : Int} {t : Bool} (h : a = b) : Ending.returned (.tuple #[.int k a, .bool t]) = .returned (.tuple #[.int k b, .bool t]) := by rw [h]
def encN (k v rd rs1 rs2 : Nat) : Nat := wantN k ||| accW (fmtAt k) v (regsN rd rs1 rs2) 4
theorem want_lt (k : Nat) : wantN k < 4294967296 := by
  by_cases h : k < 68
  · have : ∀ k, k < 68 → wantN k < 4294967296 := by decide
    exact this k h
  · unfold wantN; rw [List.getD_eq_getElem?_getD, List.getElem?_eq_none (by simp [wantL]; omega)]; decide
theorem encN_lt (k v rd rs1 rs2 : Nat) (h1 : rd < 32) (h2 : rs1 < 32) (h3 : rs2 < 32) : encN k v rd rs1 rs2 < 4294967296 :=
  Nat.or_lt_two_pow (n := 32) (want_lt k) (accW_lt _ _ _ (regsN_lt rd rs1 rs2 h1 h2 h3) 4)
theorem kept1 {W w3 : World} {b : Nat} {c : Array Value} (g : ∀ i, W.cell? ⟨b, i, none⟩ = c[i]?) (hz : b < W.heap.size) (hb : Below W.heap.size W w3) : ∀ i, w3.cell? ⟨b, i, none⟩ = c[i]? := fun i => (hb.cell (p := ⟨b, i, none⟩) hz).trans (g i)
set_option maxRecDepth 100000 in
set_option maxHeartbeats 1000000 in
theorem encode_some (op imm : Int) (rd rs1 rs2 : Nat) (k v : Nat) (hk : opN op = k) (hk2 : k ≤ 67) (h1 : rd < 32) (h2 : rs1 < 32) (h3 : rs2 < 32) (hv : imm % 4294967296 = (v : Int)) (hf : ¬ fmtAt k = 0) (hfit : fitB (fmtAt k) rd rs1 rs2 imm = true) (w : World) (hL : Laid w) :
    Calls Tryd.prog 11 #[.agg #[.int .i64 op, .int .i64 rd, .int .i64 rs1, .int .i64 rs2, .int .i64 imm]] w fun e w' => e = .returned (.tuple #[.int .u32 (encN k v rd rs1 rs2 : Nat), .bool true]) ∧ Below w.heap.size w w' := by
  have HL : Hid (∀ o, Laid (w.alloc o)) := fun o => hL.alloc o
  have HK : Hid (opN op = k) := hk
  have h0 : ((fmtAt k : Int) == 0) = false := by simpa using hf
  have HE : Hid (bits .or .u32 (wantI k) (accW (fmtAt k) v (regsN rd rs1 rs2) 4 : Nat) = (encN k v rd rs1 rs2 : Nat)) := by
    show bits .or .u32 (wantI k) _ = _
    rw [want_eq k hk2, u32_or_nat _ _ (want_lt k) (accW_lt _ _ _ (regsN_lt rd rs1 rs2 h1 h2 h3) 4)]
    rfl
  have HV : Hid (imm % 4294967296 = (v : Int)) := hv
  clear hL hk hf hv
  go_enter Tryd.func11, Tryd.ntmps11
  go_wp2_with (first | (go_at_call 19; refine (shapeOf_out _ k HK.out _ (HL.out _)).mono ?_; rintro e w1 ⟨rfl, hb1⟩; obtain ⟨k1, k2, k3, k4⟩ := keepA hb1; have HL1 := Hid.in' ((HL.out _).below hb1); clear k2 hb1) | (go_at_call 25; refine (fits_any (fmtAt k) (fmt_lt k) op rd rs1 rs2 imm _ (HL1.out.alloc _)).mono ?_; rintro e w2 ⟨rfl, hb2⟩; obtain ⟨s1, s2, s3, s4⟩ := keepA hb2; have HL2 := Hid.in' (HL1.out.below s4); have m1 := kept1 k1 k3 s4; obtain ⟨b1, z1⟩ := chain_next k4 k4.size s4; clear s2 hb2 k1 k4 s4))
  have y1 : w.heap.size < w2.heap.size := by omega
  clear k3
  go_region_held3 (fun w' => w'.cell? ⟨w.heap.size, 0, none⟩ = some (.int .i64 op) ∧ w'.cell? ⟨w.heap.size, 1, none⟩ = some (.int .i64 rd) ∧ w'.cell? ⟨w.heap.size, 2, none⟩ = some (.int .i64 rs1) ∧ w'.cell? ⟨w.heap.size, 3, none⟩ = some (.int .i64 rs2) ∧ w'.cell? ⟨w.heap.size, 4, none⟩ = some (.int .i64 imm) ∧ w'.cell? ⟨w1.heap.size, 0, none⟩ = some (.int .i64 (fmtAt k)) ∧ w'.cell? ⟨w1.heap.size, 1, none⟩ = some (.int .u32 (codeAt k)) ∧ w'.cell? ⟨w1.heap.size, 2, none⟩ = some (.int .u32 (fAt k)) ∧ w'.cell? ⟨w1.heap.size, 3, none⟩ = some (.int .u32 (gAt k))) (go_keep) (first | (go_at_call 26; refine (bits_out k _ HL2.out.drew).mono ?_; rintro e w3 ⟨rfl, hb3⟩; have t1 := kept1 (W := w2.drew) m1 y1 hb3; have t2 := kept1 (W := w2.drew) s1 s3 hb3) | (go_at_call 27; refine (write_any (fmtAt k) (fmt_lt k) op rd rs1 rs2 h1 h2 h3 imm v HV.out _).mono ?_; rintro e w4 ⟨rfl, hb4⟩; have t3 := kept1 t1 (Nat.lt_of_lt_of_le y1 hb3.size) hb4; have t4 := kept1 t2 (Nat.lt_of_lt_of_le s3 hb3.size) hb4))
  go_wp2
  go_ret2
  exact ⟨ret_ib HE.out, (b1.drew.trans (hb3.mono z1)).trans (hb4.mono (Nat.le_trans z1 hb3.size))⟩
end Go.Proofs.YtcepcjodhmjghaaDoor
