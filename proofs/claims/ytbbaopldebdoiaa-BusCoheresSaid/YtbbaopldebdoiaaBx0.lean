/-
  BUS' LAW BusCoheres: what the law does itself: pick, bytes.
-/
import Derived.Test.YtbbaopldebdoiaaBw8
import Derived.Test.YtbbaopldebdoiaaBw7
import Derived.Test.YtbbaopldebdoiaaBv5
import Derived.Deep.CutBlock
import Derived.Deep.DeepCutAuto
import Derived.Deep.RegionWith
import Derived.BigQuiet
namespace Go.Proofs.Ytbbaopldebdoiaa
open Go Go.RowKit
def I64 (c : Int) : Prop := -9223372036854775808 ≤ c ∧ c ≤ 9223372036854775807
/-- the law's choice -/
def pk (c : Int) (n : Nat) : Nat := (if c < 0 then -(c + 1) else c).toNat % n
theorem pk_lt (c : Int) (n : Nat) (h : 0 < n) : pk c n < n := Nat.mod_lt _ h
theorem pk_is (c : Int) (n : Nat) (h : 0 ≤ c) : c.tmod n = ((c.toNat % n : Nat) : Int) := by
  rw [Int.tmod_eq_emod_of_nonneg h]
  have : c = (c.toNat : Int) := by omega
  rw [this]
  simp
set_option maxHeartbeats 1000000 in
theorem pick_any (c : Int) (n : Nat) (w : World) (hc : I64 c) (hn : 0 < n) : Calls Try.prog 4 #[.int .i64 c, .int .i64 n] w fun e w' => e = .returned (.int .i64 (pk c n : Nat)) ∧ w' = w := by
  obtain ⟨hc1, hc2⟩ := hc
  have hz : ((n : Int) == 0) = false := by simp; omega
  have hz2 : ¬ (n : Int) = 0 := by omega
  have hz3 : ¬ (n : Int) = -1 := by omega
  by_cases h0 : c < 0
  · have he := pk_is (-(c + 1)) n (by omega)
    have hp : pk c n = (-(c + 1)).toNat % n := by simp [pk, h0]
    rw [hp]
    obtain ⟨k, hk⟩ : ∃ k, (-(c + 1)).toNat % n = k := ⟨_, rfl⟩
    rw [hk] at he ⊢
    clear hk hp
    go_enter Try.func4, Try.ntmps4
    go_wp2
    go_ret
    exact ⟨rfl, rfl⟩
  · have he := pk_is c n (by omega)
    have hp : pk c n = c.toNat % n := by simp [pk, h0]
    rw [hp]
    obtain ⟨k, hk⟩ : ∃ k, c.toNat % n = k := ⟨_, rfl⟩
    rw [hk] at he ⊢
    clear hk hp
    go_enter Try.func4, Try.ntmps4
    go_wp2
    go_ret
    exact ⟨rfl, rfl⟩
theorem pick_i (c : Int) (n : Nat) (ni : Int) (hni : ni = n) (w : World) (hc : I64 c) (hn : 0 < n) : Calls Try.prog 4 #[.int .i64 c, .int .i64 ni] w fun e w' => e = .returned (.int .i64 (pk c n : Nat)) ∧ w' = w := by
  subst hni
  exact pick_any c n w hc hn
theorem leN_shift (g : Nat → Nat) : ∀ k, leN g (k + 1) = g 0 + 256 * leN (fun t => g (t + 1)) k
  | 0 => by simp [leN]
  | k + 1 => by
    rw [leN, leN_shift g k]
    show _ = g 0 + 256 * (leN (fun t => g (t + 1)) k + g (k + 1) * 256 ^ k)
    rw [Nat.pow_succ, Nat.mul_add, Nat.add_assoc]
    congr 2
    rw [Nat.mul_comm (256 ^ k) 256, ← Nat.mul_assoc, ← Nat.mul_assoc, Nat.mul_comm (g (k + 1)) 256]
theorem shl_or (x y : Nat) (hx : x < 16777216) (hy : y < 256) : bits .or .u32 ((x : Int) * 256 % 4294967296) (y : Int) = ((y + 256 * x : Nat) : Int) := by
  have e1 : (x : Int) * 256 % 4294967296 = ((x * 256 : Nat) : Int) := by omega
  rw [e1, u32_or_nat _ _ (by omega) (by omega), nat_join 8 _ _ (by omega) (by omega)]
  omega
theorem w64 (x : Nat) (h : x ≤ 1024) : wrap64 (x : Int) = x := by unfold wrap64; omega
theorem wA1 (x A : Nat) (h : x * 1 = A) (hA : A ≤ 1024) : wrap64 (x : Int) = A := by
  unfold wrap64
  omega
theorem wA2 (x A : Nat) (h : x * 2 = A) (hA : A ≤ 1024) : wrap64 ((x : Int) * 2) = A := by
  unfold wrap64
  omega
theorem wA4 (x A : Nat) (h : x * 4 = A) (hA : A ≤ 1024) : wrap64 ((x : Int) * 4) = A := by
  unfold wrap64
  omega
theorem w64s (z : Nat) (h : z ≤ 4) : wrap64 ((z : Int) - 1) = (z : Int) - 1 := by unfold wrap64; omega
theorem pow_is (k : Nat) (h : k < 5) (m : Nat) (hm : m = 2 ^ k) : IntKind.i64.wrap ((2 : Int) ^ k) = (m : Int) := by
  subst hm
  have : k = 0 ∨ k = 1 ∨ k = 2 ∨ k = 3 ∨ k = 4 := by omega
  rcases this with rfl | rfl | rfl | rfl | rfl <;> decide +kernel
theorem pow_of (k : Nat) (h : k < 5) : 2 ^ k = 1 ∨ 2 ^ k = 2 ∨ 2 ^ k = 4 ∨ 2 ^ k = 8 ∨ 2 ^ k = 16 := by
  have : k = 0 ∨ k = 1 ∨ k = 2 ∨ k = 3 ∨ k = 4 := by omega
  rcases this with rfl | rfl | rfl | rfl | rfl <;> decide
/-- a row has grown: it stands where it stood, or is new -/
def Fr (g v : Value) (B : Nat) : Prop := v.ownBlock = g.ownBlock ∨ ∃ j, v.ownBlock = some j ∧ B ≤ j
theorem app1 {x : World} {B n : Nat} {g : Value} {ls : List Value} (h : x.ownsRow B 5 1 g n ls) (hn : n ≤ 5000) (hB : B ≤ x.heap.size) (b : Int) : ∃ oq oc q' cap' Z, g = .slice oq n oc ∧ (Builtin.append_ #[32, 32] 32 #[g, .slice (some ⟨x.heap.size, 0, none⟩) 1 1]).run Try.prog (x.alloc (.cells #[.int .u8 b] 5)) = .ok (.slice q' (n + 1) cap') Z ∧ (∃ ls', Z.ownsRow B 5 1 (.slice q' (n + 1) cap') (n + 1) ls') ∧ Turned (fun j => g.ownBlock = some j) x Z ∧ Fr g (.slice q' (n + 1) cap') x.heap.size := by
  obtain ⟨i0, hi0, hz0, hz1, hz2⟩ := info_parts (show (Try.prog.info? 5).map (fun i => (i.zero, i.size, i.bytes)) = some (some (.int .u8 0), 1, 1) by kernel_rfl)
  obtain ⟨Y, hY⟩ : ∃ Y, x.alloc (.cells #[.int .u8 b] 5) = Y := ⟨_, rfl⟩
  have bY : Below x.heap.size x Y := by rw [← hY]; exact (Below.refl _ _).alloc (Nat.le_refl _) _
  have hnew : Y.cell? ⟨x.heap.size, 0, none⟩ = some (.int .u8 b) := by rw [← hY]; exact World.cell?_alloc_new x _ _ 0
  have hown := own_turned h (Turned.of_below (Q := fun _ => False) bY) (fun _ _ q => q)
  obtain ⟨v', Z, hrun, r1, r2, r3, r4⟩ := run_append_own_at (P := Try.prog) (w := Y) B 32 32 5 i0 (.int .u8 0) 1 1 Try.underlying32 hi0 hz0 hz1 hz2 rfl (by decide) g n _ hown ⟨x.heap.size, 0, none⟩ 1 1 [.int .u8 b] rfl (fun j y hj => by
    match j, hj with
    | 0, hj => rw [← Option.some.inj hj]; exact hnew) (by simp [Value.oneCell']) (by unfold maxLen; omega) (by omega) (Nat.le_trans hB bY.size)
  obtain ⟨q', cap', rfl⟩ : ∃ q' cap', v' = .slice q' (n + 1) cap' := by
    rcases r1.2 with ⟨h, h0⟩ | ⟨g, cp, cur, h, -⟩
    · omega
    · exact ⟨_, _, h⟩
  obtain ⟨oq, oc, rfl⟩ : ∃ oq oc, g = .slice oq n oc := by
    rcases hown.2 with ⟨h, h0⟩ | ⟨g, cp, cur, h, -⟩
    · exact ⟨none, 0, by rw [h, h0]⟩
    · exact ⟨_, _, h⟩
  rw [hY]
  refine ⟨oq, oc, q', cap', Z, rfl, hrun, ⟨_, r1⟩, (Turned.of_below bY).trans (turned_grown r2), ?_⟩
  rcases r4 with q | q
  · exact Or.inl q
  · exact Or.inr ⟨_, q, bY.size⟩
def ovr (mem : Nat → Nat) (len k : Nat) : List Value := (List.range len).map fun i => .int .u8 (if i < k then ((mem i : Int) + 101) % 256 else (mem i : Int))
theorem ovr_zero (mem : Nat → Nat) (len : Nat) : ovr mem len 0 = (List.range len).map fun i => .int .u8 (mem i : Nat) := by
  unfold ovr
  simp
theorem ovr_next (mem : Nat → Nat) (len k : Nat) (hk : k < len) : (ovr mem len k).set k (.int .u8 (((mem k : Int) + 101) % 256)) = ovr mem len (k + 1) := by
  apply List.ext_getElem?
  intro i
  unfold ovr
  rw [List.getElem?_set]
  by_cases e : k = i
  · subst e
    simp [hk]
  · rw [if_neg e, List.getElem?_map, List.getElem?_map]
    by_cases hi : i < len
    · rw [List.getElem?_range hi]
      simp only [Option.map_some]
      by_cases h1 : i < k
      · rw [if_pos h1, if_pos (by omega)]
      · rw [if_neg h1, if_neg (by omega)]
    · rw [List.getElem?_eq_none (by simpa using hi)]
      rfl
theorem own_at {w : World} {base : Nat} {e : TypeId} {g n cap : Nat} {xs : List Value} (h : w.ownsRow base e 1 (.slice (some ⟨g, 0, none⟩) n cap) n xs) (i : Nat) (hi : i < n) (v : Value) (hv : xs[i]? = some v) : w.cell? ⟨g, i, none⟩ = some v ∧ w.frozen? ⟨g, i, none⟩ = false ∧ g < w.heap.size := by
  rcases h.2 with ⟨q, _⟩ | ⟨b, cp, cur, h1, h2, h3, h4, h5, h6, h7⟩
  · cases q
  · obtain ⟨rfl, rfl⟩ : g = b ∧ cap = cp := by
      simp only [Value.slice.injEq, Option.some.injEq, Addr.mk.injEq] at h1
      exact ⟨h1.1.1, h1.2.2⟩
    refine ⟨?_, frz h3 i, ?_⟩
    · have e1 : (cur.toList.take (n * 1))[i]? = some v := by rw [h7]; exact hv
      rw [List.getElem?_take, if_pos (by omega)] at e1
      simp only [World.cell?, h3]
      simpa using e1
    · exact (Array.getElem?_eq_some_iff.1 h3).1
set_option maxRecDepth 100000 in
set_option maxHeartbeats 2000000 in
theorem bytes_any (q : Option Addr) (cap len B rb dc : Nat) (mem : Nat → Nat) (w : World) (ho : w.ownsRow B 5 1 (.slice q len cap) len ((List.range len).map fun i => .int .u8 (mem i : Nat))) (hw : CellsAt len w rb (fun i => .int .u8 (mem i : Nat))) (hm : ∀ o, mem o < 256) (hne : (Value.slice q len cap).ownBlock ≠ some rb) (hl : len ≤ 4096) (hB : B ≤ w.heap.size) : Calls Try.prog 13 #[.slice q len cap, .slice (some ⟨rb, 0, none⟩) len dc] w fun e w' => e = .returned (.bool true) ∧ Turned (fun j => (Value.slice q len cap).ownBlock = some j) w w' := by
  have HO := Hid.in ho
  have HW := Hid.in hw
  have HM := Hid.in hm
  have HNE := Hid.in hne
  have HB := Hid.in hB
  clear ho hw hm hne hB
  go_enter Try.func13, Try.ntmps13
  go_wp2
  go_loopw [5] (fun i wr => ∃ k : Nat, i = .int .i64 k ∧ k ≤ len ∧ Turned (fun j => (Value.slice q len cap).ownBlock = some j) w wr ∧ wr.ownsRow B 5 1 (.slice q len cap) len (ovr mem len k)) (fun i _ => 5000 - (intOf i).toNat)
  case atStart => exact ⟨0, rfl, Nat.zero_le _, Turned.of_below (Below.refl _ _), by rw [ovr_zero]; exact HO.out⟩
  case round =>
    obtain ⟨k, rfl, hk, hT, hW⟩ := hrel
    have HT := Hid.in hT
    have HWR := Hid.in hW
    clear hT hW
    by_cases hlt : k < len
    · have hlt' : (k : Int) < (len : Int) := by omega
      have hk4 : k < 4096 := by omega
      obtain ⟨g, rfl⟩ : ∃ g, q = some ⟨g, 0, none⟩ := by
        rcases HWR.out.2 with ⟨h, h0⟩ | ⟨g, cp, cur, h, -⟩
        · omega
        · simp only [Value.slice.injEq] at h
          exact ⟨g, h.1⟩
      obtain ⟨d1, d2, d3⟩ := own_at HWR.out k hlt (.int .u8 (mem k : Nat)) (by unfold ovr; simp [hlt])
      have c1 : wr.cell? ⟨rb, k, none⟩ = some (.int .u8 (mem k : Nat)) := (HT.out.cells HW.out HNE.out).cell k hlt
      have c2 := (HT.out.cells HW.out HNE.out).here
      have hnx := ovr_next mem len k hlt
      have hm8 := HM.out k
      obtain ⟨mk, hmk⟩ : ∃ mk, mem k = mk := ⟨_, rfl⟩
      rw [hmk] at d1 c1 hnx hm8
      have HNX := Hid.in hnx
      clear hmk hnx
      go_upto_region 6 with fail
      go_quiet (fail)
      go_wp2
      go_roundw
      case rel =>
        have bD : Below wr.heap.size wr (wr.drewN nq) := ⟨rfl, rfl, rfl, Nat.le_refl _, fun _ _ => rfl⟩
        refine ⟨k + 1, by simp, by omega, (HT.out.trans (Turned.of_below bD)).set rfl k _, ?_⟩
        rw [← HNX.out]
        exact own_set (own_turned HWR.out (Turned.of_below (Q := fun _ => False) bD) (fun _ _ q => q)) k _
      case measure =>
        simp [intOf]
        omega
    · obtain rfl : k = len := by omega
      have hlt' : ¬ (k : Int) < (k : Int) := by omega
      go_wp2
      go_loopw [6, 7] (fun gv i wx => ∃ (j : Nat) (oq : Option Addr) (oc : Nat) (ls : List Value), gv = .slice oq (k + j) oc ∧ i = .int .i64 j ∧ j ≤ 70 ∧ Fr (.slice q k cap) (.slice oq (k + j) oc) w.heap.size ∧ Turned (fun j => (Value.slice q k cap).ownBlock = some j) w wx ∧ wx.ownsRow B 5 1 (.slice oq (k + j) oc) (k + j) ls) (fun _ i _ => 100 - (intOf i).toNat)
      case atStart => exact ⟨0, q, cap, _, rfl, rfl, by omega, Or.inl rfl, HT.out, HWR.out⟩
      case round =>
        obtain ⟨j, oq, oc, ls, rfl, rfl, hj, hF, hT2, hW2⟩ := hrel
        by_cases hlt2 : j < 70
        · have hlt2' : (j : Int) < 70 := by omega
          obtain ⟨_, _, q', cap', Z, -, hrun, ⟨ls', hZ⟩, tZ, fZ⟩ := app1 hW2 (by omega) (Nat.le_trans HB.out hT2.size) 238
          have HRUN := Hid.in hrun
          have HZ := Hid.in hZ
          have HTZ := Hid.in tZ
          have HFZ := Hid.in fZ
          have HF := Hid.in hF
          have HT2 := Hid.in hT2
          clear hrun hZ tZ fZ hF hT2 hW2 HT HWR HO HW HM HNE
          go_wp2_with (at_builtin; refine wpList_append_run (v := .slice oq (k + j) oc) (u := .slice (some ⟨wr.heap.size, 0, none⟩) 1 1) rfl rfl rfl rfl HRUN.out ?_)
          go_roundw
          case rel =>
            refine ⟨j + 1, q', cap', ls', by rw [Nat.add_assoc], by simp, by omega, ?_, ?_, by rw [← Nat.add_assoc]; exact HZ.out⟩
            · rw [← Nat.add_assoc]
              rcases HFZ.out with h | ⟨g, h1, h2⟩
              · rcases HF.out with h' | ⟨g, h1, h2⟩
                · exact Or.inl (h.trans h')
                · exact Or.inr ⟨g, h.trans h1, h2⟩
              · exact Or.inr ⟨g, h1, Nat.le_trans HT2.out.size h2⟩
            · refine ⟨HTZ.out.os.trans HT2.out.os, HTZ.out.tape.trans HT2.out.tape, HTZ.out.output.trans HT2.out.output, Nat.le_trans HT2.out.size HTZ.out.size, fun b hb hn => (HTZ.out.block b (Nat.lt_of_lt_of_le hb HT2.out.size) (fun e => ?_)).trans (HT2.out.block b hb hn)⟩
              rcases HF.out with h' | ⟨g, h1, h2⟩
              · exact hn (h'.symm.trans e)
              · rw [h1] at e
                have := Option.some.inj e
                omega
          case measure =>
            simp [intOf]
            omega
        · obtain rfl : j = 70 := by omega
          have HT2 := Hid.in hT2
          clear hT2 hW2 hF HT HWR HO HW HM HNE
          go_wp2
          go_ret
          exact ⟨by simp, HT2.out⟩
end Go.Proofs.Ytbbaopldebdoiaa
