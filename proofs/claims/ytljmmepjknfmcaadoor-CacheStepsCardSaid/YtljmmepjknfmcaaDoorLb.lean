/-
  CACHE's LAW CacheSteps: made.
-/
import Derived.Test.YtljmmepjknfmcaaDoorLa
namespace Go.Proofs.YtljmmepjknfmcaaDoor
open Go Go.RowKit
def mkI (n : Int) (k : Nat) : Int := (wrap64 (n / 2 ^ (k % 8) + 17 * k)) % 256
def mk (n : Int) (k : Nat) : Nat := (mkI n k).toNat
theorem mk_is (n : Int) (k : Nat) : mkI n k = (mk n k : Int) := by
  unfold mk mkI
  omega
theorem mk_lt (n : Int) (k : Nat) : mk n k < 256 := by
  unfold mk mkI
  omega
theorem arr_one (b : Nat → Nat) : (bvs b).toArray.all (·.oneCell') = true := all_oneCell_toArray (bvs_one b)
theorem st_arr {ops : Array Oper} {rest : List Oper} {op : Oper} {a : Act} {w : World} {Q : Exit → Act → World → Prop} (g o : Nat) (b : Nat → Nat) (hc : w.there g o 16) (hgd : op.guard = none) (hds : op.dst = none) (x y : Operand) (ho : op.op = .store 45 x y) (hx : a.eval x = .pointer (some ⟨g, o, none⟩)) (hy : a.eval y = .agg (bvs b).toArray) (h : wpList Tryd.prog ops Q rest a (w.setCells g o (bvs b))) : wpList Tryd.prog ops Q (op :: rest) a w := by
  refine wpList_store_mid hgd _ x y ho g o (bvs b).toArray hx hy (by simp [bvs_len]; exact hc) (by rw [arr_info]; simp [bvs_len]) (arr_one b) ?_
  rw [hds]
  exact (by simpa using h : wpList Tryd.prog ops Q rest a (w.setCells g o (bvs b).toArray.toList))
theorem ld_arr {ops : Array Oper} {rest : List Oper} {op : Oper} {a : Act} {w : World} {Q : Exit → Act → World → Prop} (g o : Nat) (b : Nat → Nat) (hc : w.rangeAt g o (bvs b)) (hgd : op.guard = none) (x : Operand) (ho : op.op = .load 45 x) (hx : a.eval x = .pointer (some ⟨g, o, none⟩)) (h : wpList Tryd.prog ops Q rest (a.put op.dst (.agg (bvs b).toArray)) w) : wpList Tryd.prog ops Q (op :: rest) a w :=
  wpList_load_mid hgd _ x ho g o hx (bvs b) _ hc Tryd.underlying45 rfl (by rw [arr_info, bvs_len]) h
theorem results_arr {fn : Func} {p : Tmp} (h : fn.results = #[.cell p 45]) (tmps : Array Value) (w : World) (g : Nat) (b : Nat → Nat) (hp : tmps.getD p undef = .pointer (some ⟨g, 0, none⟩)) (hg : w.rangeAt g 0 (bvs b)) : (results fn tmps).run Tryd.prog w = .ok (.agg (bvs b).toArray) w := by
  have hp' : tmps[p]?.getD undef = .pointer (some ⟨g, 0, none⟩) := by simpa using hp
  have hl := run_loadVar_mid (P := Tryd.prog) w g 0 45 (bvs b) _ hg Tryd.underlying45 rfl (by rw [arr_info, bvs_len])
  simp [results, h, hp', asAddr, hl]
set_option maxRecDepth 100000 in
set_option maxHeartbeats 2000000 in
theorem made_any (n : Int) (w : World) : Calls Tryd.prog 14 #[.int .i64 n] w fun e w' => e = .returned (.agg (bvs (mk n)).toArray) ∧ Below w.heap.size w w' := by
  obtain ⟨X, hX⟩ : ∃ X, (w.alloc (.cells #[.int .u8 0, .int .u8 0, .int .u8 0, .int .u8 0, .int .u8 0, .int .u8 0, .int .u8 0, .int .u8 0, .int .u8 0, .int .u8 0, .int .u8 0, .int .u8 0, .int .u8 0, .int .u8 0, .int .u8 0, .int .u8 0] 45)).alloc (.cells #[.int .u8 0, .int .u8 0, .int .u8 0, .int .u8 0, .int .u8 0, .int .u8 0, .int .u8 0, .int .u8 0, .int .u8 0, .int .u8 0, .int .u8 0, .int .u8 0, .int .u8 0, .int .u8 0, .int .u8 0, .int .u8 0] 45) = X := ⟨_, rfl⟩
  have c1 : CellsAt 16 X (w.heap.size + 1) (fun o => .int .u8 (if o < 0 then mk n o else 0 : Nat)) := by
    rw [← hX]
    have := cells_new (n := 16) (g := fun o => .int .u8 (if o < 0 then mk n o else 0 : Nat)) (t := 45) (c := #[.int .u8 0, .int .u8 0, .int .u8 0, .int .u8 0, .int .u8 0, .int .u8 0, .int .u8 0, .int .u8 0, .int .u8 0, .int .u8 0, .int .u8 0, .int .u8 0, .int .u8 0, .int .u8 0, .int .u8 0, .int .u8 0]) (w.alloc (.cells #[.int .u8 0, .int .u8 0, .int .u8 0, .int .u8 0, .int .u8 0, .int .u8 0, .int .u8 0, .int .u8 0, .int .u8 0, .int .u8 0, .int .u8 0, .int .u8 0, .int .u8 0, .int .u8 0, .int .u8 0, .int .u8 0] 45)) (fun i hi => by
      have : i = 0 ∨ i = 1 ∨ i = 2 ∨ i = 3 ∨ i = 4 ∨ i = 5 ∨ i = 6 ∨ i = 7 ∨ i = 8 ∨ i = 9 ∨ i = 10 ∨ i = 11 ∨ i = 12 ∨ i = 13 ∨ i = 14 ∨ i = 15 := by omega
      rcases this with rfl | rfl | rfl | rfl | rfl | rfl | rfl | rfl | rfl | rfl | rfl | rfl | rfl | rfl | rfl | rfl <;> rfl)
    rw [World.size_alloc] at this
    exact this
  have t0 : X.there w.heap.size 0 16 := by
    rw [← hX]
    refine World.there_alloc (fun j hj => ?_) _
    refine ⟨?_, World.frozen?_alloc_at _ _ _ _ rfl⟩
    rw [World.cell?_alloc_new, Nat.zero_add, Array.getElem?_eq_getElem (by show j < 16; exact hj)]
    rfl
  have b0 : Below w.heap.size w X := by rw [← hX]; exact ((Below.refl _ _).alloc (Nat.le_refl _) _).alloc (by simp) _
  have sX : X.heap.size = w.heap.size + 2 := by rw [← hX]; simp
  have HX := Hid.in hX
  have HC1 := Hid.in c1
  have HT0 := Hid.in t0
  have HB0 := Hid.in b0
  have HSX := Hid.in sX
  clear c1 t0 b0 hX sX
  go_enter Tryd.func14, Tryd.ntmps14
  go_upto_region 2 with fail
  rw [HX.out]
  go_wp2
  go_loopw [4] (fun kv wr => ∃ j : Nat, kv = .int .i64 j ∧ j ≤ 16 ∧ CellsAt 16 wr (w.heap.size + 1) (fun o => .int .u8 (if o < j then mk n o else 0 : Nat)) ∧ Turned (fun q => q = w.heap.size + 1) X wr) (fun kv _ => 17 - (intOf kv).toNat)
  case atStart => exact ⟨0, rfl, Nat.zero_le _, HC1.out, Turned.refl _ _⟩
  case round =>
    obtain ⟨j, rfl, hj, hc, ht⟩ := hrel
    have HC := Hid.in hc
    have HT := Hid.in ht
    have hb := hc.here
    by_cases hlt : j < 16
    · have cc := hc.cell j hlt
      rw [if_neg (by omega)] at cc
      have cf := hc.free j
      have hm8 : (j : Int).tmod 8 = ((j % 8 : Nat) : Int) := by rw [Int.tmod_eq_emod_of_nonneg (by omega)]; omega
      have hm8b : (j : Int) % 8 = ((j % 8 : Nat) : Int) := by omega
      have h8 : j % 8 < 8 := by omega
      obtain ⟨j8, hj8⟩ : ∃ j8, j % 8 = j8 := ⟨_, rfl⟩
      have HJ8 := Hid.in hj8
      rw [hj8] at hm8 hm8b h8
      clear hc ht hj8
      go_wp2
      go_roundw
      case rel =>
        have ev : wrap64 (n / 2 ^ j8 + 17 * (j : Int)) % 256 = (mk n j : Int) := by
          rw [← HJ8.out]
          exact mk_is n j
        rw [ev]
        refine ⟨j + 1, by simp, by omega, (HC.out.set j hlt _).ext fun o ho => ?_, HT.out.set rfl _ _⟩
        unfold upd
        by_cases e : o = j
        · subst e
          rw [if_pos rfl, if_pos (by omega)]
        · rw [if_neg e]
          dsimp only
          by_cases e2 : o < j
          · rw [if_pos e2, if_pos (by omega)]
          · rw [if_neg e2, if_neg (by omega)]
      case measure => simp [intOf]; omega
    · obtain rfl : j = 16 := by omega
      have rg : wr.rangeAt (w.heap.size + 1) 0 (bvs (mk n)) := fun i v hv => by
        have hi : i < 16 := by
          have := (List.getElem?_eq_some_iff.1 hv).1
          rwa [bvs_len] at this
        rw [bvs_at _ _ hi] at hv
        rw [Nat.zero_add, hc.cell i hi, if_pos hi]
        exact hv
      have tg := there_turned HT0.out ht (by have := HSX.out; omega) (by omega)
      clear hc ht
      go_wp2_with (first
        | (refine ld_arr (w.heap.size + 1) 0 (mk n) rg rfl _ rfl rfl ?_)
        | (refine st_arr w.heap.size 0 (mk n) tg rfl rfl _ _ rfl rfl rfl ?_))
      have tf := turned_setCells (g := w.heap.size) (bvs (mk n)) 0 wr
      refine bodyPost_ret (results_arr Tryd.results14 _ _ w.heap.size (mk n) rfl (World.rangeAt_setCells_same _ _ _ _ (by rw [bvs_len]; exact tg))) rfl ?_
      refine ⟨rfl, (HB0.out.trans (HT.out.below (B := w.heap.size) HB0.out.size (fun q e => by omega))).trans (tf.below (B := w.heap.size) (Nat.le_trans HB0.out.size HT.out.size) (fun q e => by omega))⟩
end Go.Proofs.YtljmmepjknfmcaaDoor
