/-
  THE ANSWER's TABLE OF NAMES: how it is made; both tables held against each other.
-/
import Derived.Test.YtpolfpebhbkabaaDoorOd
namespace Go.Proofs.YtpolfpebhbkabaaDoor
open Go Go.RowKit
theorem rnew_bad (n : Int) (w : World) (hn : ¬ (34 ≤ n ∧ n ≤ 128)) : Calls Tryd.prog 22 #[.int .i64 n] w fun e w' => e = .returned (.tuple #[.pointer none, .int .i64 2]) ∧ w' = w := by
  have hu : undef = Value.tuple #[] := rfl
  by_cases h1 : n < 34
  all_goals
    go_enter Tryd.func22, Tryd.ntmps22
    go_wp2
    all_goals first
      | (exfalso; omega)
      | exact bodyPost_ret (by simp [results, Tryd.results22, go_sem]) rfl ⟨rfl, rfl⟩
theorem rnew_cells (n : Nat) : ∀ i, i < 34 → (#[.int .i64 n, .int .i64 0, .int .i64 0, .int .i64 0, .int .i64 0, .int .i64 0, .int .i64 0, .int .i64 0, .int .i64 0, .int .i64 0, .int .i64 0, .int .i64 0, .int .i64 0, .int .i64 0, .int .i64 0, .int .i64 0, .int .i64 0, .int .i64 0, .int .i64 0, .int .i64 0, .int .i64 0, .int .i64 0, .int .i64 0, .int .i64 0, .int .i64 0, .int .i64 0, .int .i64 0, .int .i64 0, .int .i64 0, .int .i64 0, .int .i64 0, .int .i64 0, .int .i64 0, .slice none 0 0] : Array Value)[i]? = some (encR (fun o => if o < min 0 32 then o else 0) n (.slice none 0 0) i) := fun i hi =>
  range_of 34 (fun i => (#[.int .i64 n, .int .i64 0, .int .i64 0, .int .i64 0, .int .i64 0, .int .i64 0, .int .i64 0, .int .i64 0, .int .i64 0, .int .i64 0, .int .i64 0, .int .i64 0, .int .i64 0, .int .i64 0, .int .i64 0, .int .i64 0, .int .i64 0, .int .i64 0, .int .i64 0, .int .i64 0, .int .i64 0, .int .i64 0, .int .i64 0, .int .i64 0, .int .i64 0, .int .i64 0, .int .i64 0, .int .i64 0, .int .i64 0, .int .i64 0, .int .i64 0, .int .i64 0, .int .i64 0, .slice none 0 0] : Array Value)[i]?) (fun i => some (encR (fun o => if o < min 0 32 then o else 0) n (.slice none 0 0) i)) (by kernel_rfl) i hi
def freeT (i : Nat) : List Nat := (List.range (i - 32)).map (32 + ·)
theorem freeT_len (i : Nat) : (freeT i).length = i - 32 := by simp [freeT]
theorem freeT_next (i : Nat) (h : 32 ≤ i) : freeT (i + 1) = freeT i ++ [i] := by
  unfold freeT
  rw [show i + 1 - 32 = (i - 32) + 1 by omega, List.range_succ, List.map_append]
  simp
  omega
theorem freeT_low (i : Nat) (h : i < 32) : freeT (i + 1) = freeT i := by
  unfold freeT
  rw [show i + 1 - 32 = 0 by omega, show i - 32 = 0 by omega]
def nameT (i o : Nat) : Nat := if o < min i 32 then o else 0
theorem nameT_next (i : Nat) (h : i < 32) : upd (nameT i) i i = nameT (i + 1) := by
  funext o
  unfold upd nameT
  rw [show min i 32 = i by omega, show min (i + 1) 32 = i + 1 by omega]
  by_cases q : o = i
  · subst q; rw [if_pos rfl, if_pos (by omega)]
  · rw [if_neg q]
    by_cases q2 : o < i
    · rw [if_pos q2, if_pos (by omega)]
    · rw [if_neg q2, if_neg (by omega)]
theorem nameT_high (i : Nat) (h : 32 ≤ i) : nameT (i + 1) = nameT i := by
  unfold nameT
  rw [show min i 32 = 32 by omega, show min (i + 1) 32 = 32 by omega]
theorem rnew_end {w : World} {b g n : Nat} (hn : 34 ≤ n) (t : RTab w b g n (nameT n) (freeT n)) : RTab w b g n (newT n).name (newT n).free := by
  obtain ⟨⟨ao, cap, hc, ho⟩, ne⟩ := t
  refine ⟨⟨ao, cap, hc.ext fun o ho => ?_, ho⟩, ne⟩
  show encR (nameT n) n _ o = encR (fun k => k) n _ o
  unfold encR
  by_cases q : o = 0
  · rw [if_pos q, if_pos q]
  · rw [if_neg q, if_neg q]
    by_cases q2 : o < 33
    · rw [if_pos q2, if_pos q2]
      unfold nameT
      rw [if_pos (by omega)]
    · rw [if_neg q2, if_neg q2]; rfl
set_option maxRecDepth 100000 in
set_option maxHeartbeats 2000000 in
theorem rnew_good (n : Nat) (w : World) (h1 : 34 ≤ n) (h2 : n ≤ 128) : Calls Tryd.prog 22 #[.int .i64 n] w fun e w' => e = .returned (.tuple #[.pointer (some ⟨w.heap.size, 0, none⟩), .int .i64 0]) ∧ (∃ g, RTab w' w.heap.size g n (newT n).name (newT n).free ∧ w.heap.size < g) ∧ Below w.heap.size w w' := by
  have hd1 : decide ((n : Int) < 34) = false := decide_eq_false (by omega)
  have hd2 : decide (128 < (n : Int)) = false := decide_eq_false (by omega)
  obtain ⟨i0, hi0, hz0, hz1, hz2⟩ := info_parts (show (Tryd.prog.info? 3).map (fun i => (i.zero, i.size, i.bytes)) = some (some (.int .i64 0), 1, 8) by kernel_rfl)
  have hc0 := cells_new (t := 124) w (rnew_cells n)
  have HR : Hid (RTab (w.alloc (.cells #[.int .i64 n, .int .i64 0, .int .i64 0, .int .i64 0, .int .i64 0, .int .i64 0, .int .i64 0, .int .i64 0, .int .i64 0, .int .i64 0, .int .i64 0, .int .i64 0, .int .i64 0, .int .i64 0, .int .i64 0, .int .i64 0, .int .i64 0, .int .i64 0, .int .i64 0, .int .i64 0, .int .i64 0, .int .i64 0, .int .i64 0, .int .i64 0, .int .i64 0, .int .i64 0, .int .i64 0, .int .i64 0, .int .i64 0, .int .i64 0, .int .i64 0, .int .i64 0, .int .i64 0, .slice none 0 0] 124)) w.heap.size (w.heap.size + 1) n (nameT 0) (freeT 0)) := ⟨⟨none, 0, hc0, OwnG.nil _ _⟩, by omega⟩
  have HB : Hid (Below w.heap.size w (w.alloc (.cells #[.int .i64 n, .int .i64 0, .int .i64 0, .int .i64 0, .int .i64 0, .int .i64 0, .int .i64 0, .int .i64 0, .int .i64 0, .int .i64 0, .int .i64 0, .int .i64 0, .int .i64 0, .int .i64 0, .int .i64 0, .int .i64 0, .int .i64 0, .int .i64 0, .int .i64 0, .int .i64 0, .int .i64 0, .int .i64 0, .int .i64 0, .int .i64 0, .int .i64 0, .int .i64 0, .int .i64 0, .int .i64 0, .int .i64 0, .int .i64 0, .int .i64 0, .int .i64 0, .int .i64 0, .slice none 0 0] 124))) := (Below.refl _ _).alloc (Nat.le_refl _) _
  clear hc0
  obtain ⟨b, hb⟩ : ∃ b, b = w.heap.size := ⟨_, rfl⟩
  rw [← hb] at HR ⊢
  have HBB := Hid.in hb
  go_enter Tryd.func22, Tryd.ntmps22
  go_wp2
  rw [← hb]
  obtain ⟨w0, hw0⟩ : ∃ x, x = w.alloc (.cells #[.int .i64 n, .int .i64 0, .int .i64 0, .int .i64 0, .int .i64 0, .int .i64 0, .int .i64 0, .int .i64 0, .int .i64 0, .int .i64 0, .int .i64 0, .int .i64 0, .int .i64 0, .int .i64 0, .int .i64 0, .int .i64 0, .int .i64 0, .int .i64 0, .int .i64 0, .int .i64 0, .int .i64 0, .int .i64 0, .int .i64 0, .int .i64 0, .int .i64 0, .int .i64 0, .int .i64 0, .int .i64 0, .int .i64 0, .int .i64 0, .int .i64 0, .int .i64 0, .int .i64 0, .slice none 0 0] 124) := ⟨_, rfl⟩
  rw [← hw0] at HR HB ⊢
  clear hw0 hb
  go_loopw [5] (fun v wr => ∃ i g : Nat, v = .int .i64 i ∧ i ≤ n ∧ RTab wr b g n (nameT i) (freeT i) ∧ b < g ∧ Below b w wr) (fun v _ => n - (intOf v).toNat)
  case atStart => exact ⟨0, _, rfl, by omega, HR.out, by have := HBB.out; omega, by rw [HBB.out]; exact HB.out⟩
  case round =>
    obtain ⟨i, g, rfl, hi, hR, hbg, hB⟩ := hrel
    have HR1 := Hid.in hR
    have HB1 := Hid.in hB
    clear hR hB HR HB
    obtain ⟨⟨ao, cap, hc, ho⟩, ne⟩ := HR1.out
    have h3 := hc.here
    have h4 := hc.free
    have HC := Hid.in hc
    have HO := Hid.in ho
    by_cases hin : i < n
    · by_cases hi3 : i < 32
      · have cn := CR.atName hc i hi3
        have hn0 : nameT i i = 0 := by unfold nameT; rw [if_neg (by omega)]
        rw [hn0] at cn
        have cn2 : wr.cell? ⟨b, 1 + i, none⟩ = some (.int .i64 0) := cn
        clear hc ho cn hn0
        go_wp2
        go_roundw
        case rel =>
          refine ⟨i + 1, g, by go_num, by omega, ?_, hbg, HB1.out.setCell (by show b ≤ b; omega) _⟩
          rw [freeT_low i hi3, ← nameT_next i hi3]
          exact ⟨⟨ao, cap, CR.name HC.out i i hi3, HO.out.turned ((Turned.refl (fun k => k = b) wr).set (b := b) rfl _ _) (show ¬ g = b by omega)⟩, ne⟩
        case measure => simp [intOf]; omega
      · have cf : wr.cell? ⟨b, 33, none⟩ = some (.slice ao (freeT i).length cap) := hc.cell 33 (by decide)
        have hlen : (freeT i).length ≤ 1000 := by rw [freeT_len]; omega
        clear hc ho
        go_wp2_with (at_builtin; refine append_ownG _ rfl (.tmp 32) (.tmp 34) 96 rfl 3 i0 Tryd.underlying96 hi0 hz0 hz1 hz2 g ao cap (freeT i) rfl (HO.out.alloc _) ⟨wr.heap.size, 0, none⟩ 1 i rfl (by simp) rfl (by omega) ?_; intro w2 g' ao' cap' hO hT hg'; have hTw : Turned (fun k => k = g) wr w2 := ((Turned.refl (fun k => k = g) wr).alloc _).trans hT; have cw := hTw.to_cell h3 ne cf; have hf2 : ∀ o, w2.frozen? ⟨b, o, none⟩ = false := (hTw.cells HC.out ne).free; have hs2 := Nat.lt_of_lt_of_le h3 hTw.size; have HO2 := Hid.in hO; have HT2 := Hid.in hTw; have HG := Hid.in hg'; clear hO hT hTw hg')
        have hbg' : b < g' := by
          rcases HG.out with q | q
          · rw [q]; exact hbg
          · simp at q; omega
        go_roundw
        case rel =>
          refine ⟨i + 1, g', by go_num, by omega, ?_, hbg', (HB1.out.trans (HT2.out.below (by have := HB1.out.size; have := HBB.out; omega) (by rintro k rfl; omega))).setCell (by show b ≤ b; omega) _⟩
          rw [freeT_next i (by omega), nameT_high i (by omega)]
          refine ⟨⟨ao', cap', ?_, HO2.out.turned ((Turned.refl (fun k => k = b) w2).set (b := b) rfl _ _) (show ¬ g' = b by omega)⟩, by omega⟩
          rw [show (freeT i ++ [i]).length = (freeT i).length + 1 by simp]
          exact CR.free (HT2.out.cells HC.out ne) _
        case measure => simp [intOf]; omega
    · have hin2 : i = n := by omega
      subst hin2
      clear hc ho
      go_wp2
      exact bodyPost_ret (v := .tuple #[.pointer (some ⟨b, 0, none⟩), .int .i64 0]) (by simp [results, Tryd.results22, go_sem]) rfl ⟨rfl, ⟨g, rnew_end h1 HR1.out, hbg⟩, HB1.out⟩
set_option maxHeartbeats 1000000 in
theorem same_any (p h b g n : Nat) (S : NT) (w : World) (t : Tab w p h n S) (u : RTab w b g n S.name S.free) : Calls Tryd.prog 31 #[.pointer (some ⟨p, 0, none⟩), .pointer (some ⟨b, 0, none⟩)] w fun e w' => e = .returned (.bool true) ∧ w' = w := by
  have HT := Hid.in t
  have HU := Hid.in u
  obtain ⟨⟨ao, cap, hc, ho⟩, ne⟩ := u
  have cf : w.cell? ⟨b, 33, none⟩ = some (.slice ao S.free.length cap) := hc.cell 33 (by decide)
  have h3 := hc.here
  clear hc ho t
  go_enter Tryd.func31, Tryd.ntmps31
  go_wp2
  go_loopw [5] (fun v wr => ∃ i : Nat, v = .int .i64 i ∧ i ≤ 32 ∧ w = wr) (fun v _ => 33 - (intOf v).toNat)
  case atStart => exact ⟨0, rfl, by omega, rfl⟩
  case round =>
    obtain ⟨i, rfl, hi, rfl⟩ := hrel
    by_cases hi2 : i < 32
    · go_wp2_with (first
        | (go_at_call 23; refine (look_in p h n S i _ HT.out hi2).mono ?_; rintro e v1 ⟨rfl, hw⟩; have hw2 := hw.symm; clear hw; subst hw2)
        | (go_at_call 24; refine (rlook_in b g n S.name S.free i _ HU.out hi2).mono ?_; rintro e v1 ⟨rfl, hw⟩; have hw2 := hw.symm; clear hw; subst hw2))
      go_roundw
      case rel => exact ⟨i + 1, by go_num, by omega, by first | rfl | trivial⟩
      case measure => simp [intOf]; omega
    · go_wp2_with (go_at_call 51; refine (free_any p h n S _ HT.out).mono ?_; rintro e v1 ⟨rfl, hw⟩; have hw2 := hw.symm; clear hw; subst hw2)
      go_ret
      exact ⟨by simp, rfl⟩
end Go.Proofs.YtpolfpebhbkabaaDoor
