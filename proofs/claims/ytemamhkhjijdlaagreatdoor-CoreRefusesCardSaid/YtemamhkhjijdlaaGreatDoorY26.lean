import Derived.Test.YtemamhkhjijdlaaGreatDoorY19
import Derived.Test.YtemamhkhjijdlaaGreatDoorY18
import Derived.StillTailTactics
import Derived.LoopN
import Derived.Deep.QuietTactic
import Derived.BigQuiet
import Derived.Test.YtemamhkhjijdlaaGreatDoorY21
import Derived.Deep.Cut
import Derived.Deep.DeepCutAuto
/-
  CORE: a hart whose only instruction is EBREAK: it is done.
-/
namespace Go.Proofs.YtemamhkhjijdlaaGreatDoor
open Go Go.RowKit
theorem hart_halt (hc hcap : Nat) (hl v : Bool) : ∀ i, i < 45 → upd (hartF hc hcap hl) 44 (.bool v) i = hartF hc hcap v i := fun i _ => by
  unfold upd hartF
  by_cases q : i = 44
  · subst q; rfl
  · simp only [if_neg q]
set_option maxHeartbeats 4000000 in
theorem htrap (p hc hcap : Nat) (hl : Bool) (w : World) (h : CellsAt 45 w p (hartF hc hcap hl)) : Calls Tryz.prog 193 #[.pointer (some ⟨p, 0, none⟩), .int .u32 1048691, .agg #[.int .i64 3, .int .u32 0]] w fun e w' => e = .returned (.agg #[.int .u32 0, .int .u32 1048691, .int .i64 0, .int .u32 0, .int .i64 3, .int .u32 0, .int .u32 0]) ∧ CellsAt 45 w' p (hartF hc hcap true) ∧ Turned (fun z => z = p) w w' := by
  have cpc : w.cell? ⟨p, 11, none⟩ = some (.int .u32 0) := h.cell 11 (by decide)
  have cvector : w.cell? ⟨p, 2, none⟩ = some (.int .u32 0) := h.cell 2 (by decide)
  have chalted : w.cell? ⟨p, 44, none⟩ = some (.bool hl) := h.cell 44 (by decide)
  have h3 := h.here
  have h4 := h.free
  have HH := Hid.in h
  clear h
  have h5 : p < w.heap.size + 1 := by omega
  have h6 : p < w.heap.size + 1 + 1 := by omega
  have h7 : p < w.heap.size + 2 := by omega
  go_enter Tryz.func193, Tryz.ntmps193
  go_wp2
  go_region
  go_wp2
  refine bodyPost_ret (v := .agg #[.int .u32 0, .int .u32 1048691, .int .i64 0, .int .u32 0, .int .i64 3, .int .u32 0, .int .u32 0]) (by simp [results, Tryz.results193, go_sem]) rfl ⟨rfl, ?_, ?_⟩
  · exact (((((HH.out.set 44 (by decide) (.bool true)).ext (hart_halt hc hcap hl true)).alloc _).alloc _).alloc _).drew
  · exact (((((Turned.refl (fun z => z = p) w).set (b := p) rfl _ _).alloc _).alloc _).alloc _).drew
theorem cells7 {w1 : World} {B : Nat} (k1 : ∀ i, w1.cell? ⟨B, i, none⟩ = (#[.int .u32 0, .int .u32 0, .int .i64 0, .int .u32 0, .int .i64 0, .int .u32 0, .int .u32 0] : Array Value)[i]?) (k2 : ∀ i, w1.frozen? ⟨B, i, none⟩ = false) (k3 : B < w1.heap.size) : CellsAt 7 w1 B zW := by
  refine ⟨k3, fun i hi => (k1 i).trans ?_, k2⟩
  match i, hi with
  | 0, _ => rfl
  | 1, _ => rfl
  | 2, _ => rfl
  | 3, _ => rfl
  | 4, _ => rfl
  | 5, _ => rfl
  | 6, _ => rfl
theorem seven {w : World} {b : Nat} (k : CellsAt 7 w b zW) : w.cell? ⟨b, 0, none⟩ = some (.int .u32 0) ∧ w.cell? ⟨b, 1, none⟩ = some (.int .u32 0) ∧ w.cell? ⟨b, 2, none⟩ = some (.int .i64 0) ∧ w.cell? ⟨b, 3, none⟩ = some (.int .u32 0) ∧ w.cell? ⟨b, 4, none⟩ = some (.int .i64 0) ∧ w.cell? ⟨b, 5, none⟩ = some (.int .u32 0) ∧ w.cell? ⟨b, 6, none⟩ = some (.int .u32 0) ∧ (∀ i, w.frozen? ⟨b, i, none⟩ = false) ∧ b < w.heap.size :=
  ⟨k.cell 0 (by decide), k.cell 1 (by decide), k.cell 2 (by decide), k.cell 3 (by decide), k.cell 4 (by decide), k.cell 5 (by decide), k.cell 6 (by decide), k.free, k.here⟩
set_option maxHeartbeats 4000000 in
theorem hdo (p hc hcap : Nat) (w : World) (lo : Int) (hd : Bool) (h : CellsAt 45 w p (hartF hc hcap false)) (hC : CellsAt 1 w hc (fun _ => .int .u32 1048691)) (hL : Laid w) : Calls Tryz.prog 133 #[.pointer (some ⟨p, 0, none⟩), .int .u32 lo, .bool hd] w fun e w' => e = .returned (.agg #[.int .u32 0, .int .u32 1048691, .int .i64 0, .int .u32 0, .int .i64 3, .int .u32 0, .int .u32 0]) ∧ CellsAt 45 w' p (hartF hc hcap true) ∧ Turned (fun z => z = p) w w' := by
  have chalted : w.cell? ⟨p, 44, none⟩ = some (.bool false) := h.cell 44 (by decide)
  have h3 := h.here
  have HH := Hid.in h
  have HC := Hid.in hC
  have HL : Hid (Laid w) := hL
  clear h hL hC
  have h5 : p < w.heap.size + 1 := by omega
  have hne : w.heap.size ≠ p := by omega
  go_enter Tryz.func133, Tryz.ntmps133
  go_wp2_with (first
    | (go_at_call 195; refine (hlook p hc hcap false _ (HH.out.alloc _) (HC.out.alloc _) (HL.out.alloc _)).mono ?_; rintro e w1 ⟨rfl, hb1⟩; obtain ⟨k1, k2, k3, k4⟩ := keepB hb1; have H1 := Hid.in (HH.out.below k4); have K4 := Hid.in k4; have K7 := Hid.in (cells7 k1 k2 k3); clear hb1 k1 k2 k4)
    | (go_at_call 193; go_must (refine (htrap p hc hcap false _ ((H1.out.alloc _).alloc _)).mono ?_; rintro e w2 ⟨rfl, hc2, ht2⟩; have HC2 := Hid.in hc2; obtain ⟨r0, r1, r2, r3, r4, r5, r6, r7, r8⟩ := seven (ht2.cells ((K7.out.alloc _).alloc _) hne); have HT2 : Hid (Turned (fun z => z = p) w w2) := Hid.in (((Turned.of_below K4.out).alloc _).alloc _ |>.trans ht2); clear hc2 ht2)))
  refine bodyPost_ret (v := .agg #[.int .u32 0, .int .u32 1048691, .int .i64 0, .int .u32 0, .int .i64 3, .int .u32 0, .int .u32 0]) (by simp [results, Tryz.results133, go_sem, r0, r1, r2, r3, r4, r5, r6]) rfl ⟨rfl, ?_, ?_⟩
  · exact ((((((HC2.out.setOther _ _ (Ne.symm hne)).setOther _ _ (Ne.symm hne)).setOther _ _ (Ne.symm hne)).setOther _ _ (Ne.symm hne)).setOther _ _ (Ne.symm hne)).setOther _ _ (Ne.symm hne)).setOther _ _ (Ne.symm hne)
  · have q : Turned (fun z => w.heap.size ≤ z) w2 (((((((w2.setCell ⟨w.heap.size, 0, none⟩ (.int .u32 0)).setCell ⟨w.heap.size, 1, none⟩ (.int .u32 1048691)).setCell ⟨w.heap.size, 2, none⟩ (.int .i64 0)).setCell ⟨w.heap.size, 3, none⟩ (.int .u32 0)).setCell ⟨w.heap.size, 4, none⟩ (.int .i64 3)).setCell ⟨w.heap.size, 5, none⟩ (.int .u32 0)).setCell ⟨w.heap.size, 6, none⟩ (.int .u32 0)) := (((((((Turned.refl (fun z => w.heap.size ≤ z) w2).set (b := w.heap.size) (Nat.le_refl _) _ _).set (b := w.heap.size) (Nat.le_refl _) _ _).set (b := w.heap.size) (Nat.le_refl _) _ _).set (b := w.heap.size) (Nat.le_refl _) _ _).set (b := w.heap.size) (Nat.le_refl _) _ _).set (b := w.heap.size) (Nat.le_refl _) _ _).set (b := w.heap.size) (Nat.le_refl _) _ _
    exact ⟨q.os.trans HT2.out.os, q.tape.trans HT2.out.tape, q.output.trans HT2.out.output, Nat.le_trans HT2.out.size q.size, fun k hk hn => (q.block k (Nat.lt_of_lt_of_le hk HT2.out.size) (by omega)).trans (HT2.out.block k hk hn)⟩
end Go.Proofs.YtemamhkhjijdlaaGreatDoor
/-
  CORE: its small steps.
-/
namespace Go.Proofs.YtemamhkhjijdlaaGreatDoor
open Go Go.RowKit
section
variable {x y : World} {S : FS}
theorem St.alloc (h : St x S) (o : Obj) : St (x.alloc o) S := h.below ((Below.refl _ _).alloc (Nat.le_refl _) o)
theorem St.drewN (h : St x S) (n : Nat) : St (x.drewN n) S := h.below (below_drewN_win x n)
theorem fwithin (n a b : Int) (w : World) : Calls Tryz.prog 11 #[.int .i64 n, .int .i64 a, .int .i64 b] w fun e w' => e = .returned (.bool (decide (a ≤ n ∧ n ≤ b))) ∧ w' = w := by
  by_cases h1 : a ≤ n
  · by_cases h2 : n ≤ b
    · have e : decide (a ≤ n ∧ n ≤ b) = true := by simp [h1, h2]
      rw [e]
      clear e
      go_enter Tryz.func11, Tryz.ntmps11
      go_wp2
      go_ret
      exact ⟨rfl, rfl⟩
    · have e : decide (a ≤ n ∧ n ≤ b) = false := by simp [h2]
      rw [e]
      clear e
      go_enter Tryz.func11, Tryz.ntmps11
      go_wp2
      go_ret
      exact ⟨rfl, rfl⟩
  · have e : decide (a ≤ n ∧ n ≤ b) = false := by simp [h1]
    rw [e]
    clear e
    go_enter Tryz.func11, Tryz.ntmps11
    go_wp2
    go_ret
    exact ⟨rfl, rfl⟩
theorem fhalted (h : St x S) : Calls Tryz.prog 41 #[.pointer (some ⟨S.hp, 0, none⟩)] x fun e w' => e = .returned (.bool S.hl) ∧ w' = x := by
  have c : x.cell? ⟨S.hp, 44, none⟩ = some (.bool S.hl) := h.hart.cell 44 (by decide)
  have h3 := h.hart.here
  clear h
  go_enter Tryz.func41, Tryz.ntmps41
  go_wp2
  go_ret
  exact ⟨rfl, rfl⟩
theorem fstore (h : St x S) (ht : S.qs.top = false) : Calls Tryz.prog 42 #[.pointer (some ⟨S.p, 0, none⟩)] x fun e y => e = .returned (.bool false) ∧ St y S := by
  have c4 : x.cell? ⟨S.p, 4, none⟩ = some (.pointer (some ⟨S.qp, 0, none⟩)) := h.core.cell 4 (by decide)
  have h3 := h.core.here
  have HQ := Hid.in (h.onQue (fun F k => qoldest k ht))
  clear h ht
  go_enter Tryz.func42, Tryz.ntmps42
  go_wp2_with (go_at_call 65; refine HQ.out.mono ?_; rintro e y ⟨rfl, hs⟩; have HS := Hid.in hs; clear hs)
  go_ret
  exact ⟨rfl, HS.out.alloc _⟩
theorem fended (h : St x S) (ht : S.qs.top = false) : Calls Tryz.prog 23 #[.pointer (some ⟨S.p, 0, none⟩)] x fun e y => e = .returned (.bool S.hl) ∧ St y S := by
  have c0 : x.cell? ⟨S.p, 0, none⟩ = some (.pointer (some ⟨S.hp, 0, none⟩)) := h.core.cell 0 (by decide)
  have h3 := h.core.here
  have HH := Hid.in (fhalted h)
  have HW := Hid.in (fstore h ht)
  have HS0 := Hid.in h
  clear h ht
  cases hl : S.hl
  · rw [hl] at HH
    go_enter Tryz.func23, Tryz.ntmps23
    go_wp2_with (go_at_call 41; refine HH.out.mono ?_; rintro e y ⟨rfl, rfl⟩)
    go_ret
    exact ⟨rfl, HS0.out⟩
  · rw [hl] at HH
    go_enter Tryz.func23, Tryz.ntmps23
    go_wp2_with (first
      | (go_at_call 41; refine HH.out.mono ?_; rintro e y ⟨rfl, rfl⟩)
      | (go_at_call 42; refine HW.out.mono ?_; rintro e y ⟨rfl, hs⟩; have HS := Hid.in hs; clear hs))
    go_ret
    exact ⟨rfl, HS.out⟩
theorem fdrain (h : St x S) (ht : S.qs.top = false) : Calls Tryz.prog 51 #[.pointer (some ⟨S.p, 0, none⟩)] x fun e y => e = .returned (.tuple #[]) ∧ St y S := by
  have c4 : x.cell? ⟨S.p, 4, none⟩ = some (.pointer (some ⟨S.qp, 0, none⟩)) := h.core.cell 4 (by decide)
  have h3 := h.core.here
  have HQ := Hid.in (h.onQue (fun F k => qoldest k ht))
  clear h ht
  go_enter Tryz.func51, Tryz.ntmps51
  go_wp2_with (go_at_call 65; refine HQ.out.mono ?_; rintro e y ⟨rfl, hs⟩; have HS := Hid.in hs; clear hs)
  exact bodyPost_ret (results_none Tryz.results51 _ _ _) rfl ⟨rfl, HS.out.alloc _⟩
theorem fline (h : St x S) : Calls Tryz.prog 45 #[.pointer (some ⟨S.p, 0, none⟩)] x fun e y => e = .returned (.tuple #[]) ∧ St y S := by
  have c : x.cell? ⟨S.p, 153, none⟩ = some (.slice none 0 0) := h.core.cell 153 (by decide)
  have h3 := h.core.here
  have HS := Hid.in h
  clear h
  go_enter Tryz.func45, Tryz.ntmps45
  go_wp2_with fail
  refine wp_loop_rounds 1 ?_
  rw [rounds_succ]
  go_wp2_with fail
  go_quiet (fail)
  go_wp2_with fail
  exact bodyPost_end (results_none Tryz.results45 _ _ _) rfl ⟨rfl, HS.out.drewN nq⟩
theorem fspoil (h : St x S) : Calls Tryz.prog 46 #[.pointer (some ⟨S.p, 0, none⟩), .slice none 0 0] x fun e y => e = .returned (.tuple #[]) ∧ St y S := by
  have HS := Hid.in h
  clear h
  go_enter Tryz.func46, Tryz.ntmps46
  go_wp2_with fail
  refine wp_loop_rounds 1 ?_
  rw [rounds_succ]
  go_wp2_with fail
  exact bodyPost_end (results_none Tryz.results46 _ _ _) rfl ⟨rfl, HS.out⟩
theorem fintr (h : St x S) : Calls Tryz.prog 78 #[.pointer (some ⟨S.p, 0, none⟩)] x fun e y => e = .returned (.bool false) ∧ y = x := by
  have c : x.cell? ⟨S.p, 154, none⟩ = some (.bool false) := h.core.cell 154 (by decide)
  have h3 := h.core.here
  clear h
  go_enter Tryz.func78, Tryz.ntmps78
  go_wp2_with fail
  go_ret
  exact ⟨rfl, rfl⟩
end
end Go.Proofs.YtemamhkhjijdlaaGreatDoor
/-
  CORE: an instruction on its way.
-/
namespace Go.Proofs.YtemamhkhjijdlaaGreatDoor
open Go Go.RowKit
theorem upd_twice {α : Type} (c : Nat → α) (o : Nat) (v w : α) : upd (upd c o v) o w = upd c o w := by
  funext i
  unfold upd
  by_cases q : i = o
  · rw [if_pos q, if_pos q]
  · rw [if_neg q, if_neg q, if_neg q]
theorem flt_seq (f : Flt) (v : Int) : ∀ i, i < 27 → upd f.at 0 (.int .i64 v) i = ({ f with seq := v } : Flt).at i := fun i hi => range_of 27 (fun i => upd f.at 0 (.int .i64 v) i) (fun i => ({ f with seq := v } : Flt).at i) (by kernel_rfl) i hi
theorem flt_cls (f : Flt) (v : Int) : ∀ i, i < 27 → upd f.at 8 (.int .i64 v) i = ({ f with cls := v } : Flt).at i := fun i hi => range_of 27 (fun i => upd f.at 8 (.int .i64 v) i) (fun i => ({ f with cls := v } : Flt).at i) (by kernel_rfl) i hi
theorem flt_s1 (f : Flt) (v : Int) : ∀ i, i < 27 → upd f.at 13 (.int .i64 v) i = ({ f with s1 := v } : Flt).at i := fun i hi => range_of 27 (fun i => upd f.at 13 (.int .i64 v) i) (fun i => ({ f with s1 := v } : Flt).at i) (by kernel_rfl) i hi
theorem flt_s2 (f : Flt) (v : Int) : ∀ i, i < 27 → upd f.at 14 (.int .i64 v) i = ({ f with s2 := v } : Flt).at i := fun i hi => range_of 27 (fun i => upd f.at 14 (.int .i64 v) i) (fun i => ({ f with s2 := v } : Flt).at i) (by kernel_rfl) i hi
theorem flt_d (f : Flt) (v : Int) : ∀ i, i < 27 → upd f.at 15 (.int .i64 v) i = ({ f with d := v } : Flt).at i := fun i hi => range_of 27 (fun i => upd f.at 15 (.int .i64 v) i) (fun i => ({ f with d := v } : Flt).at i) (by kernel_rfl) i hi
theorem flt_stage (f : Flt) (v : Int) : ∀ i, i < 27 → upd f.at 17 (.int .i64 v) i = ({ f with stage := v } : Flt).at i := fun i hi => range_of 27 (fun i => upd f.at 17 (.int .i64 v) i) (fun i => ({ f with stage := v } : Flt).at i) (by kernel_rfl) i hi
theorem flt_due (f : Flt) (v : Int) : ∀ i, i < 27 → upd f.at 18 (.int .i64 v) i = ({ f with due := v } : Flt).at i := fun i hi => range_of 27 (fun i => upd f.at 18 (.int .i64 v) i) (fun i => ({ f with due := v } : Flt).at i) (by kernel_rfl) i hi
/-- what a core has noted -/
def FS.told (S : FS) (f : Flt) (kind : Int) : FS := { S with R := { S.R with evs := S.R.evs ++ [evC S.R.cyc f.seq f.pc 0 kind] } }
section
variable {x y : World} {S : FS}
theorem St.onFlt (h : St x S) {j fb o : Nat} {v : Value} {f f' : Flt} (e : S.ext j = CelC fb 27 f.at) (ho : o < 27) (hf : ∀ i, i < 27 → upd f.at o v i = f'.at i) : St (x.setCell ⟨fb, o, none⟩ v) { S with ext := upd S.ext j (CelC fb 27 f'.at) } := h.setExt f'.at e ho hf
set_option maxRecDepth 100000 in
set_option maxHeartbeats 4000000 in
theorem ftell (h : St x S) {j fb : Nat} {f : Flt} (hf : S.ext j = CelC fb 27 f.at) (kind : Int) (hk : kind = 1 ∨ kind = 2 ∨ kind = 3 ∨ kind = 5) (hn : S.R.evs.length < 1024) (hc : S.R.cyc ≤ 1000) (hs : 0 ≤ f.seq ∧ f.seq ≤ 1000) : Calls Tryz.prog 128 #[.pointer (some ⟨S.p, 0, none⟩), .int .i64 kind, .pointer (some ⟨fb, 0, none⟩)] x fun e y => e = .returned (.tuple #[]) ∧ St y (S.told f kind) := by
  have c5 : x.cell? ⟨S.p, 5, none⟩ = some (.pointer (some ⟨S.b, 0, none⟩)) := h.core.cell 5 (by decide)
  have c6 : x.cell? ⟨S.p, 6, none⟩ = some (.int .i64 0) := h.core.cell 6 (by decide)
  have h3 := h.core.here
  have f0 : x.cell? ⟨fb, 0, none⟩ = some (.int .i64 f.seq) := (h.extc hf).cell 0 (by decide)
  have f1 : x.cell? ⟨fb, 1, none⟩ = some (.int .u32 f.pc) := (h.extc hf).cell 1 (by decide)
  have h4 := (h.extc hf).here
  have HN := Hid.in (h.drew.onBrd (fun F k => note_no k hn kind f.seq f.pc hk hc hs))
  clear h hf hk hs
  go_enter Tryz.func128, Tryz.ntmps128
  go_upto_region 0 with fail
  go_still_tail 18, (by kernel_rfl)
  go_wp2_with (go_at_call 96; go_must (refine HN.out.mono ?_; rintro e y ⟨rfl, hs⟩; have HS := Hid.in hs; clear hs))
  exact bodyPost_end (results_none Tryz.results128 _ _ _) rfl ⟨rfl, HS.out⟩
theorem funname (h : St x S) {j fb : Nat} {f : Flt} (hf : S.ext j = CelC fb 27 f.at) (hd : f.d = -1) : Calls Tryz.prog 186 #[.pointer (some ⟨S.p, 0, none⟩), .pointer (some ⟨fb, 0, none⟩)] x fun e y => e = .returned (.tuple #[]) ∧ y = x := by
  have f15 : x.cell? ⟨fb, 15, none⟩ = some (.int .i64 f.d) := (h.extc hf).cell 15 (by decide)
  have h4 := (h.extc hf).here
  rw [hd] at f15
  clear h hf hd
  go_enter Tryz.func186, Tryz.ntmps186
  go_wp2_with fail
  exact bodyPost_end (results_none Tryz.results186 _ _ _) rfl ⟨rfl, rfl⟩
theorem fmay (h : St x S) {j fb : Nat} {f : Flt} (hf : S.ext j = CelC fb 27 f.at) (hc : f.cls = 7) (ho : f.op = 59) : Calls Tryz.prog 132 #[.pointer (some ⟨S.p, 0, none⟩), .pointer (some ⟨fb, 0, none⟩)] x fun e y => e = .returned (.bool true) ∧ y = x := by
  have f8 : x.cell? ⟨fb, 8, none⟩ = some (.int .i64 f.cls) := (h.extc hf).cell 8 (by decide)
  have f3 : x.cell? ⟨fb, 3, none⟩ = some (.int .i64 f.op) := (h.extc hf).cell 3 (by decide)
  have h4 := (h.extc hf).here
  rw [hc] at f8
  rw [ho] at f3
  clear h hf hc ho
  go_enter Tryz.func132, Tryz.ntmps132
  go_wp2_with fail
  go_ret
  exact ⟨rfl, rfl⟩
set_option maxRecDepth 100000 in
set_option maxHeartbeats 4000000 in
theorem fissue (h : St x S) {j fb i : Nat} {f : Flt} (hf : S.ext j = CelC fb 27 f.at) (hA : S.ws.At f.seq i) (hm : S.ws.may i = true) (hn : S.R.evs.length < 1024) (hc : S.R.cyc ≤ 1000) (hs : 0 ≤ f.seq ∧ f.seq ≤ 1000) : Calls Tryz.prog 87 #[.pointer (some ⟨S.p, 0, none⟩), .pointer (some ⟨fb, 0, none⟩), .int .i64 0] x fun e y => e = .returned (.tuple #[]) ∧ St y (FS.told { S with ws := S.ws.setSt i 1, ext := upd S.ext j (CelC fb 27 ({ f with stage := 1, due := S.R.cyc } : Flt).at) } f 2) := by
  have c3 : x.cell? ⟨S.p, 3, none⟩ = some (.pointer (some ⟨S.wp, 0, none⟩)) := h.core.cell 3 (by decide)
  have h3 := h.core.here
  have f0 : x.cell? ⟨fb, 0, none⟩ = some (.int .i64 f.seq) := (h.extc hf).cell 0 (by decide)
  have h4 := (h.extc hf).here
  have HW := Hid.in (h.drew.onWin (fun F k => wissue k f.seq i hA hm))
  have HF := Hid.in hf
  have HC := Hid.in hc
  have HN := Hid.in hn
  have HSS := Hid.in hs
  have d0 : S.p ≠ fb := h.ne hf
  clear h hf hA hm hs hc hn
  go_enter Tryz.func87, Tryz.ntmps87
  go_upto_region 0 with fail
  go_still_tail 8, (by kernel_rfl)
  go_upto_region 1 with (go_at_call 156; go_must (refine HW.out.mono ?_; rintro e y ⟨rfl, hs⟩; have HS := Hid.in hs; clear hs))
  clear c3 h3 f0 h4
  obtain ⟨evl, whl, kb⟩ := HS.out.brd
  have c5 : y.cell? ⟨S.p, 5, none⟩ = some (.pointer (some ⟨S.b, 0, none⟩)) := HS.out.core.cell 5 (by decide)
  have b6 : y.cell? ⟨S.b, 6, none⟩ = some (.int .i64 S.R.cyc) := kb.cell 6 (by decide)
  have h3 : S.p < y.heap.size := HS.out.core.here
  have hb : S.b < y.heap.size := kb.here
  have wc : wrap64 (S.R.cyc : Int) = S.R.cyc := by have := HC.out; unfold wrap64; omega
  have kf := HS.out.extc (k := j) HF.out
  have f17 : y.cell? ⟨fb, 17, none⟩ = some (.int .i64 f.stage) := kf.cell 17 (by decide)
  have f18 : y.cell? ⟨fb, 18, none⟩ = some (.int .i64 f.due) := kf.cell 18 (by decide)
  have g17 := kf.free 17
  have g18 := kf.free 18
  have h4 := kf.here
  clear kb kf
  go_upto_region 2 with fail
  try rw [wc]
  have k1 := HS.out.onFlt (j := j) (o := 17) (v := .int .i64 1) (f' := { f with stage := 1 }) HF.out (by decide) (flt_stage f 1)
  have k2 := k1.onFlt (j := j) (o := 18) (v := .int .i64 S.R.cyc) (f := { f with stage := 1 }) (f' := { f with stage := 1, due := S.R.cyc }) (upd_same _ _ _) (by decide) (flt_due { f with stage := 1 } S.R.cyc)
  have HT := Hid.in (ftell k2 (j := j) (f := { f with stage := 1, due := S.R.cyc }) (upd_same _ _ _) 2 (Or.inr (Or.inl rfl)) HN.out HC.out HSS.out)
  go_wp2_with (go_at_call 128; go_must (refine HT.out.mono ?_; rintro e z ⟨rfl, hs⟩; have HZ := Hid.in hs; clear hs))
  refine bodyPost_end (results_none Tryz.results87 _ _ _) rfl ⟨rfl, ?_⟩
  have q := HZ.out
  simp only [upd_twice] at q
  exact q
set_option maxRecDepth 100000 in
set_option maxHeartbeats 4000000 in
theorem fdone (h : St x S) {j fb i : Nat} {f : Flt} (hf : S.ext j = CelC fb 27 f.at) (hA : S.ws.At f.seq i) (hm : S.ws.st i = 1) (hd : f.d = -1) (hn : S.R.evs.length < 1024) (hc : S.R.cyc ≤ 1000) (hs : 0 ≤ f.seq ∧ f.seq ≤ 1000) : Calls Tryz.prog 76 #[.pointer (some ⟨S.p, 0, none⟩), .pointer (some ⟨fb, 0, none⟩)] x fun e y => e = .returned (.tuple #[]) ∧ St y (FS.told { S with ws := S.ws.setSt i 2, ext := upd S.ext j (CelC fb 27 ({ f with stage := 2 } : Flt).at) } f 3) := by
  have c3 : x.cell? ⟨S.p, 3, none⟩ = some (.pointer (some ⟨S.wp, 0, none⟩)) := h.core.cell 3 (by decide)
  have h3 := h.core.here
  have f0 : x.cell? ⟨fb, 0, none⟩ = some (.int .i64 f.seq) := (h.extc hf).cell 0 (by decide)
  have h4 := (h.extc hf).here
  have HW := Hid.in (h.drew.onWin (fun F k => wdone k f.seq i hA hm))
  have HF := Hid.in hf
  have HC := Hid.in hc
  have HN := Hid.in hn
  have HSS := Hid.in hs
  have d0 : S.p ≠ fb := h.ne hf
  clear h hf hA hm hs hc hn
  go_enter Tryz.func76, Tryz.ntmps76
  go_upto_region 0 with fail
  go_still_tail 8, (by kernel_rfl)
  go_upto_region 1 with (go_at_call 126; go_must (refine HW.out.mono ?_; rintro e y ⟨rfl, hs⟩; have HS := Hid.in hs; clear hs))
  clear c3 h3 f0 h4
  have kf := HS.out.extc (k := j) HF.out
  have f17 : y.cell? ⟨fb, 17, none⟩ = some (.int .i64 f.stage) := kf.cell 17 (by decide)
  have f15 : y.cell? ⟨fb, 15, none⟩ = some (.int .i64 f.d) := kf.cell 15 (by decide)
  rw [hd] at f15
  have g17 := kf.free 17
  have h4 := kf.here
  clear kf
  have k1 := HS.out.onFlt (j := j) (o := 17) (v := .int .i64 2) (f' := { f with stage := 2 }) HF.out (by decide) (flt_stage f 2)
  have HT := Hid.in (ftell k1 (j := j) (f := { f with stage := 2 }) (upd_same _ _ _) 3 (Or.inr (Or.inr (Or.inl rfl))) HN.out HC.out HSS.out)
  clear k1
  go_wp2_with (go_at_call 128; go_must (refine HT.out.mono ?_; rintro e z ⟨rfl, hs⟩; have HZ := Hid.in hs; clear hs))
  exact bodyPost_end (results_none Tryz.results76 _ _ _) rfl ⟨rfl, HZ.out⟩
end
end Go.Proofs.YtemamhkhjijdlaaGreatDoor
/-
  CORE: what is thrown away.
-/
namespace Go.Proofs.YtemamhkhjijdlaaGreatDoor
open Go Go.RowKit
theorem own_cell1 {x : World} {B : Nat} {e : TypeId} {g n cap : Nat} {l : List Value} (h : x.ownsRow B e 1 (.slice (some ⟨g, 0, none⟩) n cap) n l) : (n ≤ cap ∧ cap ≤ maxLen) ∧ g < x.heap.size ∧ (∀ i u, l[i]? = some u → x.cell? ⟨g, i, none⟩ = some u) := by
  obtain ⟨h1, h2⟩ := h
  rcases h2 with ⟨h2, _⟩ | ⟨g', cap', cur, h3, h4, h5, h6, h7, h8, h9⟩
  · cases h2
  · injection h3 with e1 e2 e3
    injection e1 with e1
    injection e1 with e1
    subst e1
    subst e3
    refine ⟨⟨h6, h7⟩, ?_, fun i u hi => ?_⟩
    · rcases Nat.lt_or_ge g x.heap.size with q | q
      · exact q
      · rw [Array.getElem?_eq_none q] at h5
        exact absurd h5 (by simp)
    · have hl : i < l.length := (List.getElem?_eq_some_iff.1 hi).1
      have hin : i < n * 1 := by omega
      have c : cur[i]? = some u := by
        have q := congrArg (·[i]?) h9
        simp only [List.getElem?_take, hin, if_true] at q
        rw [← Array.getElem?_toList, q]
        exact hi
      simpa [World.cell?, h5] using c
theorem own_len {x : World} {B : Nat} {e : TypeId} {sz n : Nat} {v : Value} {l : List Value} (h : x.ownsRow B e sz v n l) : ∃ q cap, v = .slice q n cap := by
  obtain ⟨h1, h2⟩ := h
  rcases h2 with ⟨h2, h3⟩ | ⟨g', cap', cur, h3, _⟩
  · exact ⟨none, 0, by rw [h2, h3]⟩
  · exact ⟨_, cap', h3⟩
theorem fillegal (w : World) : Calls Tryz.prog 157 #[] w fun e w' => e = .returned (.agg #[.int .i64 0, .int .i64 0, .int .i64 0, .int .i64 0, .int .i64 0]) ∧ Below w.heap.size w w' := by
  go_enter Tryz.func157, Tryz.ntmps157
  go_wp2_with fail
  refine bodyPost_ret (v := .agg #[.int .i64 0, .int .i64 0, .int .i64 0, .int .i64 0, .int .i64 0]) (by simp [results, Tryz.results157, go_sem]) rfl ⟨rfl, ?_⟩
  exact (Below.refl _ _).alloc (Nat.le_refl _) _
section
variable {x y : World} {S : FS}
theorem below_cell {x y : World} {b o : Nat} {v : Value} (h : Below x.heap.size x y) (hv : x.cell? ⟨b, o, none⟩ = some v) : y.cell? ⟨b, o, none⟩ = some v := (h.cell (p := ⟨b, o, none⟩) (cell_here hv)).trans hv
theorem St.rowc (h : St x S) {k B sz n : Nat} {e : TypeId} {v : Value} {l : List Value} (hk : S.ext k = RowC B e sz v n l) : x.ownsRow B e sz v n l := by
  obtain ⟨o, q⟩ := h.side
  have := q (k + 10)
  rw [show S.C (k + 10) = S.ext k from rfl, hk] at this
  exact this.1
theorem fqsq (h : St x S) (n : Nat) (hq : S.qs = ⟨n, []⟩) (af : Int) : Calls Tryz.prog 187 #[.pointer (some ⟨S.qp, 0, none⟩), .int .i64 af] x fun e y => e = .returned (.tuple #[]) ∧ St y S :=
  h.onQue (v := S.qs) (P := fun e _ => e = .returned (.tuple #[])) (fun F k => by rw [hq] at k ⊢; exact qsquash k af)
set_option maxRecDepth 100000 in
set_option maxHeartbeats 4000000 in
theorem fforget (h : St x S) {j fb : Nat} {f : Flt} (hf : S.ext j = CelC fb 27 f.at) (hoff : Off S.G) (h1 : f.mh ≤ S.G.mask) (h2 : f.mt < S.G.ns) (hpc : 0 ≤ f.pc ∧ f.pc < 4294967296) : Calls Tryz.prog 124 #[.pointer (some ⟨S.p, 0, none⟩), .pointer (some ⟨fb, 0, none⟩)] x fun e y => e = .returned (.tuple #[]) ∧ ∃ ps, St y { S with ps := ps } := by
  have c1 : x.cell? ⟨S.p, 1, none⟩ = some (.pointer (some ⟨S.G.p, 0, none⟩)) := h.core.cell 1 (by decide)
  have h3 := h.core.here
  have kf := h.extc hf
  have f1 : x.cell? ⟨fb, 1, none⟩ = some (.int .u32 f.pc) := kf.cell 1 (by decide)
  have f10 : x.cell? ⟨fb, 10, none⟩ = some (.int .i64 f.mh) := kf.cell 10 (by decide)
  have f11 : x.cell? ⟨fb, 11, none⟩ = some (.int .i64 f.mt) := kf.cell 11 (by decide)
  have f12 : x.cell? ⟨fb, 12, none⟩ = some (.int .u32 f.mv) := kf.cell 12 (by decide)
  have h4 := kf.here
  have HR : Hid (∀ W, Below x.drew.heap.size x.drew W → Calls Tryz.prog 130 #[.pointer (some ⟨S.G.p, 0, none⟩), .agg #[.int .i64 f.mh, .int .i64 f.mt, .int .u32 f.mv], .int .u32 f.pc, .agg #[.int .i64 0, .int .i64 0, .int .i64 0, .int .i64 0, .int .i64 0], .bool false] W fun e y => e = .returned (.tuple #[]) ∧ ∃ ps, St y { S with ps := ps }) := Hid.in (fun W hW => by
    have k := h.drew.below hW
    refine (k.onPrd (fun F q => prestore q f.mh f.mt f.mv 0 0 0 0 0 f.pc false k.tabs hoff hpc h1 h2)).mono ?_
    rintro e y ⟨rfl, hs⟩
    exact ⟨rfl, _, hs⟩)
  have HF := Hid.in hf
  clear h hf hoff h1 h2 hpc kf
  go_enter Tryz.func124, Tryz.ntmps124
  go_upto_region 0 with fail
  go_region_held3 (fun w' => w'.cell? ⟨S.p, 1, none⟩ = some (.pointer (some ⟨S.G.p, 0, none⟩)) ∧ w'.cell? ⟨fb, 1, none⟩ = some (.int .u32 f.pc) ∧ w'.cell? ⟨fb, 10, none⟩ = some (.int .i64 f.mh) ∧ w'.cell? ⟨fb, 11, none⟩ = some (.int .i64 f.mt) ∧ w'.cell? ⟨fb, 12, none⟩ = some (.int .u32 f.mv)) (go_keep) (first
    | (go_at_call 157; refine (fillegal _).mono ?_; rintro e w1 ⟨rfl, hb1⟩; have d1 := below_cell hb1 c1; have d2 := below_cell hb1 f1; have d3 := below_cell hb1 f10; have d4 := below_cell hb1 f11; have d5 := below_cell hb1 f12; have HB1 := Hid.in hb1; clear hb1)
    | (go_at_call 130; refine (HR.out _ HB1.out).mono ?_; rintro e w2 ⟨rfl, ps, hs⟩; have e1 : w2.cell? ⟨S.p, 1, none⟩ = some (.pointer (some ⟨S.G.p, 0, none⟩)) := hs.core.cell 1 (by decide); have kf := hs.extc (k := j) HF.out; have e2 : w2.cell? ⟨fb, 1, none⟩ = some (.int .u32 f.pc) := kf.cell 1 (by decide); have e3 : w2.cell? ⟨fb, 10, none⟩ = some (.int .i64 f.mh) := kf.cell 10 (by decide); have e4 : w2.cell? ⟨fb, 11, none⟩ = some (.int .i64 f.mt) := kf.cell 11 (by decide); have e5 : w2.cell? ⟨fb, 12, none⟩ = some (.int .u32 f.mv) := kf.cell 12 (by decide); have HS := Hid.in hs; clear hs kf))
  go_wp2_with fail
  exact bodyPost_end (results_none Tryz.results124 _ _ _) rfl ⟨rfl, ps, HS.out⟩
set_option maxRecDepth 100000 in
set_option maxHeartbeats 4000000 in
theorem fthrow0 (h : St x S) (af : Int) (n : Nat) (hq : S.qs = ⟨n, []⟩) (hg : S.ws.gone af = []) : Calls Tryz.prog 125 #[.pointer (some ⟨S.p, 0, none⟩), .int .i64 af] x fun e y => e = .returned (.tuple #[]) ∧ St y { S with ws := S.ws.squash af } := by
  have c3 : x.cell? ⟨S.p, 3, none⟩ = some (.pointer (some ⟨S.wp, 0, none⟩)) := h.core.cell 3 (by decide)
  have h3 := h.core.here
  have HW := Hid.in (h.onWin (fun F k => wsquash k af))
  rw [hg] at HW
  have HQ := Hid.in hq
  clear h hg hq
  go_enter Tryz.func125, Tryz.ntmps125
  go_wp2_with (go_at_call 185; go_must (refine HW.out.mono ?_; rintro e y ⟨⟨u, rfl, hr⟩, hs⟩; obtain ⟨q, cap, rfl⟩ := own_len hr; have HS := Hid.in hs; clear hs hr))
  refine wp_loop_rounds 1 ?_
  rw [rounds_succ]
  go_upto_region 8 with fail
  have c4 : y.cell? ⟨S.p, 4, none⟩ = some (.pointer (some ⟨S.qp, 0, none⟩)) := HS.out.core.cell 4 (by decide)
  have h5 : S.p < y.heap.size := HS.out.core.here
  have HS2 := Hid.in (fqsq HS.out n HQ.out af)
  go_wp2_with (go_at_call 187; go_must (refine HS2.out.mono ?_; rintro e z ⟨rfl, hs⟩; have HZ := Hid.in hs; clear hs))
  exact bodyPost_end (results_none Tryz.results125 _ _ _) rfl ⟨rfl, HZ.out⟩
set_option maxRecDepth 100000 in
set_option maxHeartbeats 4000000 in
theorem fthrow1 (h : St x S) (af n1 : Int) (n : Nat) (hq : S.qs = ⟨n, []⟩) (hg : S.ws.gone af = [n1]) {wb nn cap c j fb : Nat} {f : Flt} {l : List Value} {B : Nat} (hr : S.ext 0 = RowC B 221 1 (.slice (some ⟨wb, 0, none⟩) nn cap) nn l) (hl : l[1]? = some (.pointer (some ⟨fb, 0, none⟩))) (hw : S.way = .slice (some ⟨wb, 1, none⟩) 1 c) (hf : S.ext j = CelC fb 27 f.at) (hd : f.d = -1) (hn : S.R.evs.length < 1024) (hc : S.R.cyc ≤ 1000) (hs : 0 ≤ f.seq ∧ f.seq ≤ 1000) : Calls Tryz.prog 125 #[.pointer (some ⟨S.p, 0, none⟩), .int .i64 af] x fun e y => e = .returned (.tuple #[]) ∧ St y (FS.told { S with ws := S.ws.squash af, way := .slice (some ⟨wb, 1, none⟩) 0 c } f 5) := by
  have c3 : x.cell? ⟨S.p, 3, none⟩ = some (.pointer (some ⟨S.wp, 0, none⟩)) := h.core.cell 3 (by decide)
  have h3 := h.core.here
  have HW := Hid.in (h.onWin (fun F k => wsquash k af))
  rw [hg] at HW
  have HQ := Hid.in hq
  have HR := Hid.in hr
  have HF := Hid.in hf
  have HN := Hid.in hn
  have HC := Hid.in hc
  have HSS := Hid.in hs
  clear h hg hq hr hf hn hc hs
  go_enter Tryz.func125, Tryz.ntmps125
  go_wp2_with (go_at_call 185; go_must (refine HW.out.mono ?_; rintro e y ⟨⟨u, rfl, hr⟩, hs⟩; obtain ⟨q, cap', rfl⟩ := own_len hr; have HS := Hid.in hs; clear hs hr))
  have kr := own_cell1 (HS.out.rowc (k := 0) HR.out)
  have r1 : y.cell? ⟨wb, 1, none⟩ = some (.pointer (some ⟨fb, 0, none⟩)) := kr.2.2 1 _ hl
  have r2 := kr.2.1
  have c151 : y.cell? ⟨S.p, 151, none⟩ = some (.slice (some ⟨wb, 1, none⟩) 1 c) := (HS.out.core.cell 151 (by decide)).trans (congrArg some hw)
  have g151 : y.frozen? ⟨S.p, 151, none⟩ = false := HS.out.core.free 151
  have h5 : S.p < y.heap.size := HS.out.core.here
  have k1 := HS.out.setWay (.slice (some ⟨wb, 1, none⟩) 0 c)
  obtain ⟨Y, hY⟩ : ∃ Y, y.setCell ⟨S.p, 151, none⟩ (.slice (some ⟨wb, 1, none⟩) 0 c) = Y := ⟨_, rfl⟩
  rw [hY] at k1
  have HU := Hid.in (funname k1 (j := j) HF.out hd)
  have HT := Hid.in (ftell k1 (j := j) HF.out 5 (Or.inr (Or.inr (Or.inr rfl))) HN.out HC.out HSS.out)
  clear c3 h3 kr k1
  refine wp_loop_rounds 2 ?_
  rw [rounds_succ]
  go_upto_region 5 with fail
  try rw [hY]
  go_wp2_with (first
    | (go_at_call 186; refine HU.out.mono ?_; rintro e z ⟨rfl, rfl⟩)
    | (go_at_call 128; refine HT.out.mono ?_; rintro e z ⟨rfl, hs⟩; have HZ := Hid.in hs; clear hs))
  rw [rounds_succ]
  go_upto_region 8 with fail
  have c4 : z.cell? ⟨S.p, 4, none⟩ = some (.pointer (some ⟨S.qp, 0, none⟩)) := HZ.out.core.cell 4 (by decide)
  have h6 : S.p < z.heap.size := HZ.out.core.here
  have HS2 := Hid.in (fqsq HZ.out n HQ.out af)
  go_wp2_with (go_at_call 187; go_must (refine HS2.out.mono ?_; rintro e v ⟨rfl, hs⟩; have HV := Hid.in hs; clear hs))
  exact bodyPost_end (results_none Tryz.results125 _ _ _) rfl ⟨rfl, HV.out⟩
end
end Go.Proofs.YtemamhkhjijdlaaGreatDoor
/-
  CORE: a trap; the oldest one retires.
-/
namespace Go.Proofs.YtemamhkhjijdlaaGreatDoor
open Go Go.RowKit
section
variable {x y : World} {S : FS}
theorem fisdone (h : St x S) {j fb i : Nat} {f : Flt} (hf : S.ext j = CelC fb 27 f.at) (hcl : f.cls = 7) (ho : f.op = 59) (hst : f.stage = 0) (hd : f.d = -1) (hA : S.ws.At f.seq i) (hA2 : (S.ws.setSt i 1).At f.seq i) (hm : S.ws.may i = true) (hm2 : (S.ws.setSt i 1).st i = 1) (hn : S.R.evs.length < 1000) (hc : S.R.cyc ≤ 1000) (hs : 0 ≤ f.seq ∧ f.seq ≤ 1000) : Calls Tryz.prog 79 #[.pointer (some ⟨S.p, 0, none⟩), .pointer (some ⟨fb, 0, none⟩)] x fun e y => e = .returned (.bool true) ∧ St y (FS.told (FS.told { S with ws := (S.ws.setSt i 1).setSt i 2, ext := upd S.ext j (CelC fb 27 ({ f with stage := 2, due := S.R.cyc } : Flt).at) } f 2) f 3) := by
  have f17 : x.cell? ⟨fb, 17, none⟩ = some (.int .i64 f.stage) := (h.extc hf).cell 17 (by decide)
  have h4 := (h.extc hf).here
  rw [hst] at f17
  have HM := Hid.in (fmay h hf hcl ho)
  have HI := Hid.in (fissue h hf hA hm (by omega) hc hs)
  have HD : Hid (∀ y, St y (FS.told { S with ws := S.ws.setSt i 1, ext := upd S.ext j (CelC fb 27 ({ f with stage := 1, due := S.R.cyc } : Flt).at) } f 2) → Calls Tryz.prog 76 #[.pointer (some ⟨S.p, 0, none⟩), .pointer (some ⟨fb, 0, none⟩)] y fun e z => e = .returned (.tuple #[]) ∧ St z (FS.told (FS.told { S with ws := (S.ws.setSt i 1).setSt i 2, ext := upd S.ext j (CelC fb 27 ({ f with stage := 2, due := S.R.cyc } : Flt).at) } f 2) f 3)) := Hid.in (fun y k => by
    refine (fdone k (j := j) (i := i) (f := { f with stage := 1, due := S.R.cyc }) (upd_same _ _ _) hA2 hm2 hd (by show (S.R.evs ++ [_]).length < 1024; simp; omega) hc hs).mono ?_
    rintro e z ⟨rfl, q⟩
    refine ⟨rfl, ?_⟩
    have q' := q
    simp only [FS.told, upd_twice] at q'
    exact q')
  clear h hf hcl ho hst hd hA hA2 hm hm2 hn hc hs
  go_enter Tryz.func79, Tryz.ntmps79
  go_wp2_with (first
    | (go_at_call 132; refine HM.out.mono ?_; rintro e y ⟨rfl, rfl⟩)
    | (go_at_call 87; refine HI.out.mono ?_; rintro e y ⟨rfl, hs⟩; have HS := Hid.in hs; clear hs)
    | (go_at_call 76; refine (HD.out _ HS.out).mono ?_; rintro e z ⟨rfl, hs⟩; have HZ := Hid.in hs; clear hs))
  go_ret
  exact ⟨rfl, HZ.out⟩
set_option maxRecDepth 100000 in
set_option maxHeartbeats 4000000 in
theorem ftrap (h : St x S) {j fb : Nat} {f : Flt} {T : FS} (next : Int) (n : Nat) (hf : S.ext j = CelC fb 27 f.at) (hoff : Off S.G) (h1 : f.mh ≤ S.G.mask) (h2 : f.mt < S.G.ns) (hpc : 0 ≤ f.pc ∧ f.pc < 4294967296) (hd : f.d = -1) (hs : 0 ≤ f.seq ∧ f.seq ≤ 1000) (hq : T.qs = ⟨n, []⟩) (hTp : T.p = S.p) (hTq : T.qp = S.qp) (hTf : T.ext j = CelC fb 27 f.at) (ht : ∀ y ps, St y { S with ps := ps } → Calls Tryz.prog 125 #[.pointer (some ⟨S.p, 0, none⟩), .int .i64 f.seq] y fun e z => e = .returned (.tuple #[]) ∧ St z { T with ps := ps }) : Calls Tryz.prog 135 #[.pointer (some ⟨S.p, 0, none⟩), .pointer (some ⟨fb, 0, none⟩), .int .u32 next] x fun e y => e = .returned (.tuple #[]) ∧ ∃ ps, St y { T with ps := ps, nx := next } := by
  have HFG := Hid.in (fforget h hf hoff h1 h2 hpc)
  have HT := Hid.in ht
  have HF := Hid.in hf
  have HQ := Hid.in hq
  have HTF := Hid.in hTf
  clear h hf hoff h1 h2 hpc ht hq hTf
  go_enter Tryz.func135, Tryz.ntmps135
  go_upto_region 1 with (go_at_call 124; go_must (refine HFG.out.mono ?_; rintro e y ⟨rfl, ps, hs⟩; have HS := Hid.in hs; clear hs))
  have f0 : y.cell? ⟨fb, 0, none⟩ = some (.int .i64 f.seq) := (HS.out.extc (k := j) HF.out).cell 0 (by decide)
  have h4 := (HS.out.extc (k := j) HF.out).here
  go_upto_region 2 with (go_at_call 125; go_must (refine (HT.out _ _ HS.out).mono ?_; rintro e z ⟨rfl, hs⟩; have HZ := Hid.in hs; clear hs))
  have HU := Hid.in (funname HZ.out (j := j) HTF.out hd)
  have c4 : z.cell? ⟨T.p, 4, none⟩ = some (.pointer (some ⟨T.qp, 0, none⟩)) := HZ.out.core.cell 4 (by decide)
  have h6 : T.p < z.heap.size := HZ.out.core.here
  have f0z : z.cell? ⟨fb, 0, none⟩ = some (.int .i64 f.seq) := (HZ.out.extc (k := j) HTF.out).cell 0 (by decide)
  have h7 := (HZ.out.extc (k := j) HTF.out).here
  have HS2 := Hid.in (fqsq HZ.out.drew n HQ.out (f.seq - 1))
  rw [hTp] at c4 h6 HU
  rw [hTq] at c4
  have HS3 : Hid (Calls Tryz.prog 187 #[.pointer (some ⟨S.qp, 0, none⟩), .int .i64 (f.seq - 1)] z.drew fun e y => e = .returned (.tuple #[]) ∧ St y { T with ps := ps }) := by
    rw [← hTq]
    exact HS2.out
  have wd : wrap64 (f.seq - 1) = f.seq - 1 := by unfold wrap64; omega
  clear f0 h4 HS2
  go_upto_region 3 with (go_at_call 186; go_must (refine HU.out.mono ?_; rintro e v ⟨rfl, rfl⟩))
  go_still_tail 9, (by kernel_rfl)
  go_upto_region 4 with (go_at_call 187; go_must (refine HS3.out.mono ?_; rintro e v ⟨rfl, hs⟩; have HV := Hid.in hs; clear hs))
  have c152 : v.cell? ⟨T.p, 152, none⟩ = some (.int .u32 T.nx) := HV.out.core.cell 152 (by decide)
  have g152 := HV.out.core.free 152
  have h8 : T.p < v.heap.size := HV.out.core.here
  have kN := HV.out.setNext next
  have HK : Hid (St (v.setCell ⟨S.p, 152, none⟩ (.int .u32 next)) { T with ps := ps, nx := next }) := by
    rw [← hTp]
    exact kN
  rw [hTp] at c152 h8
  have g152' : v.frozen? ⟨S.p, 152, none⟩ = false := by
    rw [← hTp]
    exact g152
  clear kN g152 c4 h6 f0z h7
  go_wp2_with fail
  exact bodyPost_end (results_none Tryz.results135 _ _ _) rfl ⟨rfl, ps, HK.out⟩
end
end Go.Proofs.YtemamhkhjijdlaaGreatDoor
/-
  CORE: the oldest one retires, and traps.
-/
namespace Go.Proofs.YtemamhkhjijdlaaGreatDoor
open Go Go.RowKit
section
variable {x y : World} {S : FS}
theorem St.onHart (h : St x S) {fn : FuncId} {args : Array Value} {P : Ending → World → Prop} {v : Bool} (hs : Calls Tryz.prog fn args x fun e y => P e y ∧ CellsAt 45 y S.hp (hartF S.hc S.hcap v) ∧ Turned (fun z => z = S.hp) x y) : Calls Tryz.prog fn args x fun e y => P e y ∧ St y { S with hl := v } := by
  refine (Side.step (C := S.C) (D := ({ S with hl := v } : FS).C) (P := P) 5 h.comp (celC_comp _ _ _) (only5 S v) h.side (fun F k => ?_)).mono ?_
  · refine hs.mono ?_
    rintro e y ⟨hp, hc, t⟩
    exact ⟨hp, ⟨hc, fun z hz => ⟨Nat.lt_of_lt_of_le (k.2 z hz).1 t.size, (k.2 z hz).2⟩⟩, t.mono (fun z e f => (k.2 z f).2 e)⟩
  · rintro e y ⟨hp, hd⟩
    exact ⟨hp, hd, h.ext, h.laid⟩
theorem fdo (h : St x S) (hl : S.hl = false) (lo : Int) (hd : Bool) : Calls Tryz.prog 133 #[.pointer (some ⟨S.hp, 0, none⟩), .int .u32 lo, .bool hd] x fun e y => e = .returned (.agg #[.int .u32 0, .int .u32 1048691, .int .i64 0, .int .u32 0, .int .i64 3, .int .u32 0, .int .u32 0]) ∧ St y { S with hl := true } :=
  h.onHart (P := fun e _ => e = .returned (.agg #[.int .u32 0, .int .u32 1048691, .int .i64 0, .int .u32 0, .int .i64 3, .int .u32 0, .int .u32 0])) (hdo S.hp S.hc S.hcap x lo hd (by have q := h.hart; rw [hl] at q; exact q) h.word h.tabs)
theorem wh_new (c0 c1 c2 c3 c4 c5 c6 : Int) : ∀ i, i < 7 → (#[.int .u32 c0, .int .u32 c1, .int .i64 c2, .int .u32 c3, .int .i64 c4, .int .u32 c5, .int .u32 c6] : Array Value)[i]? = some (whC c0 c1 c2 c3 c4 c5 c6 i) := fun i hi => by
  match i, hi with
  | 0, _ => rfl
  | 1, _ => rfl
  | 2, _ => rfl
  | 3, _ => rfl
  | 4, _ => rfl
  | 5, _ => rfl
  | 6, _ => rfl
theorem Side.swap {C D : Nat → World → (Nat → Prop) → Prop} {x y : World} {b n : Nat} {f f' : Nat → Value} (k : Nat) (hC : ∀ j, Comp (C j)) (h : Side C x) (hk : C k = CelC b n f) (hk' : D k = CelC b n f') (he : ∀ j, j ≠ k → D j = C j) (t : Turned (fun z => z = b) x y) (hc : CellsAt n y b f') : Side D y := by
  obtain ⟨own, h⟩ := h
  have hb := h k
  rw [hk] at hb
  have t' : Turned (fun z => ¬ Othr own x k z) x y := t.mono (fun z e q => (hb.2 z q).2 e)
  refine ⟨nextO own x k, Side.went k hC h (by rw [hk']; exact celC_comp _ _ _) he ?_ t'⟩
  rw [hk']
  exact ⟨hc, fun z hz => ⟨Nat.lt_of_lt_of_le (hb.2 z hz).1 t.size, (hb.2 z hz).2⟩⟩
theorem St.swapExt (h : St x S) {k b n : Nat} {f : Nat → Value} (f' : Nat → Value) (e : S.ext k = CelC b n f) (t : Turned (fun z => z = b) x y) (hc : CellsAt n y b f') : St y { S with ext := upd S.ext k (CelC b n f') } :=
  ⟨h.side.swap (k + 10) h.comp (f := f) (f' := f') e (upd_same _ _ _) (onlyE S k _) t hc, ext_comp h.ext _ _ _ _, h.laid⟩
theorem wh_set {w : World} {b : Nat} (k : CellsAt 7 w b zW) (c0 c1 c2 c3 c4 c5 c6 : Int) : CellsAt 7 (((((((w.setCell ⟨b, 0, none⟩ (.int .u32 c0)).setCell ⟨b, 1, none⟩ (.int .u32 c1)).setCell ⟨b, 2, none⟩ (.int .i64 c2)).setCell ⟨b, 3, none⟩ (.int .u32 c3)).setCell ⟨b, 4, none⟩ (.int .i64 c4)).setCell ⟨b, 5, none⟩ (.int .u32 c5)).setCell ⟨b, 6, none⟩ (.int .u32 c6)) b (whC c0 c1 c2 c3 c4 c5 c6) := by
  refine (((((((k.set 0 (by decide) _).set 1 (by decide) _).set 2 (by decide) _).set 3 (by decide) _).set 4 (by decide) _).set 5 (by decide) _).set 6 (by decide) _).ext (fun i hi => ?_)
  match i, hi with
  | 0, _ => rfl
  | 1, _ => rfl
  | 2, _ => rfl
  | 3, _ => rfl
  | 4, _ => rfl
  | 5, _ => rfl
  | 6, _ => rfl
theorem wh_turn (w : World) (b : Nat) (c0 c1 c2 c3 c4 c5 c6 : Value) : Turned (fun z => z = b) w (((((((w.setCell ⟨b, 0, none⟩ c0).setCell ⟨b, 1, none⟩ c1).setCell ⟨b, 2, none⟩ c2).setCell ⟨b, 3, none⟩ c3).setCell ⟨b, 4, none⟩ c4).setCell ⟨b, 5, none⟩ c5).setCell ⟨b, 6, none⟩ c6) :=
  (((((((Turned.refl (fun z => z = b) w).set (b := b) rfl _ _).set (b := b) rfl _ _).set (b := b) rfl _ _).set (b := b) rfl _ _).set (b := b) rfl _ _).set (b := b) rfl _ _).set (b := b) rfl _ _
/-- what is left behind the hart's own doing -/
def FS.did (S : FS) (nb : Nat) : FS := { S with hl := true, ext := upd S.ext 5 (CelC nb 7 (whC 0 1048691 0 0 3 0 0)) }
theorem zw_new : ∀ i, i < 7 → (#[.int .u32 0, .int .u32 0, .int .i64 0, .int .u32 0, .int .i64 0, .int .u32 0, .int .u32 0] : Array Value)[i]? = some (zW i) := fun i hi => by
  match i, hi with
  | 0, _ => rfl
  | 1, _ => rfl
  | 2, _ => rfl
  | 3, _ => rfl
  | 4, _ => rfl
  | 5, _ => rfl
  | 6, _ => rfl
theorem fdoA (h : St x S) (hl : S.hl = false) {j fb : Nat} {f : Flt} (hf : S.ext j = CelC fb 27 f.at) : Calls Tryz.prog 133 #[.pointer (some ⟨S.hp, 0, none⟩), .int .u32 0, .bool false] x.drew fun e y => e = .returned (.agg #[.int .u32 0, .int .u32 1048691, .int .i64 0, .int .u32 0, .int .i64 3, .int .u32 0, .int .u32 0]) ∧ (y.cell? ⟨S.p, 0, none⟩ = some (.pointer (some ⟨S.hp, 0, none⟩)) ∧ y.cell? ⟨fb, 24, none⟩ = some (.int .u32 0) ∧ y.cell? ⟨fb, 25, none⟩ = some (.bool false) ∧ S.p < y.heap.size ∧ fb < y.heap.size) ∧ St y { S with hl := true } := by
  refine (fdo h.drew hl 0 false).mono ?_
  rintro e y ⟨rfl, hs⟩
  have kf := hs.extc (k := j) (b := fb) (n := 27) (f := f.at) hf
  exact ⟨rfl, ⟨hs.core.cell 0 (by decide), kf.cell 24 (by decide), kf.cell 25 (by decide), hs.core.here, kf.here⟩, hs⟩
theorem fdoB (h : St x S) (hl : S.hl = false) {j fb : Nat} {f : Flt} (hj : j ≠ 5) (hf : S.ext j = CelC fb 27 f.at) (t : TypeId) : Calls Tryz.prog 133 #[.pointer (some ⟨S.hp, 0, none⟩), .int .u32 0, .bool false] (x.drew.alloc (.cells #[.int .u32 0, .int .u32 0, .int .i64 0, .int .u32 0, .int .i64 0, .int .u32 0, .int .u32 0] t)) fun e y => e = .returned (.agg #[.int .u32 0, .int .u32 1048691, .int .i64 0, .int .u32 0, .int .i64 3, .int .u32 0, .int .u32 0]) ∧ (y.cell? ⟨S.p, 0, none⟩ = some (.pointer (some ⟨S.hp, 0, none⟩)) ∧ y.cell? ⟨fb, 24, none⟩ = some (.int .u32 0) ∧ y.cell? ⟨fb, 25, none⟩ = some (.bool false) ∧ S.p < y.heap.size ∧ fb < y.heap.size) ∧ CellsAt 7 y x.heap.size zW ∧ St y { S with hl := true, ext := upd S.ext 5 (CelC x.heap.size 7 zW) } := by
  have k := h.drew.newExt (t := t) (b := x.heap.size) 5 zW rfl zw_new
  refine (fdo k hl 0 false).mono ?_
  rintro e y ⟨rfl, hs⟩
  have kf := hs.extc (k := j) (b := fb) (n := 27) (f := f.at) (show upd S.ext 5 (CelC x.heap.size 7 zW) j = _ from (upd_other _ _ _ _ hj).trans hf)
  have kn := hs.extc (k := 5) (b := x.heap.size) (n := 7) (f := zW) (show upd S.ext 5 (CelC x.heap.size 7 zW) 5 = _ from upd_same _ _ _)
  exact ⟨rfl, ⟨hs.core.cell 0 (by decide), kf.cell 24 (by decide), kf.cell 25 (by decide), hs.core.here, kf.here⟩, kn, hs⟩
end
end Go.Proofs.YtemamhkhjijdlaaGreatDoor
