import Derived.Test.YtemamhkhjijdlaaGreatDoorY33
import Derived.Test.YtemamhkhjijdlaaGreatDoorY31
/-
  CORE: those that are taken in.
-/
namespace Go.Proofs.YtemamhkhjijdlaaGreatDoor
open Go Go.RowKit
/-- one more has been taken in -/
def FS.took (S : FS) (j fb : Nat) (pc : Int) (code : Bool) (op : Int) (v : Value) (n : Nat) (l : List Value) : FS := FS.told { S with ws := S.ws.enter 7 (-1) (-1) (-1), way := v, nx := pc + 4, ext := upd (upd S.ext j (CelC fb 27 (fly S.ws.next pc code op S.ps).at)) 0 (RowC S.w0.heap.size 221 1 v n l) } (fly S.ws.next pc code op S.ps) 1
section
variable {x y : World} {S : FS}
theorem ftook {j fb n : Nat} {v : Value} {l : List Value} (hj : j ≠ 0) (pc : Int) (code : Bool) (op : Int) (ho : op = 59 ∨ op = 0) (hp : pc = 0 ∨ pc = 4) (hr : S.ext 0 = RowC S.w0.heap.size 221 1 v n l) (hw : S.way = v) (hn2 : n ≤ 2) (hon : S.ws.on.length < S.ws.size) (hnx : S.ws.next ≤ 10) (hn : S.R.evs.length < 1000) (hc : S.R.cyc ≤ 1000) (k : St y { S with ext := upd S.ext j (CelC fb 27 (flt pc code op).at) }) : Calls Tryz.prog 91 #[.pointer (some ⟨S.p, 0, none⟩), .pointer (some ⟨fb, 0, none⟩)] y fun e z => e = .returned (.tuple #[]) ∧ ∃ v', St z (S.took j fb pc code op v' (n + 1) (l ++ [.pointer (some ⟨fb, 0, none⟩)])) := by
  refine (ftake k (j := j) (fb := fb) (B := S.w0.heap.size) (n := n) (v := v) (l := l) hj pc code op ho hp (upd_same _ _ _) ((upd_other _ _ _ _ (Ne.symm hj)).trans hr) hw hn2 (Nat.le_refl _) hon hnx hn hc).mono ?_
  rintro e z ⟨rfl, v', hs⟩
  refine ⟨rfl, v', ?_⟩
  simp only [upd_twice] at hs
  exact hs
set_option maxRecDepth 100000 in
set_option maxHeartbeats 4000000 in
theorem fin1 (h : St x S) (hw : S.way = .slice none 0 0) (hx : S.nx = 0) (hr : S.ext 0 = RowC S.w0.heap.size 221 1 (.slice none 0 0) 0 []) (hwd : S.cf.width = 1) (hon : S.ws.on = []) (hsz : 2 ≤ S.ws.size) (hwin : S.cf.window = S.ws.size) (hnx : S.ws.next = 0) (hn : S.R.evs.length < 100) (hc : S.R.cyc ≤ 1000) : Calls Tryz.prog 50 #[.pointer (some ⟨S.p, 0, none⟩)] x fun e y => e = .returned (.tuple #[]) ∧ ∃ b0 v, St y (S.took 1 b0 0 true 59 v 1 [.pointer (some ⟨b0, 0, none⟩)]) := by
  have c7 : x.cell? ⟨S.p, 7, none⟩ = some (.int .i64 S.cf.width) := h.core.cell 7 (by decide)
  have c152 : x.cell? ⟨S.p, 152, none⟩ = some (.int .u32 S.nx) := h.core.cell 152 (by decide)
  rw [hwd] at c7
  rw [hx] at c152
  have h3 := h.core.here
  have HF := Hid.in (ffetch0 h 1)
  have hl0 : S.ws.on.length = 0 := by rw [hon]; rfl
  have HP : Hid (∀ y fb, St y { S with ext := upd S.ext 1 (CelC fb 27 (flt 0 true 59).at) } → Calls Tryz.prog 89 #[.pointer (some ⟨S.p, 0, none⟩)] y fun e z => e = .returned (.bool false) ∧ St z { S with ext := upd S.ext 1 (CelC fb 27 (flt 0 true 59).at) }) := Hid.in (fun y fb k => fpast0 k hw)
  have HR : Hid (∀ y fb, St y { S with ext := upd S.ext 1 (CelC fb 27 (flt 0 true 59).at) } → Calls Tryz.prog 90 #[.pointer (some ⟨S.p, 0, none⟩), .pointer (some ⟨fb, 0, none⟩)] y fun e z => e = .returned (.bool true) ∧ St z { S with ext := upd S.ext 1 (CelC fb 27 (flt 0 true 59).at) }) := Hid.in (fun y fb k => froom k (j := 1) (fb := fb) (f := flt 0 true 59) (show upd S.ext 1 (CelC fb 27 (flt 0 true 59).at) 1 = _ from upd_same _ _ _) rfl (Or.inl rfl) (by show ((S.ws.on.length : Nat) : Int) < S.cf.window; omega))
  have HT : Hid (∀ y fb, St y { S with ext := upd S.ext 1 (CelC fb 27 (flt 0 true 59).at) } → Calls Tryz.prog 91 #[.pointer (some ⟨S.p, 0, none⟩), .pointer (some ⟨fb, 0, none⟩)] y fun e z => e = .returned (.tuple #[]) ∧ ∃ v', St z (S.took 1 fb 0 true 59 v' (0 + 1) ([] ++ [.pointer (some ⟨fb, 0, none⟩)]))) := Hid.in (fun y fb k => ftook (by decide) 0 true 59 (Or.inl rfl) (Or.inl rfl) hr hw (by decide) (by omega) (by omega) (by omega) hc k)
  clear h hw hx hr hwd hon hsz hwin hnx hn hc hl0
  go_enter Tryz.func50, Tryz.ntmps50
  go_wp2_with fail
  refine wp_loop_rounds 2 ?_
  rw [rounds_succ]
  go_wp2_with (first
    | (go_at_call 88; go_must (refine HF.out.mono ?_; rintro e y ⟨b0, rfl, hs⟩; have HY := Hid.in hs; clear hs))
    | (go_at_call 89; go_must (refine (HP.out _ _ HY.out).mono ?_; rintro e z ⟨rfl, hs⟩; have HZ := Hid.in hs; clear hs))
    | (go_at_call 90; go_must (refine (HR.out _ _ HZ.out).mono ?_; rintro e u ⟨rfl, hs⟩; have HU := Hid.in hs; clear hs))
    | (go_at_call 91; go_must (refine (HT.out _ _ HU.out).mono ?_; rintro e t ⟨rfl, v0, hs⟩; have HV := Hid.in hs; clear hs)))
  rw [rounds_succ]
  go_wp2_with fail
  exact bodyPost_end (results_none Tryz.results50 _ _ _) rfl ⟨rfl, b0, v0, HV.out⟩
end
end Go.Proofs.YtemamhkhjijdlaaGreatDoor
/-
  CORE: two are taken in.
-/
namespace Go.Proofs.YtemamhkhjijdlaaGreatDoor
open Go Go.RowKit
section
variable {x y : World} {S : FS}
theorem took_row (S : FS) (j fb : Nat) (pc : Int) (code : Bool) (op : Int) (v : Value) (n : Nat) (l : List Value) : (S.took j fb pc code op v n l).ext 0 = RowC S.w0.heap.size 221 1 v n l := (show upd (upd S.ext j (CelC fb 27 (fly S.ws.next pc code op S.ps).at)) 0 (RowC S.w0.heap.size 221 1 v n l) 0 = _ from upd_same _ _ _)
theorem took_flt (S : FS) {j : Nat} (hj : j ≠ 0) (fb : Nat) (pc : Int) (code : Bool) (op : Int) (v : Value) (n : Nat) (l : List Value) : (S.took j fb pc code op v n l).ext j = CelC fb 27 (fly S.ws.next pc code op S.ps).at := (show upd (upd S.ext j (CelC fb 27 (fly S.ws.next pc code op S.ps).at)) 0 (RowC S.w0.heap.size 221 1 v n l) j = _ from (upd_other _ _ _ _ hj).trans (upd_same _ _ _))
theorem took_other (S : FS) {j k : Nat} (h0 : k ≠ 0) (hj : k ≠ j) (fb : Nat) (pc : Int) (code : Bool) (op : Int) (v : Value) (n : Nat) (l : List Value) : (S.took j fb pc code op v n l).ext k = S.ext k := (show upd (upd S.ext j (CelC fb 27 (fly S.ws.next pc code op S.ps).at)) 0 (RowC S.w0.heap.size 221 1 v n l) k = _ from (upd_other _ _ _ _ h0).trans (upd_other _ _ _ _ hj))
theorem enter_len (W : WS) : (W.enter 7 (-1) (-1) (-1)).on.length = W.on.length + 1 := by simp [WS.enter]
/-- the second, and what it stands on -/
def Two1 (S : FS) (b0 b1 wb cap : Nat) (v : Value) : FS := (S.took 1 b0 0 true 59 (.slice (some ⟨wb, 0, none⟩) 1 cap) 1 [.pointer (some ⟨b0, 0, none⟩)]).took 2 b1 4 false 0 v 2 [.pointer (some ⟨b0, 0, none⟩), .pointer (some ⟨b1, 0, none⟩)]
set_option maxRecDepth 100000 in
set_option maxHeartbeats 4000000 in
theorem fin2 (h : St x S) (hw : S.way = .slice none 0 0) (hx : S.nx = 0) (hr : S.ext 0 = RowC S.w0.heap.size 221 1 (.slice none 0 0) 0 []) (hwd : S.cf.width = 2) (hon : S.ws.on = []) (hsz : 2 ≤ S.ws.size) (hwin : S.cf.window = S.ws.size) (hnx : S.ws.next = 0) (hn : S.R.evs.length < 100) (hc : S.R.cyc ≤ 1000) : Calls Tryz.prog 50 #[.pointer (some ⟨S.p, 0, none⟩)] x fun e y => e = .returned (.tuple #[]) ∧ ∃ b0 b1 wb cap v E, (∀ k, k ≠ 3 → E k = (Two1 S b0 b1 wb cap v).ext k) ∧ St y { Two1 S b0 b1 wb cap v with ext := E } := by
  have c7 : x.cell? ⟨S.p, 7, none⟩ = some (.int .i64 S.cf.width) := h.core.cell 7 (by decide)
  have c152 : x.cell? ⟨S.p, 152, none⟩ = some (.int .u32 S.nx) := h.core.cell 152 (by decide)
  rw [hwd] at c7
  rw [hx] at c152
  have h3 := h.core.here
  have HF := Hid.in (ffetch0 h 1)
  have hl0 : S.ws.on.length = 0 := by rw [hon]; rfl
  have HP : Hid (∀ y fb, St y { S with ext := upd S.ext 1 (CelC fb 27 (flt 0 true 59).at) } → Calls Tryz.prog 89 #[.pointer (some ⟨S.p, 0, none⟩)] y fun e z => e = .returned (.bool false) ∧ St z { S with ext := upd S.ext 1 (CelC fb 27 (flt 0 true 59).at) }) := Hid.in (fun y fb k => fpast0 k hw)
  have HR : Hid (∀ y fb, St y { S with ext := upd S.ext 1 (CelC fb 27 (flt 0 true 59).at) } → Calls Tryz.prog 90 #[.pointer (some ⟨S.p, 0, none⟩), .pointer (some ⟨fb, 0, none⟩)] y fun e z => e = .returned (.bool true) ∧ St z { S with ext := upd S.ext 1 (CelC fb 27 (flt 0 true 59).at) }) := Hid.in (fun y fb k => froom k (j := 1) (fb := fb) (f := flt 0 true 59) (show upd S.ext 1 (CelC fb 27 (flt 0 true 59).at) 1 = _ from upd_same _ _ _) rfl (Or.inl rfl) (by show ((S.ws.on.length : Nat) : Int) < S.cf.window; omega))
  have HT : Hid (∀ y fb, St y { S with ext := upd S.ext 1 (CelC fb 27 (flt 0 true 59).at) } → Calls Tryz.prog 91 #[.pointer (some ⟨S.p, 0, none⟩), .pointer (some ⟨fb, 0, none⟩)] y fun e z => e = .returned (.tuple #[]) ∧ ∃ v', St z (S.took 1 fb 0 true 59 v' (0 + 1) ([] ++ [.pointer (some ⟨fb, 0, none⟩)]))) := Hid.in (fun y fb k => ftook (by decide) 0 true 59 (Or.inl rfl) (Or.inl rfl) hr hw (by decide) (by omega) (by omega) (by omega) hc k)
  have HL : Hid (S.ws.on.length = 0 ∧ 2 ≤ S.ws.size ∧ S.cf.window = S.ws.size ∧ S.ws.next = 0 ∧ S.R.evs.length < 100 ∧ S.R.cyc ≤ 1000) := Hid.in ⟨hl0, hsz, hwin, hnx, hn, hc⟩
  clear h hw hx hr hon hsz hwin hnx hn hc hl0 hwd
  go_enter Tryz.func50, Tryz.ntmps50
  go_wp2_with fail
  refine wp_loop_rounds 3 ?_
  rw [rounds_succ]
  go_wp2_with (first
    | (go_at_call 88; go_must (refine HF.out.mono ?_; rintro e y ⟨b0, rfl, hs⟩; have HY := Hid.in hs; clear hs))
    | (go_at_call 89; go_must (refine (HP.out _ _ HY.out).mono ?_; rintro e z ⟨rfl, hs⟩; have HZ := Hid.in hs; clear hs))
    | (go_at_call 90; go_must (refine (HR.out _ _ HZ.out).mono ?_; rintro e u ⟨rfl, hs⟩; have HU := Hid.in hs; clear hs))
    | (go_at_call 91; go_must (refine (HT.out _ _ HU.out).mono ?_; rintro e t ⟨rfl, v0, hs⟩; have HV := Hid.in hs; clear hs)))
  obtain ⟨wb, cap, rfl⟩ := Go.ownsRow_succ (HV.out.rowc (k := 0) (took_row S 1 b0 0 true 59 v0 (0 + 1) ([] ++ [.pointer (some ⟨b0, 0, none⟩)])))
  have h1 : St t (S.took 1 b0 0 true 59 (.slice (some ⟨wb, 0, none⟩) 1 cap) 1 [.pointer (some ⟨b0, 0, none⟩)]) := HV.out
  clear HF HP HR HT HV HY HZ HU c7 c152 h3
  obtain ⟨l0, l1, l2, l3, l4, l5⟩ := HL.out
  have t152 : t.cell? ⟨S.p, 152, none⟩ = some (.int .u32 4) := h1.core.cell 152 (by decide)
  have t3 : S.p < t.heap.size := h1.core.here
  generalize hS1 : S.took 1 b0 0 true 59 (.slice (some ⟨wb, 0, none⟩) 1 cap) 1 [.pointer (some ⟨b0, 0, none⟩)] = S1 at h1
  have p1 : S1.p = S.p := by rw [← hS1]; rfl
  have cf1 : S1.cf = S.cf := by rw [← hS1]; rfl
  have w1 : S1.ws = S.ws.enter 7 (-1) (-1) (-1) := by rw [← hS1]; rfl
  have o1 : S1.w0 = S.w0 := by rw [← hS1]; rfl
  have wy1 : S1.way = .slice (some ⟨wb, 0, none⟩) 1 cap := by rw [← hS1]; rfl
  have r1 : S1.ext 0 = RowC S1.w0.heap.size 221 1 (.slice (some ⟨wb, 0, none⟩) 1 cap) 1 [.pointer (some ⟨b0, 0, none⟩)] := by rw [o1, ← hS1]; exact took_row _ _ _ _ _ _ _ _ _
  have g1 : S1.ext 1 = CelC b0 27 (fly S.ws.next 0 true 59 S.ps).at := by rw [← hS1]; exact took_flt _ (by decide) _ _ _ _ _ _ _
  have n1 : S1.R.evs.length < 1000 ∧ S1.R.cyc ≤ 1000 := by rw [← hS1]; refine ⟨?_, l5⟩; show (S.R.evs ++ [_]).length < 1000; simp; omega
  have len1 : S1.ws.on.length = 1 := by rw [w1, enter_len]; omega
  have sz1 : S1.ws.size = S.ws.size := by rw [w1]; rfl
  have nx1 : S1.ws.next = 1 := by rw [w1]; show S.ws.next + 1 = 1; omega
  have HF := Hid.in (ffetch1 h1 2)
  have HP : Hid (∀ y fb, St y { S1 with ext := upd S1.ext 2 (CelC fb 27 (flt 4 false 0).at) } → Calls Tryz.prog 89 #[.pointer (some ⟨S1.p, 0, none⟩)] y fun e z => e = .returned (.bool false) ∧ St z { S1 with ext := upd S1.ext 2 (CelC fb 27 (flt 4 false 0).at) }) := Hid.in (fun y fb k => fpast1 k (wb := wb) (cap := cap) (j := 1) (fb := b0) (f := fly S.ws.next 0 true 59 S.ps) (show upd S1.ext 2 (CelC fb 27 (flt 4 false 0).at) 0 = _ from (upd_other _ _ _ _ (by decide)).trans r1) wy1 rfl (show upd S1.ext 2 (CelC fb 27 (flt 4 false 0).at) 1 = _ from (upd_other _ _ _ _ (by decide)).trans g1))
  have HR : Hid (∀ y fb, St y { S1 with ext := upd S1.ext 2 (CelC fb 27 (flt 4 false 0).at) } → Calls Tryz.prog 90 #[.pointer (some ⟨S1.p, 0, none⟩), .pointer (some ⟨fb, 0, none⟩)] y fun e z => e = .returned (.bool true) ∧ St z { S1 with ext := upd S1.ext 2 (CelC fb 27 (flt 4 false 0).at) }) := Hid.in (fun y fb k => froom k (j := 2) (fb := fb) (f := flt 4 false 0) (show upd S1.ext 2 (CelC fb 27 (flt 4 false 0).at) 2 = _ from upd_same _ _ _) rfl (Or.inr rfl) (by show ((S1.ws.on.length : Nat) : Int) < S1.cf.window; rw [cf1]; omega))
  have HT : Hid (∀ y fb, St y { S1 with ext := upd S1.ext 2 (CelC fb 27 (flt 4 false 0).at) } → Calls Tryz.prog 91 #[.pointer (some ⟨S1.p, 0, none⟩), .pointer (some ⟨fb, 0, none⟩)] y fun e z => e = .returned (.tuple #[]) ∧ ∃ v', St z (S1.took 2 fb 4 false 0 v' (1 + 1) ([.pointer (some ⟨b0, 0, none⟩)] ++ [.pointer (some ⟨fb, 0, none⟩)]))) := Hid.in (fun y fb k => ftook (by decide) 4 false 0 (Or.inr rfl) (Or.inr rfl) r1 wy1 (by decide) (by omega) (by omega) n1.1 n1.2 k)
  rw [p1] at HF HP HR HT
  have HS1 := Hid.in hS1
  have HO1 := Hid.in o1
  have HP1 := Hid.in p1
  have HG1 := Hid.in g1
  clear h1 hS1 p1 cf1 w1 o1 wy1 r1 g1 n1 len1 sz1 nx1 l0 l1 l2 l3 l4 l5
  rw [rounds_succ]
  go_wp2_with (first
    | (go_at_call 88; go_must (refine HF.out.mono ?_; rintro e y ⟨b1, rfl, hs⟩; have HY := Hid.in hs; clear hs))
    | (go_at_call 89; go_must (refine (HP.out _ _ HY.out).mono ?_; rintro e z ⟨rfl, hs⟩; have HZ := Hid.in hs; clear hs))
    | (go_at_call 90; go_must (refine (HR.out _ _ HZ.out).mono ?_; rintro e u ⟨rfl, hs⟩; have HU := Hid.in hs; clear hs))
    | (go_at_call 91; go_must (refine (HT.out _ _ HU.out).mono ?_; rintro e r ⟨rfl, v1, hs⟩; have HV := Hid.in hs; clear hs)))
  rw [rounds_succ]
  go_wp2_with fail
  refine bodyPost_end (results_none Tryz.results50 _ _ _) rfl ⟨rfl, b0, b1, wb, cap, v1, _, fun _ _ => rfl, ?_⟩
  have q := HV.out
  rw [← HS1.out] at q
  exact q
set_option maxRecDepth 100000 in
set_option maxHeartbeats 4000000 in
theorem fin3 (h : St x S) (hw : S.way = .slice none 0 0) (hx : S.nx = 0) (hr : S.ext 0 = RowC S.w0.heap.size 221 1 (.slice none 0 0) 0 []) (hwd : 3 ≤ S.cf.width) (hon : S.ws.on = []) (hsz : 2 ≤ S.ws.size) (hwin : S.cf.window = S.ws.size) (hnx : S.ws.next = 0) (hn : S.R.evs.length < 100) (hc : S.R.cyc ≤ 1000) : Calls Tryz.prog 50 #[.pointer (some ⟨S.p, 0, none⟩)] x fun e y => e = .returned (.tuple #[]) ∧ ∃ b0 b1 wb cap v E, (∀ k, k ≠ 3 → E k = (Two1 S b0 b1 wb cap v).ext k) ∧ St y { Two1 S b0 b1 wb cap v with ext := E } := by
  have c7 : x.cell? ⟨S.p, 7, none⟩ = some (.int .i64 S.cf.width) := h.core.cell 7 (by decide)
  have c152 : x.cell? ⟨S.p, 152, none⟩ = some (.int .u32 S.nx) := h.core.cell 152 (by decide)
  rw [hx] at c152
  have h3 := h.core.here
  have HF := Hid.in (ffetch0 h 1)
  have hl0 : S.ws.on.length = 0 := by rw [hon]; rfl
  have HP : Hid (∀ y fb, St y { S with ext := upd S.ext 1 (CelC fb 27 (flt 0 true 59).at) } → Calls Tryz.prog 89 #[.pointer (some ⟨S.p, 0, none⟩)] y fun e z => e = .returned (.bool false) ∧ St z { S with ext := upd S.ext 1 (CelC fb 27 (flt 0 true 59).at) }) := Hid.in (fun y fb k => fpast0 k hw)
  have HR : Hid (∀ y fb, St y { S with ext := upd S.ext 1 (CelC fb 27 (flt 0 true 59).at) } → Calls Tryz.prog 90 #[.pointer (some ⟨S.p, 0, none⟩), .pointer (some ⟨fb, 0, none⟩)] y fun e z => e = .returned (.bool true) ∧ St z { S with ext := upd S.ext 1 (CelC fb 27 (flt 0 true 59).at) }) := Hid.in (fun y fb k => froom k (j := 1) (fb := fb) (f := flt 0 true 59) (show upd S.ext 1 (CelC fb 27 (flt 0 true 59).at) 1 = _ from upd_same _ _ _) rfl (Or.inl rfl) (by show ((S.ws.on.length : Nat) : Int) < S.cf.window; omega))
  have HT : Hid (∀ y fb, St y { S with ext := upd S.ext 1 (CelC fb 27 (flt 0 true 59).at) } → Calls Tryz.prog 91 #[.pointer (some ⟨S.p, 0, none⟩), .pointer (some ⟨fb, 0, none⟩)] y fun e z => e = .returned (.tuple #[]) ∧ ∃ v', St z (S.took 1 fb 0 true 59 v' (0 + 1) ([] ++ [.pointer (some ⟨fb, 0, none⟩)]))) := Hid.in (fun y fb k => ftook (by decide) 0 true 59 (Or.inl rfl) (Or.inl rfl) hr hw (by decide) (by omega) (by omega) (by omega) hc k)
  have HL : Hid (S.ws.on.length = 0 ∧ 2 ≤ S.ws.size ∧ S.cf.window = S.ws.size ∧ S.ws.next = 0 ∧ S.R.evs.length < 100 ∧ S.R.cyc ≤ 1000) := Hid.in ⟨hl0, hsz, hwin, hnx, hn, hc⟩
  clear h hw hx hr hon hsz hwin hnx hn hc hl0
  go_enter Tryz.func50, Tryz.ntmps50
  go_wp2_with fail
  refine wp_loop_rounds 3 ?_
  rw [rounds_succ]
  go_wp2_with (first
    | (go_at_call 88; go_must (refine HF.out.mono ?_; rintro e y ⟨b0, rfl, hs⟩; have HY := Hid.in hs; clear hs))
    | (go_at_call 89; go_must (refine (HP.out _ _ HY.out).mono ?_; rintro e z ⟨rfl, hs⟩; have HZ := Hid.in hs; clear hs))
    | (go_at_call 90; go_must (refine (HR.out _ _ HZ.out).mono ?_; rintro e u ⟨rfl, hs⟩; have HU := Hid.in hs; clear hs))
    | (go_at_call 91; go_must (refine (HT.out _ _ HU.out).mono ?_; rintro e t ⟨rfl, v0, hs⟩; have HV := Hid.in hs; clear hs)))
  obtain ⟨wb, cap, rfl⟩ := Go.ownsRow_succ (HV.out.rowc (k := 0) (took_row S 1 b0 0 true 59 v0 (0 + 1) ([] ++ [.pointer (some ⟨b0, 0, none⟩)])))
  have h1 : St t (S.took 1 b0 0 true 59 (.slice (some ⟨wb, 0, none⟩) 1 cap) 1 [.pointer (some ⟨b0, 0, none⟩)]) := HV.out
  clear HF HP HR HT HV HY HZ HU c7 c152 h3
  obtain ⟨l0, l1, l2, l3, l4, l5⟩ := HL.out
  have t152 : t.cell? ⟨S.p, 152, none⟩ = some (.int .u32 4) := h1.core.cell 152 (by decide)
  have t3 : S.p < t.heap.size := h1.core.here
  generalize hS1 : S.took 1 b0 0 true 59 (.slice (some ⟨wb, 0, none⟩) 1 cap) 1 [.pointer (some ⟨b0, 0, none⟩)] = S1 at h1
  have p1 : S1.p = S.p := by rw [← hS1]; rfl
  have cf1 : S1.cf = S.cf := by rw [← hS1]; rfl
  have w1 : S1.ws = S.ws.enter 7 (-1) (-1) (-1) := by rw [← hS1]; rfl
  have o1 : S1.w0 = S.w0 := by rw [← hS1]; rfl
  have wy1 : S1.way = .slice (some ⟨wb, 0, none⟩) 1 cap := by rw [← hS1]; rfl
  have r1 : S1.ext 0 = RowC S1.w0.heap.size 221 1 (.slice (some ⟨wb, 0, none⟩) 1 cap) 1 [.pointer (some ⟨b0, 0, none⟩)] := by rw [o1, ← hS1]; exact took_row _ _ _ _ _ _ _ _ _
  have g1 : S1.ext 1 = CelC b0 27 (fly S.ws.next 0 true 59 S.ps).at := by rw [← hS1]; exact took_flt _ (by decide) _ _ _ _ _ _ _
  have n1 : S1.R.evs.length < 1000 ∧ S1.R.cyc ≤ 1000 := by rw [← hS1]; refine ⟨?_, l5⟩; show (S.R.evs ++ [_]).length < 1000; simp; omega
  have len1 : S1.ws.on.length = 1 := by rw [w1, enter_len]; omega
  have sz1 : S1.ws.size = S.ws.size := by rw [w1]; rfl
  have nx1 : S1.ws.next = 1 := by rw [w1]; show S.ws.next + 1 = 1; omega
  have HF := Hid.in (ffetch1 h1 2)
  have HP : Hid (∀ y fb, St y { S1 with ext := upd S1.ext 2 (CelC fb 27 (flt 4 false 0).at) } → Calls Tryz.prog 89 #[.pointer (some ⟨S1.p, 0, none⟩)] y fun e z => e = .returned (.bool false) ∧ St z { S1 with ext := upd S1.ext 2 (CelC fb 27 (flt 4 false 0).at) }) := Hid.in (fun y fb k => fpast1 k (wb := wb) (cap := cap) (j := 1) (fb := b0) (f := fly S.ws.next 0 true 59 S.ps) (show upd S1.ext 2 (CelC fb 27 (flt 4 false 0).at) 0 = _ from (upd_other _ _ _ _ (by decide)).trans r1) wy1 rfl (show upd S1.ext 2 (CelC fb 27 (flt 4 false 0).at) 1 = _ from (upd_other _ _ _ _ (by decide)).trans g1))
  have HR : Hid (∀ y fb, St y { S1 with ext := upd S1.ext 2 (CelC fb 27 (flt 4 false 0).at) } → Calls Tryz.prog 90 #[.pointer (some ⟨S1.p, 0, none⟩), .pointer (some ⟨fb, 0, none⟩)] y fun e z => e = .returned (.bool true) ∧ St z { S1 with ext := upd S1.ext 2 (CelC fb 27 (flt 4 false 0).at) }) := Hid.in (fun y fb k => froom k (j := 2) (fb := fb) (f := flt 4 false 0) (show upd S1.ext 2 (CelC fb 27 (flt 4 false 0).at) 2 = _ from upd_same _ _ _) rfl (Or.inr rfl) (by show ((S1.ws.on.length : Nat) : Int) < S1.cf.window; rw [cf1]; omega))
  have HT : Hid (∀ y fb, St y { S1 with ext := upd S1.ext 2 (CelC fb 27 (flt 4 false 0).at) } → Calls Tryz.prog 91 #[.pointer (some ⟨S1.p, 0, none⟩), .pointer (some ⟨fb, 0, none⟩)] y fun e z => e = .returned (.tuple #[]) ∧ ∃ v', St z (S1.took 2 fb 4 false 0 v' (1 + 1) ([.pointer (some ⟨b0, 0, none⟩)] ++ [.pointer (some ⟨fb, 0, none⟩)]))) := Hid.in (fun y fb k => ftook (by decide) 4 false 0 (Or.inr rfl) (Or.inr rfl) r1 wy1 (by decide) (by omega) (by omega) n1.1 n1.2 k)
  rw [p1] at HF HP HR HT
  have HS1 := Hid.in hS1
  have HO1 := Hid.in o1
  have HP1 := Hid.in p1
  have HG1 := Hid.in g1
  clear h1 hS1 p1 cf1 w1 o1 wy1 r1 g1 n1 len1 sz1 nx1 l0 l1 l2 l3 l4 l5
  rw [rounds_succ]
  go_wp2_with (first
    | (go_at_call 88; go_must (refine HF.out.mono ?_; rintro e y ⟨b1, rfl, hs⟩; have HY := Hid.in hs; clear hs))
    | (go_at_call 89; go_must (refine (HP.out _ _ HY.out).mono ?_; rintro e z ⟨rfl, hs⟩; have HZ := Hid.in hs; clear hs))
    | (go_at_call 90; go_must (refine (HR.out _ _ HZ.out).mono ?_; rintro e u ⟨rfl, hs⟩; have HU := Hid.in hs; clear hs))
    | (go_at_call 91; go_must (refine (HT.out _ _ HU.out).mono ?_; rintro e r ⟨rfl, v1, hs⟩; have HV := Hid.in hs; clear hs)))
  obtain ⟨wb2, cap2, rfl⟩ := Go.ownsRow_succ (HV.out.rowc (k := 0) (took_row S1 2 b1 4 false 0 v1 (1 + 1) ([.pointer (some ⟨b0, 0, none⟩)] ++ [.pointer (some ⟨b1, 0, none⟩)])))
  have h2 : St r (S1.took 2 b1 4 false 0 (.slice (some ⟨wb2, 0, none⟩) 2 cap2) 2 [.pointer (some ⟨b0, 0, none⟩), .pointer (some ⟨b1, 0, none⟩)]) := HV.out
  clear HF HP HR HT HV HY HZ HU t152 t3
  have r152 : r.cell? ⟨S1.p, 152, none⟩ = some (.int .u32 8) := h2.core.cell 152 (by decide)
  have r3 : S1.p < r.heap.size := h2.core.here
  have HFp : ∀ p', (S1.took 2 b1 4 false 0 (.slice (some ⟨wb2, 0, none⟩) 2 cap2) 2 [.pointer (some ⟨b0, 0, none⟩), .pointer (some ⟨b1, 0, none⟩)]).p = p' → Calls Tryz.prog 88 #[.pointer (some ⟨p', 0, none⟩), .int .u32 8] r fun e y => ∃ fb, e = .returned (.pointer (some ⟨fb, 0, none⟩)) ∧ St y { S1.took 2 b1 4 false 0 (.slice (some ⟨wb2, 0, none⟩) 2 cap2) 2 [.pointer (some ⟨b0, 0, none⟩), .pointer (some ⟨b1, 0, none⟩)] with ext := upd (S1.took 2 b1 4 false 0 (.slice (some ⟨wb2, 0, none⟩) 2 cap2) 2 [.pointer (some ⟨b0, 0, none⟩), .pointer (some ⟨b1, 0, none⟩)]).ext 3 (CelC fb 27 (flt 8 false 0).at) } := by
    rintro _ rfl
    exact ffetch2 h2 3
  have HF := Hid.in (HFp S.p HP1.out)
  clear HFp
  have HP : Hid (∀ y fb, St y { S1.took 2 b1 4 false 0 (.slice (some ⟨wb2, 0, none⟩) 2 cap2) 2 [.pointer (some ⟨b0, 0, none⟩), .pointer (some ⟨b1, 0, none⟩)] with ext := upd (S1.took 2 b1 4 false 0 (.slice (some ⟨wb2, 0, none⟩) 2 cap2) 2 [.pointer (some ⟨b0, 0, none⟩), .pointer (some ⟨b1, 0, none⟩)]).ext 3 (CelC fb 27 (flt 8 false 0).at) } → Calls Tryz.prog 89 #[.pointer (some ⟨S1.p, 0, none⟩)] y fun e z => e = .returned (.bool true) ∧ St z { S1.took 2 b1 4 false 0 (.slice (some ⟨wb2, 0, none⟩) 2 cap2) 2 [.pointer (some ⟨b0, 0, none⟩), .pointer (some ⟨b1, 0, none⟩)] with ext := upd (S1.took 2 b1 4 false 0 (.slice (some ⟨wb2, 0, none⟩) 2 cap2) 2 [.pointer (some ⟨b0, 0, none⟩), .pointer (some ⟨b1, 0, none⟩)]).ext 3 (CelC fb 27 (flt 8 false 0).at) }) := Hid.in (fun y fb k => fpast2 k (wb := wb2) (cap := cap2) (j := 2) (fb := b1) (f := fly S1.ws.next 4 false 0 S1.ps) (show upd (S1.took 2 b1 4 false 0 (.slice (some ⟨wb2, 0, none⟩) 2 cap2) 2 [.pointer (some ⟨b0, 0, none⟩), .pointer (some ⟨b1, 0, none⟩)]).ext 3 (CelC fb 27 (flt 8 false 0).at) 0 = _ from (upd_other _ _ _ _ (by decide)).trans (took_row S1 2 b1 4 false 0 _ 2 _)) rfl rfl (show upd (S1.took 2 b1 4 false 0 (.slice (some ⟨wb2, 0, none⟩) 2 cap2) 2 [.pointer (some ⟨b0, 0, none⟩), .pointer (some ⟨b1, 0, none⟩)]).ext 3 (CelC fb 27 (flt 8 false 0).at) 2 = _ from (upd_other _ _ _ _ (by decide)).trans (took_flt S1 (by decide) b1 4 false 0 _ 2 _)))
  have HFIN : Hid (∀ y b2, St y { S1.took 2 b1 4 false 0 (.slice (some ⟨wb2, 0, none⟩) 2 cap2) 2 [.pointer (some ⟨b0, 0, none⟩), .pointer (some ⟨b1, 0, none⟩)] with ext := upd (S1.took 2 b1 4 false 0 (.slice (some ⟨wb2, 0, none⟩) 2 cap2) 2 [.pointer (some ⟨b0, 0, none⟩), .pointer (some ⟨b1, 0, none⟩)]).ext 3 (CelC b2 27 (flt 8 false 0).at) } → ∃ b0 b1 wb cap v E, (∀ k, k ≠ 3 → E k = (Two1 S b0 b1 wb cap v).ext k) ∧ St y { Two1 S b0 b1 wb cap v with ext := E }) := Hid.in (fun y b2 k => by
    refine ⟨b0, b1, wb, cap, .slice (some ⟨wb2, 0, none⟩) 2 cap2, upd (S1.took 2 b1 4 false 0 (.slice (some ⟨wb2, 0, none⟩) 2 cap2) 2 [.pointer (some ⟨b0, 0, none⟩), .pointer (some ⟨b1, 0, none⟩)]).ext 3 (CelC b2 27 (flt 8 false 0).at), fun i hi => ?_, ?_⟩
    · rw [upd_other _ _ _ _ hi, ← HS1.out]
      rfl
    · have q := k
      rw [← HS1.out] at q ⊢
      exact q)
  rw [HP1.out] at r152 r3 HP
  clear h2
  have hwd' : (2 : Int) < S.cf.width := by omega
  rw [rounds_succ]
  go_wp2_with (first
    | (go_at_call 88; go_must (refine HF.out.mono ?_; rintro e y ⟨b2, rfl, hs⟩; have HY := Hid.in hs; clear hs))
    | (go_at_call 89; go_must (refine (HP.out _ _ HY.out).mono ?_; rintro e z ⟨rfl, hs⟩; have HZ := Hid.in hs; clear hs)))
  exact bodyPost_ret (results_none Tryz.results50 _ _ _) rfl ⟨rfl, HFIN.out _ _ HZ.out⟩
end
end Go.Proofs.YtemamhkhjijdlaaGreatDoor
/-
  CORE: what retires.
-/
namespace Go.Proofs.YtemamhkhjijdlaaGreatDoor
open Go Go.RowKit
section
variable {x y : World} {S : FS}
set_option maxRecDepth 100000 in
set_option maxHeartbeats 4000000 in
theorem fret1 (h : St x S) {S' : FS} {U : FS → Prop} {wb nn cap B b0 : Nat} {l : List Value} (hnn : 0 < nn) (hr : S.ext 0 = RowC B 221 1 (.slice (some ⟨wb, 0, none⟩) nn cap) nn l) (hl : l[0]? = some (.pointer (some ⟨b0, 0, none⟩))) (hw : S.way = .slice (some ⟨wb, 0, none⟩) nn cap) (hwd : S.cf.width = 1) (hp' : S'.p = S.p) (hw' : S'.way = S.way) (hr' : S'.ext 0 = S.ext 0) (hdone : ∀ x, St x S → Calls Tryz.prog 79 #[.pointer (some ⟨S.p, 0, none⟩), .pointer (some ⟨b0, 0, none⟩)] x fun e y => e = .returned (.bool true) ∧ St y S') (hcom : ∀ y, St y S' → Calls Tryz.prog 80 #[.pointer (some ⟨S.p, 0, none⟩), .pointer (some ⟨b0, 0, none⟩)] y fun e z => e = .returned (.tuple #[]) ∧ ∃ T, U T ∧ St z T) : Calls Tryz.prog 48 #[.pointer (some ⟨S.p, 0, none⟩)] x fun e z => e = .returned (.tuple #[]) ∧ ∃ T, U T ∧ St z T := by
  have c7 : x.cell? ⟨S.p, 7, none⟩ = some (.int .i64 S.cf.width) := h.core.cell 7 (by decide)
  rw [hwd] at c7
  have c151 : x.cell? ⟨S.p, 151, none⟩ = some (.slice (some ⟨wb, 0, none⟩) nn cap) := (h.core.cell 151 (by decide)).trans (congrArg some hw)
  have h3 := h.core.here
  have kr := own_cell1 (h.rowc hr)
  have r0 : x.cell? ⟨wb, 0, none⟩ = some (.pointer (some ⟨b0, 0, none⟩)) := kr.2.2 0 _ hl
  have r2 := kr.2.1
  have hnn' : ((nn : Int) == 0) = false := by simp; omega
  have HI := Hid.in (fintr h)
  have HD := Hid.in (hdone x h)
  have HC := Hid.in hcom
  have HF : Hid (∀ y, St y S' → y.cell? ⟨S.p, 151, none⟩ = some (.slice (some ⟨wb, 0, none⟩) nn cap) ∧ S.p < y.heap.size ∧ y.cell? ⟨wb, 0, none⟩ = some (.pointer (some ⟨b0, 0, none⟩)) ∧ wb < y.heap.size) := Hid.in (fun y k => by
    have q := own_cell1 (k.rowc (k := 0) (hr'.trans hr))
    have c := k.core.cell 151 (by decide)
    have c2 := k.core.here
    rw [hp'] at c c2
    exact ⟨c.trans (congrArg some (hw'.trans hw)), c2, q.2.2 0 _ hl, q.2.1⟩)
  clear h kr hr hl hw hp' hw' hr' hdone hcom
  go_enter Tryz.func48, Tryz.ntmps48
  go_wp2_with (go_at_call 78; go_must (refine HI.out.mono ?_; rintro e y ⟨rfl, rfl⟩))
  refine wp_loop_rounds 2 ?_
  rw [rounds_succ]
  go_upto_region 4 with (go_at_call 79; go_must (refine HD.out.mono ?_; rintro e y ⟨rfl, hs⟩; have HY := Hid.in hs; clear hs))
  obtain ⟨d1, d2, d3, d4⟩ := HF.out _ HY.out
  go_wp2_with (go_at_call 80; go_must (refine (HC.out _ HY.out).mono ?_; rintro e z ⟨rfl, T, hT, hs⟩; have HZ := Hid.in hs; have HT := Hid.in hT; clear hs hT))
  rw [rounds_succ]
  go_wp2_with fail
  exact bodyPost_end (results_none Tryz.results48 _ _ _) rfl ⟨rfl, T, HT.out, HZ.out⟩
set_option maxRecDepth 100000 in
set_option maxHeartbeats 4000000 in
theorem fret2 (h : St x S) {S' : FS} {U : FS → Prop} {wb nn cap B b0 : Nat} {l : List Value} (hnn : 0 < nn) (hr : S.ext 0 = RowC B 221 1 (.slice (some ⟨wb, 0, none⟩) nn cap) nn l) (hl : l[0]? = some (.pointer (some ⟨b0, 0, none⟩))) (hw : S.way = .slice (some ⟨wb, 0, none⟩) nn cap) (hwd : 2 ≤ S.cf.width) (hp' : S'.p = S.p) (hw' : S'.way = S.way) (hr' : S'.ext 0 = S.ext 0) (hdone : ∀ x, St x S → Calls Tryz.prog 79 #[.pointer (some ⟨S.p, 0, none⟩), .pointer (some ⟨b0, 0, none⟩)] x fun e y => e = .returned (.bool true) ∧ St y S') (hcom : ∀ y, St y S' → Calls Tryz.prog 80 #[.pointer (some ⟨S.p, 0, none⟩), .pointer (some ⟨b0, 0, none⟩)] y fun e z => e = .returned (.tuple #[]) ∧ ∃ T, U T ∧ St z T) (hU : ∀ T, U T → T.p = S.p ∧ ∃ q c, T.way = .slice q 0 c) : Calls Tryz.prog 48 #[.pointer (some ⟨S.p, 0, none⟩)] x fun e z => e = .returned (.tuple #[]) ∧ ∃ T, U T ∧ St z T := by
  have c7 : x.cell? ⟨S.p, 7, none⟩ = some (.int .i64 S.cf.width) := h.core.cell 7 (by decide)
  have c151 : x.cell? ⟨S.p, 151, none⟩ = some (.slice (some ⟨wb, 0, none⟩) nn cap) := (h.core.cell 151 (by decide)).trans (congrArg some hw)
  have h3 := h.core.here
  have kr := own_cell1 (h.rowc hr)
  have r0 : x.cell? ⟨wb, 0, none⟩ = some (.pointer (some ⟨b0, 0, none⟩)) := kr.2.2 0 _ hl
  have r2 := kr.2.1
  have hnn' : ((nn : Int) == 0) = false := by simp; omega
  have HI := Hid.in (fintr h)
  have HD := Hid.in (hdone x h)
  have HC := Hid.in hcom
  have HU := Hid.in hU
  have HF : Hid (∀ y, St y S' → y.cell? ⟨S.p, 151, none⟩ = some (.slice (some ⟨wb, 0, none⟩) nn cap) ∧ S.p < y.heap.size ∧ y.cell? ⟨wb, 0, none⟩ = some (.pointer (some ⟨b0, 0, none⟩)) ∧ wb < y.heap.size) := Hid.in (fun y k => by
    have q := own_cell1 (k.rowc (k := 0) (hr'.trans hr))
    have c := k.core.cell 151 (by decide)
    have c2 := k.core.here
    rw [hp'] at c c2
    exact ⟨c.trans (congrArg some (hw'.trans hw)), c2, q.2.2 0 _ hl, q.2.1⟩)
  clear h kr hr hl hw hp' hw' hr' hdone hcom hU
  go_enter Tryz.func48, Tryz.ntmps48
  go_wp2_with (go_at_call 78; go_must (refine HI.out.mono ?_; rintro e y ⟨rfl, rfl⟩))
  refine wp_loop_rounds 2 ?_
  rw [rounds_succ]
  go_upto_region 4 with (go_at_call 79; go_must (refine HD.out.mono ?_; rintro e y ⟨rfl, hs⟩; have HY := Hid.in hs; clear hs))
  obtain ⟨d1, d2, d3, d4⟩ := HF.out _ HY.out
  go_wp2_with (go_at_call 80; go_must (refine (HC.out _ HY.out).mono ?_; rintro e z ⟨rfl, T, hT, hs⟩; have HZ := Hid.in hs; have HT := Hid.in hT; clear hs hT))
  obtain ⟨e1, q, c, e2⟩ := HU.out T HT.out
  have k151 := HZ.out.core.cell 151 (by decide)
  have k3 := HZ.out.core.here
  rw [e1] at k151 k3
  have z151 : z.cell? ⟨S.p, 151, none⟩ = some (.slice q 0 c) := k151.trans (congrArg some e2)
  clear k151 e1 e2
  rw [rounds_succ]
  go_wp2_with fail
  exact bodyPost_ret (results_none Tryz.results48 _ _ _) rfl ⟨rfl, T, HT.out, HZ.out⟩
end
end Go.Proofs.YtemamhkhjijdlaaGreatDoor
/-
  CORE: its first cycle.
-/
namespace Go.Proofs.YtemamhkhjijdlaaGreatDoor
open Go Go.RowKit
/-- a core that has not begun -/
structure Ini (S : FS) : Prop where
  way : S.way = .slice none 0 0
  nx : S.nx = 0
  row : S.ext 0 = RowC S.w0.heap.size 221 1 (.slice none 0 0) 0 []
  on : S.ws.on = []
  size : 2 ≤ S.ws.size
  win : S.cf.window = S.ws.size
  next : S.ws.next = 0
  rec0 : S.R = ⟨[], [], 0⟩
  hl : S.hl = false
  qs : ∃ n, S.qs = ⟨n, []⟩
  units : 1 ≤ S.cf.units ∧ S.cf.units ≤ 4
  width : 1 ≤ S.cf.width ∧ S.cf.width ≤ 4
  off : Off S.G
  ps : S.ps.hist ≤ S.G.mask ∧ S.ps.top < S.G.ns
/-- behind the first cycle -/
def Mid (S T : FS) : Prop := (S.cf.width = 1 ∧ ∃ b0 wb cap, T = S.took 1 b0 0 true 59 (.slice (some ⟨wb, 0, none⟩) 1 cap) 1 [.pointer (some ⟨b0, 0, none⟩)]) ∨ (2 ≤ S.cf.width ∧ ∃ b0 b1 wb' cap' wb cap E, (∀ k, k ≠ 3 → E k = (Two1 S b0 b1 wb' cap' (.slice (some ⟨wb, 0, none⟩) 2 cap)).ext k) ∧ T = { Two1 S b0 b1 wb' cap' (.slice (some ⟨wb, 0, none⟩) 2 cap) with ext := E })
theorem top_none (n : Nat) : QS.top ⟨n, []⟩ = false := by rfl
section
variable {x y : World} {S : FS}
set_option maxRecDepth 100000 in
theorem fret0 (h : St x S) (hw : S.way = .slice none 0 0) (hwd : 1 ≤ S.cf.width) : Calls Tryz.prog 48 #[.pointer (some ⟨S.p, 0, none⟩)] x fun e z => e = .returned (.tuple #[]) ∧ z = x := by
  have c7 : x.cell? ⟨S.p, 7, none⟩ = some (.int .i64 S.cf.width) := h.core.cell 7 (by decide)
  have c151 : x.cell? ⟨S.p, 151, none⟩ = some (.slice none 0 0) := (h.core.cell 151 (by decide)).trans (congrArg some hw)
  have h3 := h.core.here
  have HI := Hid.in (fintr h)
  clear h hw
  go_enter Tryz.func48, Tryz.ntmps48
  go_wp2_with (go_at_call 78; go_must (refine HI.out.mono ?_; rintro e y ⟨rfl, rfl⟩))
  refine wp_loop_rounds 1 ?_
  rw [rounds_succ]
  go_wp2_with fail
  exact bodyPost_ret (results_none Tryz.results48 _ _ _) rfl ⟨rfl, rfl⟩
theorem fin_any (h : St x S) (i : Ini S) : Calls Tryz.prog 50 #[.pointer (some ⟨S.p, 0, none⟩)] x fun e y => e = .returned (.tuple #[]) ∧ ∃ T, Mid S T ∧ St y T := by
  have hn : S.R.evs.length < 100 := by rw [i.rec0]; decide
  have hc : S.R.cyc ≤ 1000 := by rw [i.rec0]; decide
  by_cases w1 : S.cf.width = 1
  · refine (fin1 h i.way i.nx i.row w1 i.on i.size i.win i.next hn hc).mono ?_
    rintro e y ⟨rfl, b0, v, hs⟩
    obtain ⟨wb, cap, rfl⟩ := Go.ownsRow_succ (hs.rowc (k := 0) (took_row S 1 b0 0 true 59 v 1 [.pointer (some ⟨b0, 0, none⟩)]))
    exact ⟨rfl, _, Or.inl ⟨w1, b0, wb, cap, rfl⟩, hs⟩
  · have hw := i.width
    have go : ∀ (e : Ending) (y : World), (e = .returned (.tuple #[]) ∧ ∃ b0 b1 wb cap v E, (∀ k, k ≠ 3 → E k = (Two1 S b0 b1 wb cap v).ext k) ∧ St y { Two1 S b0 b1 wb cap v with ext := E }) → e = .returned (.tuple #[]) ∧ ∃ T, Mid S T ∧ St y T := by
      rintro e y ⟨rfl, b0, b1, wb', cap', v, E, hE, hs⟩
      have hE0 : E 0 = RowC S.w0.heap.size 221 1 v 2 [.pointer (some ⟨b0, 0, none⟩), .pointer (some ⟨b1, 0, none⟩)] := (hE 0 (by decide)).trans (took_row _ 2 b1 4 false 0 v 2 _)
      obtain ⟨wb, cap, rfl⟩ := Go.ownsRow_succ (hs.rowc (k := 0) hE0)
      exact ⟨rfl, _, Or.inr ⟨by omega, b0, b1, wb', cap', wb, cap, E, hE, rfl⟩, hs⟩
    by_cases w2 : S.cf.width = 2
    · exact (fin2 h i.way i.nx i.row w2 i.on i.size i.win i.next hn hc).mono (fun e y => go e y)
    · exact (fin3 h i.way i.nx i.row (by omega) i.on i.size i.win i.next hn hc).mono (fun e y => go e y)
theorem mid_qs {T : FS} (m : Mid S T) : T.qs = S.qs ∧ T.p = S.p ∧ T.hl = S.hl := by
  rcases m with ⟨_, b0, wb, cap, rfl⟩ | ⟨_, b0, b1, wb', cap', wb, cap, E, _, rfl⟩
  · exact ⟨rfl, rfl, rfl⟩
  · exact ⟨rfl, rfl, rfl⟩
set_option maxRecDepth 100000 in
set_option maxHeartbeats 4000000 in
theorem fstep0 (h : St x S) (i : Ini S) : Calls Tryz.prog 25 #[.pointer (some ⟨S.p, 0, none⟩), .slice none 0 0] x fun e y => e = .returned (.tuple #[]) ∧ ∃ T, Mid S T ∧ St y T := by
  have HL := Hid.in (fline h)
  have HSP : Hid (∀ y, St y S → Calls Tryz.prog 46 #[.pointer (some ⟨S.p, 0, none⟩), .slice none 0 0] y fun e y => e = .returned (.tuple #[]) ∧ St y S) := Hid.in (fun y k => fspoil k)
  have HH : Hid (∀ y, St y S → (y.cell? ⟨S.p, 0, none⟩ = some (.pointer (some ⟨S.hp, 0, none⟩)) ∧ S.p < y.heap.size) ∧ Calls Tryz.prog 41 #[.pointer (some ⟨S.hp, 0, none⟩)] y fun e z => e = .returned (.bool false) ∧ z = y) := Hid.in (fun y k => ⟨⟨k.core.cell 0 (by decide), k.core.here⟩, by have q := fhalted k; rw [i.hl] at q; exact q⟩)
  have HFI : Hid (∀ y, St y S → Calls Tryz.prog 47 #[.pointer (some ⟨S.p, 0, none⟩)] y fun e y => e = .returned (.tuple #[]) ∧ St y S) := Hid.in (fun y k => ffinish0 k i.way)
  have HRE : Hid (∀ y, St y S → Calls Tryz.prog 48 #[.pointer (some ⟨S.p, 0, none⟩)] y fun e z => e = .returned (.tuple #[]) ∧ z = y) := Hid.in (fun y k => fret0 k i.way i.width.1)
  have HBE : Hid (∀ y, St y S → Calls Tryz.prog 49 #[.pointer (some ⟨S.p, 0, none⟩)] y fun e y => e = .returned (.tuple #[]) ∧ St y S) := Hid.in (fun y k => fbegin k i.on i.units)
  have HEN : Hid (∀ y, St y S → Calls Tryz.prog 50 #[.pointer (some ⟨S.p, 0, none⟩)] y fun e y => e = .returned (.tuple #[]) ∧ ∃ T, Mid S T ∧ St y T) := Hid.in (fun y k => fin_any k i)
  have HDR : Hid (∀ y T, Mid S T → St y T → Calls Tryz.prog 51 #[.pointer (some ⟨S.p, 0, none⟩)] y fun e y => e = .returned (.tuple #[]) ∧ St y T) := Hid.in (fun y T m k => by
    obtain ⟨q1, q2, -⟩ := mid_qs m
    obtain ⟨n, hn⟩ := i.qs
    rw [← q2]
    exact fdrain k (by rw [q1, hn]; exact top_none n))
  clear h i
  go_enter Tryz.func25, Tryz.ntmps25
  go_upto_region 2 with (first
    | (go_at_call 45; go_must (refine HL.out.mono ?_; rintro e y1 ⟨rfl, hs⟩; have H1 := Hid.in hs; clear hs))
    | (go_at_call 46; go_must (refine (HSP.out _ H1.out).mono ?_; rintro e y2 ⟨rfl, hs⟩; have H2 := Hid.in hs; clear hs)))
  obtain ⟨⟨a1, a2⟩, a3⟩ := HH.out _ H2.out
  have HA3 := Hid.in a3
  clear a3
  go_upto_region 5 with (first
    | (go_at_call 41; go_must (refine HA3.out.mono ?_; rintro e z ⟨rfl, rfl⟩))
    | (go_at_call 47; go_must (refine (HFI.out _ H2.out).mono ?_; rintro e y3 ⟨rfl, hs⟩; have H3 := Hid.in hs; clear hs))
    | (go_at_call 48; go_must (refine (HRE.out _ H3.out).mono ?_; rintro e y4 ⟨rfl, rfl⟩)))
  clear a1 a2 HA3
  obtain ⟨⟨a1, a2⟩, a3⟩ := HH.out _ H3.out
  have HA3 := Hid.in a3
  clear a3
  go_wp2_with (first
    | (go_at_call 41; go_must (refine HA3.out.mono ?_; rintro e z ⟨rfl, rfl⟩))
    | (go_at_call 49; go_must (refine (HBE.out _ H3.out).mono ?_; rintro e y5 ⟨rfl, hs⟩; have H5 := Hid.in hs; clear hs))
    | (go_at_call 50; go_must (refine (HEN.out _ H5.out).mono ?_; rintro e y6 ⟨rfl, T, hT, hs⟩; have H6 := Hid.in hs; have HT := Hid.in hT; clear hs hT))
    | (go_at_call 51; go_must (refine (HDR.out _ _ HT.out H6.out).mono ?_; rintro e y7 ⟨rfl, hs⟩; have H7 := Hid.in hs; clear hs)))
  exact bodyPost_end (results_none Tryz.results25 _ _ _) rfl ⟨rfl, T, HT.out, H7.out⟩
end
end Go.Proofs.YtemamhkhjijdlaaGreatDoor
/-
  CORE: its second cycle.
-/
namespace Go.Proofs.YtemamhkhjijdlaaGreatDoor
open Go Go.RowKit
def FS.tick (T : FS) : FS := { T with R := { T.R with cyc := T.R.cyc + 1 } }
/-- what was noted can be told -/
def RecOk (R : Rec) : Prop := ∃ (l : List (Int × Int × Int × Int)) (r : Nat), R.evs = l.map (fun q => evC q.1 q.2.1 q.2.2.1 0 q.2.2.2) ∧ l.length ≤ 6 ∧ (∀ k q, l[k]? = some q → 0 ≤ q.2.2.2 ∧ q.2.2.2 ≤ 5 ∧ (q.2.2.2 = 4 ↔ k = r)) ∧ (r < l.length → ∃ a0 a1 a2 a3 a4 a5 a6, R.whs = [whC a0 a1 a2 a3 a4 a5 a6])
/-- what stays -/
structure Fix (S T : FS) : Prop where
  w0 : T.w0 = S.w0
  p : T.p = S.p
  b : T.b = S.b
  g : T.g = S.g
  bs : T.bs = S.bs
  hp : T.hp = S.hp
  qs : T.qs = S.qs
  e6 : T.ext 6 = S.ext 6
  e7 : T.ext 7 = S.ext 7
theorem kinds4 : ∀ (k : Nat) (q : Int × Int × Int × Int), ([(0, 0, 0, 1), (1, 0, 0, 2), (1, 0, 0, 3), (1, 0, 0, 4)] : List (Int × Int × Int × Int))[k]? = some q → 0 ≤ q.2.2.2 ∧ q.2.2.2 ≤ 5 ∧ (q.2.2.2 = 4 ↔ k = 3)
  | 0, q, h => by simp at h; subst h; simp
  | 1, q, h => by simp at h; subst h; simp
  | 2, q, h => by simp at h; subst h; simp
  | 3, q, h => by simp at h; subst h; simp
  | k + 4, q, h => by simp at h
theorem kinds6 : ∀ (k : Nat) (q : Int × Int × Int × Int), ([(0, 0, 0, 1), (0, 1, 4, 1), (1, 0, 0, 2), (1, 0, 0, 3), (1, 0, 0, 4), (1, 1, 4, 5)] : List (Int × Int × Int × Int))[k]? = some q → 0 ≤ q.2.2.2 ∧ q.2.2.2 ≤ 5 ∧ (q.2.2.2 = 4 ↔ k = 4)
  | 0, q, h => by simp at h; subst h; simp
  | 1, q, h => by simp at h; subst h; simp
  | 2, q, h => by simp at h; subst h; simp
  | 3, q, h => by simp at h; subst h; simp
  | 4, q, h => by simp at h; subst h; simp
  | 5, q, h => by simp at h; subst h; simp
  | k + 6, q, h => by simp at h
/-- a window in which the first one may begin -/
theorem on_first {W : WS} {e : Ent} {l : List Ent} (h : W.on = e :: l) (hs : e.st = 0) (h1 : e.s1 = -1) (h2 : e.s2 = -1) : W.At e.num 0 ∧ W.may 0 = true ∧ (W.setSt 0 1).At e.num 0 ∧ (W.setSt 0 1).st 0 = 1 ∧ ((W.setSt 0 1).setSt 0 2).st 0 = 2 ∧ 0 < ((W.setSt 0 1).setSt 0 2).on.length ∧ ((W.setSt 0 1).setSt 0 2).pop.on = l := by
  obtain ⟨num, cls, s1, s2, st⟩ := e
  simp only at hs h1 h2
  subst hs h1 h2
  refine ⟨⟨?_, ?_, fun j hj => absurd hj (by omega)⟩, ?_, ⟨?_, ?_, fun j hj => absurd hj (by omega)⟩, ?_, ?_, ?_, ?_⟩ <;> simp [WS.num, WS.may, WS.there, WS.st, WS.setSt, WS.pop, h]
/-- a final state -/
structure Fin (S T : FS) : Prop where
  fix : Fix S T
  hl : T.hl = true
  rec1 : RecOk T.R
  way : ∃ q c, T.way = .slice q 0 c
  cyc : T.R.cyc = 1
section
variable {x y : World} {S : FS}
theorem gone_nil {W : WS} (h : W.on = []) (af : Int) : W.gone af = [] := by
  unfold WS.gone
  rw [h]
  rfl
theorem gone_one {W : WS} {e : Ent} (h : W.on = [e]) (af : Int) (hn : af < e.num) : W.gone af = [e.num] := by
  unfold WS.gone
  simp [h, WS.num, tl, hn]
set_option maxRecDepth 100000 in
set_option maxHeartbeats 2000000 in
theorem fret_one (i : Ini S) (hw1 : S.cf.width = 1) {b0 wb cap : Nat} (h : St x (S.took 1 b0 0 true 59 (.slice (some ⟨wb, 0, none⟩) 1 cap) 1 [.pointer (some ⟨b0, 0, none⟩)]).tick) : Calls Tryz.prog 48 #[.pointer (some ⟨S.p, 0, none⟩)] x fun e z => e = .returned (.tuple #[]) ∧ ∃ T, Fin S T ∧ St z T := by
  obtain ⟨n, hq⟩ := i.qs
  have hR := i.rec0
  have hnx := i.next
  have hoff := i.off
  have hps := i.ps
  generalize hT : (S.took 1 b0 0 true 59 (.slice (some ⟨wb, 0, none⟩) 1 cap) 1 [.pointer (some ⟨b0, 0, none⟩)]).tick = T at h
  generalize hf : fly S.ws.next 0 true 59 S.ps = f
  have hf0 : f.seq = 0 := by rw [← hf]; show ((S.ws.next : Nat) : Int) = 0; rw [hnx]; rfl
  have hfpc : f.pc = 0 := by rw [← hf]; rfl
  have tp : T.p = S.p := by rw [← hT]; rfl
  have tcf : T.cf = S.cf := by rw [← hT]; rfl
  have tG : T.G = S.G := by rw [← hT]; rfl
  have thl : T.hl = false := by rw [← hT]; exact i.hl
  have tq : T.qs = ⟨n, []⟩ := by rw [← hT]; exact hq
  have tw : T.way = .slice (some ⟨wb, 0, none⟩) 1 cap := by rw [← hT]; rfl
  have tr : T.ext 0 = RowC S.w0.heap.size 221 1 (.slice (some ⟨wb, 0, none⟩) 1 cap) 1 [.pointer (some ⟨b0, 0, none⟩)] := by rw [← hT]; exact took_row S 1 b0 0 true 59 (.slice (some ⟨wb, 0, none⟩) 1 cap) 1 [.pointer (some ⟨b0, 0, none⟩)]
  have tf : T.ext 1 = CelC b0 27 f.at := by rw [← hT, ← hf]; exact took_flt S (j := 1) (by decide) b0 0 true 59 (.slice (some ⟨wb, 0, none⟩) 1 cap) 1 [.pointer (some ⟨b0, 0, none⟩)]
  have tR : T.R = ⟨[evC 0 0 0 0 1], [], 1⟩ := by
    rw [← hT]
    show (⟨S.R.evs ++ [evC S.R.cyc (S.ws.next : Nat) 0 0 1], S.R.whs, S.R.cyc + 1⟩ : Rec) = _
    rw [hR, hnx]
    rfl
  have won : T.ws.on = [⟨0, 7, -1, -1, 0⟩] := by
    rw [← hT]
    show (S.ws.enter 7 (-1) (-1) (-1)).on = _
    simp [WS.enter, i.on, hnx]
  have F6 : T.ext 6 = S.ext 6 := by rw [← hT]; exact took_other S (j := 1) (k := 6) (by decide) (by decide) b0 0 true 59 (.slice (some ⟨wb, 0, none⟩) 1 cap) 1 [.pointer (some ⟨b0, 0, none⟩)]
  have F7 : T.ext 7 = S.ext 7 := by rw [← hT]; exact took_other S (j := 1) (k := 7) (by decide) (by decide) b0 0 true 59 (.slice (some ⟨wb, 0, none⟩) 1 cap) 1 [.pointer (some ⟨b0, 0, none⟩)]
  have FT : Fix S T := ⟨by rw [← hT]; rfl, tp, by rw [← hT]; rfl, by rw [← hT]; rfl, by rw [← hT]; rfl, by rw [← hT]; rfl, tq.trans hq.symm, F6, F7⟩
  have hfd : f.d = -1 := by rw [← hf]; rfl
  have hfst : f.stage = 0 := by rw [← hf]; rfl
  have hfc : f.cls = 7 := by rw [← hf]; rfl
  have hfo : f.op = 59 := by rw [← hf]; rfl
  have hfh : f.mh ≤ T.G.mask := by rw [tG, ← hf]; exact hps.1
  have hft : f.mt < T.G.ns := by rw [tG, ← hf]; exact hps.2
  obtain ⟨A1, A2, A3, A4, A5, A6, A7⟩ := on_first won rfl rfl rfl
  have evn : T.R.evs.length = 1 := by rw [tR]; rfl
  have whn : T.R.whs.length = 0 := by rw [tR]; rfl
  have cyn : T.R.cyc = 1 := by rw [tR]
  clear hT hf
  rw [← tp]
  refine fret1 h (S' := FS.told (FS.told { T with ws := (T.ws.setSt 0 1).setSt 0 2, ext := upd T.ext 1 (CelC b0 27 ({ f with stage := 2, due := T.R.cyc } : Flt).at) } f 2) f 3) (U := Fin S) (by decide) tr rfl tw (by rw [tcf]; exact hw1) rfl rfl (show upd T.ext 1 (CelC b0 27 ({ f with stage := 2, due := T.R.cyc } : Flt).at) 0 = T.ext 0 from upd_other _ _ _ _ (by decide)) (fun x k => fisdone k tf hfc hfo hfst hfd (by rw [hf0]; exact A1) (by rw [hf0]; exact A3) A2 A4 (by omega) (by omega) (by omega)) (fun y k => ?_)
  have hx : ∀ (nb : Nat) (y : World) (ps : PS), St y { FS.did (FS.told (FS.told { T with ws := (T.ws.setSt 0 1).setSt 0 2, ext := upd T.ext 1 (CelC b0 27 ({ f with stage := 2, due := T.R.cyc } : Flt).at) } f 2) f 3) nb with ws := ((T.ws.setSt 0 1).setSt 0 2).pop, way := .slice (if cap = 1 then some (⟨wb, 0, none⟩ : Addr) else some ⟨wb, 1, none⟩) 0 (cap - 1), R := { T.R with evs := ((T.R.evs ++ [evC T.R.cyc f.seq f.pc 0 2]) ++ [evC T.R.cyc f.seq f.pc 0 3]) ++ [evC T.R.cyc f.seq f.pc 0 4], whs := T.R.whs ++ [whC 0 1048691 0 0 3 0 0] }, ps := ps } → Calls Tryz.prog 125 #[.pointer (some ⟨T.p, 0, none⟩), .int .i64 f.seq] y fun e z => e = .returned (.tuple #[]) ∧ St z { ({ T with hl := true, ws := (((T.ws.setSt 0 1).setSt 0 2).pop).squash f.seq, way := .slice (if cap = 1 then some (⟨wb, 0, none⟩ : Addr) else some ⟨wb, 1, none⟩) 0 (cap - 1), R := { T.R with evs := ((T.R.evs ++ [evC T.R.cyc f.seq f.pc 0 2]) ++ [evC T.R.cyc f.seq f.pc 0 3]) ++ [evC T.R.cyc f.seq f.pc 0 4], whs := T.R.whs ++ [whC 0 1048691 0 0 3 0 0] }, ext := upd T.ext 1 (CelC b0 27 ({ f with stage := 2, due := T.R.cyc } : Flt).at) } : FS) with ps := ps, ext := upd (upd T.ext 1 (CelC b0 27 ({ f with stage := 2, due := T.R.cyc } : Flt).at)) 5 (CelC nb 7 (whC 0 1048691 0 0 3 0 0)) } := fun nb y ps q => by
    refine (fthrow0 q f.seq n tq (gone_nil (W := ((T.ws.setSt 0 1).setSt 0 2).pop) A7 f.seq)).mono ?_
    rintro e z ⟨rfl, hs⟩
    exact ⟨rfl, hs⟩
  have hC := fcommit1 k (qa := if cap = 1 then some (⟨wb, 0, none⟩ : Addr) else some ⟨wb, 1, none⟩) (fun wb2 cap2 e => by have e2 := tw.symm.trans e; injection e2 with a1 a2 a3; injection a1 with a1; injection a1 with a1; subst a1; subst a3; rfl) (T := { T with hl := true, ws := (((T.ws.setSt 0 1).setSt 0 2).pop).squash f.seq, way := .slice (if cap = 1 then some (⟨wb, 0, none⟩ : Addr) else some ⟨wb, 1, none⟩) 0 (cap - 1), R := { T.R with evs := ((T.R.evs ++ [evC T.R.cyc f.seq f.pc 0 2]) ++ [evC T.R.cyc f.seq f.pc 0 3]) ++ [evC T.R.cyc f.seq f.pc 0 4], whs := T.R.whs ++ [whC 0 1048691 0 0 3 0 0] }, ext := upd T.ext 1 (CelC b0 27 ({ f with stage := 2, due := T.R.cyc } : Flt).at) }) (j := 1) (fb := b0) (n := n) (wb := wb) (cap := cap) (B := S.w0.heap.size) (f := { f with stage := 2, due := T.R.cyc }) (l := [.pointer (some ⟨b0, 0, none⟩)]) (by decide) thl (show upd T.ext 1 (CelC b0 27 ({ f with stage := 2, due := T.R.cyc } : Flt).at) 1 = _ from upd_same _ _ _) (show upd T.ext 1 (CelC b0 27 ({ f with stage := 2, due := T.R.cyc } : Flt).at) 0 = _ from (upd_other _ _ _ _ (by decide)).trans tr) tw (by show Off T.G; rw [tG]; exact hoff) hfh hft (by show 0 ≤ f.pc ∧ f.pc < 4294967296; omega) hfd (by show 0 ≤ f.seq ∧ f.seq ≤ 1000; omega) (by show ((T.R.evs ++ [_]) ++ [_]).length < 1000; simp; omega) (by show T.R.whs.length < 1000; omega) (by show T.R.cyc ≤ 1000; omega) A6 A5 tq rfl rfl (show upd T.ext 1 (CelC b0 27 ({ f with stage := 2, due := T.R.cyc } : Flt).at) 1 = _ from upd_same _ _ _) hx
  refine hC.mono ?_
  rintro e z ⟨rfl, ps, E', hE', hs⟩
  refine ⟨rfl, _, ?_, hs⟩
  refine ⟨⟨FT.w0, FT.p, FT.b, FT.g, FT.bs, FT.hp, FT.qs, ?_, ?_⟩, rfl, ?_, ⟨_, _, rfl⟩, cyn⟩
  · exact (hE' 6 (by decide)).trans ((show upd T.ext 1 (CelC b0 27 ({ f with stage := 2, due := T.R.cyc } : Flt).at) 6 = T.ext 6 from upd_other _ _ _ _ (by decide)).trans FT.e6)
  · exact (hE' 7 (by decide)).trans ((show upd T.ext 1 (CelC b0 27 ({ f with stage := 2, due := T.R.cyc } : Flt).at) 7 = T.ext 7 from upd_other _ _ _ _ (by decide)).trans FT.e7)
  · refine ⟨[(0, 0, 0, 1), (1, 0, 0, 2), (1, 0, 0, 3), (1, 0, 0, 4)], 3, ?_, by decide, kinds4, fun _ => ⟨0, 1048691, 0, 0, 3, 0, 0, ?_⟩⟩
    · show ((T.R.evs ++ [evC T.R.cyc f.seq f.pc 0 2]) ++ [evC T.R.cyc f.seq f.pc 0 3]) ++ [evC T.R.cyc f.seq f.pc 0 4] = _
      rw [tR, hf0, hfpc]
      rfl
    · show T.R.whs ++ [whC 0 1048691 0 0 3 0 0] = _
      rw [tR]
      rfl
set_option maxRecDepth 100000 in
set_option maxHeartbeats 2000000 in
theorem fret_two (i : Ini S) (hw1 : 2 ≤ S.cf.width) {b0 b1 wb' cap' wb cap : Nat} {E : Nat → World → (Nat → Prop) → Prop} (hE : ∀ k, k ≠ 3 → E k = (Two1 S b0 b1 wb' cap' (.slice (some ⟨wb, 0, none⟩) 2 cap)).ext k) (h : St x ({ Two1 S b0 b1 wb' cap' (.slice (some ⟨wb, 0, none⟩) 2 cap) with ext := E } : FS).tick) : Calls Tryz.prog 48 #[.pointer (some ⟨S.p, 0, none⟩)] x fun e z => e = .returned (.tuple #[]) ∧ ∃ T, Fin S T ∧ St z T := by
  obtain ⟨n, hq⟩ := i.qs
  have hR := i.rec0
  have hnx := i.next
  have hoff := i.off
  have hps := i.ps
  generalize hT : ({ Two1 S b0 b1 wb' cap' (.slice (some ⟨wb, 0, none⟩) 2 cap) with ext := E } : FS).tick = T at h
  generalize hf : fly S.ws.next 0 true 59 S.ps = f
  have hf0 : f.seq = 0 := by rw [← hf]; show ((S.ws.next : Nat) : Int) = 0; rw [hnx]; rfl
  have hfpc : f.pc = 0 := by rw [← hf]; rfl
  have tp : T.p = S.p := by rw [← hT]; rfl
  have tcf : T.cf = S.cf := by rw [← hT]; rfl
  have tG : T.G = S.G := by rw [← hT]; rfl
  have thl : T.hl = false := by rw [← hT]; exact i.hl
  have tq : T.qs = ⟨n, []⟩ := by rw [← hT]; exact hq
  have tw : T.way = .slice (some ⟨wb, 0, none⟩) 2 cap := by rw [← hT]; rfl
  have tr : T.ext 0 = RowC S.w0.heap.size 221 1 (.slice (some ⟨wb, 0, none⟩) 2 cap) 2 [.pointer (some ⟨b0, 0, none⟩), .pointer (some ⟨b1, 0, none⟩)] := by rw [← hT]; exact (hE 0 (by decide)).trans (took_row (S.took 1 b0 0 true 59 (.slice (some ⟨wb', 0, none⟩) 1 cap') 1 [.pointer (some ⟨b0, 0, none⟩)]) 2 b1 4 false 0 (.slice (some ⟨wb, 0, none⟩) 2 cap) 2 [.pointer (some ⟨b0, 0, none⟩), .pointer (some ⟨b1, 0, none⟩)])
  have tf : T.ext 1 = CelC b0 27 f.at := by rw [← hT, ← hf]; exact (hE 1 (by decide)).trans ((took_other (S.took 1 b0 0 true 59 (.slice (some ⟨wb', 0, none⟩) 1 cap') 1 [.pointer (some ⟨b0, 0, none⟩)]) (by decide) (by decide) b1 4 false 0 (.slice (some ⟨wb, 0, none⟩) 2 cap) 2 [.pointer (some ⟨b0, 0, none⟩), .pointer (some ⟨b1, 0, none⟩)]).trans (took_flt S (by decide) b0 0 true 59 (.slice (some ⟨wb', 0, none⟩) 1 cap') 1 [.pointer (some ⟨b0, 0, none⟩)]))
  generalize hg : fly ((S.ws.next + 1 : Nat) : Int) 4 false 0 S.ps = g
  have hg0 : g.seq = 1 := by rw [← hg]; show ((S.ws.next + 1 : Nat) : Int) = 1; rw [hnx]; rfl
  have hgpc : g.pc = 4 := by rw [← hg]; rfl
  have hgd : g.d = -1 := by rw [← hg]; rfl
  have hgst : g.stage = 0 := by rw [← hg]; rfl
  have tg : T.ext 2 = CelC b1 27 g.at := by rw [← hT, ← hg]; exact (hE 2 (by decide)).trans (took_flt (S.took 1 b0 0 true 59 (.slice (some ⟨wb', 0, none⟩) 1 cap') 1 [.pointer (some ⟨b0, 0, none⟩)]) (by decide) b1 4 false 0 (.slice (some ⟨wb, 0, none⟩) 2 cap) 2 [.pointer (some ⟨b0, 0, none⟩), .pointer (some ⟨b1, 0, none⟩)])
  have tR : T.R = ⟨[evC 0 0 0 0 1, evC 0 1 4 0 1], [], 1⟩ := by
    rw [← hT]
    show (⟨(S.R.evs ++ [evC S.R.cyc (S.ws.next : Nat) 0 0 1]) ++ [evC S.R.cyc ((S.ws.next + 1 : Nat) : Int) 4 0 1], S.R.whs, S.R.cyc + 1⟩ : Rec) = _
    rw [hR, hnx]
    rfl
  have won : T.ws.on = [⟨0, 7, -1, -1, 0⟩, ⟨1, 7, -1, -1, 0⟩] := by
    rw [← hT]
    show ((S.ws.enter 7 (-1) (-1) (-1)).enter 7 (-1) (-1) (-1)).on = _
    simp [WS.enter, i.on, hnx]
  have F6 : T.ext 6 = S.ext 6 := by rw [← hT]; exact (hE 6 (by decide)).trans ((took_other (S.took 1 b0 0 true 59 (.slice (some ⟨wb', 0, none⟩) 1 cap') 1 [.pointer (some ⟨b0, 0, none⟩)]) (by decide) (by decide) b1 4 false 0 (.slice (some ⟨wb, 0, none⟩) 2 cap) 2 [.pointer (some ⟨b0, 0, none⟩), .pointer (some ⟨b1, 0, none⟩)]).trans (took_other S (by decide) (by decide) b0 0 true 59 (.slice (some ⟨wb', 0, none⟩) 1 cap') 1 [.pointer (some ⟨b0, 0, none⟩)]))
  have F7 : T.ext 7 = S.ext 7 := by rw [← hT]; exact (hE 7 (by decide)).trans ((took_other (S.took 1 b0 0 true 59 (.slice (some ⟨wb', 0, none⟩) 1 cap') 1 [.pointer (some ⟨b0, 0, none⟩)]) (by decide) (by decide) b1 4 false 0 (.slice (some ⟨wb, 0, none⟩) 2 cap) 2 [.pointer (some ⟨b0, 0, none⟩), .pointer (some ⟨b1, 0, none⟩)]).trans (took_other S (by decide) (by decide) b0 0 true 59 (.slice (some ⟨wb', 0, none⟩) 1 cap') 1 [.pointer (some ⟨b0, 0, none⟩)]))
  have FT : Fix S T := ⟨by rw [← hT]; rfl, tp, by rw [← hT]; rfl, by rw [← hT]; rfl, by rw [← hT]; rfl, by rw [← hT]; rfl, tq.trans hq.symm, F6, F7⟩
  have hfd : f.d = -1 := by rw [← hf]; rfl
  have hfst : f.stage = 0 := by rw [← hf]; rfl
  have hfc : f.cls = 7 := by rw [← hf]; rfl
  have hfo : f.op = 59 := by rw [← hf]; rfl
  have hfh : f.mh ≤ T.G.mask := by rw [tG, ← hf]; exact hps.1
  have hft : f.mt < T.G.ns := by rw [tG, ← hf]; exact hps.2
  obtain ⟨A1, A2, A3, A4, A5, A6, A7⟩ := on_first won rfl rfl rfl
  have evn : T.R.evs.length = 2 := by rw [tR]; rfl
  have whn : T.R.whs.length = 0 := by rw [tR]; rfl
  have cyn : T.R.cyc = 1 := by rw [tR]
  clear hT hf hg hE
  rw [← tp]
  refine fret2 h (S' := FS.told (FS.told { T with ws := (T.ws.setSt 0 1).setSt 0 2, ext := upd T.ext 1 (CelC b0 27 ({ f with stage := 2, due := T.R.cyc } : Flt).at) } f 2) f 3) (U := Fin S) (by decide) tr rfl tw (by rw [tcf]; exact hw1) rfl rfl (show upd T.ext 1 (CelC b0 27 ({ f with stage := 2, due := T.R.cyc } : Flt).at) 0 = T.ext 0 from upd_other _ _ _ _ (by decide)) (fun x k => fisdone k tf hfc hfo hfst hfd (by rw [hf0]; exact A1) (by rw [hf0]; exact A3) A2 A4 (by omega) (by omega) (by omega)) (fun y k => ?_) (fun T q => ⟨q.fix.p.trans tp.symm, q.way⟩)
  have hx : ∀ (nb : Nat) (y : World) (ps : PS), St y { FS.did (FS.told (FS.told { T with ws := (T.ws.setSt 0 1).setSt 0 2, ext := upd T.ext 1 (CelC b0 27 ({ f with stage := 2, due := T.R.cyc } : Flt).at) } f 2) f 3) nb with ws := ((T.ws.setSt 0 1).setSt 0 2).pop, way := .slice (some ⟨wb, 1, none⟩) 1 (cap - 1), R := { T.R with evs := ((T.R.evs ++ [evC T.R.cyc f.seq f.pc 0 2]) ++ [evC T.R.cyc f.seq f.pc 0 3]) ++ [evC T.R.cyc f.seq f.pc 0 4], whs := T.R.whs ++ [whC 0 1048691 0 0 3 0 0] }, ps := ps } → Calls Tryz.prog 125 #[.pointer (some ⟨T.p, 0, none⟩), .int .i64 f.seq] y fun e z => e = .returned (.tuple #[]) ∧ St z { ({ T with hl := true, ws := (((T.ws.setSt 0 1).setSt 0 2).pop).squash f.seq, way := .slice (some ⟨wb, 1, none⟩) 0 (cap - 1), R := { T.R with evs := ((T.R.evs ++ [evC T.R.cyc f.seq f.pc 0 2]) ++ [evC T.R.cyc f.seq f.pc 0 3]) ++ [evC T.R.cyc f.seq f.pc 0 4] ++ [evC T.R.cyc g.seq g.pc 0 5], whs := T.R.whs ++ [whC 0 1048691 0 0 3 0 0] }, ext := upd T.ext 1 (CelC b0 27 ({ f with stage := 2, due := T.R.cyc } : Flt).at) } : FS) with ps := ps, ext := upd (upd T.ext 1 (CelC b0 27 ({ f with stage := 2, due := T.R.cyc } : Flt).at)) 5 (CelC nb 7 (whC 0 1048691 0 0 3 0 0)) } := fun nb y ps q => by
    refine (fthrow1 q f.seq 1 n tq (gone_one (W := ((T.ws.setSt 0 1).setSt 0 2).pop) A7 f.seq (by show f.seq < 1; omega)) (wb := wb) (nn := 2) (cap := cap) (c := cap - 1) (j := 2) (fb := b1) (f := g) (l := [.pointer (some ⟨b0, 0, none⟩), .pointer (some ⟨b1, 0, none⟩)]) (B := S.w0.heap.size) (show upd (upd T.ext 1 (CelC b0 27 ({ f with stage := 2, due := T.R.cyc } : Flt).at)) 5 (CelC nb 7 (whC 0 1048691 0 0 3 0 0)) 0 = _ from (upd_other _ _ _ _ (by decide)).trans ((upd_other _ _ _ _ (by decide)).trans tr)) rfl rfl (show upd (upd T.ext 1 (CelC b0 27 ({ f with stage := 2, due := T.R.cyc } : Flt).at)) 5 (CelC nb 7 (whC 0 1048691 0 0 3 0 0)) 2 = _ from (upd_other _ _ _ _ (by decide)).trans ((upd_other _ _ _ _ (by decide)).trans tg)) hgd (by show (((T.R.evs ++ [_]) ++ [_]) ++ [_]).length < 1024; simp; omega) (by show T.R.cyc ≤ 1000; omega) (by omega)).mono ?_
    rintro e z ⟨rfl, hs⟩
    exact ⟨rfl, hs⟩
  have hC := fcommit2 k (T := { T with hl := true, ws := (((T.ws.setSt 0 1).setSt 0 2).pop).squash f.seq, way := .slice (some ⟨wb, 1, none⟩) 0 (cap - 1), R := { T.R with evs := ((T.R.evs ++ [evC T.R.cyc f.seq f.pc 0 2]) ++ [evC T.R.cyc f.seq f.pc 0 3]) ++ [evC T.R.cyc f.seq f.pc 0 4] ++ [evC T.R.cyc g.seq g.pc 0 5], whs := T.R.whs ++ [whC 0 1048691 0 0 3 0 0] }, ext := upd T.ext 1 (CelC b0 27 ({ f with stage := 2, due := T.R.cyc } : Flt).at) }) (j := 1) (fb := b0) (n := n) (wb := wb) (cap := cap) (B := S.w0.heap.size) (f := { f with stage := 2, due := T.R.cyc }) (l := [.pointer (some ⟨b0, 0, none⟩), .pointer (some ⟨b1, 0, none⟩)]) (by decide) thl (show upd T.ext 1 (CelC b0 27 ({ f with stage := 2, due := T.R.cyc } : Flt).at) 1 = _ from upd_same _ _ _) (show upd T.ext 1 (CelC b0 27 ({ f with stage := 2, due := T.R.cyc } : Flt).at) 0 = _ from (upd_other _ _ _ _ (by decide)).trans tr) tw (by show Off T.G; rw [tG]; exact hoff) hfh hft (by show 0 ≤ f.pc ∧ f.pc < 4294967296; omega) hfd (by show 0 ≤ f.seq ∧ f.seq ≤ 1000; omega) (by show ((T.R.evs ++ [_]) ++ [_]).length < 1000; simp; omega) (by show T.R.whs.length < 1000; omega) (by show T.R.cyc ≤ 1000; omega) A6 A5 tq rfl rfl (show upd T.ext 1 (CelC b0 27 ({ f with stage := 2, due := T.R.cyc } : Flt).at) 1 = _ from upd_same _ _ _) hx
  refine hC.mono ?_
  rintro e z ⟨rfl, ps, E', hE', hs⟩
  refine ⟨rfl, _, ?_, hs⟩
  refine ⟨⟨FT.w0, FT.p, FT.b, FT.g, FT.bs, FT.hp, FT.qs, ?_, ?_⟩, rfl, ?_, ⟨_, _, rfl⟩, cyn⟩
  · exact (hE' 6 (by decide)).trans ((show upd T.ext 1 (CelC b0 27 ({ f with stage := 2, due := T.R.cyc } : Flt).at) 6 = T.ext 6 from upd_other _ _ _ _ (by decide)).trans FT.e6)
  · exact (hE' 7 (by decide)).trans ((show upd T.ext 1 (CelC b0 27 ({ f with stage := 2, due := T.R.cyc } : Flt).at) 7 = T.ext 7 from upd_other _ _ _ _ (by decide)).trans FT.e7)
  · refine ⟨[(0, 0, 0, 1), (0, 1, 4, 1), (1, 0, 0, 2), (1, 0, 0, 3), (1, 0, 0, 4), (1, 1, 4, 5)], 4, ?_, by decide, kinds6, fun _ => ⟨0, 1048691, 0, 0, 3, 0, 0, ?_⟩⟩
    · show ((T.R.evs ++ [evC T.R.cyc f.seq f.pc 0 2]) ++ [evC T.R.cyc f.seq f.pc 0 3]) ++ [evC T.R.cyc f.seq f.pc 0 4] ++ [evC T.R.cyc g.seq g.pc 0 5] = _
      rw [tR, hf0, hfpc, hg0, hgpc]
      rfl
    · show T.R.whs ++ [whC 0 1048691 0 0 3 0 0] = _
      rw [tR]
      rfl
end
end Go.Proofs.YtemamhkhjijdlaaGreatDoor
