/-
  LSQ: where a load's bytes come of.
-/
import Derived.Test.YthbffonedpeeiaaDoorMh
import Derived.Laws.MakeOwn
namespace Go.Proofs.YthbffonedpeeiaaDoor
open Go Go.RowKit
theorem make_run {P : Program} (t e : TypeId) (z : Value) (bytes : Nat) (ht : P.underlying t = some (.slice e)) (hi : (P.info? e).map (fun i => (i.zero, i.size, i.bytes)) = some (some z, 1, bytes)) (hz : z.cells = #[z]) (n : Nat) (hb : (bytes : Int) * n ≤ 281474976710656) (hn : n ≤ 9223372036854775807) : ∀ u : World, (Instr.makeSlice t (.int .i64 n) (.int .i64 n)).run P u = .ok (.slice (some ⟨u.heap.size, 0, none⟩) n n) (u.alloc (.cells (madeCells #[z] n) e)) := fun u => by
  obtain ⟨i, h1, h2, h3, h4⟩ := info_parts hi
  have q := run_make (P := P) u t e i z ht h1 h2 .i64 .i64 n n (by omega) (Int.le_refl _) (by rw [h4]; exact hb) (by omega)
  simpa [h3, hz] using q
theorem made_cell (z : Value) (n i : Nat) (h : i < n) : (madeCells #[z] n)[i]? = some z := by
  simp [madeCells, h, Nat.mod_one]
def lastI (f : Nat → Bool) : Nat → Int
  | 0 => -1
  | n + 1 => if f n then n else lastI f n
theorem lastI_ge (f : Nat → Bool) : ∀ (n : Nat), -1 ≤ lastI f n ∧ lastI f n < n
  | 0 => by simp [lastI]
  | n + 1 => by
    have := lastI_ge f n
    unfold lastI
    split <;> omega
theorem Last.is {f : Nat → Bool} {r : Int} : ∀ {n : Nat}, Last f n r → r = lastI f n
  | 0, h => by
    rcases h with ⟨i, hi, -⟩ | ⟨-, h⟩
    · omega
    · exact h
  | n + 1, h => by
    unfold lastI
    rcases h with ⟨i, hi, h1, h2, rfl⟩ | ⟨h1, rfl⟩
    · by_cases e : i = n
      · subst e
        rw [if_pos h1]
      · rw [if_neg (by rw [h2 n (by omega) (by omega)]; simp)]
        exact Last.is (Or.inl ⟨i, by omega, h1, fun j a b => h2 j a (by omega), rfl⟩)
    · rw [if_neg (by rw [h1 n (by omega)]; simp)]
      exact Last.is (Or.inr ⟨fun j hj => h1 j (by omega), rfl⟩)
/-- the place of the store that a byte comes of; -1: memory -/
def QS.of (S : QS) (num : Int) (y : Nat) : Int := lastI (S.src num y) S.on.length
def QS.ofs (S : QS) (e : Ac) : List Int := (List.range e.z).map fun i => S.of e.n (e.a + i)
theorem QS.ofs_len (S : QS) (e : Ac) : (S.ofs e).length = e.z := by simp [QS.ofs]
theorem QS.ofs_at (S : QS) (e : Ac) (i : Nat) (h : i < e.z) : (S.ofs e).getD i 0 = S.of e.n (e.a + i) := by
  simp [QS.ofs, List.getD_eq_getElem?_getD, h]
theorem QS.ofs_range (S : QS) (e : Ac) (i : Nat) (h : i < e.z) : (S.ofs e).getD i 0 = -1 ∨ (0 ≤ (S.ofs e).getD i 0 ∧ (S.ofs e).getD i 0 < S.on.length) := by
  rw [QS.ofs_at S e i h]
  have := lastI_ge (S.src e.n (e.a + i)) S.on.length
  unfold QS.of
  omega
set_option maxRecDepth 100000 in
set_option maxHeartbeats 2000000 in
theorem sources_any (B p : Nat) (v : Value) (S : QS) (e : Ac) (w : World) (k : Qm w B p v S) (hf : e.Fit) (hz : 0 < e.z) : Calls Tryd.prog 44 #[.pointer (some ⟨p, 0, none⟩), .agg e.vs.toArray] w fun r w' => ∃ g, r = .returned (.slice (some ⟨g, 0, none⟩) e.z e.z) ∧ w.heap.size ≤ g ∧ CellsAt e.z w' g (fun i => .int .i64 ((S.ofs e).getD i 0)) ∧ Below w.heap.size w w' := by
  obtain ⟨X, hX, q, hb, hs⟩ := boxed e w 86
  obtain ⟨c0, -, c2, c3, -⟩ := row_cells0 q
  have h4 : e.z ≤ 4 := by have := hf.z; omega
  have hmk := make_run (P := Tryd.prog) 63 3 (.int .i64 0) 8 Tryd.underlying63 (by kernel_rfl) rfl e.z (by omega) (by omega)
  obtain ⟨Y, hY⟩ : ∃ Y, X.alloc (.cells (madeCells #[.int .i64 0] e.z) 3) = Y := ⟨_, rfl⟩
  have hbY : Below X.heap.size X Y := by rw [← hY]; exact (Below.refl _ _).alloc (Nat.le_refl _) _
  have hsY : Y.heap.size = w.heap.size + 2 := by rw [← hY]; simp; omega
  have cY : CellsAt e.z Y (w.heap.size + 1) (fun i => .int .i64 (if i < 0 then (S.ofs e).getD i 0 else 0)) := by
    rw [← hY, ← hs]
    exact cells_new (t := 3) X (fun i hi => by simpa using made_cell (.int .i64 0) e.z i hi)
  have HX := Hid.in hX
  have HY := Hid.in hY
  have HB := Hid.in (below2 hb hbY)
  have HK := Hid.in ((k.below hb).below hbY)
  have HLO : Hid (∀ j, qmine p v S j → j < w.heap.size) := fun j hj => (k.low j hj).2
  have HC0 : Hid (Y.cell? ⟨w.heap.size, 0, none⟩ = some (.int .i64 e.n)) := (hbY.cell (p := ⟨w.heap.size, 0, none⟩) (cell_here c0)).trans c0
  have HC2 : Hid (Y.cell? ⟨w.heap.size, 2, none⟩ = some (.int .u32 e.a)) := (hbY.cell (p := ⟨w.heap.size, 2, none⟩) (cell_here c2)).trans c2
  have HCY := Hid.in cY
  have hea := hf.a
  have hez := hf.az
  have hlo : w.heap.size < Y.heap.size := by omega
  clear k hX hY hb hbY q hf cY c0 c2
  go_enter Tryd.func44, Tryd.ntmps44
  go_upto_region 1 with fail
  rw [HX.out]
  go_wp2
  rw [HY.out]
  clear c3 hmk
  go_loopw [13] (fun u wr => ∃ i : Nat, u = .int .i64 i ∧ i ≤ e.z ∧ CellsAt e.z wr (w.heap.size + 1) (fun j => .int .i64 (if j < i then (S.ofs e).getD j 0 else 0)) ∧ Turned (fun j => j = w.heap.size + 1) Y wr) (fun v _ => 5 - (intOf v).toNat)
  case atStart => exact ⟨0, rfl, by omega, HCY.out, Turned.refl _ _⟩
  case round =>
    obtain ⟨i, rfl, hi, hcl, ht⟩ := hrel
    have HT := Hid.in ht
    have HCL := Hid.in hcl
    by_cases him : i < e.z
    · have c2 := ht.to_cell (o := 2) hlo (by omega) HC2.out
      have hsum : ((e.a : Int) + (i : Int)) % 4294967296 = ((e.a + i : Nat) : Int) := by omega
      have hsum2 : ((e.a : Int) + (i : Int) % 4294967296) % 4294967296 = ((e.a + i : Nat) : Int) := by omega
      obtain ⟨Z, hZ, cz, hbz, hsz⟩ := boxed1 (.int .u32 ((e.a : Int) + (i : Int))) wr 38
      rw [← Int.natCast_add] at cz
      have HZ := Hid.in hZ
      have HBZ := Hid.in hbz
      have c0 := ht.to_cell (o := 0) hlo (by omega) HC0.out
      have c0' := (hbz.cell (p := ⟨w.heap.size, 0, none⟩) (cell_here c0)).trans c0
      have hKw : Qm wr B p v S := HK.out.turned ht (fun j hj q => by
        have h1 := HLO.out j hj
        omega)
      have HC := Hid.in (youngest_any B p v S 70 #[.pointer (some ⟨w.heap.size, 0, none⟩), .pointer (some ⟨wr.heap.size, 0, none⟩)] (S.src e.n (e.a + i)) Z (fun args w => enters_of Tryd.func70 (by kernel_rfl) rfl args w) (hKw.below hbz) (fun j hj y hy => sourceW (S.at j) w.heap.size wr.heap.size e.n (e.a + i) y (HK.out.fit j hj) (by omega) ((hy.cell (p := ⟨w.heap.size, 0, none⟩) (cell_here c0')).trans c0') ((hy.cell (p := ⟨wr.heap.size, 0, none⟩) (cell_here cz)).trans cz)))
      clear hcl ht hKw c0 c0' cz hZ hbz
      go_upto_region 6 with fail
      rw [HZ.out]
      go_wp2_with (first
        | (go_at_call 69; refine HC.out.mono ?_; rintro e1 w2 ⟨r, rfl, h1, h2⟩; have hcl := (HCL.out.below HBZ.out).below h2; have d1 := hcl.cell i him; have d2 := hcl.free i; have HCL2 := Hid.in hcl; have H1 := Hid.in h1; have H2 := Hid.in h2; clear h1 h2 hcl))
      go_roundw
      case rel =>
        refine ⟨i + 1, by simp, by omega, (HCL2.out.set i him (.int .i64 r)).ext (fun o ho => ?_), ((HT.out.trans (Turned.of_below (below2 HBZ.out H2.out)))).set rfl i _⟩
        unfold upd
        by_cases e1 : o = i
        · subst e1
          rw [if_pos rfl, if_pos (by omega), QS.ofs_at S e o ho, H1.out.is]
          rfl
        · rw [if_neg e1]
          by_cases e2 : o < i
          · simp only [if_pos e2, if_pos (show o < i + 1 by omega)]
          · simp only [if_neg e2, if_neg (show ¬ o < i + 1 by omega)]
      case measure =>
        simp [intOf]
        omega
    · obtain rfl : i = e.z := by omega
      go_wp2
      go_ret
      refine ⟨w.heap.size + 1, rfl, by omega, HCL.out.ext (fun o ho => by simp only [if_pos ho]), HB.out.trans (HT.out.below (by omega) (fun j e => by omega))⟩
theorem cells_nums {n : Nat} {w : World} {g : Nat} {l : List Int} (h : CellsAt n w g (fun i => .int .i64 (l.getD i 0))) (hl : l.length = n) : Nums w (some ⟨g, 0, none⟩) l := fun i hi => ⟨g, rfl, h.here, h.cell i (by omega)⟩
theorem lackValue_any (B p g cap : Nat) (v : Value) (S : QS) (l : List Int) (w : World) (k : Qm w B p v S) (hn : Nums w (some ⟨g, 0, none⟩) l) (h4 : l.length ≤ 4) (hl : ∀ i, i < l.length → l.getD i 0 = -1 ∨ (0 ≤ l.getD i 0 ∧ l.getD i 0 < S.on.length)) : Calls Tryd.prog 45 #[.pointer (some ⟨p, 0, none⟩), .slice (some ⟨g, 0, none⟩) l.length cap] w fun e w' => e = .returned (.bool ((List.range l.length).any fun i => S.lack (l.getD i 0))) ∧ Below w.heap.size w w' := by
  obtain ⟨X, hX, q, hb, hs⟩ := boxed1 (.pointer (some ⟨p, 0, none⟩)) w 23
  have HX := Hid.in hX
  have HB := Hid.in hb
  have HC := Hid.in (containsF_any (some ⟨g, 0, none⟩) cap l 73 #[.pointer (some ⟨w.heap.size, 0, none⟩)] (fun i => S.lack (l.getD i 0)) X (fun args w => enters_of Tryd.func73 (by kernel_rfl) rfl args w) (hn.below hb) h4 (fun i hi y hy => lackW B p w.heap.size v S _ y ((k.below hb).below hy) (hl i hi) ((hy.cell (p := ⟨w.heap.size, 0, none⟩) (cell_here q)).trans q)))
  clear k hX hb q hn hl
  go_enter Tryd.func45, Tryd.ntmps45
  go_upto_region 1 with fail
  rw [HX.out]
  go_wp2_with (first | (refine HC.out.mono ?_; rintro e w2 ⟨rfl, h2⟩; have H2 := Hid.in h2; clear h2))
  go_ret
  exact ⟨rfl, HB.out.trans (H2.out.mono (by omega))⟩
end Go.Proofs.YthbffonedpeeiaaDoor
