import Derived.Test.YtemamhkhjijdlaaGreatDoorY35
import Derived.Test.YtemamhkhjijdlaaGreatDoorY04
import Derived.Test.YtemamhkhjijdlaaGreatDoorY27
import Derived.Laws.BytesArg
import Derived.Great.BuildSlice
/-
  CORE: all that happened, told.
-/
namespace Go.Proofs.YtemamhkhjijdlaaGreatDoor
open Go Go.RowKit
section
variable {x y : World} {S : FS}
/-- a list in parts, in memory -/
theorem part_cells {C : Nat → World → (Nat → Prop) → Prop} {F : Nat → Prop} {k sz tot : Nat} {zero : Nat → Value} {v : Value} {l : List (Nat → Value)} (ha : All C x F) (h : PartC C k sz tot zero v l) (hz : 0 < sz) (ht : tot = 1024 * sz) (hl : l.length ≤ 1024) (i : Nat) {e : Nat → Value} (he : l[i]? = some e) : ∃ lb cap pb, v = .slice (some ⟨lb, 0, none⟩) 1 cap ∧ x.cell? ⟨lb, 0, none⟩ = some (.slice (some ⟨pb, 0, none⟩) l.length 1024) ∧ lb < x.heap.size ∧ pb < x.heap.size ∧ ∀ j, j < sz → x.cell? ⟨pb, i * sz + j, none⟩ = some (e j) := by
  have hi : i < l.length := (List.getElem?_eq_some_iff.1 he).1
  rcases h with ⟨h1, _⟩ | ⟨lb, cap, pb, h1, h2, h3, h4⟩
  · rw [h1] at hi
    exact absurd hi (by simp)
  · refine ⟨lb, cap, pb, h1, (ha.cells _ h3).cell 0 (by decide), (ha.cells _ h3).here, (ha.cells _ h4).here, fun j hj => ?_⟩
    have hb : i * sz + j < tot := by
      rw [ht]
      have : (i + 1) * sz ≤ 1024 * sz := Nat.mul_le_mul_right _ (by omega)
      rw [Nat.add_mul] at this
      omega
    rw [(ha.cells _ h4).cell _ hb]
    have e1 : (i * sz + j) / sz = i := by rw [Nat.mul_comm, Nat.mul_add_div hz, Nat.div_eq_of_lt hj, Nat.add_zero]
    have e2 : (i * sz + j) % sz = j := by rw [Nat.mul_comm, Nat.mul_add_mod, Nat.mod_eq_of_lt hj]
    show some (l.getD ((i * sz + j) / sz) zero ((i * sz + j) % sz)) = _
    rw [e1, e2, List.getD_eq_getElem?_getD, he]
    rfl
set_option maxRecDepth 100000 in
set_option maxHeartbeats 2000000 in
theorem fatE (h : St x S) (hl : S.R.evs.length ≤ 1000) (i : Nat) {c0 c1 c2 c3 c4 : Int} (he : S.R.evs[i]? = some (evC c0 c1 c2 c3 c4)) : Calls Tryz.prog 52 #[.pointer (some ⟨S.b, 1, none⟩), .int .i64 i] x fun e y => e = .returned (.agg #[.int .i32 c0, .int .i32 c1, .int .u32 c2, .int .u8 c3, .int .u8 c4]) ∧ Below x.heap.size x y := by
  obtain ⟨o, k⟩ := h.side
  obtain ⟨C, evl, whl, -, a, h0, h1, -⟩ := k 8
  obtain ⟨lb, cap, pb, rfl, d1, d2, d3, d4⟩ := part_cells a h1 (by decide) (by decide) (by omega) i he
  have hi : i < S.R.evs.length := (List.getElem?_eq_some_iff.1 he).1
  have b1 : x.cell? ⟨S.b, 1, none⟩ = some (.slice (some ⟨lb, 0, none⟩) 1 cap) := (a.cells 0 h0).cell 1 (by decide)
  have bh := (a.cells 0 h0).here
  have p0 : x.cell? ⟨pb, i * 5, none⟩ = some (.int .i32 c0) := d4 0 (by decide)
  have p1 : x.cell? ⟨pb, i * 5 + 1, none⟩ = some (.int .i32 c1) := d4 1 (by decide)
  have p2 : x.cell? ⟨pb, i * 5 + 2, none⟩ = some (.int .u32 c2) := d4 2 (by decide)
  have p3 : x.cell? ⟨pb, i * 5 + 3, none⟩ = some (.int .u8 c3) := d4 3 (by decide)
  have p4 : x.cell? ⟨pb, i * 5 + 4, none⟩ = some (.int .u8 c4) := d4 4 (by decide)
  have e1 : (i : Int).tdiv 1024 = 0 := by rw [Int.tdiv_eq_ediv_of_nonneg (by omega)]; omega
  have e2 : (i : Int).tmod 1024 = i := by rw [Int.tmod_eq_emod_of_nonneg (by omega)]; omega
  have e1' : (i : Int) / 1024 = 0 := by omega
  have e2' : (i : Int) % 1024 = i := by omega
  have hi2 : (i : Int) < (S.R.evs.length : Int) := by omega
  clear h o k C a h0 h1 d4 he
  go_enter Tryz.func52, Tryz.ntmps52
  go_wp2_with fail
  refine bodyPost_ret (v := .agg #[.int .i32 c0, .int .i32 c1, .int .u32 c2, .int .u8 c3, .int .u8 c4]) (by simp [results, Tryz.results52, go_sem]) rfl ⟨rfl, ?_⟩
  exact (Below.refl _ _).alloc (Nat.le_refl _) _
set_option maxRecDepth 100000 in
set_option maxHeartbeats 2000000 in
theorem fatW (h : St x S) {c0 c1 c2 c3 c4 c5 c6 : Int} (he : S.R.whs = [whC c0 c1 c2 c3 c4 c5 c6]) : Calls Tryz.prog 53 #[.pointer (some ⟨S.b, 3, none⟩), .int .i64 0] x fun e y => e = .returned (.agg #[.int .u32 c0, .int .u32 c1, .int .i64 c2, .int .u32 c3, .int .i64 c4, .int .u32 c5, .int .u32 c6]) ∧ Below x.heap.size x y := by
  obtain ⟨o, k⟩ := h.side
  obtain ⟨C, evl, whl, -, a, h0, -, h1⟩ := k 8
  have hlen : S.R.whs.length = 1 := by rw [he]; rfl
  obtain ⟨lb, cap, pb, rfl, d1, d2, d3, d4⟩ := part_cells a h1 (by decide) (by decide) (by omega) 0 (e := whC c0 c1 c2 c3 c4 c5 c6) (by rw [he]; rfl)
  rw [hlen] at d1
  have b1 : x.cell? ⟨S.b, 3, none⟩ = some (.slice (some ⟨lb, 0, none⟩) 1 cap) := (a.cells 0 h0).cell 3 (by decide)
  have bh := (a.cells 0 h0).here
  have p0 : x.cell? ⟨pb, 0, none⟩ = some (.int .u32 c0) := d4 0 (by decide)
  have p1 : x.cell? ⟨pb, 1, none⟩ = some (.int .u32 c1) := d4 1 (by decide)
  have p2 : x.cell? ⟨pb, 2, none⟩ = some (.int .i64 c2) := d4 2 (by decide)
  have p3 : x.cell? ⟨pb, 3, none⟩ = some (.int .u32 c3) := d4 3 (by decide)
  have p4 : x.cell? ⟨pb, 4, none⟩ = some (.int .i64 c4) := d4 4 (by decide)
  have p5 : x.cell? ⟨pb, 5, none⟩ = some (.int .u32 c5) := d4 5 (by decide)
  have p6 : x.cell? ⟨pb, 6, none⟩ = some (.int .u32 c6) := d4 6 (by decide)
  clear h o k C a h0 h1 d4 he
  go_enter Tryz.func53, Tryz.ntmps53
  go_wp2_with fail
  refine bodyPost_ret (v := .agg #[.int .u32 c0, .int .u32 c1, .int .i64 c2, .int .u32 c3, .int .i64 c4, .int .u32 c5, .int .u32 c6]) (by simp [results, Tryz.results53, go_sem]) rfl ⟨rfl, ?_⟩
  exact (Below.refl _ _).alloc (Nat.le_refl _) _
end
end Go.Proofs.YtemamhkhjijdlaaGreatDoor
/-
  CORE: all that happened, told: the list.
-/
namespace Go.Proofs.YtemamhkhjijdlaaGreatDoor
open Go Go.RowKit
theorem info_ev : (Tryz.prog.info? 163).map (fun i => (i.zero, i.size, i.bytes)) = some (some (.agg #[.int .i64 0, .int .i64 0, .int .i64 0, .int .i64 0, .int .u32 0, .int .u32 0, .int .u32 0, .int .i64 0, .int .u32 0, .int .i64 0, .int .u32 0, .int .u32 0]), 12, 80) := by kernel_rfl
theorem make_ev (n : Nat) (hn : n ≤ 6) (u : World) : (Instr.makeSlice 34 (.int .i64 n) (.int .i64 n)).run Tryz.prog u = .ok (.slice (some ⟨u.heap.size, 0, none⟩) n n) (u.alloc (.cells (madeCells #[.int .i64 0, .int .i64 0, .int .i64 0, .int .i64 0, .int .u32 0, .int .u32 0, .int .u32 0, .int .i64 0, .int .u32 0, .int .i64 0, .int .u32 0, .int .u32 0] (n * 12)) 163)) := by
  obtain ⟨i, h1, h2, h3, h4⟩ := info_parts_lsq info_ev
  have q := run_make (P := Tryz.prog) u 34 163 i (.agg #[.int .i64 0, .int .i64 0, .int .i64 0, .int .i64 0, .int .u32 0, .int .u32 0, .int .u32 0, .int .i64 0, .int .u32 0, .int .i64 0, .int .u32 0, .int .u32 0]) Tryz.underlying34 h1 h2 .i64 .i64 n n (by omega) (by omega) (by rw [h4]; omega) (by omega)
  rw [q, h3]
  rfl
theorem made_ev (n : Nat) : ∃ g : Nat → Value, ∀ i, i < n * 12 → (madeCells #[.int .i64 0, .int .i64 0, .int .i64 0, .int .i64 0, .int .u32 0, .int .u32 0, .int .u32 0, .int .i64 0, .int .u32 0, .int .i64 0, .int .u32 0, .int .u32 0] (n * 12))[i]? = some (g i) := by
  refine ⟨fun i => ((madeCells #[.int .i64 0, .int .i64 0, .int .i64 0, .int .i64 0, .int .u32 0, .int .u32 0, .int .u32 0, .int .i64 0, .int .u32 0, .int .i64 0, .int .u32 0, .int .u32 0] (n * 12))[i]?).getD undef, fun i hi => ?_⟩
  have hs : i < (madeCells #[.int .i64 0, .int .i64 0, .int .i64 0, .int .i64 0, .int .u32 0, .int .u32 0, .int .u32 0, .int .i64 0, .int .u32 0, .int .i64 0, .int .u32 0, .int .u32 0] (n * 12)).size := by simpa [madeCells] using hi
  show _ = some (((madeCells #[.int .i64 0, .int .i64 0, .int .i64 0, .int .i64 0, .int .u32 0, .int .u32 0, .int .u32 0, .int .i64 0, .int .u32 0, .int .i64 0, .int .u32 0, .int .u32 0] (n * 12))[i]?).getD undef)
  rw [Array.getElem?_eq_getElem hs]
  rfl
section
variable {x y : World} {S : FS}
set_option maxRecDepth 100000 in
set_option maxHeartbeats 4000000 in
theorem fwhole (h : St x S) (hR : RecOk S.R) : Calls Tryz.prog 26 #[.pointer (some ⟨S.b, 1, none⟩)] x fun e y => (∃ q n c, e = .returned (.slice q n c)) ∧ Below x.heap.size x y := by
  obtain ⟨l, r, hE, hl6, hk, hwh⟩ := hR
  obtain ⟨n, hn⟩ : ∃ n, l.length = n := ⟨_, rfl⟩
  have hen : S.R.evs.length = n := by rw [hE, List.length_map, hn]
  obtain ⟨evl, whl, kb⟩ := h.brd
  have b2 : x.cell? ⟨S.b, 2, none⟩ = some (.int .i64 S.R.evs.length) := kb.cell 2 (by decide)
  rw [hen] at b2
  have bh := kb.here
  have hn6 : n ≤ 6 := by omega
  obtain ⟨A, hA⟩ : ∃ A, madeCells #[.int .i64 0, .int .i64 0, .int .i64 0, .int .i64 0, .int .u32 0, .int .u32 0, .int .u32 0, .int .i64 0, .int .u32 0, .int .i64 0, .int .u32 0, .int .u32 0] (n * 12) = A := ⟨_, rfl⟩
  obtain ⟨g0, hg0⟩ := made_ev n
  rw [hA] at hg0
  have hmk : ∀ u : World, (Instr.makeSlice 34 (.int .i64 n) (.int .i64 n)).run Tryz.prog u = .ok (.slice (some ⟨u.heap.size, 0, none⟩) n n) (u.alloc (.cells A 163)) := fun u => by rw [← hA]; exact make_ev n hn6 u
  have H0 := Hid.in h
  have HG0 := Hid.in hg0
  have HEV : Hid (∀ k, k < n → ∃ c0 c1 c2 c4, S.R.evs[k]? = some (evC c0 c1 c2 0 c4) ∧ 0 ≤ c4 ∧ c4 ≤ 5 ∧ (c4 = 4 ↔ k = r)) := Hid.in (fun k hk' => by
    have hkl : k < l.length := by omega
    have q := hk k l[k] (List.getElem?_eq_getElem hkl)
    refine ⟨l[k].1, l[k].2.1, l[k].2.2.1, l[k].2.2.2, ?_, q⟩
    rw [hE, List.getElem?_map, List.getElem?_eq_getElem hkl]
    rfl)
  have HWH : Hid (r < n → ∃ a0 a1 a2 a3 a4 a5 a6, S.R.whs = [whC a0 a1 a2 a3 a4 a5 a6]) := Hid.in (fun q => hwh (by omega))
  have HEN := Hid.in hen
  clear h kb hE hk hwh hl6 hn hA hg0 hen
  go_enter Tryz.func26, Tryz.ntmps26
  go_wp2_with fail
  obtain ⟨lb, hlb⟩ : ∃ lb, x.heap.size = lb := ⟨_, rfl⟩
  have HLB := Hid.in hlb
  rw [hlb]
  go_loopw [4, 15] (fun rv kv wr => ∃ (k ret : Nat) (g : Nat → Value), kv = .int .i64 k ∧ rv = .int .i64 ret ∧ k ≤ n ∧ ret = (if r < k then 1 else 0) ∧ Below x.heap.size x wr ∧ CellsAt (n * 12) wr lb g) (fun _ kv _ => n - (intOf kv).toNat)
  case atStart =>
    refine ⟨0, 0, g0, rfl, rfl, Nat.zero_le _, (if_neg (Nat.not_lt_zero _)).symm, (Below.refl _ _).alloc (Nat.le_refl _) _, ?_⟩
    rw [← HLB.out]
    exact cells_new x HG0.out
  case round =>
    obtain ⟨k, ret, g, rfl, rfl, hkn, hret, hb, hg⟩ := hrel
    by_cases hlt : k < n
    · obtain ⟨c0, c1, c2, c4, he, hc1, hc2, hc3⟩ := HEV.out k hlt
      have hs := H0.out.below hb
      have HAT := Hid.in (fatE hs (by rw [HEN.out]; omega) k he)
      have bh2 : S.b < wr.heap.size := by obtain ⟨_, _, q⟩ := hs.brd; exact q.here
      have HHB := Hid.in hb
      have HHG := Hid.in hg
      have hlt' : (k : Int) < n := by omega
      have HRET := Hid.in hret
      clear hs hb hg he hret
      go_upto_region 7 with (go_at_call 52; go_must (refine HAT.out.mono ?_; rintro e w1 ⟨rfl, hb1⟩; have HB1 := Hid.in hb1; clear hb1))
      have k1 := HHG.out.below HB1.out
      have d0 : w1.cell? ⟨lb, k * 12, none⟩ = some (g (k * 12)) := k1.cell _ (by omega)
      have d1 : w1.cell? ⟨lb, k * 12 + 1, none⟩ = some (g (k * 12 + 1)) := k1.cell _ (by omega)
      have d2 : w1.cell? ⟨lb, k * 12 + 2, none⟩ = some (g (k * 12 + 2)) := k1.cell _ (by omega)
      have d3 : w1.cell? ⟨lb, k * 12 + 3, none⟩ = some (g (k * 12 + 3)) := k1.cell _ (by omega)
      have d4 : w1.cell? ⟨lb, k * 12 + 4, none⟩ = some (g (k * 12 + 4)) := k1.cell _ (by omega)
      have d5 : w1.cell? ⟨lb, k * 12 + 5, none⟩ = some (g (k * 12 + 5)) := k1.cell _ (by omega)
      have d6 : w1.cell? ⟨lb, k * 12 + 6, none⟩ = some (g (k * 12 + 6)) := k1.cell _ (by omega)
      have d7 : w1.cell? ⟨lb, k * 12 + 7, none⟩ = some (g (k * 12 + 7)) := k1.cell _ (by omega)
      have d8 : w1.cell? ⟨lb, k * 12 + 8, none⟩ = some (g (k * 12 + 8)) := k1.cell _ (by omega)
      have d9 : w1.cell? ⟨lb, k * 12 + 9, none⟩ = some (g (k * 12 + 9)) := k1.cell _ (by omega)
      have d10 : w1.cell? ⟨lb, k * 12 + 10, none⟩ = some (g (k * 12 + 10)) := k1.cell _ (by omega)
      have d11 : w1.cell? ⟨lb, k * 12 + 11, none⟩ = some (g (k * 12 + 11)) := k1.cell _ (by omega)
      have dh := k1.here
      have df := k1.free
      have HK1 := Hid.in k1
      clear k1
      go_upto_region 8 with fail
      obtain ⟨V, hV⟩ : ∃ V, ((((((((((((w1.setCell ⟨lb, k * 12, none⟩ (.int .i64 0)).setCell ⟨lb, k * 12 + 1, none⟩ (.int .i64 (wrap64 c0))).setCell ⟨lb, k * 12 + 2, none⟩ (.int .i64 c4)).setCell ⟨lb, k * 12 + 3, none⟩ (.int .i64 (wrap64 c1))).setCell ⟨lb, k * 12 + 4, none⟩ (.int .u32 c2)).setCell ⟨lb, k * 12 + 5, none⟩ (.int .u32 0)).setCell ⟨lb, k * 12 + 6, none⟩ (.int .u32 0)).setCell ⟨lb, k * 12 + 7, none⟩ (.int .i64 0)).setCell ⟨lb, k * 12 + 8, none⟩ (.int .u32 0)).setCell ⟨lb, k * 12 + 9, none⟩ (.int .i64 0)).setCell ⟨lb, k * 12 + 10, none⟩ (.int .u32 0)).setCell ⟨lb, k * 12 + 11, none⟩ (.int .u32 0)).alloc (.cells #[.int .i32 c0, .int .i32 c1, .int .u32 c2, .int .u8 0, .int .u8 c4] 158) = V := ⟨_, rfl⟩
      obtain ⟨g2, kV, h2⟩ : ∃ g2, CellsAt (n * 12) V lb g2 ∧ g2 (k * 12 + 2) = .int .i64 c4 := by
        rw [← hV]
        refine ⟨_, ((((((((((((HK1.out.set (k * 12) (by omega) _).set (k * 12 + 1) (by omega) _).set (k * 12 + 2) (by omega) _).set (k * 12 + 3) (by omega) _).set (k * 12 + 4) (by omega) _).set (k * 12 + 5) (by omega) _).set (k * 12 + 6) (by omega) _).set (k * 12 + 7) (by omega) _).set (k * 12 + 8) (by omega) _).set (k * 12 + 9) (by omega) _).set (k * 12 + 10) (by omega) _).set (k * 12 + 11) (by omega) _).alloc _, ?_⟩
        iterate 9 (rw [upd_other _ _ _ _ (by omega)])
        exact upd_same _ _ _
      have bW : Below x.heap.size x w1 := HHB.out.trans (HB1.out.mono HHB.out.size)
      have bV : Below x.heap.size x V := by
        rw [← hV]
        have hws := bW.size
        exact ((((((((((((bW.setCell (show x.heap.size ≤ lb by omega) _).setCell (show x.heap.size ≤ lb by omega) _).setCell (show x.heap.size ≤ lb by omega) _).setCell (show x.heap.size ≤ lb by omega) _).setCell (show x.heap.size ≤ lb by omega) _).setCell (show x.heap.size ≤ lb by omega) _).setCell (show x.heap.size ≤ lb by omega) _).setCell (show x.heap.size ≤ lb by omega) _).setCell (show x.heap.size ≤ lb by omega) _).setCell (show x.heap.size ≤ lb by omega) _).setCell (show x.heap.size ≤ lb by omega) _).setCell (show x.heap.size ≤ lb by omega) _).alloc (by simp [World.setCell]; omega) _
      have v2 : V.cell? ⟨lb, k * 12 + 2, none⟩ = some (.int .i64 c4) := (kV.cell _ (by omega)).trans (congrArg some h2)
      have vh := kV.here
      have HKV := Hid.in kV
      have HBV := Hid.in bV
      try rw [hV]
      clear hV kV bV bW h2 d0 d1 d2 d3 d4 d5 d6 d7 d8 d9 d10 d11 dh df
      by_cases hc4 : c4 = 4
      · have hkr : k = r := hc3.1 hc4
        have hr0 : ret = 0 := by rw [HRET.out, if_neg (by omega)]
        subst hr0
        obtain ⟨a0, a1, a2, a3, a4, a5, a6, hw⟩ := HWH.out (by omega)
        have HAW := Hid.in (fatW (H0.out.below HBV.out) hw)
        have hc4' : (c4 == 4) = true := by simp [hc4]
        have bh3 : S.b < V.heap.size := by obtain ⟨_, _, q⟩ := (H0.out.below HBV.out).brd; exact q.here
        have HKR := Hid.in hkr
        clear hw hc1 hc2 hc3 hkr
        subst hc4
        go_upto_region 10 with (go_at_call 53; go_must (refine HAW.out.mono ?_; rintro e w3 ⟨rfl, hb3⟩; have HBW3 := Hid.in (HBV.out.trans (hb3.mono HBV.out.size)); have k3 := HKV.out.below hb3; have v5 : w3.cell? ⟨lb, k * 12 + 5, none⟩ = some (g2 (k * 12 + 5)) := k3.cell _ (by omega); have v6 : w3.cell? ⟨lb, k * 12 + 6, none⟩ = some (g2 (k * 12 + 6)) := k3.cell _ (by omega); have v7 : w3.cell? ⟨lb, k * 12 + 7, none⟩ = some (g2 (k * 12 + 7)) := k3.cell _ (by omega); have v8 : w3.cell? ⟨lb, k * 12 + 8, none⟩ = some (g2 (k * 12 + 8)) := k3.cell _ (by omega); have v9 : w3.cell? ⟨lb, k * 12 + 9, none⟩ = some (g2 (k * 12 + 9)) := k3.cell _ (by omega); have v10 : w3.cell? ⟨lb, k * 12 + 10, none⟩ = some (g2 (k * 12 + 10)) := k3.cell _ (by omega); have v11 : w3.cell? ⟨lb, k * 12 + 11, none⟩ = some (g2 (k * 12 + 11)) := k3.cell _ (by omega); have wh3 := k3.here; have wf3 := k3.free; have HK3 := Hid.in k3; clear hb3 k3))
        go_wp2_with fail
        go_roundw
        case rel => exact ⟨k + 1, 1, _, by go_num, by go_num, by omega, by rw [HKR.out, if_pos (by omega)], (((((((HBW3.out.setCell (show x.heap.size ≤ lb by omega) _).setCell (show x.heap.size ≤ lb by omega) _).setCell (show x.heap.size ≤ lb by omega) _).setCell (show x.heap.size ≤ lb by omega) _).setCell (show x.heap.size ≤ lb by omega) _).setCell (show x.heap.size ≤ lb by omega) _).setCell (show x.heap.size ≤ lb by omega) _), (((((((HK3.out.set (k * 12 + 5) (by omega) _).set (k * 12 + 6) (by omega) _).set (k * 12 + 7) (by omega) _).set (k * 12 + 8) (by omega) _).set (k * 12 + 9) (by omega) _).set (k * 12 + 10) (by omega) _).set (k * 12 + 11) (by omega) _)⟩
        case measure => simp [intOf]; omega
      · have hkr : ¬ k = r := fun q => hc4 (hc3.2 q)
        have hc4' : (c4 == 4) = false := by simp [hc4]
        have hr1 : ret = if r < k + 1 then 1 else 0 := by
          rw [HRET.out]
          by_cases q : r < k
          · rw [if_pos q, if_pos (by omega)]
          · rw [if_neg q, if_neg (by omega)]
        have HR1 := Hid.in hr1
        clear hr1 hkr hc3 hc1 hc2
        go_wp2_with fail
        go_roundw
        case rel => exact ⟨k + 1, ret, g2, by go_num, rfl, by omega, HR1.out, HBV.out, HKV.out⟩
        case measure => simp [intOf]; omega
    · have hk2 : k = n := by omega
      subst hk2
      have HHB := Hid.in hb
      clear hb hg hret
      go_wp2_with fail
      go_ret
      exact ⟨⟨_, _, _, rfl⟩, HHB.out⟩
end
end Go.Proofs.YtemamhkhjijdlaaGreatDoor
/-
  CORE: its registers.
-/
namespace Go.Proofs.YtemamhkhjijdlaaGreatDoor
open Go Go.RowKit
def z32 : List Value := List.replicate 32 (.int .u32 0)
theorem z32_len : z32.length = 32 := by simp [z32]
theorem z32_one : ∀ v ∈ z32, v.oneCell' = true := by
  intro v hv
  unfold z32 at hv
  rw [List.eq_of_mem_replicate hv]
  rfl
theorem z32_at {j : Nat} {v : Value} (h : z32[j]? = some v) : j < 32 ∧ v = .int .u32 0 := by
  unfold z32 at h
  rw [List.getElem?_replicate] at h
  by_cases q : j < 32
  · rw [if_pos q] at h
    exact ⟨q, (Option.some.inj h).symm⟩
  · rw [if_neg q] at h
    cases h
theorem r32_info : (Tryz.prog.info? 103).map (·.size) = some 32 := by kernel_rfl
theorem st32 {ops : Array Oper} {rest : List Oper} {op : Oper} {a : Act} {w : World} {Q : Exit → Act → World → Prop} (g : Nat) (hc : w.there g 0 32) (hgd : op.guard = none) (hds : op.dst = none) (x y : Operand) (ho : op.op = .store 103 x y) (hx : a.eval x = .pointer (some ⟨g, 0, none⟩)) (hy : a.eval y = .agg z32.toArray) (h : wpList Tryz.prog ops Q rest a (w.setCells g 0 z32)) : wpList Tryz.prog ops Q (op :: rest) a w := by
  refine wpList_store_mid hgd _ x y ho g 0 z32.toArray hx hy (by simp [z32_len]; exact hc) (by rw [r32_info]; simp [z32_len]) (all_oneCell_toArray z32_one) ?_
  rw [hds]
  exact (by simpa using h : wpList Tryz.prog ops Q rest a (w.setCells g 0 z32.toArray.toList))
theorem ld32 {ops : Array Oper} {rest : List Oper} {op : Oper} {a : Act} {w : World} {Q : Exit → Act → World → Prop} (g : Nat) (hc : w.rangeAt g 0 z32) (hgd : op.guard = none) (x : Operand) (ho : op.op = .load 103 x) (hx : a.eval x = .pointer (some ⟨g, 0, none⟩)) (h : wpList Tryz.prog ops Q rest (a.put op.dst (.agg z32.toArray)) w) : wpList Tryz.prog ops Q (op :: rest) a w :=
  wpList_load_mid hgd _ x ho g 0 hx z32 _ hc Tryz.underlying103 rfl (by rw [r32_info, z32_len]) h
theorem results32 {fn : Func} {p : Tmp} (h : fn.results = #[.cell p 103]) (tmps : Array Value) (w : World) (g : Nat) (hp : tmps.getD p undef = .pointer (some ⟨g, 0, none⟩)) (hg : w.rangeAt g 0 z32) : (results fn tmps).run Tryz.prog w = .ok (.agg z32.toArray) w := by
  have hp' : tmps[p]?.getD undef = .pointer (some ⟨g, 0, none⟩) := by simpa using hp
  have hl := run_loadVar_mid (P := Tryz.prog) w g 0 103 z32 _ hg Tryz.underlying103 rfl (by rw [r32_info, z32_len])
  simp [results, h, hp', asAddr, hl]
theorem range32 {w : World} {g : Nat} (k : CellsAt 32 w g (fun _ => .int .u32 0)) : w.rangeAt g 0 z32 := fun j v hv => by
  obtain ⟨h1, rfl⟩ := z32_at hv
  rw [Nat.zero_add]
  exact k.cell j h1
theorem there32 {w : World} {g : Nat} (k : CellsAt 32 w g (fun _ => .int .u32 0)) : w.there g 0 32 := fun j hj => by
  rw [Nat.zero_add]
  exact ⟨by rw [k.cell j hj]; rfl, k.free j⟩
theorem set32 {w : World} {g : Nat} (k : CellsAt 32 w g (fun _ => .int .u32 0)) : CellsAt 32 (w.setCells g 0 z32) g (fun _ => .int .u32 0) := by
  refine (cells_setRow k z32 0 (by rw [z32_len]; decide)).ext (fun i hi => ?_)
  rw [z32_len]
  by_cases q : 0 ≤ i ∧ i < 0 + 32
  · rw [if_pos q]
    have : z32[i - 0]? = some (.int .u32 0) := by unfold z32; rw [List.getElem?_replicate, if_pos (by omega)]
    rw [List.getD_eq_getElem?_getD, this]
    rfl
  · rw [if_neg q]
theorem zs_new : ∀ i, i < 32 → (#[.int .u32 0, .int .u32 0, .int .u32 0, .int .u32 0, .int .u32 0, .int .u32 0, .int .u32 0, .int .u32 0, .int .u32 0, .int .u32 0, .int .u32 0, .int .u32 0, .int .u32 0, .int .u32 0, .int .u32 0, .int .u32 0, .int .u32 0, .int .u32 0, .int .u32 0, .int .u32 0, .int .u32 0, .int .u32 0, .int .u32 0, .int .u32 0, .int .u32 0, .int .u32 0, .int .u32 0, .int .u32 0, .int .u32 0, .int .u32 0, .int .u32 0, .int .u32 0] : Array Value)[i]? = some ((fun _ => .int .u32 0 : Nat → Value) i) := fun i hi => range_of 32 (fun i => (#[.int .u32 0, .int .u32 0, .int .u32 0, .int .u32 0, .int .u32 0, .int .u32 0, .int .u32 0, .int .u32 0, .int .u32 0, .int .u32 0, .int .u32 0, .int .u32 0, .int .u32 0, .int .u32 0, .int .u32 0, .int .u32 0, .int .u32 0, .int .u32 0, .int .u32 0, .int .u32 0, .int .u32 0, .int .u32 0, .int .u32 0, .int .u32 0, .int .u32 0, .int .u32 0, .int .u32 0, .int .u32 0, .int .u32 0, .int .u32 0, .int .u32 0, .int .u32 0] : Array Value)[i]?) (fun i => some ((fun _ => .int .u32 0 : Nat → Value) i)) (by kernel_rfl) i hi
section
variable {x y : World} {S : FS}
theorem hart_reg (hc hcap : Nat) (hl : Bool) (i : Nat) (h : i < 32) : hartF hc hcap hl (12 + i) = .int .u32 0 := by
  unfold hartF
  rw [if_neg (by omega), if_neg (by omega)]
theorem freg (h : St x S) (i : Nat) (hi : i < 32) : Calls Tryz.prog 56 #[.pointer (some ⟨S.hp, 0, none⟩), .int .i64 i] x fun e y => e = .returned (.int .u32 0) ∧ y = x := by
  have c : x.cell? ⟨S.hp, 12 + i, none⟩ = some (.int .u32 0) := (h.hart.cell (12 + i) (by omega)).trans (congrArg some (hart_reg _ _ _ i hi))
  have h3 := h.hart.here
  have hi' : (i : Int) < 32 := by omega
  clear h
  go_enter Tryz.func56, Tryz.ntmps56
  go_wp2_with fail
  go_ret
  exact ⟨rfl, rfl⟩
set_option maxRecDepth 100000 in
set_option maxHeartbeats 4000000 in
theorem fregs (h : St x S) : Calls Tryz.prog 28 #[.pointer (some ⟨S.p, 0, none⟩)] x fun e y => e = .returned (.agg z32.toArray) ∧ St y S := by
  have H0 := Hid.in h
  clear h
  go_enter Tryz.func28, Tryz.ntmps28
  go_upto_region 2 with fail
  obtain ⟨X, hX⟩ : ∃ X, (x.alloc (.cells #[.int .u32 0, .int .u32 0, .int .u32 0, .int .u32 0, .int .u32 0, .int .u32 0, .int .u32 0, .int .u32 0, .int .u32 0, .int .u32 0, .int .u32 0, .int .u32 0, .int .u32 0, .int .u32 0, .int .u32 0, .int .u32 0, .int .u32 0, .int .u32 0, .int .u32 0, .int .u32 0, .int .u32 0, .int .u32 0, .int .u32 0, .int .u32 0, .int .u32 0, .int .u32 0, .int .u32 0, .int .u32 0, .int .u32 0, .int .u32 0, .int .u32 0, .int .u32 0] 103)).alloc (.cells #[.int .u32 0, .int .u32 0, .int .u32 0, .int .u32 0, .int .u32 0, .int .u32 0, .int .u32 0, .int .u32 0, .int .u32 0, .int .u32 0, .int .u32 0, .int .u32 0, .int .u32 0, .int .u32 0, .int .u32 0, .int .u32 0, .int .u32 0, .int .u32 0, .int .u32 0, .int .u32 0, .int .u32 0, .int .u32 0, .int .u32 0, .int .u32 0, .int .u32 0, .int .u32 0, .int .u32 0, .int .u32 0, .int .u32 0, .int .u32 0, .int .u32 0, .int .u32 0] 103) = X := ⟨_, rfl⟩
  obtain ⟨g, hg⟩ : ∃ g, x.heap.size = g := ⟨_, rfl⟩
  have bX : Below x.heap.size x X := by rw [← hX]; exact ((Below.refl _ _).alloc (Nat.le_refl _) _).alloc (by simp) _
  have kr : CellsAt 32 X g (fun _ => .int .u32 0) := by
    rw [← hX, ← hg]
    exact (cells_new x zs_new).alloc _
  have ka : CellsAt 32 X (g + 1) (fun _ => .int .u32 0) := by
    rw [← hX, ← hg]
    have q := cells_new (n := 32) (c := #[.int .u32 0, .int .u32 0, .int .u32 0, .int .u32 0, .int .u32 0, .int .u32 0, .int .u32 0, .int .u32 0, .int .u32 0, .int .u32 0, .int .u32 0, .int .u32 0, .int .u32 0, .int .u32 0, .int .u32 0, .int .u32 0, .int .u32 0, .int .u32 0, .int .u32 0, .int .u32 0, .int .u32 0, .int .u32 0, .int .u32 0, .int .u32 0, .int .u32 0, .int .u32 0, .int .u32 0, .int .u32 0, .int .u32 0, .int .u32 0, .int .u32 0, .int .u32 0]) (t := 103) (x.alloc (.cells #[.int .u32 0, .int .u32 0, .int .u32 0, .int .u32 0, .int .u32 0, .int .u32 0, .int .u32 0, .int .u32 0, .int .u32 0, .int .u32 0, .int .u32 0, .int .u32 0, .int .u32 0, .int .u32 0, .int .u32 0, .int .u32 0, .int .u32 0, .int .u32 0, .int .u32 0, .int .u32 0, .int .u32 0, .int .u32 0, .int .u32 0, .int .u32 0, .int .u32 0, .int .u32 0, .int .u32 0, .int .u32 0, .int .u32 0, .int .u32 0, .int .u32 0, .int .u32 0] 103)) zs_new
    rw [World.size_alloc] at q
    exact q
  have HB := Hid.in bX
  have HR := Hid.in kr
  have HA := Hid.in ka
  rw [hX, hg]
  clear bX kr ka hX
  go_wp2_with fail
  go_loopw [5] (fun v wr => ∃ j : Nat, j ≤ 32 ∧ v = .int .i64 j ∧ Below x.heap.size x wr ∧ CellsAt 32 wr g (fun _ => .int .u32 0) ∧ CellsAt 32 wr (g + 1) (fun _ => .int .u32 0)) (fun v _ => 33 - (intOf v).toNat)
  case atStart => exact ⟨0, by omega, rfl, HB.out, HR.out, HA.out⟩
  case round =>
    obtain ⟨j, hj, rfl, hb, h1, h2⟩ := hrel
    have hs := H0.out.below hb
    by_cases hlt : j < 32
    · have c0 : wr.cell? ⟨S.p, 0, none⟩ = some (.pointer (some ⟨S.hp, 0, none⟩)) := hs.core.cell 0 (by decide)
      have hp := hs.core.here
      have a0 : wr.cell? ⟨g + 1, j, none⟩ = some (.int .u32 0) := h2.cell j hlt
      have af := h2.free j
      have ah := h2.here
      have HG := Hid.in (freg hs j hlt)
      have HH1 := Hid.in h1
      have HH2 := Hid.in h2
      have HHB := Hid.in hb
      have hlt' : (j : Int) < 32 := by omega
      clear hs h1 h2 hb
      go_wp2_with (go_at_call 56; go_must (refine HG.out.mono ?_; rintro e w1 ⟨rfl, hw1⟩; have hw2 := hw1.symm; clear hw1; subst hw2))
      go_roundw
      case rel => exact ⟨j + 1, by omega, by go_num, HHB.out.setCell (show x.heap.size ≤ g + 1 by omega) _, HH1.out.setOther _ _ (by omega), (HH2.out.set j hlt _).ext (fun i _ => by unfold upd; by_cases q : i = j <;> simp [q])⟩
      case measure => simp [intOf]; omega
    · have hj2 : j = 32 := by omega
      subst hj2
      have HRG := Hid.in (range32 h2)
      have HTH := Hid.in (there32 h1)
      have HFI := Hid.in (range32 (set32 h1))
      have HBB : Hid (Below x.heap.size x (wr.setCells g 0 z32)) := Hid.in (hb.trans ((turned_setCells_lsq z32 0 wr).below (by have := hb.size; omega) (fun k e => by omega)))
      clear h1 h2 hb hs
      go_wp2_with (first
        | (refine ld32 (g + 1) HRG.out rfl _ rfl rfl ?_)
        | (refine st32 g HTH.out rfl rfl _ _ rfl rfl rfl ?_))
      exact bodyPost_ret (results32 Tryz.results28 _ _ g rfl HFI.out) rfl ⟨rfl, H0.out.below HBB.out⟩
end
end Go.Proofs.YtemamhkhjijdlaaGreatDoor
/-
  CORE: what the run tells.
-/
namespace Go.Proofs.YtemamhkhjijdlaaGreatDoor
open Go Go.RowKit
def z6 : Nat → Value
  | 0 => .bool false
  | 1 => .int .i64 0
  | 2 => .slice none 0 0
  | 3 => .string ⟨#[]⟩
  | _ => .slice none 0 0
section
variable {x y : World} {S : FS}
theorem cv_nil (u : World) : (convert 36 9 (.slice none 0 0)).run Tryz.prog u = .ok (.string ByteArray.empty) u := run_convert_bytes_nil u 36 5 Tryz.underlying36 Tryz.underlying5 0 0 9 Tryz.underlying9
theorem z6_at : ∀ i, i < 6 → (#[.bool false, .int .i64 0, .slice none 0 0, .string ⟨#[]⟩, .slice none 0 0, .slice none 0 0] : Array Value)[i]? = some (z6 i)
  | 0, _ => rfl
  | 1, _ => rfl
  | 2, _ => rfl
  | 3, _ => rfl
  | 4, _ => rfl
  | 5, _ => rfl
theorem Mach.exts {mp mr cap : Nat} (m : Mach S mp mr cap) (k : Nat) (v : World → (Nat → Prop) → Prop) (h6 : 6 ≠ k) (h7 : 7 ≠ k) : Mach { S with ext := upd S.ext k v } mp mr cap := m.to rfl rfl rfl (show upd S.ext k v 6 = _ from upd_other _ _ _ _ h6) (show upd S.ext k v 7 = _ from upd_other _ _ _ _ h7)
theorem rep_cells {mp mr cap : Nat} (m : Mach S mp mr cap) (h : St x S) : (x.cell? ⟨mp, 0, none⟩ = some (.pointer (some ⟨S.b, 0, none⟩)) ∧ x.cell? ⟨S.b, 0, none⟩ = some (.pointer (some ⟨S.g.p, 0, none⟩)) ∧ x.cell? ⟨S.b, 6, none⟩ = some (.int .i64 S.R.cyc) ∧ x.cell? ⟨S.b, 7, none⟩ = some (.slice none 0 0)) ∧ mp < x.heap.size ∧ S.b < x.heap.size := by
  obtain ⟨evl, whl, kb⟩ := h.brd
  exact ⟨⟨(h.extc m.m).cell 0 (by decide), kb.cell 0 (by decide), kb.cell 6 (by decide), kb.cell 7 (by decide)⟩, (h.extc m.m).here, kb.here⟩
theorem rep_new (h : St x S) : St (x.alloc (.cells #[.bool false, .int .i64 0, .slice none 0 0, .string ⟨#[]⟩, .slice none 0 0, .slice none 0 0] 38)) { S with ext := upd S.ext 9 (CelC x.heap.size 6 z6) } := h.newExt 9 z6 rfl z6_at
theorem rep_there0 {rb : Nat} (h : St x S) (he : S.ext 9 = CelC rb 6 z6) : x.cell? ⟨rb, 0, none⟩ = some (.bool false) ∧ x.cell? ⟨rb, 1, none⟩ = some (.int .i64 0) ∧ x.cell? ⟨rb, 2, none⟩ = some (.slice none 0 0) ∧ x.cell? ⟨rb, 3, none⟩ = some (.string ⟨#[]⟩) ∧ x.cell? ⟨rb, 4, none⟩ = some (.slice none 0 0) ∧ x.cell? ⟨rb, 5, none⟩ = some (.slice none 0 0) ∧ (∀ o, x.frozen? ⟨rb, o, none⟩ = false) ∧ rb < x.heap.size := ⟨(h.extc he).cell 0 (by decide), (h.extc he).cell 1 (by decide), (h.extc he).cell 2 (by decide), (h.extc he).cell 3 (by decide), (h.extc he).cell 4 (by decide), (h.extc he).cell 5 (by decide), (h.extc he).free, (h.extc he).here⟩
theorem rep_there {rb : Nat} (h : St x { S with ext := upd S.ext 9 (CelC rb 6 z6) }) : x.cell? ⟨rb, 0, none⟩ = some (.bool false) ∧ x.cell? ⟨rb, 1, none⟩ = some (.int .i64 0) ∧ x.cell? ⟨rb, 2, none⟩ = some (.slice none 0 0) ∧ x.cell? ⟨rb, 3, none⟩ = some (.string ⟨#[]⟩) ∧ x.cell? ⟨rb, 4, none⟩ = some (.slice none 0 0) ∧ x.cell? ⟨rb, 5, none⟩ = some (.slice none 0 0) ∧ (∀ o, x.frozen? ⟨rb, o, none⟩ = false) ∧ rb < x.heap.size := rep_there0 h (show upd S.ext 9 (CelC rb 6 z6) 9 = _ from upd_same _ _ _)
theorem rep_all {mp mr cap rb : Nat} (m : Mach S mp mr cap) (h : St x { S with ext := upd S.ext 9 (CelC rb 6 z6) }) : ((x.cell? ⟨mp, 0, none⟩ = some (.pointer (some ⟨S.b, 0, none⟩)) ∧ x.cell? ⟨S.b, 0, none⟩ = some (.pointer (some ⟨S.g.p, 0, none⟩)) ∧ x.cell? ⟨S.b, 6, none⟩ = some (.int .i64 S.R.cyc) ∧ x.cell? ⟨S.b, 7, none⟩ = some (.slice none 0 0)) ∧ mp < x.heap.size ∧ S.b < x.heap.size) ∧ (x.cell? ⟨rb, 0, none⟩ = some (.bool false) ∧ x.cell? ⟨rb, 1, none⟩ = some (.int .i64 0) ∧ x.cell? ⟨rb, 2, none⟩ = some (.slice none 0 0) ∧ x.cell? ⟨rb, 3, none⟩ = some (.string ⟨#[]⟩) ∧ x.cell? ⟨rb, 4, none⟩ = some (.slice none 0 0) ∧ x.cell? ⟨rb, 5, none⟩ = some (.slice none 0 0) ∧ (∀ o, x.frozen? ⟨rb, o, none⟩ = false) ∧ rb < x.heap.size) ∧ mp ≠ rb ∧ S.b ≠ rb ∧ rb ≠ mp ∧ rb ≠ S.b := by
  have q := rep_cells (m.exts 9 _ (by decide) (by decide)) h
  have r := rep_there h
  have n1 : mp ≠ rb := fun e => by
    have a := q.1.1
    rw [e, r.1] at a
    cases a
  have n2 : S.b ≠ rb := fun e => by
    have a : x.cell? ⟨S.b, 0, none⟩ = some (.pointer (some ⟨S.g.p, 0, none⟩)) := q.1.2.1
    rw [e, r.1] at a
    cases a
  exact ⟨q, r, n1, n2, n1.symm, n2.symm⟩
def repF (hl : Bool) (cy : Int) (ev d : Value) : Nat → Value
  | 0 => .bool hl
  | 1 => .int .i64 cy
  | 2 => ev
  | 3 => .string ByteArray.empty
  | 4 => .slice none 0 0
  | _ => d
theorem rep_fresh (h : St x S) (hl : Bool) (cy : Int) (ev d : Value) : St (x.alloc (.cells #[.bool hl, .int .i64 cy, ev, .string ByteArray.empty, .slice none 0 0, d] 38)) { S with ext := upd S.ext 9 (CelC x.heap.size 6 (repF hl cy ev d)) } := h.newExt 9 (repF hl cy ev d) rfl (fun i hi => by
  match i, hi with
  | 0, _ => rfl
  | 1, _ => rfl
  | 2, _ => rfl
  | 3, _ => rfl
  | 4, _ => rfl
  | 5, _ => rfl)
theorem rep_put {rb : Nat} (h : St x { S with ext := upd S.ext 9 (CelC rb 6 z6) }) (hl : Bool) (cy : Int) (ev d : Value) : St ((((((x.setCell ⟨rb, 0, none⟩ (.bool hl)).setCell ⟨rb, 1, none⟩ (.int .i64 cy)).setCell ⟨rb, 2, none⟩ ev).setCell ⟨rb, 3, none⟩ (.string ByteArray.empty)).setCell ⟨rb, 4, none⟩ (.slice none 0 0)).setCell ⟨rb, 5, none⟩ d) { S with ext := upd S.ext 9 (CelC rb 6 (repF hl cy ev d)) } := by
  have e : ({ S with ext := upd S.ext 9 (CelC rb 6 z6) } : FS).ext 9 = CelC rb 6 z6 := (show upd S.ext 9 (CelC rb 6 z6) 9 = _ from upd_same _ _ _)
  have k := h.extc e
  have q := h.swapExt (k := 9) (repF hl cy ev d) e ((((((((Turned.refl (fun z => z = rb) x).set (b := rb) rfl 0 (.bool hl)).set (b := rb) rfl 1 (.int .i64 cy)).set (b := rb) rfl 2 ev).set (b := rb) rfl 3 (.string ByteArray.empty)).set (b := rb) rfl 4 (.slice none 0 0)).set (b := rb) rfl 5 d)) ((((((((k.set 0 (by decide) (.bool hl)).set 1 (by decide) (.int .i64 cy)).set 2 (by decide) ev).set 3 (by decide) (.string ByteArray.empty)).set 4 (by decide) (.slice none 0 0)).set 5 (by decide) d)).ext (fun i hi => by
    match i, hi with
    | 0, _ => rfl
    | 1, _ => rfl
    | 2, _ => rfl
    | 3, _ => rfl
    | 4, _ => rfl
    | 5, _ => rfl))
  rw [show ({ ({ S with ext := upd S.ext 9 (CelC rb 6 z6) } : FS) with ext := upd ({ S with ext := upd S.ext 9 (CelC rb 6 z6) } : FS).ext 9 (CelC rb 6 (repF hl cy ev d)) } : FS) = { S with ext := upd S.ext 9 (CelC rb 6 (repF hl cy ev d)) } from by simp only [upd_twice]] at q
  exact q
theorem rep_at {rb : Nat} {f : Nat → Value} (h : St x { S with ext := upd S.ext 9 (CelC rb 6 f) }) : CellsAt 6 x rb f := h.extc (k := 9) (show upd S.ext 9 (CelC rb 6 f) 9 = _ from upd_same _ _ _)
theorem abs_world {Q : Exit → Act → World → Prop} {e : Exit} {a : Act} {w : World} (P : World → Prop) (hp : P w) (h : ∀ v, P v → Q e a v) : Q e a w := h w hp
def repR (hl : Bool) (cy : Int) (ev d : Value) (q : Option Addr) (c : Nat) : Nat → Value
  | 0 => .bool hl
  | 1 => .int .i64 cy
  | 2 => ev
  | 3 => .string ByteArray.empty
  | 4 => .slice q 1 c
  | _ => d
theorem rep_ne {rb fb : Nat} {f g : Nat → Value} (h : St x { S with ext := upd S.ext 9 (CelC fb 6 f) }) (e : S.ext 8 = CelC rb 6 g) : CellsAt 6 x rb g ∧ rb ≠ fb := by
  have e8 : ({ S with ext := upd S.ext 9 (CelC fb 6 f) } : FS).ext 8 = CelC rb 6 g := (show upd S.ext 9 (CelC fb 6 f) 8 = _ from upd_other _ _ _ _ (by decide)).trans e
  exact ⟨h.extc e8, h.side.ne 18 19 (by decide) e8 (show upd S.ext 9 (CelC fb 6 f) 9 = _ from upd_same _ _ _)⟩
theorem fdata (h : St x S) {f : Nat → Nat} (co : Cg S.bs f) : Calls Tryz.prog 27 #[.pointer (some ⟨S.g.p, 0, none⟩)] x fun e y => (∃ q n c, e = .returned (.slice q n c)) ∧ Below x.heap.size x y := by
  obtain ⟨o, q⟩ := h.side
  refine (udataG (q 4) co).mono ?_
  rintro e y ⟨rfl, -, hb, -⟩
  exact ⟨⟨_, _, _, rfl⟩, hb⟩
theorem info32 : (Tryz.prog.info? 103).map (fun i => (i.zero, i.size, i.bytes)) = some (some (.agg z32.toArray), 32, 128) := by kernel_rfl
theorem fill32 : Instr.fill (fun i => some (i * 32, 32)) ((Array.range (1 * 32)).map ((Value.agg z32.toArray).cells[· % (Value.agg z32.toArray).cells.size]!)) [(0, .agg z32.toArray)] = some z32.toArray := by kernel_rfl
theorem app32 (r : World) : ∃ q c w1, (Builtin.append_ #[35, 35] 35 #[.slice none 0 0, .slice (some ⟨r.heap.size, 0, none⟩) 1 1]).run Tryz.prog (r.alloc (.cells z32.toArray 103)) = .ok (.slice q 1 c) w1 ∧ Below r.heap.size r w1 := by
  obtain ⟨v', w1, hrun, r1, r2, r3⟩ := app_row (w := r) r.heap.size 35 35 103 (.agg z32.toArray) 32 128 Tryz.underlying35 info32 (by kernel_rfl) (by decide) (.slice none 0 0) 0 [] ⟨rfl, Or.inl ⟨rfl, rfl⟩⟩ z32.toArray 103 (by kernel_rfl) (fun u hu => z32_one u (by simpa using hu)) (by decide) (by decide) (Nat.le_refl _)
  obtain ⟨q, c, rfl⟩ := own_len r1
  exact ⟨q, c, w1, hrun, r2.os, r2.tape, r2.output, r2.size, fun i hi => r2.block i hi (fun e => by simp [Value.ownBlock] at e)⟩
theorem rep_app2 {x y : World} {S : FS} {rb : Nat} {hl : Bool} {cy : Int} {ev d : Value} (h : St x { S with ext := upd S.ext 9 (CelC rb 6 (repF hl cy ev d)) }) (b : Below x.heap.size x y) (q : Option Addr) (c : Nat) : St (y.setCell ⟨rb, 4, none⟩ (.slice q 1 c)) { S with ext := upd S.ext 9 (CelC rb 6 (repR hl cy ev d q c)) } := by
  have k := (h.below b).setExt (k := 9) (b := rb) (n := 6) (o := 4) (v := .slice q 1 c) (f := repF hl cy ev d) (repR hl cy ev d q c) (show upd S.ext 9 (CelC rb 6 (repF hl cy ev d)) 9 = _ from upd_same _ _ _) (by decide) (fun i hi => by
    match i, hi with
    | 0, _ => rfl
    | 1, _ => rfl
    | 2, _ => rfl
    | 3, _ => rfl
    | 4, _ => rfl
    | 5, _ => rfl)
  simp only [upd_twice] at k
  exact k
def tl2 (f : Func) : Code := match f.body with
  | some (.seq _ (.seq _ r)) => r
  | _ => .skip
set_option maxRecDepth 100000 in
set_option maxHeartbeats 4000000 in
theorem frep_rest {T : FS} {mp mr cap rb : Nat} (A : Array Value) (ie : TypeInfo) (za : Value) (hie : Tryz.prog.info? 103 = some ie) (hza : ie.zero = some za) (hsz : ie.size = 32) (hfi : Instr.fill (fun i => some (i * 32, 32)) ((Array.range (1 * 32)).map (za.cells[· % za.cells.size]!)) [(0, .agg A)] = some A) (HAP : Hid (∀ r : World, ∃ q c w1, (Builtin.append_ #[35, 35] 35 #[.slice none 0 0, .slice (some ⟨r.heap.size, 0, none⟩) 1 1]).run Tryz.prog (r.alloc (.cells A 103)) = .ok (.slice q 1 c) w1 ∧ Below r.heap.size r w1)) (HRX : Hid (∀ (x : World) (S : FS), St x S → Calls Tryz.prog 28 #[.pointer (some ⟨S.p, 0, none⟩)] x fun e y => e = .returned (.agg A) ∧ St y S)) (HM : Hid (Mach T mp mr cap)) (te8 : T.ext 8 = CelC rb 6 z6) (HTH : Hid (T.hl = S.hl)) (HTW : Hid (T.w0 = S.w0)) (HRB : Hid (T.w0.heap.size ≤ rb)) (fb : Nat) (q1 : Option Addr) (n1 cn1 : Nat) (q2 : Option Addr) (n2 cn2 : Nat) (V : World) (hv : St V { T with ext := upd T.ext 9 (CelC fb 6 (repF T.hl T.R.cyc (.slice q1 n1 cn1) (.slice q2 n2 cn2))) }) : Code.wp Tryz.prog (tl2 Tryz.f15) (bodyPost Tryz.prog Tryz.f15 fun e y => (∃ cy e1 e2 e3 q c d1 d2 d3, e = .returned (.agg #[.bool S.hl, .int .i64 cy, .slice e1 e2 e3, .string ByteArray.empty, .slice q 1 c, .slice d1 d2 d3])) ∧ Below S.w0.heap.size S.w0 y) { tmps := #[.pointer (some ⟨mp, 0, none⟩), undef, .pointer (some ⟨rb, 0, none⟩), .pointer (some ⟨fb, 0, none⟩), undef, undef, .pointer (some ⟨mp, 0, none⟩), .bool T.hl, .pointer (some ⟨mp, 0, none⟩), .pointer (some ⟨mp, 0, none⟩), .pointer (some ⟨mp, 0, none⟩), .pointer (some ⟨T.b, 0, none⟩), .pointer (some ⟨T.b, 0, none⟩), .pointer (some ⟨T.b, 6, none⟩), .int .i64 T.R.cyc, .pointer (some ⟨mp, 0, none⟩), .pointer (some ⟨mp, 0, none⟩), .pointer (some ⟨mp, 0, none⟩), .pointer (some ⟨T.b, 0, none⟩), .pointer (some ⟨T.b, 0, none⟩), .pointer (some ⟨T.b, 1, none⟩), .slice q1 n1 cn1, .pointer (some ⟨mp, 0, none⟩), .pointer (some ⟨mp, 0, none⟩), .pointer (some ⟨mp, 0, none⟩), .pointer (some ⟨T.b, 0, none⟩), .pointer (some ⟨T.b, 0, none⟩), .pointer (some ⟨T.b, 7, none⟩), .slice none 0 0, .string ByteArray.empty, .pointer (some ⟨mp, 0, none⟩), .pointer (some ⟨mp, 0, none⟩), .pointer (some ⟨mp, 0, none⟩), .pointer (some ⟨T.b, 0, none⟩), .pointer (some ⟨T.b, 0, none⟩), .pointer (some ⟨T.b, 0, none⟩), .pointer (some ⟨T.g.p, 0, none⟩), .slice q2 n2 cn2, .agg #[.bool T.hl, .int .i64 T.R.cyc, .slice q1 n1 cn1, .string ByteArray.empty, .slice none 0 0, .slice q2 n2 cn2], undef, undef, undef, undef, undef, undef, undef, undef, undef, undef, undef, undef, undef, undef, undef, undef, undef, undef], defers := [] } V := by
  have MV := HM.out.exts 9 (CelC fb 6 (repF T.hl T.R.cyc (.slice q1 n1 cn1) (.slice q2 n2 cn2))) (by decide) (by decide)
  have HV := Hid.in hv
  clear hv
  have f4 : V.cell? ⟨fb, 4, none⟩ = some (.slice none 0 0) := (rep_at HV.out).cell 4 (by decide)
  have fh := (rep_at HV.out).here
  have v1 : V.cell? ⟨mp, 1, none⟩ = some (.slice (some ⟨mr, 0, none⟩) 1 cap) := (HV.out.extc MV.m).cell 1 (by decide)
  have vh := (HV.out.extc MV.m).here
  have w0 : V.cell? ⟨mr, 0, none⟩ = some (.pointer (some ⟨T.p, 0, none⟩)) := (HV.out.extc MV.r).cell 0 (by decide)
  have wh := (HV.out.extc MV.r).here
  have HRG := Hid.in (HRX.out _ _ HV.out.drew)
  clear MV
  dsimp only [tl2, Tryz.f15]
  go_wp2_with fail
  refine wp_loop_rounds 2 ?_
  rw [rounds_succ]
  go_upto_region 5 with fail
  refine wp_region_any (by kernel_rfl) ?_
  change wpAny _ _ _ _ _ _ _ (World.drew V)
  refine wpAny_take (i := 0) (v := .pointer (some ⟨fb, 4, none⟩)) rfl (by kernel_rfl) (by kernel_rfl) (by kernel_rfl) (fun _ _ _ h => h) (Or.inl ⟨by rfl, fun w => by go_simp⟩) ?_
  refine wpAny_take (i := 2) (v := .pointer (some ⟨T.p, 0, none⟩)) rfl (by kernel_rfl) (by kernel_rfl) (by kernel_rfl) (fun _ _ _ h => h) (Or.inl ⟨by rfl, fun w => by go_simp⟩) ?_
  refine wpAny_ready (rs := [1, 3]) (by kernel_rfl) (by simp) ?_
  refine AllReady.cons rfl (fun K hK => ?_) (AllReady.cons rfl (fun K hK => ?_) AllReady.nil)
  · go_simp
    refine hK _ _ ?_
    clear hK K
    refine wpAny_ready (rs := [3]) (by kernel_rfl) (by simp) ?_
    refine AllReady.cons rfl (fun K hK => ?_) AllReady.nil
    go_simp
    refine HRG.out.mono ?_
    rintro e r ⟨rfl, hs⟩
    have HR := Hid.in hs
    have g4 : r.cell? ⟨fb, 4, none⟩ = some (.slice none 0 0) := (rep_at hs).cell 4 (by decide)
    have gh := (rep_at hs).here
    have gf := (rep_at hs).free
    clear hs
    obtain ⟨q3, c3, w1, hrun, hb1⟩ := HAP.out r
    have HB1 := Hid.in hb1
    have HRN := Hid.in hrun
    have w4 : w1.cell? ⟨fb, 4, none⟩ = some (.slice none 0 0) := (((rep_at HR.out).below hb1).cell 4 (by decide))
    have wf := ((rep_at HR.out).below hb1).free
    have wh1 := ((rep_at HR.out).below hb1).here
    clear hb1 hrun
    refine hK _ _ ?_
    clear hK K
    refine wpAny_ready (rs := [4]) (by kernel_rfl) (by simp) ?_
    refine AllReady.cons rfl (fun K hK => ?_) AllReady.nil
    rw [if_pos (by rfl)]
    refine wp_buildSlice 35 103 1 #[(0, .tmp 51)] rfl A ie za Tryz.underlying35 hie hza (by rw [hsz]; decide) (by rw [hsz]; decide) (by rw [hsz, Array.toList_map]; exact hfi) ?_
    refine hK _ _ ?_
    clear hK K
    refine wpAny_ready (rs := [5]) (by kernel_rfl) (by simp) ?_
    refine AllReady.cons rfl (fun K hK => ?_) AllReady.nil
    rw [if_pos (by rfl)]
    refine append_op0_bus rfl rfl rfl HRN.out ?_
    refine hK _ _ ?_
    clear hK K
    refine wpAny_ready (rs := [6]) (by kernel_rfl) (by simp) ?_
    refine AllReady.cons rfl (fun K hK => ?_) AllReady.nil
    go_simp
    refine hK _ _ ?_
    clear hK K
    refine wpAny_ready (rs := [7]) (by kernel_rfl) (by simp) ?_
    refine AllReady.cons rfl (fun K hK => ?_) AllReady.nil
    go_simp
    refine hK _ _ ?_
    clear hK K
    refine wpAny_done (by kernel_rfl) ?_ _
    refine abs_world (fun v => ∃ q c, St v { T with ext := upd T.ext 9 (CelC fb 6 (repR T.hl T.R.cyc (.slice q1 n1 cn1) (.slice q2 n2 cn2) q c)) }) ?_ ?_
    · first
        | exact ⟨_, _, rep_app2 HR.out HB1.out _ _⟩
    intro Z
    rintro ⟨q4, c4, hz⟩
    have kz := rep_at hz
    obtain ⟨kr, knr⟩ := rep_ne hz te8
    have z0 : Z.cell? ⟨fb, 0, none⟩ = some (.bool T.hl) := kz.cell 0 (by decide)
    have z1 : Z.cell? ⟨fb, 1, none⟩ = some (.int .i64 T.R.cyc) := kz.cell 1 (by decide)
    have z2 : Z.cell? ⟨fb, 2, none⟩ = some (.slice q1 n1 cn1) := kz.cell 2 (by decide)
    have z3 : Z.cell? ⟨fb, 3, none⟩ = some (.string ByteArray.empty) := kz.cell 3 (by decide)
    have z4 : Z.cell? ⟨fb, 4, none⟩ = some (.slice q4 1 c4) := kz.cell 4 (by decide)
    have z5 : Z.cell? ⟨fb, 5, none⟩ = some (.slice q2 n2 cn2) := kz.cell 5 (by decide)
    have s0 : Z.cell? ⟨rb, 0, none⟩ = some (.bool false) := kr.cell 0 (by decide)
    have s1 : Z.cell? ⟨rb, 1, none⟩ = some (.int .i64 0) := kr.cell 1 (by decide)
    have s2 : Z.cell? ⟨rb, 2, none⟩ = some (.slice none 0 0) := kr.cell 2 (by decide)
    have s3 : Z.cell? ⟨rb, 3, none⟩ = some (.string ⟨#[]⟩) := kr.cell 3 (by decide)
    have s4 : Z.cell? ⟨rb, 4, none⟩ = some (.slice none 0 0) := kr.cell 4 (by decide)
    have s5 : Z.cell? ⟨rb, 5, none⟩ = some (.slice none 0 0) := kr.cell 5 (by decide)
    have zf := kr.free
    have zh := kr.here
    have zh2 := kz.here
    have HZ := Hid.in hz
    clear hz kz kr f4 fh v1 vh w0 wh HRG HR g4 gh gf HRN HB1 w4 wf wh1 hsz hfi hie hza
    go_wp2_with fail
    rw [rounds_succ]
    go_wp2_with fail
    exact bodyPost_ret (v := .agg #[.bool T.hl, .int .i64 T.R.cyc, .slice q1 n1 cn1, .string ByteArray.empty, .slice q4 1 c4, .slice q2 n2 cn2]) (by simp [results, go_sem, *]) rfl ⟨⟨_, _, _, _, _, _, _, _, _, by rw [HTH.out]⟩, by rw [← HTW.out]; exact ((((((HZ.out.old.setCell (show T.w0.heap.size ≤ rb from HRB.out) _).setCell (show T.w0.heap.size ≤ rb from HRB.out) _).setCell (show T.w0.heap.size ≤ rb from HRB.out) _).setCell (show T.w0.heap.size ≤ rb from HRB.out) _).setCell (show T.w0.heap.size ≤ rb from HRB.out) _).setCell (show T.w0.heap.size ≤ rb from HRB.out) _)⟩
  · go_simp
    refine HRG.out.mono ?_
    rintro e r ⟨rfl, hs⟩
    have HR := Hid.in hs
    have g4 : r.cell? ⟨fb, 4, none⟩ = some (.slice none 0 0) := (rep_at hs).cell 4 (by decide)
    have gh := (rep_at hs).here
    have gf := (rep_at hs).free
    clear hs
    obtain ⟨q3, c3, w1, hrun, hb1⟩ := HAP.out r
    have HB1 := Hid.in hb1
    have HRN := Hid.in hrun
    have w4 : w1.cell? ⟨fb, 4, none⟩ = some (.slice none 0 0) := (((rep_at HR.out).below hb1).cell 4 (by decide))
    have wf := ((rep_at HR.out).below hb1).free
    have wh1 := ((rep_at HR.out).below hb1).here
    clear hb1 hrun
    refine hK _ _ ?_
    clear hK K
    refine wpAny_ready (rs := [1, 4]) (by kernel_rfl) (by simp) ?_
    refine AllReady.cons rfl (fun K hK => ?_) (AllReady.cons rfl (fun K hK => ?_) AllReady.nil)
    · go_simp
      refine hK _ _ ?_
      clear hK K
      refine wpAny_ready (rs := [4]) (by kernel_rfl) (by simp) ?_
      refine AllReady.cons rfl (fun K hK => ?_) AllReady.nil
      rw [if_pos (by rfl)]
      refine wp_buildSlice 35 103 1 #[(0, .tmp 51)] rfl A ie za Tryz.underlying35 hie hza (by rw [hsz]; decide) (by rw [hsz]; decide) (by rw [hsz, Array.toList_map]; exact hfi) ?_
      refine hK _ _ ?_
      clear hK K
      refine wpAny_ready (rs := [5]) (by kernel_rfl) (by simp) ?_
      refine AllReady.cons rfl (fun K hK => ?_) AllReady.nil
      rw [if_pos (by rfl)]
      refine append_op0_bus rfl rfl rfl HRN.out ?_
      refine hK _ _ ?_
      clear hK K
      refine wpAny_ready (rs := [6]) (by kernel_rfl) (by simp) ?_
      refine AllReady.cons rfl (fun K hK => ?_) AllReady.nil
      go_simp
      refine hK _ _ ?_
      clear hK K
      refine wpAny_ready (rs := [7]) (by kernel_rfl) (by simp) ?_
      refine AllReady.cons rfl (fun K hK => ?_) AllReady.nil
      go_simp
      refine hK _ _ ?_
      clear hK K
      refine wpAny_done (by kernel_rfl) ?_ _
      refine abs_world (fun v => ∃ q c, St v { T with ext := upd T.ext 9 (CelC fb 6 (repR T.hl T.R.cyc (.slice q1 n1 cn1) (.slice q2 n2 cn2) q c)) }) ?_ ?_
      · first
          | exact ⟨_, _, rep_app2 HR.out HB1.out _ _⟩
      intro Z
      rintro ⟨q4, c4, hz⟩
      have kz := rep_at hz
      obtain ⟨kr, knr⟩ := rep_ne hz te8
      have z0 : Z.cell? ⟨fb, 0, none⟩ = some (.bool T.hl) := kz.cell 0 (by decide)
      have z1 : Z.cell? ⟨fb, 1, none⟩ = some (.int .i64 T.R.cyc) := kz.cell 1 (by decide)
      have z2 : Z.cell? ⟨fb, 2, none⟩ = some (.slice q1 n1 cn1) := kz.cell 2 (by decide)
      have z3 : Z.cell? ⟨fb, 3, none⟩ = some (.string ByteArray.empty) := kz.cell 3 (by decide)
      have z4 : Z.cell? ⟨fb, 4, none⟩ = some (.slice q4 1 c4) := kz.cell 4 (by decide)
      have z5 : Z.cell? ⟨fb, 5, none⟩ = some (.slice q2 n2 cn2) := kz.cell 5 (by decide)
      have s0 : Z.cell? ⟨rb, 0, none⟩ = some (.bool false) := kr.cell 0 (by decide)
      have s1 : Z.cell? ⟨rb, 1, none⟩ = some (.int .i64 0) := kr.cell 1 (by decide)
      have s2 : Z.cell? ⟨rb, 2, none⟩ = some (.slice none 0 0) := kr.cell 2 (by decide)
      have s3 : Z.cell? ⟨rb, 3, none⟩ = some (.string ⟨#[]⟩) := kr.cell 3 (by decide)
      have s4 : Z.cell? ⟨rb, 4, none⟩ = some (.slice none 0 0) := kr.cell 4 (by decide)
      have s5 : Z.cell? ⟨rb, 5, none⟩ = some (.slice none 0 0) := kr.cell 5 (by decide)
      have zf := kr.free
      have zh := kr.here
      have zh2 := kz.here
      have HZ := Hid.in hz
      clear hz kz kr f4 fh v1 vh w0 wh HRG HR g4 gh gf HRN HB1 w4 wf wh1 hsz hfi hie hza
      go_wp2_with fail
      rw [rounds_succ]
      go_wp2_with fail
      exact bodyPost_ret (v := .agg #[.bool T.hl, .int .i64 T.R.cyc, .slice q1 n1 cn1, .string ByteArray.empty, .slice q4 1 c4, .slice q2 n2 cn2]) (by simp [results, go_sem, *]) rfl ⟨⟨_, _, _, _, _, _, _, _, _, by rw [HTH.out]⟩, by rw [← HTW.out]; exact ((((((HZ.out.old.setCell (show T.w0.heap.size ≤ rb from HRB.out) _).setCell (show T.w0.heap.size ≤ rb from HRB.out) _).setCell (show T.w0.heap.size ≤ rb from HRB.out) _).setCell (show T.w0.heap.size ≤ rb from HRB.out) _).setCell (show T.w0.heap.size ≤ rb from HRB.out) _).setCell (show T.w0.heap.size ≤ rb from HRB.out) _)⟩
    · rw [if_pos (by rfl)]
      refine wp_buildSlice 35 103 1 #[(0, .tmp 51)] rfl A ie za Tryz.underlying35 hie hza (by rw [hsz]; decide) (by rw [hsz]; decide) (by rw [hsz, Array.toList_map]; exact hfi) ?_
      refine hK _ _ ?_
      clear hK K
      refine wpAny_ready (rs := [1]) (by kernel_rfl) (by simp) ?_
      refine AllReady.cons rfl (fun K hK => ?_) AllReady.nil
      go_simp
      refine hK _ _ ?_
      clear hK K
      refine wpAny_ready (rs := [5]) (by kernel_rfl) (by simp) ?_
      refine AllReady.cons rfl (fun K hK => ?_) AllReady.nil
      rw [if_pos (by rfl)]
      refine append_op0_bus rfl rfl rfl HRN.out ?_
      refine hK _ _ ?_
      clear hK K
      refine wpAny_ready (rs := [6]) (by kernel_rfl) (by simp) ?_
      refine AllReady.cons rfl (fun K hK => ?_) AllReady.nil
      go_simp
      refine hK _ _ ?_
      clear hK K
      refine wpAny_ready (rs := [7]) (by kernel_rfl) (by simp) ?_
      refine AllReady.cons rfl (fun K hK => ?_) AllReady.nil
      go_simp
      refine hK _ _ ?_
      clear hK K
      refine wpAny_done (by kernel_rfl) ?_ _
      refine abs_world (fun v => ∃ q c, St v { T with ext := upd T.ext 9 (CelC fb 6 (repR T.hl T.R.cyc (.slice q1 n1 cn1) (.slice q2 n2 cn2) q c)) }) ?_ ?_
      · first
          | exact ⟨_, _, rep_app2 HR.out HB1.out _ _⟩
      intro Z
      rintro ⟨q4, c4, hz⟩
      have kz := rep_at hz
      obtain ⟨kr, knr⟩ := rep_ne hz te8
      have z0 : Z.cell? ⟨fb, 0, none⟩ = some (.bool T.hl) := kz.cell 0 (by decide)
      have z1 : Z.cell? ⟨fb, 1, none⟩ = some (.int .i64 T.R.cyc) := kz.cell 1 (by decide)
      have z2 : Z.cell? ⟨fb, 2, none⟩ = some (.slice q1 n1 cn1) := kz.cell 2 (by decide)
      have z3 : Z.cell? ⟨fb, 3, none⟩ = some (.string ByteArray.empty) := kz.cell 3 (by decide)
      have z4 : Z.cell? ⟨fb, 4, none⟩ = some (.slice q4 1 c4) := kz.cell 4 (by decide)
      have z5 : Z.cell? ⟨fb, 5, none⟩ = some (.slice q2 n2 cn2) := kz.cell 5 (by decide)
      have s0 : Z.cell? ⟨rb, 0, none⟩ = some (.bool false) := kr.cell 0 (by decide)
      have s1 : Z.cell? ⟨rb, 1, none⟩ = some (.int .i64 0) := kr.cell 1 (by decide)
      have s2 : Z.cell? ⟨rb, 2, none⟩ = some (.slice none 0 0) := kr.cell 2 (by decide)
      have s3 : Z.cell? ⟨rb, 3, none⟩ = some (.string ⟨#[]⟩) := kr.cell 3 (by decide)
      have s4 : Z.cell? ⟨rb, 4, none⟩ = some (.slice none 0 0) := kr.cell 4 (by decide)
      have s5 : Z.cell? ⟨rb, 5, none⟩ = some (.slice none 0 0) := kr.cell 5 (by decide)
      have zf := kr.free
      have zh := kr.here
      have zh2 := kz.here
      have HZ := Hid.in hz
      clear hz kz kr f4 fh v1 vh w0 wh HRG HR g4 gh gf HRN HB1 w4 wf wh1 hsz hfi hie hza
      go_wp2_with fail
      rw [rounds_succ]
      go_wp2_with fail
      exact bodyPost_ret (v := .agg #[.bool T.hl, .int .i64 T.R.cyc, .slice q1 n1 cn1, .string ByteArray.empty, .slice q4 1 c4, .slice q2 n2 cn2]) (by simp [results, go_sem, *]) rfl ⟨⟨_, _, _, _, _, _, _, _, _, by rw [HTH.out]⟩, by rw [← HTW.out]; exact ((((((HZ.out.old.setCell (show T.w0.heap.size ≤ rb from HRB.out) _).setCell (show T.w0.heap.size ≤ rb from HRB.out) _).setCell (show T.w0.heap.size ≤ rb from HRB.out) _).setCell (show T.w0.heap.size ≤ rb from HRB.out) _).setCell (show T.w0.heap.size ≤ rb from HRB.out) _).setCell (show T.w0.heap.size ≤ rb from HRB.out) _)⟩
end
end Go.Proofs.YtemamhkhjijdlaaGreatDoor
