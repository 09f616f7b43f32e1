import Derived.Test.YtlogdmnhngbkaaaDoorY42
/-
  BUS' LAW BusSteps: its own helpers: snoops.
-/
namespace Go.Proofs.YtlogdmnhngbkaaaDoor
open Go Go.RowKit
def s0 : Snp := ⟨0, 0, 0, 0⟩
theorem flatS_at : ∀ (l : List Snp) (i j : Nat), i < l.length → j < 4 → (flatS l)[i * 4 + j]? = (l.getD i s0).vs[j]?
  | [], i, j, h, _ => by simp at h
  | e :: l, 0, j, _, hj => by
    show (e.vs ++ flatS l)[0 * 4 + j]? = _
    rw [Nat.zero_mul, Nat.zero_add, List.getElem?_append_left (by show j < 4; exact hj)]
    rfl
  | e :: l, i + 1, j, h, hj => by
    show (e.vs ++ flatS l)[(i + 1) * 4 + j]? = _
    rw [List.getElem?_append_right (by show 4 ≤ _; omega)]
    have e1 : (i + 1) * 4 + j - e.vs.length = i * 4 + j := by show (i + 1) * 4 + j - 4 = _; omega
    rw [e1]
    exact flatS_at l i j (by simp at h; omega) hj
theorem flatT_at : ∀ (l : List Snp) (i j : Nat), i < l.length → j < 4 → (flatT l)[i * 4 + j]? = (l.getD i s0).rs[j]?
  | [], i, j, h, _ => by simp at h
  | e :: l, 0, j, _, hj => by
    show (e.rs ++ flatT l)[0 * 4 + j]? = _
    rw [Nat.zero_mul, Nat.zero_add, List.getElem?_append_left (by show j < 4; exact hj)]
    rfl
  | e :: l, i + 1, j, h, hj => by
    show (e.rs ++ flatT l)[(i + 1) * 4 + j]? = _
    rw [List.getElem?_append_right (by show 4 ≤ _; omega)]
    have e1 : (i + 1) * 4 + j - e.rs.length = i * 4 + j := by show (i + 1) * 4 + j - 4 = _; omega
    rw [e1]
    exact flatT_at l i j (by simp at h; omega) hj
theorem own_slice {w : World} {B : Nat} {e : TypeId} {size n : Nat} {v : Value} {xs : List Value} (h : w.ownsRow B e size v n xs) : ∃ q cap, v = .slice q n cap ∧ (0 < n → ∃ g, q = some ⟨g, 0, none⟩) := by
  rcases h.2 with ⟨h, h0⟩ | ⟨g, cp, cur, h, -⟩
  · exact ⟨none, 0, by rw [h, h0], fun q => by omega⟩
  · exact ⟨_, _, h, fun _ => ⟨g, rfl⟩⟩
/-- a snoop of no sense, laid behind the others -/
theorem app_none {x : World} {B n : Nat} {g : Value} {ls : List Value} (h : x.ownsRow B 84 4 g n ls) (hn : n ≤ 5000) (hB : B ≤ x.heap.size) : ∃ oq oc q' cap' Z, g = .slice oq n oc ∧ (Builtin.append_ #[37, 37] 37 #[g, .slice (some ⟨x.heap.size, 0, none⟩) 1 1]).run Tryd.prog (x.alloc (.cells #[.int .i64 (-2), .int .u32 0, .int .i64 0, .int .i64 0] 84)) = .ok (.slice q' (n + 1) cap') Z ∧ (∃ ls', Z.ownsRow B 84 4 (.slice q' (n + 1) cap') (n + 1) ls') ∧ Turned (fun j => g.ownBlock = some j) x Z ∧ Fr g (.slice q' (n + 1) cap') x.heap.size := by
  obtain ⟨i0, hi0, hz0, hz1, hz2⟩ := info_parts (show (Tryd.prog.info? 84).map (fun i => (i.zero, i.size, i.bytes)) = some (some (.agg #[.int .i64 0, .int .u32 0, .int .i64 0, .int .i64 0]), 4, 32) by kernel_rfl)
  obtain ⟨Y, hY⟩ : ∃ Y, x.alloc (.cells #[.int .i64 (-2), .int .u32 0, .int .i64 0, .int .i64 0] 84) = Y := ⟨_, rfl⟩
  have bY : Below x.heap.size x Y := by rw [← hY]; exact (Below.refl _ _).alloc (Nat.le_refl _) _
  have hown := own_turned h (Turned.of_below (Q := fun _ => False) bY) (fun _ _ q => q)
  obtain ⟨v', Z, hrun, r1, r2, r3, r4⟩ := run_append_own_at (P := Tryd.prog) (w := Y) B 37 37 84 i0 (.agg #[.int .i64 0, .int .u32 0, .int .i64 0, .int .i64 0]) 4 32 Tryd.underlying37 hi0 hz0 hz1 hz2 rfl (by decide) g n _ hown ⟨x.heap.size, 0, none⟩ 1 1 [.int .i64 (-2), .int .u32 0, .int .i64 0, .int .i64 0] rfl (fun j u hj => by
      rw [Addr.add_lit, Nat.zero_add, ← hY]
      refine (World.cell?_alloc_new x _ _ j).trans ?_
      rw [← hj]
      simp) (fun u hu => by
      simp at hu
      rcases hu with rfl | rfl | rfl | rfl <;> rfl) (by unfold maxLen; omega) (by omega) (Nat.le_trans hB bY.size)
  obtain ⟨q', cap', rfl⟩ : ∃ q' cap', v' = .slice q' (n + 1) cap' := by
    rcases r1.2 with ⟨h, h0⟩ | ⟨g, cp, cur, h, -⟩
    · omega
    · exact ⟨_, _, h⟩
  obtain ⟨oq, oc, rfl⟩ : ∃ oq oc, g = .slice oq n oc := by
    rcases hown.2 with ⟨h, h0⟩ | ⟨g, cp, cur, h, -⟩
    · exact ⟨none, 0, by rw [h, h0]⟩
    · exact ⟨_, _, h⟩
  rw [hY]
  refine ⟨oq, oc, q', cap', Z, rfl, hrun, ⟨_, r1⟩, (Turned.of_below bY).trans (turned_grown r2), ?_⟩
  rcases r4 with q | q
  · exact Or.inl q
  · exact Or.inr ⟨_, q, bY.size⟩
set_option maxRecDepth 100000 in
set_option maxHeartbeats 4000000 in
theorem snoops_any (v v2 : Value) (B B2 : Nat) (T : List Snp) (w : World) (h1 : w.ownsRow B 84 4 v T.length (flatS T)) (h2 : w.ownsRow B2 86 4 v2 T.length (flatT T)) (hne : ∀ j, v2.ownBlock = some j → v.ownBlock ≠ some j) (ha : ∀ e ∈ T, e.a < 4294967296) (hT : T.length ≤ 4) (hB : B ≤ w.heap.size) : Calls Tryd.prog 10 #[v, v2] w fun e w' => e = .returned (.bool true) ∧ Turned (fun j => v.ownBlock = some j) w w' := by
  obtain ⟨q, cap, rfl, hq⟩ := own_slice h1
  obtain ⟨q2, cap2, rfl, hq2⟩ := own_slice h2
  obtain ⟨n, hn⟩ : ∃ n, T.length = n := ⟨_, rfl⟩
  rw [hn] at h1 h2 hT hne hq hq2 ⊢
  have HN := Hid.in hn
  have HO := Hid.in h1
  have HO2 := Hid.in h2
  have HNE := Hid.in hne
  have HA := Hid.in ha
  have HB := Hid.in hB
  have HQ := Hid.in hq
  have HQ2 := Hid.in hq2
  clear h1 h2 hne ha hB hn hq hq2
  go_enter Tryd.func10, Tryd.ntmps10
  go_wp2
  go_loopw [5] (fun i wr => ∃ k : Nat, i = .int .i64 k ∧ k ≤ n ∧ Turned (fun j => (Value.slice q n cap).ownBlock = some j) w wr ∧ ∃ xs, wr.ownsRow B 84 4 (.slice q n cap) n xs ∧ ∀ o, k * 4 ≤ o → xs[o]? = (flatS T)[o]?) (fun i _ => 5 - (intOf i).toNat)
  case atStart => exact ⟨0, rfl, Nat.zero_le _, Turned.refl _ _, _, HO.out, fun o _ => rfl⟩
  case round =>
    obtain ⟨k, rfl, hk, hTu, xs, hW, hxs⟩ := hrel
    have HT := Hid.in hTu
    have HWR := Hid.in hW
    have HXS := Hid.in hxs
    clear hTu hW hxs
    by_cases hlt : k < n
    · have hlt' : (k : Int) < (n : Int) := by omega
      obtain ⟨g, rfl⟩ := HQ.out (by omega)
      obtain ⟨g2, rfl⟩ := HQ2.out (by omega)
      have hlen : k < T.length := by rw [HN.out]; exact hlt
      obtain ⟨e, he⟩ : ∃ e, T.getD k s0 = e := ⟨_, rfl⟩
      have hea : e.a < 4294967296 := by
        rw [← he]
        refine HA.out _ ?_
        rw [List.getD_eq_getElem?_getD, List.getElem?_eq_getElem hlen]
        exact List.getElem_mem hlen
      have cl : ∀ j u, j < 4 → e.vs[j]? = some u → wr.cell? ⟨g, k * 4 + j, none⟩ = some u := fun j u hj hu => by
        rw [World.ownsRow.cellAt HWR.out (k * 4 + j) (by omega), HXS.out _ (by omega), flatS_at T k j hlen hj, he]
        exact hu
      have h2r : wr.ownsRow B2 86 4 (.slice (some ⟨g2, 0, none⟩) n cap2) n (flatT T) := own_turned HO2.out HT.out (fun j hj => HNE.out j hj)
      have cm : ∀ j u, j < 4 → e.rs[j]? = some u → wr.cell? ⟨g2, k * 4 + j, none⟩ = some u := fun j u hj hu => by
        rw [World.ownsRow.cellAt h2r (k * 4 + j) (by omega), flatT_at T k j hlen hj, he]
        exact hu
      have l0 : wr.cell? ⟨g, k * 4, none⟩ = some (.int .i64 e.c) := cl 0 _ (by omega) rfl
      have l1 : wr.cell? ⟨g, k * 4 + 1, none⟩ = some (.int .u32 e.a) := cl 1 _ (by omega) rfl
      have l2 : wr.cell? ⟨g, k * 4 + 2, none⟩ = some (.int .i64 e.f) := cl 2 _ (by omega) rfl
      have l3 : wr.cell? ⟨g, k * 4 + 3, none⟩ = some (.int .i64 e.t) := cl 3 _ (by omega) rfl
      have m0 : wr.cell? ⟨g2, k * 4, none⟩ = some (.int .i64 e.c) := cm 0 _ (by omega) rfl
      have m1 : wr.cell? ⟨g2, k * 4 + 1, none⟩ = some (.int .i64 e.a) := cm 1 _ (by omega) rfl
      have m2 : wr.cell? ⟨g2, k * 4 + 2, none⟩ = some (.int .i64 e.f) := cm 2 _ (by omega) rfl
      have m3 : wr.cell? ⟨g2, k * 4 + 3, none⟩ = some (.int .i64 e.t) := cm 3 _ (by omega) rfl
      have gh := (own_base HWR.out g rfl).2
      have gh2 := (own_base h2r g2 rfl).2
      have gf : ∀ o, wr.frozen? ⟨g, o, none⟩ = false := fun o => World.ownsRow.frozenAt HWR.out o
      have hu : undef = Value.tuple #[] := rfl
      have hcv : IntKind.i64.wrap (e.a : Int) = (e.a : Int) := by simp only [IntKind.wrap_i64]; omega
      clear cl cm h2r he hlen
      go_upto_region 6 with fail
      go_quiet (fail)
      go_wp2
      go_roundw
      case rel =>
        have bD : Below wr.heap.size wr (wr.drewN nq) := ⟨rfl, rfl, rfl, Nat.le_refl _, fun _ _ => rfl⟩
        have r0 := own_turned HWR.out (Turned.of_below (Q := fun _ => False) bD) (fun _ _ q => q)
        have t0 : Turned (fun j => (Value.slice (some ⟨g, 0, none⟩) n cap).ownBlock = some j) w (wr.drewN nq) := HT.out.trans (Turned.of_below bD)
        refine ⟨k + 1, by simp, by omega, (((t0.set rfl _ _).set rfl _ _).set rfl _ _).set rfl _ _, _, own_set (own_set (own_set (own_set r0 _ _) _ _) _ _) _ _, fun o ho => ?_⟩
        rw [List.getElem?_set_ne (by omega), List.getElem?_set_ne (by omega), List.getElem?_set_ne (by omega), List.getElem?_set_ne (by omega)]
        exact HXS.out o (by omega)
      case measure =>
        simp [intOf]
        omega
    · obtain rfl : k = n := by omega
      have hlt' : ¬ (k : Int) < (k : Int) := by omega
      go_wp2
      go_loopw [6, 7] (fun gv i wx => ∃ (j : Nat) (oq : Option Addr) (oc : Nat) (ls : List Value), gv = .slice oq (k + j) oc ∧ i = .int .i64 j ∧ j ≤ 40 ∧ Fr (.slice q k cap) (.slice oq (k + j) oc) w.heap.size ∧ Turned (fun j => (Value.slice q k cap).ownBlock = some j) w wx ∧ wx.ownsRow B 84 4 (.slice oq (k + j) oc) (k + j) ls) (fun _ i _ => 100 - (intOf i).toNat)
      case atStart => exact ⟨0, q, cap, _, rfl, rfl, by omega, Or.inl rfl, HT.out, HWR.out⟩
      case round =>
        obtain ⟨j, oq, oc, ls, rfl, rfl, hj, hF, hT2, hW2⟩ := hrel
        by_cases hlt2 : j < 40
        · have hlt2' : (j : Int) < 40 := by omega
          obtain ⟨_, _, q', cap', Z, -, hrun, ⟨ls', hZ⟩, tZ, fZ⟩ := app_none hW2 (by omega) (Nat.le_trans HB.out hT2.size)
          have HRUN := Hid.in hrun
          have HZ := Hid.in hZ
          have HTZ := Hid.in tZ
          have HFZ := Hid.in fZ
          have HF := Hid.in hF
          have HT2 := Hid.in hT2
          clear hrun hZ tZ fZ hF hT2 hW2 HT HWR HO HO2 HNE HXS
          go_wp2_with (at_builtin; refine wpList_append_run (v := .slice oq (k + j) oc) (u := .slice (some ⟨wr.heap.size, 0, none⟩) 1 1) rfl rfl rfl rfl HRUN.out ?_)
          go_roundw
          case rel =>
            refine ⟨j + 1, q', cap', ls', by rw [Nat.add_assoc], by simp, by omega, ?_, ?_, by rw [← Nat.add_assoc]; exact HZ.out⟩
            · rw [← Nat.add_assoc]
              rcases HFZ.out with h | ⟨g, h1, h2⟩
              · rcases HF.out with h' | ⟨g, h1, h2⟩
                · exact Or.inl (h.trans h')
                · exact Or.inr ⟨g, h.trans h1, h2⟩
              · exact Or.inr ⟨g, h1, Nat.le_trans HT2.out.size h2⟩
            · refine ⟨HTZ.out.os.trans HT2.out.os, HTZ.out.tape.trans HT2.out.tape, HTZ.out.output.trans HT2.out.output, Nat.le_trans HT2.out.size HTZ.out.size, fun b hb hn => (HTZ.out.block b (Nat.lt_of_lt_of_le hb HT2.out.size) (fun e => ?_)).trans (HT2.out.block b hb hn)⟩
              rcases HF.out with h' | ⟨g, h1, h2⟩
              · exact hn (h'.symm.trans e)
              · rw [h1] at e
                have := Option.some.inj e
                omega
          case measure =>
            simp [intOf]
            omega
        · obtain rfl : j = 40 := by omega
          have HT2 := Hid.in hT2
          clear hT2 hW2 hF HT HWR HO HO2 HNE HXS
          go_wp2
          go_ret
          exact ⟨by simp, HT2.out⟩
end Go.Proofs.YtlogdmnhngbkaaaDoor
/-
  BUS' LAW BusSteps: made: what was handed in is as it was.
-/
namespace Go.Proofs.YtlogdmnhngbkaaaDoor
open Go Go.RowKit
def allM (len : Nat) (f : Nat → Nat) (k o : Nat) : Value := .int .u8 (if o < k then 119 else if o < len then (f o : Int) else 0)
set_option maxRecDepth 100000 in
set_option maxHeartbeats 4000000 in
theorem mblk2 {u0 u1 u2 u4 u5 u6 u7 u8 u9 u10 u11 u12 u13 u15 u16 u17 u18 u21 u22 u23 u24 u25 u26 u27 u28 u29 u30 u31 u32 u33 u34 u35 u36 u37 u38 u39 u40 u41 u42 u43 u44 u45 u46 u47 u48 u49 u50 u51 u52 u53 u54 u55 u56 u57 u58 u59 u60 u61 u62 u63 u64 u65 u66 u67 u68 u69 u70 u71 u72 u73 u74 u75 u76 u77 u78 u79 u80 u81 u82 u83 u84 u85 u86 u87 u88 u89 u90 u91 u92 u93 u94 u95 u96 u97 u98 u99 u100 u101 u102 u103 u104 u105 u106 u107 u108 u109 u110 u111 u112 u113 u114 u115 u116 u117 u118 u119 u120 u121 u122 u123 u124 u125 u126 u127 u128 u129 u130 u131 u132 u133 u134 u135 u136 u137 u138 u139 u140 u141 u142 u143 u144 u145 u146 u147 u148 u149 u150 u151 u152 u153 u154 u155 u156 u157 u158 u159 u160 u161 u162 u163 : Value} {ds : List Deferred} {W : World} {dq : Option Addr} {len dc ab m : Nat} {f : Nat → Nat} (hd : HandB W dq len f) (hne : ∀ c o, dq = some ⟨c, o, none⟩ → c ≠ ab) (hc : CellsAt m W ab (allM len f 0)) (hm : m = len + 70) (hl : len ≤ 1048576) {K : Act → World → Prop} (hk : ∀ (t20 t80 t81 t82 t83 t84 t85 t86 t87 t88 t89 t90 t91 t92 t93 t94 t95 t96 t97 t98 t99 t100 t101 t102 t103 t104 t105 t106 t107 t108 t109 t110 t111 t112 t113 t114 t115 t116 t117 t118 t119 : Value) (y : World), Turned (fun j => j = ab) W y → K ⟨#[u0, u1, u2, .slice dq len dc, u4, u5, u6, u7, u8, u9, u10, u11, u12, u13, .slice (some ⟨ab, 0, none⟩) m m, u15, u16, u17, u18, .bool true, t20, u21, u22, u23, u24, u25, u26, u27, u28, u29, u30, u31, u32, u33, u34, u35, u36, u37, u38, u39, u40, u41, u42, u43, u44, u45, u46, u47, u48, u49, u50, u51, u52, u53, u54, u55, u56, u57, u58, u59, u60, u61, u62, u63, u64, u65, u66, u67, u68, u69, u70, u71, u72, u73, u74, u75, u76, u77, u78, u79, t80, t81, t82, t83, t84, t85, t86, t87, t88, t89, t90, t91, t92, t93, t94, t95, t96, t97, t98, t99, t100, t101, t102, t103, t104, t105, t106, t107, t108, t109, t110, t111, t112, t113, t114, t115, t116, t117, t118, t119, u120, u121, u122, u123, u124, u125, u126, u127, u128, u129, u130, u131, u132, u133, u134, u135, u136, u137, u138, u139, u140, u141, u142, u143, u144, u145, u146, u147, u148, u149, u150, u151, u152, u153, u154, u155, u156, u157, u158, u159, u160, u161, u162, u163], ds⟩ y) : (blkIn Tryd.f4.body 2).wp Tryd.prog (Exit.then K NoX) ⟨#[u0, u1, u2, .slice dq len dc, u4, u5, u6, u7, u8, u9, u10, u11, u12, u13, .slice (some ⟨ab, 0, none⟩) m m, u15, u16, u17, u18, .bool true, .int .i64 0, u21, u22, u23, u24, u25, u26, u27, u28, u29, u30, u31, u32, u33, u34, u35, u36, u37, u38, u39, u40, u41, u42, u43, u44, u45, u46, u47, u48, u49, u50, u51, u52, u53, u54, u55, u56, u57, u58, u59, u60, u61, u62, u63, u64, u65, u66, u67, u68, u69, u70, u71, u72, u73, u74, u75, u76, u77, u78, u79, u80, u81, u82, u83, u84, u85, u86, u87, u88, u89, u90, u91, u92, u93, u94, u95, u96, u97, u98, u99, u100, u101, u102, u103, u104, u105, u106, u107, u108, u109, u110, u111, u112, u113, u114, u115, u116, u117, u118, u119, u120, u121, u122, u123, u124, u125, u126, u127, u128, u129, u130, u131, u132, u133, u134, u135, u136, u137, u138, u139, u140, u141, u142, u143, u144, u145, u146, u147, u148, u149, u150, u151, u152, u153, u154, u155, u156, u157, u158, u159, u160, u161, u162, u163], ds⟩ W := by
  have HQ := Hid.in hk
  have HD := Hid.in hd
  have HNE := Hid.in hne
  have HC := Hid.in hc
  have hm1 : m ≤ 1048646 := by omega
  clear hk hd hne hc hm
  show Code.wp _ (Code.block 2 (Code.loop _)) _ _ _
  go_wp2_with fail
  go_loopw [19, 20] (fun ok iv wr => ok = .bool true ∧ ∃ i : Nat, iv = .int .i64 i ∧ i ≤ m ∧ Hid (CellsAt m wr ab (allM len f i)) ∧ Hid (Turned (fun j => j = ab) W wr)) (fun _ iv _ => 2000000 - (intOf iv).toNat)
  case atStart => exact ⟨rfl, 0, rfl, by omega, HC, Turned.refl _ _⟩
  case round =>
    obtain ⟨rfl, i, rfl, hi, HCC, HT⟩ := hrel
    have hu : undef = Value.tuple #[] := rfl
    by_cases hlt : i < m
    · have hlt' : (i : Int) < (m : Int) := by omega
      have hch := HCC.out.here
      have hcf := HCC.out.free i
      have hcc := HCC.out.cell i hlt
      have NEXT : Hid (∀ n, CellsAt m ((wr.drewN n).setCell ⟨ab, i, none⟩ (.int .u8 119)) ab (allM len f (i + 1)) ∧ Turned (fun j => j = ab) W ((wr.drewN n).setCell ⟨ab, i, none⟩ (.int .u8 119))) := fun n => by
        have bD : Below wr.heap.size wr (wr.drewN n) := ⟨rfl, rfl, rfl, Nat.le_refl _, fun _ _ => rfl⟩
        refine ⟨((HCC.out.below bD).set i hlt _).ext fun o ho => ?_, (HT.out.trans (Turned.of_below bD)).set rfl _ _⟩
        by_cases e : o = i
        · subst e
          rw [upd_same]
          unfold allM
          rw [if_pos (by omega)]
        · rw [upd_other _ _ _ _ e]
          unfold allM
          by_cases h : o < i
          · rw [if_pos h, if_pos (by omega)]
          · have h' : ¬ o < i + 1 := by omega
            rw [if_neg h, if_neg h']
      by_cases h2 : i < len
      · obtain ⟨mc, mo, rfl, hmc, hmcell⟩ := HD.out i h2
        have c1 : wr.cell? ⟨mc, mo + i, none⟩ = some (.int .u8 (f i : Nat)) := HT.out.to_cell hmc (HNE.out mc mo rfl) hmcell
        have c2 := Nat.lt_of_lt_of_le hmc HT.out.size
        have a1 : wr.cell? ⟨ab, i, none⟩ = some (.int .u8 (f i : Nat)) := by rw [hcc]; unfold allM; rw [if_neg (by omega), if_pos h2]
        obtain ⟨fi, hfi⟩ : ∃ fi, f i = fi := ⟨_, rfl⟩
        rw [hfi] at c1 a1
        have h2' : (i : Int) < (len : Int) := by omega
        have d2 : decide ((i : Int) < (len : Int)) = true := decide_eq_true h2'
        clear hmcell hcc hfi
        go_upto_region 15 with fail
        go_quiet (fail)
        go_wp2
        go_roundw
        case rel => exact ⟨by simp, i + 1, by simp, by omega, (NEXT.out _).1, (NEXT.out _).2⟩
        case measure => simp [intOf]; omega
      · have a1 : wr.cell? ⟨ab, i, none⟩ = some (.int .u8 0) := by rw [hcc]; unfold allM; rw [if_neg (by omega), if_neg h2]
        have h2' : ¬ (i : Int) < (len : Int) := by omega
        have h3' : (len : Int) ≤ (i : Int) := by omega
        have d2 : decide ((i : Int) < (len : Int)) = false := decide_eq_false h2'
        have d3 : decide ((len : Int) ≤ (i : Int)) = true := decide_eq_true h3'
        clear hcc
        go_upto_region 15 with fail
        go_quiet (fail)
        go_wp2
        go_roundw
        case rel => exact ⟨by simp, i + 1, by simp, by omega, (NEXT.out _).1, (NEXT.out _).2⟩
        case measure => simp [intOf]; omega
    · obtain rfl : i = m := by omega
      have hlt' : ¬ (i : Int) < (i : Int) := by omega
      go_wp2
      exact HQ.out _ _ _ _ _ _ _ _ _ _ _ _ _ _ _ _ _ _ _ _ _ _ _ _ _ _ _ _ _ _ _ _ _ _ _ _ _ _ _ _ _ _ HT.out
end Go.Proofs.YtlogdmnhngbkaaaDoor
