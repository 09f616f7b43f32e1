import Derived.Test.YthbffonedpeeiaaDoorZmf
/-
  LSQ's LAW LsqMemory: may the oldest one retire? A way of it.
-/
namespace Go.Proofs.YthbffonedpeeiaaDoor
open Go Go.RowKit
set_option maxRecDepth 100000 in
set_option maxHeartbeats 4000000 in
theorem reg26d (n ot i1 cl sb so b0 b2 b3 b4 : Nat) (W0 : World) (a : Act) (hs : a.tmps.size = 272) (h12 : a.eval (.tmp 12) = .pointer (some ⟨b0, 0, none⟩)) (hlt : decide ((ot : Int) < (i1 : Int)) = true) (hon : ot < n) (c1 : W0.cell? ⟨b0, 1, none⟩ = some (.slice (some ⟨sb, so, none⟩) n cl)) (c2 : W0.cell? ⟨b0, 2, none⟩ = some (.int .i64 i1)) (c3 : W0.cell? ⟨b0, 3, none⟩ = some (.int .i64 ot)) (c5 : W0.cell? ⟨b0, 5, none⟩ = some (.slice (some ⟨b2, 0, none⟩) n n)) (c6 : W0.cell? ⟨b0, 6, none⟩ = some (.slice (some ⟨b3, 0, none⟩) n n)) (c7 : W0.cell? ⟨b0, 7, none⟩ = some (.slice (some ⟨b4, 0, none⟩) n n)) (e0 : W0.cell? ⟨sb, so + ot * 4, none⟩ = some (.bool true)) (e2 : W0.cell? ⟨b2, ot, none⟩ = some (.bool true)) (e3 : W0.cell? ⟨b3, ot, none⟩ = some (.bool false)) (e4 : W0.cell? ⟨b4, ot, none⟩ = some (.bool false)) {K : Act → World → Prop} (hk : ∀ k : Nat, K (((((((((((((((((((((((((((((((((((((((((((((((((((((((((((a).put (some 128) (.pointer (some ⟨b0, 0, none⟩))).put (some 129) (.pointer (some ⟨b0, 0, none⟩))).put (some 130) (.pointer (some ⟨b0, 3, none⟩))).put (some 131) (.int .i64 ot)).put (some 132) (.pointer (some ⟨b0, 0, none⟩))).put (some 133) (.pointer (some ⟨b0, 0, none⟩))).put (some 134) (.pointer (some ⟨b0, 2, none⟩))).put (some 135) (.int .i64 i1)).put (some 136) (.bool true)).put (some 137) (.bool true)).put (some 138) (.pointer (some ⟨b0, 0, none⟩))).put (some 139) (.pointer (some ⟨b0, 0, none⟩))).put (some 140) (.pointer (some ⟨b0, 5, none⟩))).put (some 141) (.slice (some ⟨b2, 0, none⟩) n n)).put (some 142) (.pointer (some ⟨b0, 0, none⟩))).put (some 143) (.pointer (some ⟨b0, 0, none⟩))).put (some 144) (.pointer (some ⟨b0, 3, none⟩))).put (some 145) (.int .i64 ot)).put (some 146) (.pointer (some ⟨b2, ot, none⟩))).put (some 147) (.bool true)).put (some 148) (.bool true)).put (some 149) (.bool true)).put (some 150) (.pointer (some ⟨b0, 0, none⟩))).put (some 151) (.pointer (some ⟨b0, 0, none⟩))).put (some 152) (.pointer (some ⟨b0, 1, none⟩))).put (some 153) (.slice (some ⟨sb, so, none⟩) n cl)).put (some 154) (.pointer (some ⟨b0, 0, none⟩))).put (some 155) (.pointer (some ⟨b0, 0, none⟩))).put (some 156) (.pointer (some ⟨b0, 3, none⟩))).put (some 157) (.int .i64 ot)).put (some 158) (.pointer (some ⟨sb, so + ot * 4, none⟩))).put (some 159) (.pointer (some ⟨sb, so + ot * 4, none⟩))).put (some 160) (.bool true)).put (some 161) (.bool true)).put (some 162) (.pointer (some ⟨b0, 0, none⟩))).put (some 163) (.pointer (some ⟨b0, 0, none⟩))).put (some 164) (.pointer (some ⟨b0, 6, none⟩))).put (some 165) (.slice (some ⟨b3, 0, none⟩) n n)).put (some 166) (.pointer (some ⟨b0, 0, none⟩))).put (some 167) (.pointer (some ⟨b0, 0, none⟩))).put (some 168) (.pointer (some ⟨b0, 3, none⟩))).put (some 169) (.int .i64 ot)).put (some 170) (.pointer (some ⟨b3, ot, none⟩))).put (some 171) (.bool false)).put (some 172) (.bool false)).put (some 173) (.bool false)).put (some 174) (.pointer (some ⟨b0, 0, none⟩))).put (some 175) (.pointer (some ⟨b0, 0, none⟩))).put (some 176) (.pointer (some ⟨b0, 7, none⟩))).put (some 177) (.slice (some ⟨b4, 0, none⟩) n n)).put (some 178) (.pointer (some ⟨b0, 0, none⟩))).put (some 179) (.pointer (some ⟨b0, 0, none⟩))).put (some 180) (.pointer (some ⟨b0, 3, none⟩))).put (some 181) (.int .i64 ot)).put (some 182) (.pointer (some ⟨b4, ot, none⟩))).put (some 183) (.bool false)).put (some 184) (.bool false)).put (some 185) (.bool false)) (W0.drewN k)) : (regIn Tryd.f4.body 26).wp Tryd.prog (Exit.then K NoX) a W0 := by
  show (Code.region 26 (opsIn (regIn Tryd.f4.body 26)) true).wp _ _ _ _
  refine wp_region_quiet (C := fun w' => ∃ n, w' = W0.drewN n) (by kernel_rfl) (by kernel_rfl) ⟨1, rfl⟩ ?_
  show wpQuiet _ _ _ _ (List.drop 0 _) _
  obtain ⟨xo0, xi0, xd0, xg0, xp0⟩ := o26_0
  refine qd_want (k := 0) (v := .pointer (some ⟨b0, 0, none⟩)) xi0 xd0 (w_none xg0) (fun w _ => run_move xp0 h12 w) ?_
  obtain ⟨ac1, hac1⟩ : ∃ x, a.put (some 128) (.pointer (some ⟨b0, 0, none⟩)) = x := ⟨_, rfl⟩
  rw [hac1]
  have e12_1 : ac1.eval (.tmp 12) = _ := hac1 ▸ ev_put h12 (by decide)
  have e128_1 : ac1.eval (.tmp 128) = _ := hac1 ▸ ev_same (by rw [hs]; decide)
  have zz1 : ac1.tmps.size = 272 := hac1 ▸ size_put hs
  obtain ⟨xo1, xi1, xd1, xg1, xp1⟩ := o26_1
  refine qd_want (k := 1) (v := .pointer (some ⟨b0, 0, none⟩)) xi1 xd1 (w_none xg1) (fun w _ => run_nil xp1 e128_1 w) ?_
  obtain ⟨ac2, hac2⟩ : ∃ x, ac1.put (some 129) (.pointer (some ⟨b0, 0, none⟩)) = x := ⟨_, rfl⟩
  rw [hac2]
  have e12_2 : ac2.eval (.tmp 12) = _ := hac2 ▸ ev_put e12_1 (by decide)
  have e129_2 : ac2.eval (.tmp 129) = _ := hac2 ▸ ev_same (by rw [zz1]; decide)
  have zz2 : ac2.tmps.size = 272 := hac2 ▸ size_put zz1
  obtain ⟨xo2, xi2, xd2, xg2, xp2⟩ := o26_2
  refine qd_want (k := 2) (v := .pointer (some ⟨b0, 3, none⟩)) xi2 xd2 (w_none xg2) (fun w _ => run_f70_3 xp2 e129_2 w) ?_
  obtain ⟨ac3, hac3⟩ : ∃ x, ac2.put (some 130) (.pointer (some ⟨b0, 3, none⟩)) = x := ⟨_, rfl⟩
  rw [hac3]
  have e12_3 : ac3.eval (.tmp 12) = _ := hac3 ▸ ev_put e12_2 (by decide)
  have e130_3 : ac3.eval (.tmp 130) = _ := hac3 ▸ ev_same (by rw [zz2]; decide)
  have zz3 : ac3.tmps.size = 272 := hac3 ▸ size_put zz2
  obtain ⟨xo3, xi3, xd3, xg3, xp3⟩ := o26_3
  refine qd_want (k := 3) (v := .int .i64 ot) xi3 xd3 (w_none xg3) (fun w hw => by obtain ⟨n, rfl⟩ := hw; exact run_l3 xp3 e130_3 c3) ?_
  obtain ⟨ac4, hac4⟩ : ∃ x, ac3.put (some 131) (.int .i64 ot) = x := ⟨_, rfl⟩
  rw [hac4]
  have e12_4 : ac4.eval (.tmp 12) = _ := hac4 ▸ ev_put e12_3 (by decide)
  have e131_4 : ac4.eval (.tmp 131) = _ := hac4 ▸ ev_same (by rw [zz3]; decide)
  have zz4 : ac4.tmps.size = 272 := hac4 ▸ size_put zz3
  obtain ⟨xo4, xi4, xd4, xg4, xp4⟩ := o26_4
  refine qd_want (k := 4) (v := .pointer (some ⟨b0, 0, none⟩)) xi4 xd4 (w_none xg4) (fun w _ => run_move xp4 e12_4 w) ?_
  obtain ⟨ac5, hac5⟩ : ∃ x, ac4.put (some 132) (.pointer (some ⟨b0, 0, none⟩)) = x := ⟨_, rfl⟩
  rw [hac5]
  have e12_5 : ac5.eval (.tmp 12) = _ := hac5 ▸ ev_put e12_4 (by decide)
  have e131_5 : ac5.eval (.tmp 131) = _ := hac5 ▸ ev_put e131_4 (by decide)
  have e132_5 : ac5.eval (.tmp 132) = _ := hac5 ▸ ev_same (by rw [zz4]; decide)
  have zz5 : ac5.tmps.size = 272 := hac5 ▸ size_put zz4
  obtain ⟨xo5, xi5, xd5, xg5, xp5⟩ := o26_5
  refine qd_want (k := 5) (v := .pointer (some ⟨b0, 0, none⟩)) xi5 xd5 (w_none xg5) (fun w _ => run_nil xp5 e132_5 w) ?_
  obtain ⟨ac6, hac6⟩ : ∃ x, ac5.put (some 133) (.pointer (some ⟨b0, 0, none⟩)) = x := ⟨_, rfl⟩
  rw [hac6]
  have e12_6 : ac6.eval (.tmp 12) = _ := hac6 ▸ ev_put e12_5 (by decide)
  have e131_6 : ac6.eval (.tmp 131) = _ := hac6 ▸ ev_put e131_5 (by decide)
  have e133_6 : ac6.eval (.tmp 133) = _ := hac6 ▸ ev_same (by rw [zz5]; decide)
  have zz6 : ac6.tmps.size = 272 := hac6 ▸ size_put zz5
  obtain ⟨xo6, xi6, xd6, xg6, xp6⟩ := o26_6
  refine qd_want (k := 6) (v := .pointer (some ⟨b0, 2, none⟩)) xi6 xd6 (w_none xg6) (fun w _ => run_f70_2 xp6 e133_6 w) ?_
  obtain ⟨ac7, hac7⟩ : ∃ x, ac6.put (some 134) (.pointer (some ⟨b0, 2, none⟩)) = x := ⟨_, rfl⟩
  rw [hac7]
  have e12_7 : ac7.eval (.tmp 12) = _ := hac7 ▸ ev_put e12_6 (by decide)
  have e131_7 : ac7.eval (.tmp 131) = _ := hac7 ▸ ev_put e131_6 (by decide)
  have e134_7 : ac7.eval (.tmp 134) = _ := hac7 ▸ ev_same (by rw [zz6]; decide)
  have zz7 : ac7.tmps.size = 272 := hac7 ▸ size_put zz6
  obtain ⟨xo7, xi7, xd7, xg7, xp7⟩ := o26_7
  refine qd_want (k := 7) (v := .int .i64 i1) xi7 xd7 (w_none xg7) (fun w hw => by obtain ⟨n, rfl⟩ := hw; exact run_l3 xp7 e134_7 c2) ?_
  obtain ⟨ac8, hac8⟩ : ∃ x, ac7.put (some 135) (.int .i64 i1) = x := ⟨_, rfl⟩
  rw [hac8]
  have e12_8 : ac8.eval (.tmp 12) = _ := hac8 ▸ ev_put e12_7 (by decide)
  have e131_8 : ac8.eval (.tmp 131) = _ := hac8 ▸ ev_put e131_7 (by decide)
  have e135_8 : ac8.eval (.tmp 135) = _ := hac8 ▸ ev_same (by rw [zz7]; decide)
  have zz8 : ac8.tmps.size = 272 := hac8 ▸ size_put zz7
  obtain ⟨xo8, xi8, xd8, xg8, xp8⟩ := o26_8
  refine qd_want (k := 8) (v := .bool true) xi8 xd8 (w_none xg8) (fun w _ => run_lss xp8 e131_8 e135_8 hlt w) ?_
  obtain ⟨ac9, hac9⟩ : ∃ x, ac8.put (some 136) (.bool true) = x := ⟨_, rfl⟩
  rw [hac9]
  have e12_9 : ac9.eval (.tmp 12) = _ := hac9 ▸ ev_put e12_8 (by decide)
  have e136_9 : ac9.eval (.tmp 136) = _ := hac9 ▸ ev_same (by rw [zz8]; decide)
  have zz9 : ac9.tmps.size = 272 := hac9 ▸ size_put zz8
  obtain ⟨xo9, xi9, xd9, xg9, xp9⟩ := o26_9
  refine qd_want (k := 9) (v := .bool true) xi9 xd9 (w_none xg9) (fun w _ => run_move xp9 e136_9 w) ?_
  obtain ⟨ac10, hac10⟩ : ∃ x, ac9.put (some 137) (.bool true) = x := ⟨_, rfl⟩
  rw [hac10]
  have e12_10 : ac10.eval (.tmp 12) = _ := hac10 ▸ ev_put e12_9 (by decide)
  have e137_10 : ac10.eval (.tmp 137) = _ := hac10 ▸ ev_same (by rw [zz9]; decide)
  have zz10 : ac10.tmps.size = 272 := hac10 ▸ size_put zz9
  obtain ⟨xo10, xi10, xd10, xg10, xp10⟩ := o26_10
  refine qd_want (k := 10) (v := .pointer (some ⟨b0, 0, none⟩)) xi10 xd10 (w_some xg10 (by kernel_rfl) e137_10 rfl) (fun w _ => run_move xp10 e12_10 w) ?_
  obtain ⟨ac11, hac11⟩ : ∃ x, ac10.put (some 138) (.pointer (some ⟨b0, 0, none⟩)) = x := ⟨_, rfl⟩
  rw [hac11]
  have e12_11 : ac11.eval (.tmp 12) = _ := hac11 ▸ ev_put e12_10 (by decide)
  have e137_11 : ac11.eval (.tmp 137) = _ := hac11 ▸ ev_put e137_10 (by decide)
  have e138_11 : ac11.eval (.tmp 138) = _ := hac11 ▸ ev_same (by rw [zz10]; decide)
  have zz11 : ac11.tmps.size = 272 := hac11 ▸ size_put zz10
  obtain ⟨xo11, xi11, xd11, xg11, xp11⟩ := o26_11
  refine qd_want (k := 11) (v := .pointer (some ⟨b0, 0, none⟩)) xi11 xd11 (w_some xg11 (by kernel_rfl) e137_11 rfl) (fun w _ => run_nil xp11 e138_11 w) ?_
  obtain ⟨ac12, hac12⟩ : ∃ x, ac11.put (some 139) (.pointer (some ⟨b0, 0, none⟩)) = x := ⟨_, rfl⟩
  rw [hac12]
  have e12_12 : ac12.eval (.tmp 12) = _ := hac12 ▸ ev_put e12_11 (by decide)
  have e137_12 : ac12.eval (.tmp 137) = _ := hac12 ▸ ev_put e137_11 (by decide)
  have e139_12 : ac12.eval (.tmp 139) = _ := hac12 ▸ ev_same (by rw [zz11]; decide)
  have zz12 : ac12.tmps.size = 272 := hac12 ▸ size_put zz11
  obtain ⟨xo12, xi12, xd12, xg12, xp12⟩ := o26_12
  refine qd_want (k := 12) (v := .pointer (some ⟨b0, 5, none⟩)) xi12 xd12 (w_some xg12 (by kernel_rfl) e137_12 rfl) (fun w _ => run_f70_5 xp12 e139_12 w) ?_
  obtain ⟨ac13, hac13⟩ : ∃ x, ac12.put (some 140) (.pointer (some ⟨b0, 5, none⟩)) = x := ⟨_, rfl⟩
  rw [hac13]
  have e12_13 : ac13.eval (.tmp 12) = _ := hac13 ▸ ev_put e12_12 (by decide)
  have e137_13 : ac13.eval (.tmp 137) = _ := hac13 ▸ ev_put e137_12 (by decide)
  have e140_13 : ac13.eval (.tmp 140) = _ := hac13 ▸ ev_same (by rw [zz12]; decide)
  have zz13 : ac13.tmps.size = 272 := hac13 ▸ size_put zz12
  obtain ⟨xo13, xi13, xd13, xg13, xp13⟩ := o26_13
  refine qd_want (k := 13) (v := .slice (some ⟨b2, 0, none⟩) n n) xi13 xd13 (w_some xg13 (by kernel_rfl) e137_13 rfl) (fun w hw => by obtain ⟨n, rfl⟩ := hw; exact run_l67 xp13 e140_13 c5) ?_
  obtain ⟨ac14, hac14⟩ : ∃ x, ac13.put (some 141) (.slice (some ⟨b2, 0, none⟩) n n) = x := ⟨_, rfl⟩
  rw [hac14]
  have e12_14 : ac14.eval (.tmp 12) = _ := hac14 ▸ ev_put e12_13 (by decide)
  have e137_14 : ac14.eval (.tmp 137) = _ := hac14 ▸ ev_put e137_13 (by decide)
  have e141_14 : ac14.eval (.tmp 141) = _ := hac14 ▸ ev_same (by rw [zz13]; decide)
  have zz14 : ac14.tmps.size = 272 := hac14 ▸ size_put zz13
  obtain ⟨xo14, xi14, xd14, xg14, xp14⟩ := o26_14
  refine qd_want (k := 14) (v := .pointer (some ⟨b0, 0, none⟩)) xi14 xd14 (w_some xg14 (by kernel_rfl) e137_14 rfl) (fun w _ => run_move xp14 e12_14 w) ?_
  obtain ⟨ac15, hac15⟩ : ∃ x, ac14.put (some 142) (.pointer (some ⟨b0, 0, none⟩)) = x := ⟨_, rfl⟩
  rw [hac15]
  have e12_15 : ac15.eval (.tmp 12) = _ := hac15 ▸ ev_put e12_14 (by decide)
  have e137_15 : ac15.eval (.tmp 137) = _ := hac15 ▸ ev_put e137_14 (by decide)
  have e141_15 : ac15.eval (.tmp 141) = _ := hac15 ▸ ev_put e141_14 (by decide)
  have e142_15 : ac15.eval (.tmp 142) = _ := hac15 ▸ ev_same (by rw [zz14]; decide)
  have zz15 : ac15.tmps.size = 272 := hac15 ▸ size_put zz14
  obtain ⟨xo15, xi15, xd15, xg15, xp15⟩ := o26_15
  refine qd_want (k := 15) (v := .pointer (some ⟨b0, 0, none⟩)) xi15 xd15 (w_some xg15 (by kernel_rfl) e137_15 rfl) (fun w _ => run_nil xp15 e142_15 w) ?_
  obtain ⟨ac16, hac16⟩ : ∃ x, ac15.put (some 143) (.pointer (some ⟨b0, 0, none⟩)) = x := ⟨_, rfl⟩
  rw [hac16]
  have e12_16 : ac16.eval (.tmp 12) = _ := hac16 ▸ ev_put e12_15 (by decide)
  have e137_16 : ac16.eval (.tmp 137) = _ := hac16 ▸ ev_put e137_15 (by decide)
  have e141_16 : ac16.eval (.tmp 141) = _ := hac16 ▸ ev_put e141_15 (by decide)
  have e143_16 : ac16.eval (.tmp 143) = _ := hac16 ▸ ev_same (by rw [zz15]; decide)
  have zz16 : ac16.tmps.size = 272 := hac16 ▸ size_put zz15
  obtain ⟨xo16, xi16, xd16, xg16, xp16⟩ := o26_16
  refine qd_want (k := 16) (v := .pointer (some ⟨b0, 3, none⟩)) xi16 xd16 (w_some xg16 (by kernel_rfl) e137_16 rfl) (fun w _ => run_f70_3 xp16 e143_16 w) ?_
  obtain ⟨ac17, hac17⟩ : ∃ x, ac16.put (some 144) (.pointer (some ⟨b0, 3, none⟩)) = x := ⟨_, rfl⟩
  rw [hac17]
  have e12_17 : ac17.eval (.tmp 12) = _ := hac17 ▸ ev_put e12_16 (by decide)
  have e137_17 : ac17.eval (.tmp 137) = _ := hac17 ▸ ev_put e137_16 (by decide)
  have e141_17 : ac17.eval (.tmp 141) = _ := hac17 ▸ ev_put e141_16 (by decide)
  have e144_17 : ac17.eval (.tmp 144) = _ := hac17 ▸ ev_same (by rw [zz16]; decide)
  have zz17 : ac17.tmps.size = 272 := hac17 ▸ size_put zz16
  obtain ⟨xo17, xi17, xd17, xg17, xp17⟩ := o26_17
  refine qd_want (k := 17) (v := .int .i64 ot) xi17 xd17 (w_some xg17 (by kernel_rfl) e137_17 rfl) (fun w hw => by obtain ⟨n, rfl⟩ := hw; exact run_l3 xp17 e144_17 c3) ?_
  obtain ⟨ac18, hac18⟩ : ∃ x, ac17.put (some 145) (.int .i64 ot) = x := ⟨_, rfl⟩
  rw [hac18]
  have e12_18 : ac18.eval (.tmp 12) = _ := hac18 ▸ ev_put e12_17 (by decide)
  have e137_18 : ac18.eval (.tmp 137) = _ := hac18 ▸ ev_put e137_17 (by decide)
  have e141_18 : ac18.eval (.tmp 141) = _ := hac18 ▸ ev_put e141_17 (by decide)
  have e145_18 : ac18.eval (.tmp 145) = _ := hac18 ▸ ev_same (by rw [zz17]; decide)
  have zz18 : ac18.tmps.size = 272 := hac18 ▸ size_put zz17
  obtain ⟨xo18, xi18, xd18, xg18, xp18⟩ := o26_18
  refine qd_want (k := 18) (v := .pointer (some ⟨b2, ot, none⟩)) xi18 xd18 (w_some xg18 (by kernel_rfl) e137_18 rfl) (fun w _ => run_i67 xp18 e141_18 e145_18 hon w) ?_
  obtain ⟨ac19, hac19⟩ : ∃ x, ac18.put (some 146) (.pointer (some ⟨b2, ot, none⟩)) = x := ⟨_, rfl⟩
  rw [hac19]
  have e12_19 : ac19.eval (.tmp 12) = _ := hac19 ▸ ev_put e12_18 (by decide)
  have e137_19 : ac19.eval (.tmp 137) = _ := hac19 ▸ ev_put e137_18 (by decide)
  have e146_19 : ac19.eval (.tmp 146) = _ := hac19 ▸ ev_same (by rw [zz18]; decide)
  have zz19 : ac19.tmps.size = 272 := hac19 ▸ size_put zz18
  obtain ⟨xo19, xi19, xd19, xg19, xp19⟩ := o26_19
  refine qd_want (k := 19) (v := .bool true) xi19 xd19 (w_some xg19 (by kernel_rfl) e137_19 rfl) (fun w hw => by obtain ⟨n, rfl⟩ := hw; exact run_l4 xp19 e146_19 e2) ?_
  obtain ⟨ac20, hac20⟩ : ∃ x, ac19.put (some 147) (.bool true) = x := ⟨_, rfl⟩
  rw [hac20]
  have e12_20 : ac20.eval (.tmp 12) = _ := hac20 ▸ ev_put e12_19 (by decide)
  have e137_20 : ac20.eval (.tmp 137) = _ := hac20 ▸ ev_put e137_19 (by decide)
  have e147_20 : ac20.eval (.tmp 147) = _ := hac20 ▸ ev_same (by rw [zz19]; decide)
  have zz20 : ac20.tmps.size = 272 := hac20 ▸ size_put zz19
  obtain ⟨xo20, xi20, xd20, xg20, xp20⟩ := o26_20
  refine qd_want (k := 20) (v := .bool true) xi20 xd20 (w_none xg20) (fun w _ => run_pick xp20 e137_20 (fun _ => e147_20) (fun q => by cases q) w) ?_
  obtain ⟨ac21, hac21⟩ : ∃ x, ac20.put (some 148) (.bool true) = x := ⟨_, rfl⟩
  rw [hac21]
  have e12_21 : ac21.eval (.tmp 12) = _ := hac21 ▸ ev_put e12_20 (by decide)
  have e148_21 : ac21.eval (.tmp 148) = _ := hac21 ▸ ev_same (by rw [zz20]; decide)
  have zz21 : ac21.tmps.size = 272 := hac21 ▸ size_put zz20
  obtain ⟨xo21, xi21, xd21, xg21, xp21⟩ := o26_21
  refine qd_want (k := 21) (v := .bool true) xi21 xd21 (w_none xg21) (fun w _ => run_move xp21 e148_21 w) ?_
  obtain ⟨ac22, hac22⟩ : ∃ x, ac21.put (some 149) (.bool true) = x := ⟨_, rfl⟩
  rw [hac22]
  have e12_22 : ac22.eval (.tmp 12) = _ := hac22 ▸ ev_put e12_21 (by decide)
  have e149_22 : ac22.eval (.tmp 149) = _ := hac22 ▸ ev_same (by rw [zz21]; decide)
  have zz22 : ac22.tmps.size = 272 := hac22 ▸ size_put zz21
  obtain ⟨xo22, xi22, xd22, xg22, xp22⟩ := o26_22
  refine qd_want (k := 22) (v := .pointer (some ⟨b0, 0, none⟩)) xi22 xd22 (w_some xg22 (by kernel_rfl) e149_22 rfl) (fun w _ => run_move xp22 e12_22 w) ?_
  obtain ⟨ac23, hac23⟩ : ∃ x, ac22.put (some 150) (.pointer (some ⟨b0, 0, none⟩)) = x := ⟨_, rfl⟩
  rw [hac23]
  have e12_23 : ac23.eval (.tmp 12) = _ := hac23 ▸ ev_put e12_22 (by decide)
  have e149_23 : ac23.eval (.tmp 149) = _ := hac23 ▸ ev_put e149_22 (by decide)
  have e150_23 : ac23.eval (.tmp 150) = _ := hac23 ▸ ev_same (by rw [zz22]; decide)
  have zz23 : ac23.tmps.size = 272 := hac23 ▸ size_put zz22
  obtain ⟨xo23, xi23, xd23, xg23, xp23⟩ := o26_23
  refine qd_want (k := 23) (v := .pointer (some ⟨b0, 0, none⟩)) xi23 xd23 (w_some xg23 (by kernel_rfl) e149_23 rfl) (fun w _ => run_nil xp23 e150_23 w) ?_
  obtain ⟨ac24, hac24⟩ : ∃ x, ac23.put (some 151) (.pointer (some ⟨b0, 0, none⟩)) = x := ⟨_, rfl⟩
  rw [hac24]
  have e12_24 : ac24.eval (.tmp 12) = _ := hac24 ▸ ev_put e12_23 (by decide)
  have e149_24 : ac24.eval (.tmp 149) = _ := hac24 ▸ ev_put e149_23 (by decide)
  have e151_24 : ac24.eval (.tmp 151) = _ := hac24 ▸ ev_same (by rw [zz23]; decide)
  have zz24 : ac24.tmps.size = 272 := hac24 ▸ size_put zz23
  obtain ⟨xo24, xi24, xd24, xg24, xp24⟩ := o26_24
  refine qd_want (k := 24) (v := .pointer (some ⟨b0, 1, none⟩)) xi24 xd24 (w_some xg24 (by kernel_rfl) e149_24 rfl) (fun w _ => run_f70_1 xp24 e151_24 w) ?_
  obtain ⟨ac25, hac25⟩ : ∃ x, ac24.put (some 152) (.pointer (some ⟨b0, 1, none⟩)) = x := ⟨_, rfl⟩
  rw [hac25]
  have e12_25 : ac25.eval (.tmp 12) = _ := hac25 ▸ ev_put e12_24 (by decide)
  have e149_25 : ac25.eval (.tmp 149) = _ := hac25 ▸ ev_put e149_24 (by decide)
  have e152_25 : ac25.eval (.tmp 152) = _ := hac25 ▸ ev_same (by rw [zz24]; decide)
  have zz25 : ac25.tmps.size = 272 := hac25 ▸ size_put zz24
  obtain ⟨xo25, xi25, xd25, xg25, xp25⟩ := o26_25
  refine qd_want (k := 25) (v := .slice (some ⟨sb, so, none⟩) n cl) xi25 xd25 (w_some xg25 (by kernel_rfl) e149_25 rfl) (fun w hw => by obtain ⟨n, rfl⟩ := hw; exact run_l62 xp25 e152_25 c1) ?_
  obtain ⟨ac26, hac26⟩ : ∃ x, ac25.put (some 153) (.slice (some ⟨sb, so, none⟩) n cl) = x := ⟨_, rfl⟩
  rw [hac26]
  have e12_26 : ac26.eval (.tmp 12) = _ := hac26 ▸ ev_put e12_25 (by decide)
  have e149_26 : ac26.eval (.tmp 149) = _ := hac26 ▸ ev_put e149_25 (by decide)
  have e153_26 : ac26.eval (.tmp 153) = _ := hac26 ▸ ev_same (by rw [zz25]; decide)
  have zz26 : ac26.tmps.size = 272 := hac26 ▸ size_put zz25
  obtain ⟨xo26, xi26, xd26, xg26, xp26⟩ := o26_26
  refine qd_want (k := 26) (v := .pointer (some ⟨b0, 0, none⟩)) xi26 xd26 (w_some xg26 (by kernel_rfl) e149_26 rfl) (fun w _ => run_move xp26 e12_26 w) ?_
  obtain ⟨ac27, hac27⟩ : ∃ x, ac26.put (some 154) (.pointer (some ⟨b0, 0, none⟩)) = x := ⟨_, rfl⟩
  rw [hac27]
  have e12_27 : ac27.eval (.tmp 12) = _ := hac27 ▸ ev_put e12_26 (by decide)
  have e149_27 : ac27.eval (.tmp 149) = _ := hac27 ▸ ev_put e149_26 (by decide)
  have e153_27 : ac27.eval (.tmp 153) = _ := hac27 ▸ ev_put e153_26 (by decide)
  have e154_27 : ac27.eval (.tmp 154) = _ := hac27 ▸ ev_same (by rw [zz26]; decide)
  have zz27 : ac27.tmps.size = 272 := hac27 ▸ size_put zz26
  obtain ⟨xo27, xi27, xd27, xg27, xp27⟩ := o26_27
  refine qd_want (k := 27) (v := .pointer (some ⟨b0, 0, none⟩)) xi27 xd27 (w_some xg27 (by kernel_rfl) e149_27 rfl) (fun w _ => run_nil xp27 e154_27 w) ?_
  obtain ⟨ac28, hac28⟩ : ∃ x, ac27.put (some 155) (.pointer (some ⟨b0, 0, none⟩)) = x := ⟨_, rfl⟩
  rw [hac28]
  have e12_28 : ac28.eval (.tmp 12) = _ := hac28 ▸ ev_put e12_27 (by decide)
  have e149_28 : ac28.eval (.tmp 149) = _ := hac28 ▸ ev_put e149_27 (by decide)
  have e153_28 : ac28.eval (.tmp 153) = _ := hac28 ▸ ev_put e153_27 (by decide)
  have e155_28 : ac28.eval (.tmp 155) = _ := hac28 ▸ ev_same (by rw [zz27]; decide)
  have zz28 : ac28.tmps.size = 272 := hac28 ▸ size_put zz27
  obtain ⟨xo28, xi28, xd28, xg28, xp28⟩ := o26_28
  refine qd_want (k := 28) (v := .pointer (some ⟨b0, 3, none⟩)) xi28 xd28 (w_some xg28 (by kernel_rfl) e149_28 rfl) (fun w _ => run_f70_3 xp28 e155_28 w) ?_
  obtain ⟨ac29, hac29⟩ : ∃ x, ac28.put (some 156) (.pointer (some ⟨b0, 3, none⟩)) = x := ⟨_, rfl⟩
  rw [hac29]
  have e12_29 : ac29.eval (.tmp 12) = _ := hac29 ▸ ev_put e12_28 (by decide)
  have e149_29 : ac29.eval (.tmp 149) = _ := hac29 ▸ ev_put e149_28 (by decide)
  have e153_29 : ac29.eval (.tmp 153) = _ := hac29 ▸ ev_put e153_28 (by decide)
  have e156_29 : ac29.eval (.tmp 156) = _ := hac29 ▸ ev_same (by rw [zz28]; decide)
  have zz29 : ac29.tmps.size = 272 := hac29 ▸ size_put zz28
  obtain ⟨xo29, xi29, xd29, xg29, xp29⟩ := o26_29
  refine qd_want (k := 29) (v := .int .i64 ot) xi29 xd29 (w_some xg29 (by kernel_rfl) e149_29 rfl) (fun w hw => by obtain ⟨n, rfl⟩ := hw; exact run_l3 xp29 e156_29 c3) ?_
  obtain ⟨ac30, hac30⟩ : ∃ x, ac29.put (some 157) (.int .i64 ot) = x := ⟨_, rfl⟩
  rw [hac30]
  have e12_30 : ac30.eval (.tmp 12) = _ := hac30 ▸ ev_put e12_29 (by decide)
  have e149_30 : ac30.eval (.tmp 149) = _ := hac30 ▸ ev_put e149_29 (by decide)
  have e153_30 : ac30.eval (.tmp 153) = _ := hac30 ▸ ev_put e153_29 (by decide)
  have e157_30 : ac30.eval (.tmp 157) = _ := hac30 ▸ ev_same (by rw [zz29]; decide)
  have zz30 : ac30.tmps.size = 272 := hac30 ▸ size_put zz29
  obtain ⟨xo30, xi30, xd30, xg30, xp30⟩ := o26_30
  refine qd_want (k := 30) (v := .pointer (some ⟨sb, so + ot * 4, none⟩)) xi30 xd30 (w_some xg30 (by kernel_rfl) e149_30 rfl) (fun w _ => run_i62 xp30 e153_30 e157_30 hon w) ?_
  obtain ⟨ac31, hac31⟩ : ∃ x, ac30.put (some 158) (.pointer (some ⟨sb, so + ot * 4, none⟩)) = x := ⟨_, rfl⟩
  rw [hac31]
  have e12_31 : ac31.eval (.tmp 12) = _ := hac31 ▸ ev_put e12_30 (by decide)
  have e149_31 : ac31.eval (.tmp 149) = _ := hac31 ▸ ev_put e149_30 (by decide)
  have e158_31 : ac31.eval (.tmp 158) = _ := hac31 ▸ ev_same (by rw [zz30]; decide)
  have zz31 : ac31.tmps.size = 272 := hac31 ▸ size_put zz30
  obtain ⟨xo31, xi31, xd31, xg31, xp31⟩ := o26_31
  refine qd_want (k := 31) (v := .pointer (some ⟨sb, so + ot * 4, none⟩)) xi31 xd31 (w_some xg31 (by kernel_rfl) e149_31 rfl) (fun w _ => run_f74_0 xp31 e158_31 w) ?_
  obtain ⟨ac32, hac32⟩ : ∃ x, ac31.put (some 159) (.pointer (some ⟨sb, so + ot * 4, none⟩)) = x := ⟨_, rfl⟩
  rw [hac32]
  have e12_32 : ac32.eval (.tmp 12) = _ := hac32 ▸ ev_put e12_31 (by decide)
  have e149_32 : ac32.eval (.tmp 149) = _ := hac32 ▸ ev_put e149_31 (by decide)
  have e159_32 : ac32.eval (.tmp 159) = _ := hac32 ▸ ev_same (by rw [zz31]; decide)
  have zz32 : ac32.tmps.size = 272 := hac32 ▸ size_put zz31
  obtain ⟨xo32, xi32, xd32, xg32, xp32⟩ := o26_32
  refine qd_want (k := 32) (v := .bool true) xi32 xd32 (w_some xg32 (by kernel_rfl) e149_32 rfl) (fun w hw => by obtain ⟨n, rfl⟩ := hw; exact run_l4 xp32 e159_32 e0) ?_
  obtain ⟨ac33, hac33⟩ : ∃ x, ac32.put (some 160) (.bool true) = x := ⟨_, rfl⟩
  rw [hac33]
  have e12_33 : ac33.eval (.tmp 12) = _ := hac33 ▸ ev_put e12_32 (by decide)
  have e149_33 : ac33.eval (.tmp 149) = _ := hac33 ▸ ev_put e149_32 (by decide)
  have e160_33 : ac33.eval (.tmp 160) = _ := hac33 ▸ ev_same (by rw [zz32]; decide)
  have zz33 : ac33.tmps.size = 272 := hac33 ▸ size_put zz32
  obtain ⟨xo33, xi33, xd33, xg33, xp33⟩ := o26_33
  refine qd_want (k := 33) (v := .bool true) xi33 xd33 (w_some xg33 (by kernel_rfl) e149_33 rfl) (fun w _ => run_move xp33 e160_33 w) ?_
  obtain ⟨ac34, hac34⟩ : ∃ x, ac33.put (some 161) (.bool true) = x := ⟨_, rfl⟩
  rw [hac34]
  have e12_34 : ac34.eval (.tmp 12) = _ := hac34 ▸ ev_put e12_33 (by decide)
  have e149_34 : ac34.eval (.tmp 149) = _ := hac34 ▸ ev_put e149_33 (by decide)
  have e161_34 : ac34.eval (.tmp 161) = _ := hac34 ▸ ev_same (by rw [zz33]; decide)
  have zz34 : ac34.tmps.size = 272 := hac34 ▸ size_put zz33
  obtain ⟨xo34, xi34, xd34, xg34, xp34⟩ := o26_34
  refine qd_want (k := 34) (v := .pointer (some ⟨b0, 0, none⟩)) xi34 xd34 (w_some xg34 (by kernel_rfl) e161_34 rfl) (fun w _ => run_move xp34 e12_34 w) ?_
  obtain ⟨ac35, hac35⟩ : ∃ x, ac34.put (some 162) (.pointer (some ⟨b0, 0, none⟩)) = x := ⟨_, rfl⟩
  rw [hac35]
  have e12_35 : ac35.eval (.tmp 12) = _ := hac35 ▸ ev_put e12_34 (by decide)
  have e149_35 : ac35.eval (.tmp 149) = _ := hac35 ▸ ev_put e149_34 (by decide)
  have e161_35 : ac35.eval (.tmp 161) = _ := hac35 ▸ ev_put e161_34 (by decide)
  have e162_35 : ac35.eval (.tmp 162) = _ := hac35 ▸ ev_same (by rw [zz34]; decide)
  have zz35 : ac35.tmps.size = 272 := hac35 ▸ size_put zz34
  obtain ⟨xo35, xi35, xd35, xg35, xp35⟩ := o26_35
  refine qd_want (k := 35) (v := .pointer (some ⟨b0, 0, none⟩)) xi35 xd35 (w_some xg35 (by kernel_rfl) e161_35 rfl) (fun w _ => run_nil xp35 e162_35 w) ?_
  obtain ⟨ac36, hac36⟩ : ∃ x, ac35.put (some 163) (.pointer (some ⟨b0, 0, none⟩)) = x := ⟨_, rfl⟩
  rw [hac36]
  have e12_36 : ac36.eval (.tmp 12) = _ := hac36 ▸ ev_put e12_35 (by decide)
  have e149_36 : ac36.eval (.tmp 149) = _ := hac36 ▸ ev_put e149_35 (by decide)
  have e161_36 : ac36.eval (.tmp 161) = _ := hac36 ▸ ev_put e161_35 (by decide)
  have e163_36 : ac36.eval (.tmp 163) = _ := hac36 ▸ ev_same (by rw [zz35]; decide)
  have zz36 : ac36.tmps.size = 272 := hac36 ▸ size_put zz35
  obtain ⟨xo36, xi36, xd36, xg36, xp36⟩ := o26_36
  refine qd_want (k := 36) (v := .pointer (some ⟨b0, 6, none⟩)) xi36 xd36 (w_some xg36 (by kernel_rfl) e161_36 rfl) (fun w _ => run_f70_6 xp36 e163_36 w) ?_
  obtain ⟨ac37, hac37⟩ : ∃ x, ac36.put (some 164) (.pointer (some ⟨b0, 6, none⟩)) = x := ⟨_, rfl⟩
  rw [hac37]
  have e12_37 : ac37.eval (.tmp 12) = _ := hac37 ▸ ev_put e12_36 (by decide)
  have e149_37 : ac37.eval (.tmp 149) = _ := hac37 ▸ ev_put e149_36 (by decide)
  have e161_37 : ac37.eval (.tmp 161) = _ := hac37 ▸ ev_put e161_36 (by decide)
  have e164_37 : ac37.eval (.tmp 164) = _ := hac37 ▸ ev_same (by rw [zz36]; decide)
  have zz37 : ac37.tmps.size = 272 := hac37 ▸ size_put zz36
  obtain ⟨xo37, xi37, xd37, xg37, xp37⟩ := o26_37
  refine qd_want (k := 37) (v := .slice (some ⟨b3, 0, none⟩) n n) xi37 xd37 (w_some xg37 (by kernel_rfl) e161_37 rfl) (fun w hw => by obtain ⟨n, rfl⟩ := hw; exact run_l67 xp37 e164_37 c6) ?_
  obtain ⟨ac38, hac38⟩ : ∃ x, ac37.put (some 165) (.slice (some ⟨b3, 0, none⟩) n n) = x := ⟨_, rfl⟩
  rw [hac38]
  have e12_38 : ac38.eval (.tmp 12) = _ := hac38 ▸ ev_put e12_37 (by decide)
  have e149_38 : ac38.eval (.tmp 149) = _ := hac38 ▸ ev_put e149_37 (by decide)
  have e161_38 : ac38.eval (.tmp 161) = _ := hac38 ▸ ev_put e161_37 (by decide)
  have e165_38 : ac38.eval (.tmp 165) = _ := hac38 ▸ ev_same (by rw [zz37]; decide)
  have zz38 : ac38.tmps.size = 272 := hac38 ▸ size_put zz37
  obtain ⟨xo38, xi38, xd38, xg38, xp38⟩ := o26_38
  refine qd_want (k := 38) (v := .pointer (some ⟨b0, 0, none⟩)) xi38 xd38 (w_some xg38 (by kernel_rfl) e161_38 rfl) (fun w _ => run_move xp38 e12_38 w) ?_
  obtain ⟨ac39, hac39⟩ : ∃ x, ac38.put (some 166) (.pointer (some ⟨b0, 0, none⟩)) = x := ⟨_, rfl⟩
  rw [hac39]
  have e12_39 : ac39.eval (.tmp 12) = _ := hac39 ▸ ev_put e12_38 (by decide)
  have e149_39 : ac39.eval (.tmp 149) = _ := hac39 ▸ ev_put e149_38 (by decide)
  have e161_39 : ac39.eval (.tmp 161) = _ := hac39 ▸ ev_put e161_38 (by decide)
  have e165_39 : ac39.eval (.tmp 165) = _ := hac39 ▸ ev_put e165_38 (by decide)
  have e166_39 : ac39.eval (.tmp 166) = _ := hac39 ▸ ev_same (by rw [zz38]; decide)
  have zz39 : ac39.tmps.size = 272 := hac39 ▸ size_put zz38
  obtain ⟨xo39, xi39, xd39, xg39, xp39⟩ := o26_39
  refine qd_want (k := 39) (v := .pointer (some ⟨b0, 0, none⟩)) xi39 xd39 (w_some xg39 (by kernel_rfl) e161_39 rfl) (fun w _ => run_nil xp39 e166_39 w) ?_
  obtain ⟨ac40, hac40⟩ : ∃ x, ac39.put (some 167) (.pointer (some ⟨b0, 0, none⟩)) = x := ⟨_, rfl⟩
  rw [hac40]
  have e12_40 : ac40.eval (.tmp 12) = _ := hac40 ▸ ev_put e12_39 (by decide)
  have e149_40 : ac40.eval (.tmp 149) = _ := hac40 ▸ ev_put e149_39 (by decide)
  have e161_40 : ac40.eval (.tmp 161) = _ := hac40 ▸ ev_put e161_39 (by decide)
  have e165_40 : ac40.eval (.tmp 165) = _ := hac40 ▸ ev_put e165_39 (by decide)
  have e167_40 : ac40.eval (.tmp 167) = _ := hac40 ▸ ev_same (by rw [zz39]; decide)
  have zz40 : ac40.tmps.size = 272 := hac40 ▸ size_put zz39
  obtain ⟨xo40, xi40, xd40, xg40, xp40⟩ := o26_40
  refine qd_want (k := 40) (v := .pointer (some ⟨b0, 3, none⟩)) xi40 xd40 (w_some xg40 (by kernel_rfl) e161_40 rfl) (fun w _ => run_f70_3 xp40 e167_40 w) ?_
  obtain ⟨ac41, hac41⟩ : ∃ x, ac40.put (some 168) (.pointer (some ⟨b0, 3, none⟩)) = x := ⟨_, rfl⟩
  rw [hac41]
  have e12_41 : ac41.eval (.tmp 12) = _ := hac41 ▸ ev_put e12_40 (by decide)
  have e149_41 : ac41.eval (.tmp 149) = _ := hac41 ▸ ev_put e149_40 (by decide)
  have e161_41 : ac41.eval (.tmp 161) = _ := hac41 ▸ ev_put e161_40 (by decide)
  have e165_41 : ac41.eval (.tmp 165) = _ := hac41 ▸ ev_put e165_40 (by decide)
  have e168_41 : ac41.eval (.tmp 168) = _ := hac41 ▸ ev_same (by rw [zz40]; decide)
  have zz41 : ac41.tmps.size = 272 := hac41 ▸ size_put zz40
  obtain ⟨xo41, xi41, xd41, xg41, xp41⟩ := o26_41
  refine qd_want (k := 41) (v := .int .i64 ot) xi41 xd41 (w_some xg41 (by kernel_rfl) e161_41 rfl) (fun w hw => by obtain ⟨n, rfl⟩ := hw; exact run_l3 xp41 e168_41 c3) ?_
  obtain ⟨ac42, hac42⟩ : ∃ x, ac41.put (some 169) (.int .i64 ot) = x := ⟨_, rfl⟩
  rw [hac42]
  have e12_42 : ac42.eval (.tmp 12) = _ := hac42 ▸ ev_put e12_41 (by decide)
  have e149_42 : ac42.eval (.tmp 149) = _ := hac42 ▸ ev_put e149_41 (by decide)
  have e161_42 : ac42.eval (.tmp 161) = _ := hac42 ▸ ev_put e161_41 (by decide)
  have e165_42 : ac42.eval (.tmp 165) = _ := hac42 ▸ ev_put e165_41 (by decide)
  have e169_42 : ac42.eval (.tmp 169) = _ := hac42 ▸ ev_same (by rw [zz41]; decide)
  have zz42 : ac42.tmps.size = 272 := hac42 ▸ size_put zz41
  obtain ⟨xo42, xi42, xd42, xg42, xp42⟩ := o26_42
  refine qd_want (k := 42) (v := .pointer (some ⟨b3, ot, none⟩)) xi42 xd42 (w_some xg42 (by kernel_rfl) e161_42 rfl) (fun w _ => run_i67 xp42 e165_42 e169_42 hon w) ?_
  obtain ⟨ac43, hac43⟩ : ∃ x, ac42.put (some 170) (.pointer (some ⟨b3, ot, none⟩)) = x := ⟨_, rfl⟩
  rw [hac43]
  have e12_43 : ac43.eval (.tmp 12) = _ := hac43 ▸ ev_put e12_42 (by decide)
  have e149_43 : ac43.eval (.tmp 149) = _ := hac43 ▸ ev_put e149_42 (by decide)
  have e161_43 : ac43.eval (.tmp 161) = _ := hac43 ▸ ev_put e161_42 (by decide)
  have e170_43 : ac43.eval (.tmp 170) = _ := hac43 ▸ ev_same (by rw [zz42]; decide)
  have zz43 : ac43.tmps.size = 272 := hac43 ▸ size_put zz42
  obtain ⟨xo43, xi43, xd43, xg43, xp43⟩ := o26_43
  refine qd_want (k := 43) (v := .bool false) xi43 xd43 (w_some xg43 (by kernel_rfl) e161_43 rfl) (fun w hw => by obtain ⟨n, rfl⟩ := hw; exact run_l4 xp43 e170_43 e3) ?_
  obtain ⟨ac44, hac44⟩ : ∃ x, ac43.put (some 171) (.bool false) = x := ⟨_, rfl⟩
  rw [hac44]
  have e12_44 : ac44.eval (.tmp 12) = _ := hac44 ▸ ev_put e12_43 (by decide)
  have e149_44 : ac44.eval (.tmp 149) = _ := hac44 ▸ ev_put e149_43 (by decide)
  have e161_44 : ac44.eval (.tmp 161) = _ := hac44 ▸ ev_put e161_43 (by decide)
  have e171_44 : ac44.eval (.tmp 171) = _ := hac44 ▸ ev_same (by rw [zz43]; decide)
  have zz44 : ac44.tmps.size = 272 := hac44 ▸ size_put zz43
  obtain ⟨xo44, xi44, xd44, xg44, xp44⟩ := o26_44
  refine qd_want (k := 44) (v := .bool false) xi44 xd44 (w_some xg44 (by kernel_rfl) e149_44 rfl) (fun w _ => run_pick xp44 e161_44 (fun _ => e171_44) (fun q => by cases q) w) ?_
  obtain ⟨ac45, hac45⟩ : ∃ x, ac44.put (some 172) (.bool false) = x := ⟨_, rfl⟩
  rw [hac45]
  have e12_45 : ac45.eval (.tmp 12) = _ := hac45 ▸ ev_put e12_44 (by decide)
  have e149_45 : ac45.eval (.tmp 149) = _ := hac45 ▸ ev_put e149_44 (by decide)
  have e172_45 : ac45.eval (.tmp 172) = _ := hac45 ▸ ev_same (by rw [zz44]; decide)
  have zz45 : ac45.tmps.size = 272 := hac45 ▸ size_put zz44
  obtain ⟨xo45, xi45, xd45, xg45, xp45⟩ := o26_45
  refine qd_want (k := 45) (v := .bool false) xi45 xd45 (w_some xg45 (by kernel_rfl) e149_45 rfl) (fun w _ => run_move xp45 e172_45 w) ?_
  obtain ⟨ac46, hac46⟩ : ∃ x, ac45.put (some 173) (.bool false) = x := ⟨_, rfl⟩
  rw [hac46]
  have e12_46 : ac46.eval (.tmp 12) = _ := hac46 ▸ ev_put e12_45 (by decide)
  have e149_46 : ac46.eval (.tmp 149) = _ := hac46 ▸ ev_put e149_45 (by decide)
  have e173_46 : ac46.eval (.tmp 173) = _ := hac46 ▸ ev_same (by rw [zz45]; decide)
  have zz46 : ac46.tmps.size = 272 := hac46 ▸ size_put zz45
  obtain ⟨xo46, xi46, xd46, xg46, xp46⟩ := o26_46
  refine qd_want (k := 46) (v := .pointer (some ⟨b0, 0, none⟩)) xi46 xd46 (w_some xg46 (by kernel_rfl) e173_46 rfl) (fun w _ => run_move xp46 e12_46 w) ?_
  obtain ⟨ac47, hac47⟩ : ∃ x, ac46.put (some 174) (.pointer (some ⟨b0, 0, none⟩)) = x := ⟨_, rfl⟩
  rw [hac47]
  have e12_47 : ac47.eval (.tmp 12) = _ := hac47 ▸ ev_put e12_46 (by decide)
  have e149_47 : ac47.eval (.tmp 149) = _ := hac47 ▸ ev_put e149_46 (by decide)
  have e173_47 : ac47.eval (.tmp 173) = _ := hac47 ▸ ev_put e173_46 (by decide)
  have e174_47 : ac47.eval (.tmp 174) = _ := hac47 ▸ ev_same (by rw [zz46]; decide)
  have zz47 : ac47.tmps.size = 272 := hac47 ▸ size_put zz46
  obtain ⟨xo47, xi47, xd47, xg47, xp47⟩ := o26_47
  refine qd_want (k := 47) (v := .pointer (some ⟨b0, 0, none⟩)) xi47 xd47 (w_some xg47 (by kernel_rfl) e173_47 rfl) (fun w _ => run_nil xp47 e174_47 w) ?_
  obtain ⟨ac48, hac48⟩ : ∃ x, ac47.put (some 175) (.pointer (some ⟨b0, 0, none⟩)) = x := ⟨_, rfl⟩
  rw [hac48]
  have e12_48 : ac48.eval (.tmp 12) = _ := hac48 ▸ ev_put e12_47 (by decide)
  have e149_48 : ac48.eval (.tmp 149) = _ := hac48 ▸ ev_put e149_47 (by decide)
  have e173_48 : ac48.eval (.tmp 173) = _ := hac48 ▸ ev_put e173_47 (by decide)
  have e175_48 : ac48.eval (.tmp 175) = _ := hac48 ▸ ev_same (by rw [zz47]; decide)
  have zz48 : ac48.tmps.size = 272 := hac48 ▸ size_put zz47
  obtain ⟨xo48, xi48, xd48, xg48, xp48⟩ := o26_48
  refine qd_want (k := 48) (v := .pointer (some ⟨b0, 7, none⟩)) xi48 xd48 (w_some xg48 (by kernel_rfl) e173_48 rfl) (fun w _ => run_f70_7 xp48 e175_48 w) ?_
  obtain ⟨ac49, hac49⟩ : ∃ x, ac48.put (some 176) (.pointer (some ⟨b0, 7, none⟩)) = x := ⟨_, rfl⟩
  rw [hac49]
  have e12_49 : ac49.eval (.tmp 12) = _ := hac49 ▸ ev_put e12_48 (by decide)
  have e149_49 : ac49.eval (.tmp 149) = _ := hac49 ▸ ev_put e149_48 (by decide)
  have e173_49 : ac49.eval (.tmp 173) = _ := hac49 ▸ ev_put e173_48 (by decide)
  have e176_49 : ac49.eval (.tmp 176) = _ := hac49 ▸ ev_same (by rw [zz48]; decide)
  have zz49 : ac49.tmps.size = 272 := hac49 ▸ size_put zz48
  obtain ⟨xo49, xi49, xd49, xg49, xp49⟩ := o26_49
  refine qd_want (k := 49) (v := .slice (some ⟨b4, 0, none⟩) n n) xi49 xd49 (w_some xg49 (by kernel_rfl) e173_49 rfl) (fun w hw => by obtain ⟨n, rfl⟩ := hw; exact run_l67 xp49 e176_49 c7) ?_
  obtain ⟨ac50, hac50⟩ : ∃ x, ac49.put (some 177) (.slice (some ⟨b4, 0, none⟩) n n) = x := ⟨_, rfl⟩
  rw [hac50]
  have e12_50 : ac50.eval (.tmp 12) = _ := hac50 ▸ ev_put e12_49 (by decide)
  have e149_50 : ac50.eval (.tmp 149) = _ := hac50 ▸ ev_put e149_49 (by decide)
  have e173_50 : ac50.eval (.tmp 173) = _ := hac50 ▸ ev_put e173_49 (by decide)
  have e177_50 : ac50.eval (.tmp 177) = _ := hac50 ▸ ev_same (by rw [zz49]; decide)
  have zz50 : ac50.tmps.size = 272 := hac50 ▸ size_put zz49
  obtain ⟨xo50, xi50, xd50, xg50, xp50⟩ := o26_50
  refine qd_want (k := 50) (v := .pointer (some ⟨b0, 0, none⟩)) xi50 xd50 (w_some xg50 (by kernel_rfl) e173_50 rfl) (fun w _ => run_move xp50 e12_50 w) ?_
  obtain ⟨ac51, hac51⟩ : ∃ x, ac50.put (some 178) (.pointer (some ⟨b0, 0, none⟩)) = x := ⟨_, rfl⟩
  rw [hac51]
  have e149_51 : ac51.eval (.tmp 149) = _ := hac51 ▸ ev_put e149_50 (by decide)
  have e173_51 : ac51.eval (.tmp 173) = _ := hac51 ▸ ev_put e173_50 (by decide)
  have e177_51 : ac51.eval (.tmp 177) = _ := hac51 ▸ ev_put e177_50 (by decide)
  have e178_51 : ac51.eval (.tmp 178) = _ := hac51 ▸ ev_same (by rw [zz50]; decide)
  have zz51 : ac51.tmps.size = 272 := hac51 ▸ size_put zz50
  obtain ⟨xo51, xi51, xd51, xg51, xp51⟩ := o26_51
  refine qd_want (k := 51) (v := .pointer (some ⟨b0, 0, none⟩)) xi51 xd51 (w_some xg51 (by kernel_rfl) e173_51 rfl) (fun w _ => run_nil xp51 e178_51 w) ?_
  obtain ⟨ac52, hac52⟩ : ∃ x, ac51.put (some 179) (.pointer (some ⟨b0, 0, none⟩)) = x := ⟨_, rfl⟩
  rw [hac52]
  have e149_52 : ac52.eval (.tmp 149) = _ := hac52 ▸ ev_put e149_51 (by decide)
  have e173_52 : ac52.eval (.tmp 173) = _ := hac52 ▸ ev_put e173_51 (by decide)
  have e177_52 : ac52.eval (.tmp 177) = _ := hac52 ▸ ev_put e177_51 (by decide)
  have e179_52 : ac52.eval (.tmp 179) = _ := hac52 ▸ ev_same (by rw [zz51]; decide)
  have zz52 : ac52.tmps.size = 272 := hac52 ▸ size_put zz51
  obtain ⟨xo52, xi52, xd52, xg52, xp52⟩ := o26_52
  refine qd_want (k := 52) (v := .pointer (some ⟨b0, 3, none⟩)) xi52 xd52 (w_some xg52 (by kernel_rfl) e173_52 rfl) (fun w _ => run_f70_3 xp52 e179_52 w) ?_
  obtain ⟨ac53, hac53⟩ : ∃ x, ac52.put (some 180) (.pointer (some ⟨b0, 3, none⟩)) = x := ⟨_, rfl⟩
  rw [hac53]
  have e149_53 : ac53.eval (.tmp 149) = _ := hac53 ▸ ev_put e149_52 (by decide)
  have e173_53 : ac53.eval (.tmp 173) = _ := hac53 ▸ ev_put e173_52 (by decide)
  have e177_53 : ac53.eval (.tmp 177) = _ := hac53 ▸ ev_put e177_52 (by decide)
  have e180_53 : ac53.eval (.tmp 180) = _ := hac53 ▸ ev_same (by rw [zz52]; decide)
  have zz53 : ac53.tmps.size = 272 := hac53 ▸ size_put zz52
  obtain ⟨xo53, xi53, xd53, xg53, xp53⟩ := o26_53
  refine qd_want (k := 53) (v := .int .i64 ot) xi53 xd53 (w_some xg53 (by kernel_rfl) e173_53 rfl) (fun w hw => by obtain ⟨n, rfl⟩ := hw; exact run_l3 xp53 e180_53 c3) ?_
  obtain ⟨ac54, hac54⟩ : ∃ x, ac53.put (some 181) (.int .i64 ot) = x := ⟨_, rfl⟩
  rw [hac54]
  have e149_54 : ac54.eval (.tmp 149) = _ := hac54 ▸ ev_put e149_53 (by decide)
  have e173_54 : ac54.eval (.tmp 173) = _ := hac54 ▸ ev_put e173_53 (by decide)
  have e177_54 : ac54.eval (.tmp 177) = _ := hac54 ▸ ev_put e177_53 (by decide)
  have e181_54 : ac54.eval (.tmp 181) = _ := hac54 ▸ ev_same (by rw [zz53]; decide)
  have zz54 : ac54.tmps.size = 272 := hac54 ▸ size_put zz53
  obtain ⟨xo54, xi54, xd54, xg54, xp54⟩ := o26_54
  refine qd_want (k := 54) (v := .pointer (some ⟨b4, ot, none⟩)) xi54 xd54 (w_some xg54 (by kernel_rfl) e173_54 rfl) (fun w _ => run_i67 xp54 e177_54 e181_54 hon w) ?_
  obtain ⟨ac55, hac55⟩ : ∃ x, ac54.put (some 182) (.pointer (some ⟨b4, ot, none⟩)) = x := ⟨_, rfl⟩
  rw [hac55]
  have e149_55 : ac55.eval (.tmp 149) = _ := hac55 ▸ ev_put e149_54 (by decide)
  have e173_55 : ac55.eval (.tmp 173) = _ := hac55 ▸ ev_put e173_54 (by decide)
  have e182_55 : ac55.eval (.tmp 182) = _ := hac55 ▸ ev_same (by rw [zz54]; decide)
  have zz55 : ac55.tmps.size = 272 := hac55 ▸ size_put zz54
  obtain ⟨xo55, xi55, xd55, xg55, xp55⟩ := o26_55
  refine qd_want (k := 55) (v := .bool false) xi55 xd55 (w_some xg55 (by kernel_rfl) e173_55 rfl) (fun w hw => by obtain ⟨n, rfl⟩ := hw; exact run_l4 xp55 e182_55 e4) ?_
  obtain ⟨ac56, hac56⟩ : ∃ x, ac55.put (some 183) (.bool false) = x := ⟨_, rfl⟩
  rw [hac56]
  have e149_56 : ac56.eval (.tmp 149) = _ := hac56 ▸ ev_put e149_55 (by decide)
  have e173_56 : ac56.eval (.tmp 173) = _ := hac56 ▸ ev_put e173_55 (by decide)
  have e183_56 : ac56.eval (.tmp 183) = _ := hac56 ▸ ev_same (by rw [zz55]; decide)
  have zz56 : ac56.tmps.size = 272 := hac56 ▸ size_put zz55
  obtain ⟨xo56, xi56, xd56, xg56, xp56⟩ := o26_56
  refine qd_want (k := 56) (v := .bool false) xi56 xd56 (w_some xg56 (by kernel_rfl) e149_56 rfl) (fun w _ => run_pick xp56 e173_56 (fun q => by cases q) (fun _ => e183_56) w) ?_
  obtain ⟨ac57, hac57⟩ : ∃ x, ac56.put (some 184) (.bool false) = x := ⟨_, rfl⟩
  rw [hac57]
  have e149_57 : ac57.eval (.tmp 149) = _ := hac57 ▸ ev_put e149_56 (by decide)
  have e184_57 : ac57.eval (.tmp 184) = _ := hac57 ▸ ev_same (by rw [zz56]; decide)
  have zz57 : ac57.tmps.size = 272 := hac57 ▸ size_put zz56
  obtain ⟨xo57, xi57, xd57, xg57, xp57⟩ := o26_57
  refine qd_want (k := 57) (v := .bool false) xi57 xd57 (w_none xg57) (fun w _ => run_pick xp57 e149_57 (fun _ => e184_57) (fun q => by cases q) w) ?_
  obtain ⟨ac58, hac58⟩ : ∃ x, ac57.put (some 185) (.bool false) = x := ⟨_, rfl⟩
  rw [hac58]
  have zz58 : ac58.tmps.size = 272 := hac58 ▸ size_put zz57
  refine qd_end (k := 58) (by kernel_rfl) ?_
  rintro w' ⟨m, rfl⟩
  subst hac58 hac57 hac56 hac55 hac54 hac53 hac52 hac51 hac50 hac49 hac48 hac47 hac46 hac45 hac44 hac43 hac42 hac41 hac40 hac39 hac38 hac37 hac36 hac35 hac34 hac33 hac32 hac31 hac30 hac29 hac28 hac27 hac26 hac25 hac24 hac23 hac22 hac21 hac20 hac19 hac18 hac17 hac16 hac15 hac14 hac13 hac12 hac11 hac10 hac9 hac8 hac7 hac6 hac5 hac4 hac3 hac2 hac1
  exact hk m
end Go.Proofs.YthbffonedpeeiaaDoor
/-
  LSQ's LAW LsqMemory: may the oldest one retire? A way of it.
-/
namespace Go.Proofs.YthbffonedpeeiaaDoor
open Go Go.RowKit
set_option maxRecDepth 100000 in
set_option maxHeartbeats 4000000 in
theorem reg26e (n ot i1 cl sb so b0 b2 b3 b4 : Nat) (W0 : World) (a : Act) (hs : a.tmps.size = 272) (h12 : a.eval (.tmp 12) = .pointer (some ⟨b0, 0, none⟩)) (hlt : decide ((ot : Int) < (i1 : Int)) = true) (hon : ot < n) (c1 : W0.cell? ⟨b0, 1, none⟩ = some (.slice (some ⟨sb, so, none⟩) n cl)) (c2 : W0.cell? ⟨b0, 2, none⟩ = some (.int .i64 i1)) (c3 : W0.cell? ⟨b0, 3, none⟩ = some (.int .i64 ot)) (c5 : W0.cell? ⟨b0, 5, none⟩ = some (.slice (some ⟨b2, 0, none⟩) n n)) (c6 : W0.cell? ⟨b0, 6, none⟩ = some (.slice (some ⟨b3, 0, none⟩) n n)) (c7 : W0.cell? ⟨b0, 7, none⟩ = some (.slice (some ⟨b4, 0, none⟩) n n)) (e0 : W0.cell? ⟨sb, so + ot * 4, none⟩ = some (.bool true)) (e2 : W0.cell? ⟨b2, ot, none⟩ = some (.bool true)) (e3 : W0.cell? ⟨b3, ot, none⟩ = some (.bool false)) (e4 : W0.cell? ⟨b4, ot, none⟩ = some (.bool true)) {K : Act → World → Prop} (hk : ∀ k : Nat, K (((((((((((((((((((((((((((((((((((((((((((((((((((((((((((a).put (some 128) (.pointer (some ⟨b0, 0, none⟩))).put (some 129) (.pointer (some ⟨b0, 0, none⟩))).put (some 130) (.pointer (some ⟨b0, 3, none⟩))).put (some 131) (.int .i64 ot)).put (some 132) (.pointer (some ⟨b0, 0, none⟩))).put (some 133) (.pointer (some ⟨b0, 0, none⟩))).put (some 134) (.pointer (some ⟨b0, 2, none⟩))).put (some 135) (.int .i64 i1)).put (some 136) (.bool true)).put (some 137) (.bool true)).put (some 138) (.pointer (some ⟨b0, 0, none⟩))).put (some 139) (.pointer (some ⟨b0, 0, none⟩))).put (some 140) (.pointer (some ⟨b0, 5, none⟩))).put (some 141) (.slice (some ⟨b2, 0, none⟩) n n)).put (some 142) (.pointer (some ⟨b0, 0, none⟩))).put (some 143) (.pointer (some ⟨b0, 0, none⟩))).put (some 144) (.pointer (some ⟨b0, 3, none⟩))).put (some 145) (.int .i64 ot)).put (some 146) (.pointer (some ⟨b2, ot, none⟩))).put (some 147) (.bool true)).put (some 148) (.bool true)).put (some 149) (.bool true)).put (some 150) (.pointer (some ⟨b0, 0, none⟩))).put (some 151) (.pointer (some ⟨b0, 0, none⟩))).put (some 152) (.pointer (some ⟨b0, 1, none⟩))).put (some 153) (.slice (some ⟨sb, so, none⟩) n cl)).put (some 154) (.pointer (some ⟨b0, 0, none⟩))).put (some 155) (.pointer (some ⟨b0, 0, none⟩))).put (some 156) (.pointer (some ⟨b0, 3, none⟩))).put (some 157) (.int .i64 ot)).put (some 158) (.pointer (some ⟨sb, so + ot * 4, none⟩))).put (some 159) (.pointer (some ⟨sb, so + ot * 4, none⟩))).put (some 160) (.bool true)).put (some 161) (.bool true)).put (some 162) (.pointer (some ⟨b0, 0, none⟩))).put (some 163) (.pointer (some ⟨b0, 0, none⟩))).put (some 164) (.pointer (some ⟨b0, 6, none⟩))).put (some 165) (.slice (some ⟨b3, 0, none⟩) n n)).put (some 166) (.pointer (some ⟨b0, 0, none⟩))).put (some 167) (.pointer (some ⟨b0, 0, none⟩))).put (some 168) (.pointer (some ⟨b0, 3, none⟩))).put (some 169) (.int .i64 ot)).put (some 170) (.pointer (some ⟨b3, ot, none⟩))).put (some 171) (.bool false)).put (some 172) (.bool false)).put (some 173) (.bool false)).put (some 174) (.pointer (some ⟨b0, 0, none⟩))).put (some 175) (.pointer (some ⟨b0, 0, none⟩))).put (some 176) (.pointer (some ⟨b0, 7, none⟩))).put (some 177) (.slice (some ⟨b4, 0, none⟩) n n)).put (some 178) (.pointer (some ⟨b0, 0, none⟩))).put (some 179) (.pointer (some ⟨b0, 0, none⟩))).put (some 180) (.pointer (some ⟨b0, 3, none⟩))).put (some 181) (.int .i64 ot)).put (some 182) (.pointer (some ⟨b4, ot, none⟩))).put (some 183) (.bool true)).put (some 184) (.bool true)).put (some 185) (.bool true)) (W0.drewN k)) : (regIn Tryd.f4.body 26).wp Tryd.prog (Exit.then K NoX) a W0 := by
  show (Code.region 26 (opsIn (regIn Tryd.f4.body 26)) true).wp _ _ _ _
  refine wp_region_quiet (C := fun w' => ∃ n, w' = W0.drewN n) (by kernel_rfl) (by kernel_rfl) ⟨1, rfl⟩ ?_
  show wpQuiet _ _ _ _ (List.drop 0 _) _
  obtain ⟨xo0, xi0, xd0, xg0, xp0⟩ := o26_0
  refine qd_want (k := 0) (v := .pointer (some ⟨b0, 0, none⟩)) xi0 xd0 (w_none xg0) (fun w _ => run_move xp0 h12 w) ?_
  obtain ⟨ac1, hac1⟩ : ∃ x, a.put (some 128) (.pointer (some ⟨b0, 0, none⟩)) = x := ⟨_, rfl⟩
  rw [hac1]
  have e12_1 : ac1.eval (.tmp 12) = _ := hac1 ▸ ev_put h12 (by decide)
  have e128_1 : ac1.eval (.tmp 128) = _ := hac1 ▸ ev_same (by rw [hs]; decide)
  have zz1 : ac1.tmps.size = 272 := hac1 ▸ size_put hs
  obtain ⟨xo1, xi1, xd1, xg1, xp1⟩ := o26_1
  refine qd_want (k := 1) (v := .pointer (some ⟨b0, 0, none⟩)) xi1 xd1 (w_none xg1) (fun w _ => run_nil xp1 e128_1 w) ?_
  obtain ⟨ac2, hac2⟩ : ∃ x, ac1.put (some 129) (.pointer (some ⟨b0, 0, none⟩)) = x := ⟨_, rfl⟩
  rw [hac2]
  have e12_2 : ac2.eval (.tmp 12) = _ := hac2 ▸ ev_put e12_1 (by decide)
  have e129_2 : ac2.eval (.tmp 129) = _ := hac2 ▸ ev_same (by rw [zz1]; decide)
  have zz2 : ac2.tmps.size = 272 := hac2 ▸ size_put zz1
  obtain ⟨xo2, xi2, xd2, xg2, xp2⟩ := o26_2
  refine qd_want (k := 2) (v := .pointer (some ⟨b0, 3, none⟩)) xi2 xd2 (w_none xg2) (fun w _ => run_f70_3 xp2 e129_2 w) ?_
  obtain ⟨ac3, hac3⟩ : ∃ x, ac2.put (some 130) (.pointer (some ⟨b0, 3, none⟩)) = x := ⟨_, rfl⟩
  rw [hac3]
  have e12_3 : ac3.eval (.tmp 12) = _ := hac3 ▸ ev_put e12_2 (by decide)
  have e130_3 : ac3.eval (.tmp 130) = _ := hac3 ▸ ev_same (by rw [zz2]; decide)
  have zz3 : ac3.tmps.size = 272 := hac3 ▸ size_put zz2
  obtain ⟨xo3, xi3, xd3, xg3, xp3⟩ := o26_3
  refine qd_want (k := 3) (v := .int .i64 ot) xi3 xd3 (w_none xg3) (fun w hw => by obtain ⟨n, rfl⟩ := hw; exact run_l3 xp3 e130_3 c3) ?_
  obtain ⟨ac4, hac4⟩ : ∃ x, ac3.put (some 131) (.int .i64 ot) = x := ⟨_, rfl⟩
  rw [hac4]
  have e12_4 : ac4.eval (.tmp 12) = _ := hac4 ▸ ev_put e12_3 (by decide)
  have e131_4 : ac4.eval (.tmp 131) = _ := hac4 ▸ ev_same (by rw [zz3]; decide)
  have zz4 : ac4.tmps.size = 272 := hac4 ▸ size_put zz3
  obtain ⟨xo4, xi4, xd4, xg4, xp4⟩ := o26_4
  refine qd_want (k := 4) (v := .pointer (some ⟨b0, 0, none⟩)) xi4 xd4 (w_none xg4) (fun w _ => run_move xp4 e12_4 w) ?_
  obtain ⟨ac5, hac5⟩ : ∃ x, ac4.put (some 132) (.pointer (some ⟨b0, 0, none⟩)) = x := ⟨_, rfl⟩
  rw [hac5]
  have e12_5 : ac5.eval (.tmp 12) = _ := hac5 ▸ ev_put e12_4 (by decide)
  have e131_5 : ac5.eval (.tmp 131) = _ := hac5 ▸ ev_put e131_4 (by decide)
  have e132_5 : ac5.eval (.tmp 132) = _ := hac5 ▸ ev_same (by rw [zz4]; decide)
  have zz5 : ac5.tmps.size = 272 := hac5 ▸ size_put zz4
  obtain ⟨xo5, xi5, xd5, xg5, xp5⟩ := o26_5
  refine qd_want (k := 5) (v := .pointer (some ⟨b0, 0, none⟩)) xi5 xd5 (w_none xg5) (fun w _ => run_nil xp5 e132_5 w) ?_
  obtain ⟨ac6, hac6⟩ : ∃ x, ac5.put (some 133) (.pointer (some ⟨b0, 0, none⟩)) = x := ⟨_, rfl⟩
  rw [hac6]
  have e12_6 : ac6.eval (.tmp 12) = _ := hac6 ▸ ev_put e12_5 (by decide)
  have e131_6 : ac6.eval (.tmp 131) = _ := hac6 ▸ ev_put e131_5 (by decide)
  have e133_6 : ac6.eval (.tmp 133) = _ := hac6 ▸ ev_same (by rw [zz5]; decide)
  have zz6 : ac6.tmps.size = 272 := hac6 ▸ size_put zz5
  obtain ⟨xo6, xi6, xd6, xg6, xp6⟩ := o26_6
  refine qd_want (k := 6) (v := .pointer (some ⟨b0, 2, none⟩)) xi6 xd6 (w_none xg6) (fun w _ => run_f70_2 xp6 e133_6 w) ?_
  obtain ⟨ac7, hac7⟩ : ∃ x, ac6.put (some 134) (.pointer (some ⟨b0, 2, none⟩)) = x := ⟨_, rfl⟩
  rw [hac7]
  have e12_7 : ac7.eval (.tmp 12) = _ := hac7 ▸ ev_put e12_6 (by decide)
  have e131_7 : ac7.eval (.tmp 131) = _ := hac7 ▸ ev_put e131_6 (by decide)
  have e134_7 : ac7.eval (.tmp 134) = _ := hac7 ▸ ev_same (by rw [zz6]; decide)
  have zz7 : ac7.tmps.size = 272 := hac7 ▸ size_put zz6
  obtain ⟨xo7, xi7, xd7, xg7, xp7⟩ := o26_7
  refine qd_want (k := 7) (v := .int .i64 i1) xi7 xd7 (w_none xg7) (fun w hw => by obtain ⟨n, rfl⟩ := hw; exact run_l3 xp7 e134_7 c2) ?_
  obtain ⟨ac8, hac8⟩ : ∃ x, ac7.put (some 135) (.int .i64 i1) = x := ⟨_, rfl⟩
  rw [hac8]
  have e12_8 : ac8.eval (.tmp 12) = _ := hac8 ▸ ev_put e12_7 (by decide)
  have e131_8 : ac8.eval (.tmp 131) = _ := hac8 ▸ ev_put e131_7 (by decide)
  have e135_8 : ac8.eval (.tmp 135) = _ := hac8 ▸ ev_same (by rw [zz7]; decide)
  have zz8 : ac8.tmps.size = 272 := hac8 ▸ size_put zz7
  obtain ⟨xo8, xi8, xd8, xg8, xp8⟩ := o26_8
  refine qd_want (k := 8) (v := .bool true) xi8 xd8 (w_none xg8) (fun w _ => run_lss xp8 e131_8 e135_8 hlt w) ?_
  obtain ⟨ac9, hac9⟩ : ∃ x, ac8.put (some 136) (.bool true) = x := ⟨_, rfl⟩
  rw [hac9]
  have e12_9 : ac9.eval (.tmp 12) = _ := hac9 ▸ ev_put e12_8 (by decide)
  have e136_9 : ac9.eval (.tmp 136) = _ := hac9 ▸ ev_same (by rw [zz8]; decide)
  have zz9 : ac9.tmps.size = 272 := hac9 ▸ size_put zz8
  obtain ⟨xo9, xi9, xd9, xg9, xp9⟩ := o26_9
  refine qd_want (k := 9) (v := .bool true) xi9 xd9 (w_none xg9) (fun w _ => run_move xp9 e136_9 w) ?_
  obtain ⟨ac10, hac10⟩ : ∃ x, ac9.put (some 137) (.bool true) = x := ⟨_, rfl⟩
  rw [hac10]
  have e12_10 : ac10.eval (.tmp 12) = _ := hac10 ▸ ev_put e12_9 (by decide)
  have e137_10 : ac10.eval (.tmp 137) = _ := hac10 ▸ ev_same (by rw [zz9]; decide)
  have zz10 : ac10.tmps.size = 272 := hac10 ▸ size_put zz9
  obtain ⟨xo10, xi10, xd10, xg10, xp10⟩ := o26_10
  refine qd_want (k := 10) (v := .pointer (some ⟨b0, 0, none⟩)) xi10 xd10 (w_some xg10 (by kernel_rfl) e137_10 rfl) (fun w _ => run_move xp10 e12_10 w) ?_
  obtain ⟨ac11, hac11⟩ : ∃ x, ac10.put (some 138) (.pointer (some ⟨b0, 0, none⟩)) = x := ⟨_, rfl⟩
  rw [hac11]
  have e12_11 : ac11.eval (.tmp 12) = _ := hac11 ▸ ev_put e12_10 (by decide)
  have e137_11 : ac11.eval (.tmp 137) = _ := hac11 ▸ ev_put e137_10 (by decide)
  have e138_11 : ac11.eval (.tmp 138) = _ := hac11 ▸ ev_same (by rw [zz10]; decide)
  have zz11 : ac11.tmps.size = 272 := hac11 ▸ size_put zz10
  obtain ⟨xo11, xi11, xd11, xg11, xp11⟩ := o26_11
  refine qd_want (k := 11) (v := .pointer (some ⟨b0, 0, none⟩)) xi11 xd11 (w_some xg11 (by kernel_rfl) e137_11 rfl) (fun w _ => run_nil xp11 e138_11 w) ?_
  obtain ⟨ac12, hac12⟩ : ∃ x, ac11.put (some 139) (.pointer (some ⟨b0, 0, none⟩)) = x := ⟨_, rfl⟩
  rw [hac12]
  have e12_12 : ac12.eval (.tmp 12) = _ := hac12 ▸ ev_put e12_11 (by decide)
  have e137_12 : ac12.eval (.tmp 137) = _ := hac12 ▸ ev_put e137_11 (by decide)
  have e139_12 : ac12.eval (.tmp 139) = _ := hac12 ▸ ev_same (by rw [zz11]; decide)
  have zz12 : ac12.tmps.size = 272 := hac12 ▸ size_put zz11
  obtain ⟨xo12, xi12, xd12, xg12, xp12⟩ := o26_12
  refine qd_want (k := 12) (v := .pointer (some ⟨b0, 5, none⟩)) xi12 xd12 (w_some xg12 (by kernel_rfl) e137_12 rfl) (fun w _ => run_f70_5 xp12 e139_12 w) ?_
  obtain ⟨ac13, hac13⟩ : ∃ x, ac12.put (some 140) (.pointer (some ⟨b0, 5, none⟩)) = x := ⟨_, rfl⟩
  rw [hac13]
  have e12_13 : ac13.eval (.tmp 12) = _ := hac13 ▸ ev_put e12_12 (by decide)
  have e137_13 : ac13.eval (.tmp 137) = _ := hac13 ▸ ev_put e137_12 (by decide)
  have e140_13 : ac13.eval (.tmp 140) = _ := hac13 ▸ ev_same (by rw [zz12]; decide)
  have zz13 : ac13.tmps.size = 272 := hac13 ▸ size_put zz12
  obtain ⟨xo13, xi13, xd13, xg13, xp13⟩ := o26_13
  refine qd_want (k := 13) (v := .slice (some ⟨b2, 0, none⟩) n n) xi13 xd13 (w_some xg13 (by kernel_rfl) e137_13 rfl) (fun w hw => by obtain ⟨n, rfl⟩ := hw; exact run_l67 xp13 e140_13 c5) ?_
  obtain ⟨ac14, hac14⟩ : ∃ x, ac13.put (some 141) (.slice (some ⟨b2, 0, none⟩) n n) = x := ⟨_, rfl⟩
  rw [hac14]
  have e12_14 : ac14.eval (.tmp 12) = _ := hac14 ▸ ev_put e12_13 (by decide)
  have e137_14 : ac14.eval (.tmp 137) = _ := hac14 ▸ ev_put e137_13 (by decide)
  have e141_14 : ac14.eval (.tmp 141) = _ := hac14 ▸ ev_same (by rw [zz13]; decide)
  have zz14 : ac14.tmps.size = 272 := hac14 ▸ size_put zz13
  obtain ⟨xo14, xi14, xd14, xg14, xp14⟩ := o26_14
  refine qd_want (k := 14) (v := .pointer (some ⟨b0, 0, none⟩)) xi14 xd14 (w_some xg14 (by kernel_rfl) e137_14 rfl) (fun w _ => run_move xp14 e12_14 w) ?_
  obtain ⟨ac15, hac15⟩ : ∃ x, ac14.put (some 142) (.pointer (some ⟨b0, 0, none⟩)) = x := ⟨_, rfl⟩
  rw [hac15]
  have e12_15 : ac15.eval (.tmp 12) = _ := hac15 ▸ ev_put e12_14 (by decide)
  have e137_15 : ac15.eval (.tmp 137) = _ := hac15 ▸ ev_put e137_14 (by decide)
  have e141_15 : ac15.eval (.tmp 141) = _ := hac15 ▸ ev_put e141_14 (by decide)
  have e142_15 : ac15.eval (.tmp 142) = _ := hac15 ▸ ev_same (by rw [zz14]; decide)
  have zz15 : ac15.tmps.size = 272 := hac15 ▸ size_put zz14
  obtain ⟨xo15, xi15, xd15, xg15, xp15⟩ := o26_15
  refine qd_want (k := 15) (v := .pointer (some ⟨b0, 0, none⟩)) xi15 xd15 (w_some xg15 (by kernel_rfl) e137_15 rfl) (fun w _ => run_nil xp15 e142_15 w) ?_
  obtain ⟨ac16, hac16⟩ : ∃ x, ac15.put (some 143) (.pointer (some ⟨b0, 0, none⟩)) = x := ⟨_, rfl⟩
  rw [hac16]
  have e12_16 : ac16.eval (.tmp 12) = _ := hac16 ▸ ev_put e12_15 (by decide)
  have e137_16 : ac16.eval (.tmp 137) = _ := hac16 ▸ ev_put e137_15 (by decide)
  have e141_16 : ac16.eval (.tmp 141) = _ := hac16 ▸ ev_put e141_15 (by decide)
  have e143_16 : ac16.eval (.tmp 143) = _ := hac16 ▸ ev_same (by rw [zz15]; decide)
  have zz16 : ac16.tmps.size = 272 := hac16 ▸ size_put zz15
  obtain ⟨xo16, xi16, xd16, xg16, xp16⟩ := o26_16
  refine qd_want (k := 16) (v := .pointer (some ⟨b0, 3, none⟩)) xi16 xd16 (w_some xg16 (by kernel_rfl) e137_16 rfl) (fun w _ => run_f70_3 xp16 e143_16 w) ?_
  obtain ⟨ac17, hac17⟩ : ∃ x, ac16.put (some 144) (.pointer (some ⟨b0, 3, none⟩)) = x := ⟨_, rfl⟩
  rw [hac17]
  have e12_17 : ac17.eval (.tmp 12) = _ := hac17 ▸ ev_put e12_16 (by decide)
  have e137_17 : ac17.eval (.tmp 137) = _ := hac17 ▸ ev_put e137_16 (by decide)
  have e141_17 : ac17.eval (.tmp 141) = _ := hac17 ▸ ev_put e141_16 (by decide)
  have e144_17 : ac17.eval (.tmp 144) = _ := hac17 ▸ ev_same (by rw [zz16]; decide)
  have zz17 : ac17.tmps.size = 272 := hac17 ▸ size_put zz16
  obtain ⟨xo17, xi17, xd17, xg17, xp17⟩ := o26_17
  refine qd_want (k := 17) (v := .int .i64 ot) xi17 xd17 (w_some xg17 (by kernel_rfl) e137_17 rfl) (fun w hw => by obtain ⟨n, rfl⟩ := hw; exact run_l3 xp17 e144_17 c3) ?_
  obtain ⟨ac18, hac18⟩ : ∃ x, ac17.put (some 145) (.int .i64 ot) = x := ⟨_, rfl⟩
  rw [hac18]
  have e12_18 : ac18.eval (.tmp 12) = _ := hac18 ▸ ev_put e12_17 (by decide)
  have e137_18 : ac18.eval (.tmp 137) = _ := hac18 ▸ ev_put e137_17 (by decide)
  have e141_18 : ac18.eval (.tmp 141) = _ := hac18 ▸ ev_put e141_17 (by decide)
  have e145_18 : ac18.eval (.tmp 145) = _ := hac18 ▸ ev_same (by rw [zz17]; decide)
  have zz18 : ac18.tmps.size = 272 := hac18 ▸ size_put zz17
  obtain ⟨xo18, xi18, xd18, xg18, xp18⟩ := o26_18
  refine qd_want (k := 18) (v := .pointer (some ⟨b2, ot, none⟩)) xi18 xd18 (w_some xg18 (by kernel_rfl) e137_18 rfl) (fun w _ => run_i67 xp18 e141_18 e145_18 hon w) ?_
  obtain ⟨ac19, hac19⟩ : ∃ x, ac18.put (some 146) (.pointer (some ⟨b2, ot, none⟩)) = x := ⟨_, rfl⟩
  rw [hac19]
  have e12_19 : ac19.eval (.tmp 12) = _ := hac19 ▸ ev_put e12_18 (by decide)
  have e137_19 : ac19.eval (.tmp 137) = _ := hac19 ▸ ev_put e137_18 (by decide)
  have e146_19 : ac19.eval (.tmp 146) = _ := hac19 ▸ ev_same (by rw [zz18]; decide)
  have zz19 : ac19.tmps.size = 272 := hac19 ▸ size_put zz18
  obtain ⟨xo19, xi19, xd19, xg19, xp19⟩ := o26_19
  refine qd_want (k := 19) (v := .bool true) xi19 xd19 (w_some xg19 (by kernel_rfl) e137_19 rfl) (fun w hw => by obtain ⟨n, rfl⟩ := hw; exact run_l4 xp19 e146_19 e2) ?_
  obtain ⟨ac20, hac20⟩ : ∃ x, ac19.put (some 147) (.bool true) = x := ⟨_, rfl⟩
  rw [hac20]
  have e12_20 : ac20.eval (.tmp 12) = _ := hac20 ▸ ev_put e12_19 (by decide)
  have e137_20 : ac20.eval (.tmp 137) = _ := hac20 ▸ ev_put e137_19 (by decide)
  have e147_20 : ac20.eval (.tmp 147) = _ := hac20 ▸ ev_same (by rw [zz19]; decide)
  have zz20 : ac20.tmps.size = 272 := hac20 ▸ size_put zz19
  obtain ⟨xo20, xi20, xd20, xg20, xp20⟩ := o26_20
  refine qd_want (k := 20) (v := .bool true) xi20 xd20 (w_none xg20) (fun w _ => run_pick xp20 e137_20 (fun _ => e147_20) (fun q => by cases q) w) ?_
  obtain ⟨ac21, hac21⟩ : ∃ x, ac20.put (some 148) (.bool true) = x := ⟨_, rfl⟩
  rw [hac21]
  have e12_21 : ac21.eval (.tmp 12) = _ := hac21 ▸ ev_put e12_20 (by decide)
  have e148_21 : ac21.eval (.tmp 148) = _ := hac21 ▸ ev_same (by rw [zz20]; decide)
  have zz21 : ac21.tmps.size = 272 := hac21 ▸ size_put zz20
  obtain ⟨xo21, xi21, xd21, xg21, xp21⟩ := o26_21
  refine qd_want (k := 21) (v := .bool true) xi21 xd21 (w_none xg21) (fun w _ => run_move xp21 e148_21 w) ?_
  obtain ⟨ac22, hac22⟩ : ∃ x, ac21.put (some 149) (.bool true) = x := ⟨_, rfl⟩
  rw [hac22]
  have e12_22 : ac22.eval (.tmp 12) = _ := hac22 ▸ ev_put e12_21 (by decide)
  have e149_22 : ac22.eval (.tmp 149) = _ := hac22 ▸ ev_same (by rw [zz21]; decide)
  have zz22 : ac22.tmps.size = 272 := hac22 ▸ size_put zz21
  obtain ⟨xo22, xi22, xd22, xg22, xp22⟩ := o26_22
  refine qd_want (k := 22) (v := .pointer (some ⟨b0, 0, none⟩)) xi22 xd22 (w_some xg22 (by kernel_rfl) e149_22 rfl) (fun w _ => run_move xp22 e12_22 w) ?_
  obtain ⟨ac23, hac23⟩ : ∃ x, ac22.put (some 150) (.pointer (some ⟨b0, 0, none⟩)) = x := ⟨_, rfl⟩
  rw [hac23]
  have e12_23 : ac23.eval (.tmp 12) = _ := hac23 ▸ ev_put e12_22 (by decide)
  have e149_23 : ac23.eval (.tmp 149) = _ := hac23 ▸ ev_put e149_22 (by decide)
  have e150_23 : ac23.eval (.tmp 150) = _ := hac23 ▸ ev_same (by rw [zz22]; decide)
  have zz23 : ac23.tmps.size = 272 := hac23 ▸ size_put zz22
  obtain ⟨xo23, xi23, xd23, xg23, xp23⟩ := o26_23
  refine qd_want (k := 23) (v := .pointer (some ⟨b0, 0, none⟩)) xi23 xd23 (w_some xg23 (by kernel_rfl) e149_23 rfl) (fun w _ => run_nil xp23 e150_23 w) ?_
  obtain ⟨ac24, hac24⟩ : ∃ x, ac23.put (some 151) (.pointer (some ⟨b0, 0, none⟩)) = x := ⟨_, rfl⟩
  rw [hac24]
  have e12_24 : ac24.eval (.tmp 12) = _ := hac24 ▸ ev_put e12_23 (by decide)
  have e149_24 : ac24.eval (.tmp 149) = _ := hac24 ▸ ev_put e149_23 (by decide)
  have e151_24 : ac24.eval (.tmp 151) = _ := hac24 ▸ ev_same (by rw [zz23]; decide)
  have zz24 : ac24.tmps.size = 272 := hac24 ▸ size_put zz23
  obtain ⟨xo24, xi24, xd24, xg24, xp24⟩ := o26_24
  refine qd_want (k := 24) (v := .pointer (some ⟨b0, 1, none⟩)) xi24 xd24 (w_some xg24 (by kernel_rfl) e149_24 rfl) (fun w _ => run_f70_1 xp24 e151_24 w) ?_
  obtain ⟨ac25, hac25⟩ : ∃ x, ac24.put (some 152) (.pointer (some ⟨b0, 1, none⟩)) = x := ⟨_, rfl⟩
  rw [hac25]
  have e12_25 : ac25.eval (.tmp 12) = _ := hac25 ▸ ev_put e12_24 (by decide)
  have e149_25 : ac25.eval (.tmp 149) = _ := hac25 ▸ ev_put e149_24 (by decide)
  have e152_25 : ac25.eval (.tmp 152) = _ := hac25 ▸ ev_same (by rw [zz24]; decide)
  have zz25 : ac25.tmps.size = 272 := hac25 ▸ size_put zz24
  obtain ⟨xo25, xi25, xd25, xg25, xp25⟩ := o26_25
  refine qd_want (k := 25) (v := .slice (some ⟨sb, so, none⟩) n cl) xi25 xd25 (w_some xg25 (by kernel_rfl) e149_25 rfl) (fun w hw => by obtain ⟨n, rfl⟩ := hw; exact run_l62 xp25 e152_25 c1) ?_
  obtain ⟨ac26, hac26⟩ : ∃ x, ac25.put (some 153) (.slice (some ⟨sb, so, none⟩) n cl) = x := ⟨_, rfl⟩
  rw [hac26]
  have e12_26 : ac26.eval (.tmp 12) = _ := hac26 ▸ ev_put e12_25 (by decide)
  have e149_26 : ac26.eval (.tmp 149) = _ := hac26 ▸ ev_put e149_25 (by decide)
  have e153_26 : ac26.eval (.tmp 153) = _ := hac26 ▸ ev_same (by rw [zz25]; decide)
  have zz26 : ac26.tmps.size = 272 := hac26 ▸ size_put zz25
  obtain ⟨xo26, xi26, xd26, xg26, xp26⟩ := o26_26
  refine qd_want (k := 26) (v := .pointer (some ⟨b0, 0, none⟩)) xi26 xd26 (w_some xg26 (by kernel_rfl) e149_26 rfl) (fun w _ => run_move xp26 e12_26 w) ?_
  obtain ⟨ac27, hac27⟩ : ∃ x, ac26.put (some 154) (.pointer (some ⟨b0, 0, none⟩)) = x := ⟨_, rfl⟩
  rw [hac27]
  have e12_27 : ac27.eval (.tmp 12) = _ := hac27 ▸ ev_put e12_26 (by decide)
  have e149_27 : ac27.eval (.tmp 149) = _ := hac27 ▸ ev_put e149_26 (by decide)
  have e153_27 : ac27.eval (.tmp 153) = _ := hac27 ▸ ev_put e153_26 (by decide)
  have e154_27 : ac27.eval (.tmp 154) = _ := hac27 ▸ ev_same (by rw [zz26]; decide)
  have zz27 : ac27.tmps.size = 272 := hac27 ▸ size_put zz26
  obtain ⟨xo27, xi27, xd27, xg27, xp27⟩ := o26_27
  refine qd_want (k := 27) (v := .pointer (some ⟨b0, 0, none⟩)) xi27 xd27 (w_some xg27 (by kernel_rfl) e149_27 rfl) (fun w _ => run_nil xp27 e154_27 w) ?_
  obtain ⟨ac28, hac28⟩ : ∃ x, ac27.put (some 155) (.pointer (some ⟨b0, 0, none⟩)) = x := ⟨_, rfl⟩
  rw [hac28]
  have e12_28 : ac28.eval (.tmp 12) = _ := hac28 ▸ ev_put e12_27 (by decide)
  have e149_28 : ac28.eval (.tmp 149) = _ := hac28 ▸ ev_put e149_27 (by decide)
  have e153_28 : ac28.eval (.tmp 153) = _ := hac28 ▸ ev_put e153_27 (by decide)
  have e155_28 : ac28.eval (.tmp 155) = _ := hac28 ▸ ev_same (by rw [zz27]; decide)
  have zz28 : ac28.tmps.size = 272 := hac28 ▸ size_put zz27
  obtain ⟨xo28, xi28, xd28, xg28, xp28⟩ := o26_28
  refine qd_want (k := 28) (v := .pointer (some ⟨b0, 3, none⟩)) xi28 xd28 (w_some xg28 (by kernel_rfl) e149_28 rfl) (fun w _ => run_f70_3 xp28 e155_28 w) ?_
  obtain ⟨ac29, hac29⟩ : ∃ x, ac28.put (some 156) (.pointer (some ⟨b0, 3, none⟩)) = x := ⟨_, rfl⟩
  rw [hac29]
  have e12_29 : ac29.eval (.tmp 12) = _ := hac29 ▸ ev_put e12_28 (by decide)
  have e149_29 : ac29.eval (.tmp 149) = _ := hac29 ▸ ev_put e149_28 (by decide)
  have e153_29 : ac29.eval (.tmp 153) = _ := hac29 ▸ ev_put e153_28 (by decide)
  have e156_29 : ac29.eval (.tmp 156) = _ := hac29 ▸ ev_same (by rw [zz28]; decide)
  have zz29 : ac29.tmps.size = 272 := hac29 ▸ size_put zz28
  obtain ⟨xo29, xi29, xd29, xg29, xp29⟩ := o26_29
  refine qd_want (k := 29) (v := .int .i64 ot) xi29 xd29 (w_some xg29 (by kernel_rfl) e149_29 rfl) (fun w hw => by obtain ⟨n, rfl⟩ := hw; exact run_l3 xp29 e156_29 c3) ?_
  obtain ⟨ac30, hac30⟩ : ∃ x, ac29.put (some 157) (.int .i64 ot) = x := ⟨_, rfl⟩
  rw [hac30]
  have e12_30 : ac30.eval (.tmp 12) = _ := hac30 ▸ ev_put e12_29 (by decide)
  have e149_30 : ac30.eval (.tmp 149) = _ := hac30 ▸ ev_put e149_29 (by decide)
  have e153_30 : ac30.eval (.tmp 153) = _ := hac30 ▸ ev_put e153_29 (by decide)
  have e157_30 : ac30.eval (.tmp 157) = _ := hac30 ▸ ev_same (by rw [zz29]; decide)
  have zz30 : ac30.tmps.size = 272 := hac30 ▸ size_put zz29
  obtain ⟨xo30, xi30, xd30, xg30, xp30⟩ := o26_30
  refine qd_want (k := 30) (v := .pointer (some ⟨sb, so + ot * 4, none⟩)) xi30 xd30 (w_some xg30 (by kernel_rfl) e149_30 rfl) (fun w _ => run_i62 xp30 e153_30 e157_30 hon w) ?_
  obtain ⟨ac31, hac31⟩ : ∃ x, ac30.put (some 158) (.pointer (some ⟨sb, so + ot * 4, none⟩)) = x := ⟨_, rfl⟩
  rw [hac31]
  have e12_31 : ac31.eval (.tmp 12) = _ := hac31 ▸ ev_put e12_30 (by decide)
  have e149_31 : ac31.eval (.tmp 149) = _ := hac31 ▸ ev_put e149_30 (by decide)
  have e158_31 : ac31.eval (.tmp 158) = _ := hac31 ▸ ev_same (by rw [zz30]; decide)
  have zz31 : ac31.tmps.size = 272 := hac31 ▸ size_put zz30
  obtain ⟨xo31, xi31, xd31, xg31, xp31⟩ := o26_31
  refine qd_want (k := 31) (v := .pointer (some ⟨sb, so + ot * 4, none⟩)) xi31 xd31 (w_some xg31 (by kernel_rfl) e149_31 rfl) (fun w _ => run_f74_0 xp31 e158_31 w) ?_
  obtain ⟨ac32, hac32⟩ : ∃ x, ac31.put (some 159) (.pointer (some ⟨sb, so + ot * 4, none⟩)) = x := ⟨_, rfl⟩
  rw [hac32]
  have e12_32 : ac32.eval (.tmp 12) = _ := hac32 ▸ ev_put e12_31 (by decide)
  have e149_32 : ac32.eval (.tmp 149) = _ := hac32 ▸ ev_put e149_31 (by decide)
  have e159_32 : ac32.eval (.tmp 159) = _ := hac32 ▸ ev_same (by rw [zz31]; decide)
  have zz32 : ac32.tmps.size = 272 := hac32 ▸ size_put zz31
  obtain ⟨xo32, xi32, xd32, xg32, xp32⟩ := o26_32
  refine qd_want (k := 32) (v := .bool true) xi32 xd32 (w_some xg32 (by kernel_rfl) e149_32 rfl) (fun w hw => by obtain ⟨n, rfl⟩ := hw; exact run_l4 xp32 e159_32 e0) ?_
  obtain ⟨ac33, hac33⟩ : ∃ x, ac32.put (some 160) (.bool true) = x := ⟨_, rfl⟩
  rw [hac33]
  have e12_33 : ac33.eval (.tmp 12) = _ := hac33 ▸ ev_put e12_32 (by decide)
  have e149_33 : ac33.eval (.tmp 149) = _ := hac33 ▸ ev_put e149_32 (by decide)
  have e160_33 : ac33.eval (.tmp 160) = _ := hac33 ▸ ev_same (by rw [zz32]; decide)
  have zz33 : ac33.tmps.size = 272 := hac33 ▸ size_put zz32
  obtain ⟨xo33, xi33, xd33, xg33, xp33⟩ := o26_33
  refine qd_want (k := 33) (v := .bool true) xi33 xd33 (w_some xg33 (by kernel_rfl) e149_33 rfl) (fun w _ => run_move xp33 e160_33 w) ?_
  obtain ⟨ac34, hac34⟩ : ∃ x, ac33.put (some 161) (.bool true) = x := ⟨_, rfl⟩
  rw [hac34]
  have e12_34 : ac34.eval (.tmp 12) = _ := hac34 ▸ ev_put e12_33 (by decide)
  have e149_34 : ac34.eval (.tmp 149) = _ := hac34 ▸ ev_put e149_33 (by decide)
  have e161_34 : ac34.eval (.tmp 161) = _ := hac34 ▸ ev_same (by rw [zz33]; decide)
  have zz34 : ac34.tmps.size = 272 := hac34 ▸ size_put zz33
  obtain ⟨xo34, xi34, xd34, xg34, xp34⟩ := o26_34
  refine qd_want (k := 34) (v := .pointer (some ⟨b0, 0, none⟩)) xi34 xd34 (w_some xg34 (by kernel_rfl) e161_34 rfl) (fun w _ => run_move xp34 e12_34 w) ?_
  obtain ⟨ac35, hac35⟩ : ∃ x, ac34.put (some 162) (.pointer (some ⟨b0, 0, none⟩)) = x := ⟨_, rfl⟩
  rw [hac35]
  have e12_35 : ac35.eval (.tmp 12) = _ := hac35 ▸ ev_put e12_34 (by decide)
  have e149_35 : ac35.eval (.tmp 149) = _ := hac35 ▸ ev_put e149_34 (by decide)
  have e161_35 : ac35.eval (.tmp 161) = _ := hac35 ▸ ev_put e161_34 (by decide)
  have e162_35 : ac35.eval (.tmp 162) = _ := hac35 ▸ ev_same (by rw [zz34]; decide)
  have zz35 : ac35.tmps.size = 272 := hac35 ▸ size_put zz34
  obtain ⟨xo35, xi35, xd35, xg35, xp35⟩ := o26_35
  refine qd_want (k := 35) (v := .pointer (some ⟨b0, 0, none⟩)) xi35 xd35 (w_some xg35 (by kernel_rfl) e161_35 rfl) (fun w _ => run_nil xp35 e162_35 w) ?_
  obtain ⟨ac36, hac36⟩ : ∃ x, ac35.put (some 163) (.pointer (some ⟨b0, 0, none⟩)) = x := ⟨_, rfl⟩
  rw [hac36]
  have e12_36 : ac36.eval (.tmp 12) = _ := hac36 ▸ ev_put e12_35 (by decide)
  have e149_36 : ac36.eval (.tmp 149) = _ := hac36 ▸ ev_put e149_35 (by decide)
  have e161_36 : ac36.eval (.tmp 161) = _ := hac36 ▸ ev_put e161_35 (by decide)
  have e163_36 : ac36.eval (.tmp 163) = _ := hac36 ▸ ev_same (by rw [zz35]; decide)
  have zz36 : ac36.tmps.size = 272 := hac36 ▸ size_put zz35
  obtain ⟨xo36, xi36, xd36, xg36, xp36⟩ := o26_36
  refine qd_want (k := 36) (v := .pointer (some ⟨b0, 6, none⟩)) xi36 xd36 (w_some xg36 (by kernel_rfl) e161_36 rfl) (fun w _ => run_f70_6 xp36 e163_36 w) ?_
  obtain ⟨ac37, hac37⟩ : ∃ x, ac36.put (some 164) (.pointer (some ⟨b0, 6, none⟩)) = x := ⟨_, rfl⟩
  rw [hac37]
  have e12_37 : ac37.eval (.tmp 12) = _ := hac37 ▸ ev_put e12_36 (by decide)
  have e149_37 : ac37.eval (.tmp 149) = _ := hac37 ▸ ev_put e149_36 (by decide)
  have e161_37 : ac37.eval (.tmp 161) = _ := hac37 ▸ ev_put e161_36 (by decide)
  have e164_37 : ac37.eval (.tmp 164) = _ := hac37 ▸ ev_same (by rw [zz36]; decide)
  have zz37 : ac37.tmps.size = 272 := hac37 ▸ size_put zz36
  obtain ⟨xo37, xi37, xd37, xg37, xp37⟩ := o26_37
  refine qd_want (k := 37) (v := .slice (some ⟨b3, 0, none⟩) n n) xi37 xd37 (w_some xg37 (by kernel_rfl) e161_37 rfl) (fun w hw => by obtain ⟨n, rfl⟩ := hw; exact run_l67 xp37 e164_37 c6) ?_
  obtain ⟨ac38, hac38⟩ : ∃ x, ac37.put (some 165) (.slice (some ⟨b3, 0, none⟩) n n) = x := ⟨_, rfl⟩
  rw [hac38]
  have e12_38 : ac38.eval (.tmp 12) = _ := hac38 ▸ ev_put e12_37 (by decide)
  have e149_38 : ac38.eval (.tmp 149) = _ := hac38 ▸ ev_put e149_37 (by decide)
  have e161_38 : ac38.eval (.tmp 161) = _ := hac38 ▸ ev_put e161_37 (by decide)
  have e165_38 : ac38.eval (.tmp 165) = _ := hac38 ▸ ev_same (by rw [zz37]; decide)
  have zz38 : ac38.tmps.size = 272 := hac38 ▸ size_put zz37
  obtain ⟨xo38, xi38, xd38, xg38, xp38⟩ := o26_38
  refine qd_want (k := 38) (v := .pointer (some ⟨b0, 0, none⟩)) xi38 xd38 (w_some xg38 (by kernel_rfl) e161_38 rfl) (fun w _ => run_move xp38 e12_38 w) ?_
  obtain ⟨ac39, hac39⟩ : ∃ x, ac38.put (some 166) (.pointer (some ⟨b0, 0, none⟩)) = x := ⟨_, rfl⟩
  rw [hac39]
  have e12_39 : ac39.eval (.tmp 12) = _ := hac39 ▸ ev_put e12_38 (by decide)
  have e149_39 : ac39.eval (.tmp 149) = _ := hac39 ▸ ev_put e149_38 (by decide)
  have e161_39 : ac39.eval (.tmp 161) = _ := hac39 ▸ ev_put e161_38 (by decide)
  have e165_39 : ac39.eval (.tmp 165) = _ := hac39 ▸ ev_put e165_38 (by decide)
  have e166_39 : ac39.eval (.tmp 166) = _ := hac39 ▸ ev_same (by rw [zz38]; decide)
  have zz39 : ac39.tmps.size = 272 := hac39 ▸ size_put zz38
  obtain ⟨xo39, xi39, xd39, xg39, xp39⟩ := o26_39
  refine qd_want (k := 39) (v := .pointer (some ⟨b0, 0, none⟩)) xi39 xd39 (w_some xg39 (by kernel_rfl) e161_39 rfl) (fun w _ => run_nil xp39 e166_39 w) ?_
  obtain ⟨ac40, hac40⟩ : ∃ x, ac39.put (some 167) (.pointer (some ⟨b0, 0, none⟩)) = x := ⟨_, rfl⟩
  rw [hac40]
  have e12_40 : ac40.eval (.tmp 12) = _ := hac40 ▸ ev_put e12_39 (by decide)
  have e149_40 : ac40.eval (.tmp 149) = _ := hac40 ▸ ev_put e149_39 (by decide)
  have e161_40 : ac40.eval (.tmp 161) = _ := hac40 ▸ ev_put e161_39 (by decide)
  have e165_40 : ac40.eval (.tmp 165) = _ := hac40 ▸ ev_put e165_39 (by decide)
  have e167_40 : ac40.eval (.tmp 167) = _ := hac40 ▸ ev_same (by rw [zz39]; decide)
  have zz40 : ac40.tmps.size = 272 := hac40 ▸ size_put zz39
  obtain ⟨xo40, xi40, xd40, xg40, xp40⟩ := o26_40
  refine qd_want (k := 40) (v := .pointer (some ⟨b0, 3, none⟩)) xi40 xd40 (w_some xg40 (by kernel_rfl) e161_40 rfl) (fun w _ => run_f70_3 xp40 e167_40 w) ?_
  obtain ⟨ac41, hac41⟩ : ∃ x, ac40.put (some 168) (.pointer (some ⟨b0, 3, none⟩)) = x := ⟨_, rfl⟩
  rw [hac41]
  have e12_41 : ac41.eval (.tmp 12) = _ := hac41 ▸ ev_put e12_40 (by decide)
  have e149_41 : ac41.eval (.tmp 149) = _ := hac41 ▸ ev_put e149_40 (by decide)
  have e161_41 : ac41.eval (.tmp 161) = _ := hac41 ▸ ev_put e161_40 (by decide)
  have e165_41 : ac41.eval (.tmp 165) = _ := hac41 ▸ ev_put e165_40 (by decide)
  have e168_41 : ac41.eval (.tmp 168) = _ := hac41 ▸ ev_same (by rw [zz40]; decide)
  have zz41 : ac41.tmps.size = 272 := hac41 ▸ size_put zz40
  obtain ⟨xo41, xi41, xd41, xg41, xp41⟩ := o26_41
  refine qd_want (k := 41) (v := .int .i64 ot) xi41 xd41 (w_some xg41 (by kernel_rfl) e161_41 rfl) (fun w hw => by obtain ⟨n, rfl⟩ := hw; exact run_l3 xp41 e168_41 c3) ?_
  obtain ⟨ac42, hac42⟩ : ∃ x, ac41.put (some 169) (.int .i64 ot) = x := ⟨_, rfl⟩
  rw [hac42]
  have e12_42 : ac42.eval (.tmp 12) = _ := hac42 ▸ ev_put e12_41 (by decide)
  have e149_42 : ac42.eval (.tmp 149) = _ := hac42 ▸ ev_put e149_41 (by decide)
  have e161_42 : ac42.eval (.tmp 161) = _ := hac42 ▸ ev_put e161_41 (by decide)
  have e165_42 : ac42.eval (.tmp 165) = _ := hac42 ▸ ev_put e165_41 (by decide)
  have e169_42 : ac42.eval (.tmp 169) = _ := hac42 ▸ ev_same (by rw [zz41]; decide)
  have zz42 : ac42.tmps.size = 272 := hac42 ▸ size_put zz41
  obtain ⟨xo42, xi42, xd42, xg42, xp42⟩ := o26_42
  refine qd_want (k := 42) (v := .pointer (some ⟨b3, ot, none⟩)) xi42 xd42 (w_some xg42 (by kernel_rfl) e161_42 rfl) (fun w _ => run_i67 xp42 e165_42 e169_42 hon w) ?_
  obtain ⟨ac43, hac43⟩ : ∃ x, ac42.put (some 170) (.pointer (some ⟨b3, ot, none⟩)) = x := ⟨_, rfl⟩
  rw [hac43]
  have e12_43 : ac43.eval (.tmp 12) = _ := hac43 ▸ ev_put e12_42 (by decide)
  have e149_43 : ac43.eval (.tmp 149) = _ := hac43 ▸ ev_put e149_42 (by decide)
  have e161_43 : ac43.eval (.tmp 161) = _ := hac43 ▸ ev_put e161_42 (by decide)
  have e170_43 : ac43.eval (.tmp 170) = _ := hac43 ▸ ev_same (by rw [zz42]; decide)
  have zz43 : ac43.tmps.size = 272 := hac43 ▸ size_put zz42
  obtain ⟨xo43, xi43, xd43, xg43, xp43⟩ := o26_43
  refine qd_want (k := 43) (v := .bool false) xi43 xd43 (w_some xg43 (by kernel_rfl) e161_43 rfl) (fun w hw => by obtain ⟨n, rfl⟩ := hw; exact run_l4 xp43 e170_43 e3) ?_
  obtain ⟨ac44, hac44⟩ : ∃ x, ac43.put (some 171) (.bool false) = x := ⟨_, rfl⟩
  rw [hac44]
  have e12_44 : ac44.eval (.tmp 12) = _ := hac44 ▸ ev_put e12_43 (by decide)
  have e149_44 : ac44.eval (.tmp 149) = _ := hac44 ▸ ev_put e149_43 (by decide)
  have e161_44 : ac44.eval (.tmp 161) = _ := hac44 ▸ ev_put e161_43 (by decide)
  have e171_44 : ac44.eval (.tmp 171) = _ := hac44 ▸ ev_same (by rw [zz43]; decide)
  have zz44 : ac44.tmps.size = 272 := hac44 ▸ size_put zz43
  obtain ⟨xo44, xi44, xd44, xg44, xp44⟩ := o26_44
  refine qd_want (k := 44) (v := .bool false) xi44 xd44 (w_some xg44 (by kernel_rfl) e149_44 rfl) (fun w _ => run_pick xp44 e161_44 (fun _ => e171_44) (fun q => by cases q) w) ?_
  obtain ⟨ac45, hac45⟩ : ∃ x, ac44.put (some 172) (.bool false) = x := ⟨_, rfl⟩
  rw [hac45]
  have e12_45 : ac45.eval (.tmp 12) = _ := hac45 ▸ ev_put e12_44 (by decide)
  have e149_45 : ac45.eval (.tmp 149) = _ := hac45 ▸ ev_put e149_44 (by decide)
  have e172_45 : ac45.eval (.tmp 172) = _ := hac45 ▸ ev_same (by rw [zz44]; decide)
  have zz45 : ac45.tmps.size = 272 := hac45 ▸ size_put zz44
  obtain ⟨xo45, xi45, xd45, xg45, xp45⟩ := o26_45
  refine qd_want (k := 45) (v := .bool false) xi45 xd45 (w_some xg45 (by kernel_rfl) e149_45 rfl) (fun w _ => run_move xp45 e172_45 w) ?_
  obtain ⟨ac46, hac46⟩ : ∃ x, ac45.put (some 173) (.bool false) = x := ⟨_, rfl⟩
  rw [hac46]
  have e12_46 : ac46.eval (.tmp 12) = _ := hac46 ▸ ev_put e12_45 (by decide)
  have e149_46 : ac46.eval (.tmp 149) = _ := hac46 ▸ ev_put e149_45 (by decide)
  have e173_46 : ac46.eval (.tmp 173) = _ := hac46 ▸ ev_same (by rw [zz45]; decide)
  have zz46 : ac46.tmps.size = 272 := hac46 ▸ size_put zz45
  obtain ⟨xo46, xi46, xd46, xg46, xp46⟩ := o26_46
  refine qd_want (k := 46) (v := .pointer (some ⟨b0, 0, none⟩)) xi46 xd46 (w_some xg46 (by kernel_rfl) e173_46 rfl) (fun w _ => run_move xp46 e12_46 w) ?_
  obtain ⟨ac47, hac47⟩ : ∃ x, ac46.put (some 174) (.pointer (some ⟨b0, 0, none⟩)) = x := ⟨_, rfl⟩
  rw [hac47]
  have e12_47 : ac47.eval (.tmp 12) = _ := hac47 ▸ ev_put e12_46 (by decide)
  have e149_47 : ac47.eval (.tmp 149) = _ := hac47 ▸ ev_put e149_46 (by decide)
  have e173_47 : ac47.eval (.tmp 173) = _ := hac47 ▸ ev_put e173_46 (by decide)
  have e174_47 : ac47.eval (.tmp 174) = _ := hac47 ▸ ev_same (by rw [zz46]; decide)
  have zz47 : ac47.tmps.size = 272 := hac47 ▸ size_put zz46
  obtain ⟨xo47, xi47, xd47, xg47, xp47⟩ := o26_47
  refine qd_want (k := 47) (v := .pointer (some ⟨b0, 0, none⟩)) xi47 xd47 (w_some xg47 (by kernel_rfl) e173_47 rfl) (fun w _ => run_nil xp47 e174_47 w) ?_
  obtain ⟨ac48, hac48⟩ : ∃ x, ac47.put (some 175) (.pointer (some ⟨b0, 0, none⟩)) = x := ⟨_, rfl⟩
  rw [hac48]
  have e12_48 : ac48.eval (.tmp 12) = _ := hac48 ▸ ev_put e12_47 (by decide)
  have e149_48 : ac48.eval (.tmp 149) = _ := hac48 ▸ ev_put e149_47 (by decide)
  have e173_48 : ac48.eval (.tmp 173) = _ := hac48 ▸ ev_put e173_47 (by decide)
  have e175_48 : ac48.eval (.tmp 175) = _ := hac48 ▸ ev_same (by rw [zz47]; decide)
  have zz48 : ac48.tmps.size = 272 := hac48 ▸ size_put zz47
  obtain ⟨xo48, xi48, xd48, xg48, xp48⟩ := o26_48
  refine qd_want (k := 48) (v := .pointer (some ⟨b0, 7, none⟩)) xi48 xd48 (w_some xg48 (by kernel_rfl) e173_48 rfl) (fun w _ => run_f70_7 xp48 e175_48 w) ?_
  obtain ⟨ac49, hac49⟩ : ∃ x, ac48.put (some 176) (.pointer (some ⟨b0, 7, none⟩)) = x := ⟨_, rfl⟩
  rw [hac49]
  have e12_49 : ac49.eval (.tmp 12) = _ := hac49 ▸ ev_put e12_48 (by decide)
  have e149_49 : ac49.eval (.tmp 149) = _ := hac49 ▸ ev_put e149_48 (by decide)
  have e173_49 : ac49.eval (.tmp 173) = _ := hac49 ▸ ev_put e173_48 (by decide)
  have e176_49 : ac49.eval (.tmp 176) = _ := hac49 ▸ ev_same (by rw [zz48]; decide)
  have zz49 : ac49.tmps.size = 272 := hac49 ▸ size_put zz48
  obtain ⟨xo49, xi49, xd49, xg49, xp49⟩ := o26_49
  refine qd_want (k := 49) (v := .slice (some ⟨b4, 0, none⟩) n n) xi49 xd49 (w_some xg49 (by kernel_rfl) e173_49 rfl) (fun w hw => by obtain ⟨n, rfl⟩ := hw; exact run_l67 xp49 e176_49 c7) ?_
  obtain ⟨ac50, hac50⟩ : ∃ x, ac49.put (some 177) (.slice (some ⟨b4, 0, none⟩) n n) = x := ⟨_, rfl⟩
  rw [hac50]
  have e12_50 : ac50.eval (.tmp 12) = _ := hac50 ▸ ev_put e12_49 (by decide)
  have e149_50 : ac50.eval (.tmp 149) = _ := hac50 ▸ ev_put e149_49 (by decide)
  have e173_50 : ac50.eval (.tmp 173) = _ := hac50 ▸ ev_put e173_49 (by decide)
  have e177_50 : ac50.eval (.tmp 177) = _ := hac50 ▸ ev_same (by rw [zz49]; decide)
  have zz50 : ac50.tmps.size = 272 := hac50 ▸ size_put zz49
  obtain ⟨xo50, xi50, xd50, xg50, xp50⟩ := o26_50
  refine qd_want (k := 50) (v := .pointer (some ⟨b0, 0, none⟩)) xi50 xd50 (w_some xg50 (by kernel_rfl) e173_50 rfl) (fun w _ => run_move xp50 e12_50 w) ?_
  obtain ⟨ac51, hac51⟩ : ∃ x, ac50.put (some 178) (.pointer (some ⟨b0, 0, none⟩)) = x := ⟨_, rfl⟩
  rw [hac51]
  have e149_51 : ac51.eval (.tmp 149) = _ := hac51 ▸ ev_put e149_50 (by decide)
  have e173_51 : ac51.eval (.tmp 173) = _ := hac51 ▸ ev_put e173_50 (by decide)
  have e177_51 : ac51.eval (.tmp 177) = _ := hac51 ▸ ev_put e177_50 (by decide)
  have e178_51 : ac51.eval (.tmp 178) = _ := hac51 ▸ ev_same (by rw [zz50]; decide)
  have zz51 : ac51.tmps.size = 272 := hac51 ▸ size_put zz50
  obtain ⟨xo51, xi51, xd51, xg51, xp51⟩ := o26_51
  refine qd_want (k := 51) (v := .pointer (some ⟨b0, 0, none⟩)) xi51 xd51 (w_some xg51 (by kernel_rfl) e173_51 rfl) (fun w _ => run_nil xp51 e178_51 w) ?_
  obtain ⟨ac52, hac52⟩ : ∃ x, ac51.put (some 179) (.pointer (some ⟨b0, 0, none⟩)) = x := ⟨_, rfl⟩
  rw [hac52]
  have e149_52 : ac52.eval (.tmp 149) = _ := hac52 ▸ ev_put e149_51 (by decide)
  have e173_52 : ac52.eval (.tmp 173) = _ := hac52 ▸ ev_put e173_51 (by decide)
  have e177_52 : ac52.eval (.tmp 177) = _ := hac52 ▸ ev_put e177_51 (by decide)
  have e179_52 : ac52.eval (.tmp 179) = _ := hac52 ▸ ev_same (by rw [zz51]; decide)
  have zz52 : ac52.tmps.size = 272 := hac52 ▸ size_put zz51
  obtain ⟨xo52, xi52, xd52, xg52, xp52⟩ := o26_52
  refine qd_want (k := 52) (v := .pointer (some ⟨b0, 3, none⟩)) xi52 xd52 (w_some xg52 (by kernel_rfl) e173_52 rfl) (fun w _ => run_f70_3 xp52 e179_52 w) ?_
  obtain ⟨ac53, hac53⟩ : ∃ x, ac52.put (some 180) (.pointer (some ⟨b0, 3, none⟩)) = x := ⟨_, rfl⟩
  rw [hac53]
  have e149_53 : ac53.eval (.tmp 149) = _ := hac53 ▸ ev_put e149_52 (by decide)
  have e173_53 : ac53.eval (.tmp 173) = _ := hac53 ▸ ev_put e173_52 (by decide)
  have e177_53 : ac53.eval (.tmp 177) = _ := hac53 ▸ ev_put e177_52 (by decide)
  have e180_53 : ac53.eval (.tmp 180) = _ := hac53 ▸ ev_same (by rw [zz52]; decide)
  have zz53 : ac53.tmps.size = 272 := hac53 ▸ size_put zz52
  obtain ⟨xo53, xi53, xd53, xg53, xp53⟩ := o26_53
  refine qd_want (k := 53) (v := .int .i64 ot) xi53 xd53 (w_some xg53 (by kernel_rfl) e173_53 rfl) (fun w hw => by obtain ⟨n, rfl⟩ := hw; exact run_l3 xp53 e180_53 c3) ?_
  obtain ⟨ac54, hac54⟩ : ∃ x, ac53.put (some 181) (.int .i64 ot) = x := ⟨_, rfl⟩
  rw [hac54]
  have e149_54 : ac54.eval (.tmp 149) = _ := hac54 ▸ ev_put e149_53 (by decide)
  have e173_54 : ac54.eval (.tmp 173) = _ := hac54 ▸ ev_put e173_53 (by decide)
  have e177_54 : ac54.eval (.tmp 177) = _ := hac54 ▸ ev_put e177_53 (by decide)
  have e181_54 : ac54.eval (.tmp 181) = _ := hac54 ▸ ev_same (by rw [zz53]; decide)
  have zz54 : ac54.tmps.size = 272 := hac54 ▸ size_put zz53
  obtain ⟨xo54, xi54, xd54, xg54, xp54⟩ := o26_54
  refine qd_want (k := 54) (v := .pointer (some ⟨b4, ot, none⟩)) xi54 xd54 (w_some xg54 (by kernel_rfl) e173_54 rfl) (fun w _ => run_i67 xp54 e177_54 e181_54 hon w) ?_
  obtain ⟨ac55, hac55⟩ : ∃ x, ac54.put (some 182) (.pointer (some ⟨b4, ot, none⟩)) = x := ⟨_, rfl⟩
  rw [hac55]
  have e149_55 : ac55.eval (.tmp 149) = _ := hac55 ▸ ev_put e149_54 (by decide)
  have e173_55 : ac55.eval (.tmp 173) = _ := hac55 ▸ ev_put e173_54 (by decide)
  have e182_55 : ac55.eval (.tmp 182) = _ := hac55 ▸ ev_same (by rw [zz54]; decide)
  have zz55 : ac55.tmps.size = 272 := hac55 ▸ size_put zz54
  obtain ⟨xo55, xi55, xd55, xg55, xp55⟩ := o26_55
  refine qd_want (k := 55) (v := .bool true) xi55 xd55 (w_some xg55 (by kernel_rfl) e173_55 rfl) (fun w hw => by obtain ⟨n, rfl⟩ := hw; exact run_l4 xp55 e182_55 e4) ?_
  obtain ⟨ac56, hac56⟩ : ∃ x, ac55.put (some 183) (.bool true) = x := ⟨_, rfl⟩
  rw [hac56]
  have e149_56 : ac56.eval (.tmp 149) = _ := hac56 ▸ ev_put e149_55 (by decide)
  have e173_56 : ac56.eval (.tmp 173) = _ := hac56 ▸ ev_put e173_55 (by decide)
  have e183_56 : ac56.eval (.tmp 183) = _ := hac56 ▸ ev_same (by rw [zz55]; decide)
  have zz56 : ac56.tmps.size = 272 := hac56 ▸ size_put zz55
  obtain ⟨xo56, xi56, xd56, xg56, xp56⟩ := o26_56
  refine qd_want (k := 56) (v := .bool true) xi56 xd56 (w_some xg56 (by kernel_rfl) e149_56 rfl) (fun w _ => run_pick xp56 e173_56 (fun q => by cases q) (fun _ => e183_56) w) ?_
  obtain ⟨ac57, hac57⟩ : ∃ x, ac56.put (some 184) (.bool true) = x := ⟨_, rfl⟩
  rw [hac57]
  have e149_57 : ac57.eval (.tmp 149) = _ := hac57 ▸ ev_put e149_56 (by decide)
  have e184_57 : ac57.eval (.tmp 184) = _ := hac57 ▸ ev_same (by rw [zz56]; decide)
  have zz57 : ac57.tmps.size = 272 := hac57 ▸ size_put zz56
  obtain ⟨xo57, xi57, xd57, xg57, xp57⟩ := o26_57
  refine qd_want (k := 57) (v := .bool true) xi57 xd57 (w_none xg57) (fun w _ => run_pick xp57 e149_57 (fun _ => e184_57) (fun q => by cases q) w) ?_
  obtain ⟨ac58, hac58⟩ : ∃ x, ac57.put (some 185) (.bool true) = x := ⟨_, rfl⟩
  rw [hac58]
  have zz58 : ac58.tmps.size = 272 := hac58 ▸ size_put zz57
  refine qd_end (k := 58) (by kernel_rfl) ?_
  rintro w' ⟨m, rfl⟩
  subst hac58 hac57 hac56 hac55 hac54 hac53 hac52 hac51 hac50 hac49 hac48 hac47 hac46 hac45 hac44 hac43 hac42 hac41 hac40 hac39 hac38 hac37 hac36 hac35 hac34 hac33 hac32 hac31 hac30 hac29 hac28 hac27 hac26 hac25 hac24 hac23 hac22 hac21 hac20 hac19 hac18 hac17 hac16 hac15 hac14 hac13 hac12 hac11 hac10 hac9 hac8 hac7 hac6 hac5 hac4 hac3 hac2 hac1
  exact hk m
end Go.Proofs.YthbffonedpeeiaaDoor
/-
  LSQ's LAW LsqMemory: may the oldest one retire? A way of it.
-/
namespace Go.Proofs.YthbffonedpeeiaaDoor
open Go Go.RowKit
set_option maxRecDepth 100000 in
set_option maxHeartbeats 4000000 in
theorem reg26f (n ot i1 cl sb so b0 b2 b3 : Nat) (W0 : World) (a : Act) (hs : a.tmps.size = 272) (h12 : a.eval (.tmp 12) = .pointer (some ⟨b0, 0, none⟩)) (hlt : decide ((ot : Int) < (i1 : Int)) = true) (hon : ot < n) (c1 : W0.cell? ⟨b0, 1, none⟩ = some (.slice (some ⟨sb, so, none⟩) n cl)) (c2 : W0.cell? ⟨b0, 2, none⟩ = some (.int .i64 i1)) (c3 : W0.cell? ⟨b0, 3, none⟩ = some (.int .i64 ot)) (c5 : W0.cell? ⟨b0, 5, none⟩ = some (.slice (some ⟨b2, 0, none⟩) n n)) (c6 : W0.cell? ⟨b0, 6, none⟩ = some (.slice (some ⟨b3, 0, none⟩) n n)) (e0 : W0.cell? ⟨sb, so + ot * 4, none⟩ = some (.bool true)) (e2 : W0.cell? ⟨b2, ot, none⟩ = some (.bool true)) (e3 : W0.cell? ⟨b3, ot, none⟩ = some (.bool true)) {K : Act → World → Prop} (hk : ∀ k : Nat, K (((((((((((((((((((((((((((((((((((((((((((((((((((((((((((a).put (some 128) (.pointer (some ⟨b0, 0, none⟩))).put (some 129) (.pointer (some ⟨b0, 0, none⟩))).put (some 130) (.pointer (some ⟨b0, 3, none⟩))).put (some 131) (.int .i64 ot)).put (some 132) (.pointer (some ⟨b0, 0, none⟩))).put (some 133) (.pointer (some ⟨b0, 0, none⟩))).put (some 134) (.pointer (some ⟨b0, 2, none⟩))).put (some 135) (.int .i64 i1)).put (some 136) (.bool true)).put (some 137) (.bool true)).put (some 138) (.pointer (some ⟨b0, 0, none⟩))).put (some 139) (.pointer (some ⟨b0, 0, none⟩))).put (some 140) (.pointer (some ⟨b0, 5, none⟩))).put (some 141) (.slice (some ⟨b2, 0, none⟩) n n)).put (some 142) (.pointer (some ⟨b0, 0, none⟩))).put (some 143) (.pointer (some ⟨b0, 0, none⟩))).put (some 144) (.pointer (some ⟨b0, 3, none⟩))).put (some 145) (.int .i64 ot)).put (some 146) (.pointer (some ⟨b2, ot, none⟩))).put (some 147) (.bool true)).put (some 148) (.bool true)).put (some 149) (.bool true)).put (some 150) (.pointer (some ⟨b0, 0, none⟩))).put (some 151) (.pointer (some ⟨b0, 0, none⟩))).put (some 152) (.pointer (some ⟨b0, 1, none⟩))).put (some 153) (.slice (some ⟨sb, so, none⟩) n cl)).put (some 154) (.pointer (some ⟨b0, 0, none⟩))).put (some 155) (.pointer (some ⟨b0, 0, none⟩))).put (some 156) (.pointer (some ⟨b0, 3, none⟩))).put (some 157) (.int .i64 ot)).put (some 158) (.pointer (some ⟨sb, so + ot * 4, none⟩))).put (some 159) (.pointer (some ⟨sb, so + ot * 4, none⟩))).put (some 160) (.bool true)).put (some 161) (.bool true)).put (some 162) (.pointer (some ⟨b0, 0, none⟩))).put (some 163) (.pointer (some ⟨b0, 0, none⟩))).put (some 164) (.pointer (some ⟨b0, 6, none⟩))).put (some 165) (.slice (some ⟨b3, 0, none⟩) n n)).put (some 166) (.pointer (some ⟨b0, 0, none⟩))).put (some 167) (.pointer (some ⟨b0, 0, none⟩))).put (some 168) (.pointer (some ⟨b0, 3, none⟩))).put (some 169) (.int .i64 ot)).put (some 170) (.pointer (some ⟨b3, ot, none⟩))).put (some 171) (.bool true)).put (some 172) (.bool true)).put (some 173) (.bool true)).put (some 174) (undef)).put (some 175) (undef)).put (some 176) (undef)).put (some 177) (undef)).put (some 178) (undef)).put (some 179) (undef)).put (some 180) (undef)).put (some 181) (undef)).put (some 182) (undef)).put (some 183) (undef)).put (some 184) (.bool true)).put (some 185) (.bool true)) (W0.drewN k)) : (regIn Tryd.f4.body 26).wp Tryd.prog (Exit.then K NoX) a W0 := by
  show (Code.region 26 (opsIn (regIn Tryd.f4.body 26)) true).wp _ _ _ _
  refine wp_region_quiet (C := fun w' => ∃ n, w' = W0.drewN n) (by kernel_rfl) (by kernel_rfl) ⟨1, rfl⟩ ?_
  show wpQuiet _ _ _ _ (List.drop 0 _) _
  obtain ⟨xo0, xi0, xd0, xg0, xp0⟩ := o26_0
  refine qd_want (k := 0) (v := .pointer (some ⟨b0, 0, none⟩)) xi0 xd0 (w_none xg0) (fun w _ => run_move xp0 h12 w) ?_
  obtain ⟨ac1, hac1⟩ : ∃ x, a.put (some 128) (.pointer (some ⟨b0, 0, none⟩)) = x := ⟨_, rfl⟩
  rw [hac1]
  have e12_1 : ac1.eval (.tmp 12) = _ := hac1 ▸ ev_put h12 (by decide)
  have e128_1 : ac1.eval (.tmp 128) = _ := hac1 ▸ ev_same (by rw [hs]; decide)
  have zz1 : ac1.tmps.size = 272 := hac1 ▸ size_put hs
  obtain ⟨xo1, xi1, xd1, xg1, xp1⟩ := o26_1
  refine qd_want (k := 1) (v := .pointer (some ⟨b0, 0, none⟩)) xi1 xd1 (w_none xg1) (fun w _ => run_nil xp1 e128_1 w) ?_
  obtain ⟨ac2, hac2⟩ : ∃ x, ac1.put (some 129) (.pointer (some ⟨b0, 0, none⟩)) = x := ⟨_, rfl⟩
  rw [hac2]
  have e12_2 : ac2.eval (.tmp 12) = _ := hac2 ▸ ev_put e12_1 (by decide)
  have e129_2 : ac2.eval (.tmp 129) = _ := hac2 ▸ ev_same (by rw [zz1]; decide)
  have zz2 : ac2.tmps.size = 272 := hac2 ▸ size_put zz1
  obtain ⟨xo2, xi2, xd2, xg2, xp2⟩ := o26_2
  refine qd_want (k := 2) (v := .pointer (some ⟨b0, 3, none⟩)) xi2 xd2 (w_none xg2) (fun w _ => run_f70_3 xp2 e129_2 w) ?_
  obtain ⟨ac3, hac3⟩ : ∃ x, ac2.put (some 130) (.pointer (some ⟨b0, 3, none⟩)) = x := ⟨_, rfl⟩
  rw [hac3]
  have e12_3 : ac3.eval (.tmp 12) = _ := hac3 ▸ ev_put e12_2 (by decide)
  have e130_3 : ac3.eval (.tmp 130) = _ := hac3 ▸ ev_same (by rw [zz2]; decide)
  have zz3 : ac3.tmps.size = 272 := hac3 ▸ size_put zz2
  obtain ⟨xo3, xi3, xd3, xg3, xp3⟩ := o26_3
  refine qd_want (k := 3) (v := .int .i64 ot) xi3 xd3 (w_none xg3) (fun w hw => by obtain ⟨n, rfl⟩ := hw; exact run_l3 xp3 e130_3 c3) ?_
  obtain ⟨ac4, hac4⟩ : ∃ x, ac3.put (some 131) (.int .i64 ot) = x := ⟨_, rfl⟩
  rw [hac4]
  have e12_4 : ac4.eval (.tmp 12) = _ := hac4 ▸ ev_put e12_3 (by decide)
  have e131_4 : ac4.eval (.tmp 131) = _ := hac4 ▸ ev_same (by rw [zz3]; decide)
  have zz4 : ac4.tmps.size = 272 := hac4 ▸ size_put zz3
  obtain ⟨xo4, xi4, xd4, xg4, xp4⟩ := o26_4
  refine qd_want (k := 4) (v := .pointer (some ⟨b0, 0, none⟩)) xi4 xd4 (w_none xg4) (fun w _ => run_move xp4 e12_4 w) ?_
  obtain ⟨ac5, hac5⟩ : ∃ x, ac4.put (some 132) (.pointer (some ⟨b0, 0, none⟩)) = x := ⟨_, rfl⟩
  rw [hac5]
  have e12_5 : ac5.eval (.tmp 12) = _ := hac5 ▸ ev_put e12_4 (by decide)
  have e131_5 : ac5.eval (.tmp 131) = _ := hac5 ▸ ev_put e131_4 (by decide)
  have e132_5 : ac5.eval (.tmp 132) = _ := hac5 ▸ ev_same (by rw [zz4]; decide)
  have zz5 : ac5.tmps.size = 272 := hac5 ▸ size_put zz4
  obtain ⟨xo5, xi5, xd5, xg5, xp5⟩ := o26_5
  refine qd_want (k := 5) (v := .pointer (some ⟨b0, 0, none⟩)) xi5 xd5 (w_none xg5) (fun w _ => run_nil xp5 e132_5 w) ?_
  obtain ⟨ac6, hac6⟩ : ∃ x, ac5.put (some 133) (.pointer (some ⟨b0, 0, none⟩)) = x := ⟨_, rfl⟩
  rw [hac6]
  have e12_6 : ac6.eval (.tmp 12) = _ := hac6 ▸ ev_put e12_5 (by decide)
  have e131_6 : ac6.eval (.tmp 131) = _ := hac6 ▸ ev_put e131_5 (by decide)
  have e133_6 : ac6.eval (.tmp 133) = _ := hac6 ▸ ev_same (by rw [zz5]; decide)
  have zz6 : ac6.tmps.size = 272 := hac6 ▸ size_put zz5
  obtain ⟨xo6, xi6, xd6, xg6, xp6⟩ := o26_6
  refine qd_want (k := 6) (v := .pointer (some ⟨b0, 2, none⟩)) xi6 xd6 (w_none xg6) (fun w _ => run_f70_2 xp6 e133_6 w) ?_
  obtain ⟨ac7, hac7⟩ : ∃ x, ac6.put (some 134) (.pointer (some ⟨b0, 2, none⟩)) = x := ⟨_, rfl⟩
  rw [hac7]
  have e12_7 : ac7.eval (.tmp 12) = _ := hac7 ▸ ev_put e12_6 (by decide)
  have e131_7 : ac7.eval (.tmp 131) = _ := hac7 ▸ ev_put e131_6 (by decide)
  have e134_7 : ac7.eval (.tmp 134) = _ := hac7 ▸ ev_same (by rw [zz6]; decide)
  have zz7 : ac7.tmps.size = 272 := hac7 ▸ size_put zz6
  obtain ⟨xo7, xi7, xd7, xg7, xp7⟩ := o26_7
  refine qd_want (k := 7) (v := .int .i64 i1) xi7 xd7 (w_none xg7) (fun w hw => by obtain ⟨n, rfl⟩ := hw; exact run_l3 xp7 e134_7 c2) ?_
  obtain ⟨ac8, hac8⟩ : ∃ x, ac7.put (some 135) (.int .i64 i1) = x := ⟨_, rfl⟩
  rw [hac8]
  have e12_8 : ac8.eval (.tmp 12) = _ := hac8 ▸ ev_put e12_7 (by decide)
  have e131_8 : ac8.eval (.tmp 131) = _ := hac8 ▸ ev_put e131_7 (by decide)
  have e135_8 : ac8.eval (.tmp 135) = _ := hac8 ▸ ev_same (by rw [zz7]; decide)
  have zz8 : ac8.tmps.size = 272 := hac8 ▸ size_put zz7
  obtain ⟨xo8, xi8, xd8, xg8, xp8⟩ := o26_8
  refine qd_want (k := 8) (v := .bool true) xi8 xd8 (w_none xg8) (fun w _ => run_lss xp8 e131_8 e135_8 hlt w) ?_
  obtain ⟨ac9, hac9⟩ : ∃ x, ac8.put (some 136) (.bool true) = x := ⟨_, rfl⟩
  rw [hac9]
  have e12_9 : ac9.eval (.tmp 12) = _ := hac9 ▸ ev_put e12_8 (by decide)
  have e136_9 : ac9.eval (.tmp 136) = _ := hac9 ▸ ev_same (by rw [zz8]; decide)
  have zz9 : ac9.tmps.size = 272 := hac9 ▸ size_put zz8
  obtain ⟨xo9, xi9, xd9, xg9, xp9⟩ := o26_9
  refine qd_want (k := 9) (v := .bool true) xi9 xd9 (w_none xg9) (fun w _ => run_move xp9 e136_9 w) ?_
  obtain ⟨ac10, hac10⟩ : ∃ x, ac9.put (some 137) (.bool true) = x := ⟨_, rfl⟩
  rw [hac10]
  have e12_10 : ac10.eval (.tmp 12) = _ := hac10 ▸ ev_put e12_9 (by decide)
  have e137_10 : ac10.eval (.tmp 137) = _ := hac10 ▸ ev_same (by rw [zz9]; decide)
  have zz10 : ac10.tmps.size = 272 := hac10 ▸ size_put zz9
  obtain ⟨xo10, xi10, xd10, xg10, xp10⟩ := o26_10
  refine qd_want (k := 10) (v := .pointer (some ⟨b0, 0, none⟩)) xi10 xd10 (w_some xg10 (by kernel_rfl) e137_10 rfl) (fun w _ => run_move xp10 e12_10 w) ?_
  obtain ⟨ac11, hac11⟩ : ∃ x, ac10.put (some 138) (.pointer (some ⟨b0, 0, none⟩)) = x := ⟨_, rfl⟩
  rw [hac11]
  have e12_11 : ac11.eval (.tmp 12) = _ := hac11 ▸ ev_put e12_10 (by decide)
  have e137_11 : ac11.eval (.tmp 137) = _ := hac11 ▸ ev_put e137_10 (by decide)
  have e138_11 : ac11.eval (.tmp 138) = _ := hac11 ▸ ev_same (by rw [zz10]; decide)
  have zz11 : ac11.tmps.size = 272 := hac11 ▸ size_put zz10
  obtain ⟨xo11, xi11, xd11, xg11, xp11⟩ := o26_11
  refine qd_want (k := 11) (v := .pointer (some ⟨b0, 0, none⟩)) xi11 xd11 (w_some xg11 (by kernel_rfl) e137_11 rfl) (fun w _ => run_nil xp11 e138_11 w) ?_
  obtain ⟨ac12, hac12⟩ : ∃ x, ac11.put (some 139) (.pointer (some ⟨b0, 0, none⟩)) = x := ⟨_, rfl⟩
  rw [hac12]
  have e12_12 : ac12.eval (.tmp 12) = _ := hac12 ▸ ev_put e12_11 (by decide)
  have e137_12 : ac12.eval (.tmp 137) = _ := hac12 ▸ ev_put e137_11 (by decide)
  have e139_12 : ac12.eval (.tmp 139) = _ := hac12 ▸ ev_same (by rw [zz11]; decide)
  have zz12 : ac12.tmps.size = 272 := hac12 ▸ size_put zz11
  obtain ⟨xo12, xi12, xd12, xg12, xp12⟩ := o26_12
  refine qd_want (k := 12) (v := .pointer (some ⟨b0, 5, none⟩)) xi12 xd12 (w_some xg12 (by kernel_rfl) e137_12 rfl) (fun w _ => run_f70_5 xp12 e139_12 w) ?_
  obtain ⟨ac13, hac13⟩ : ∃ x, ac12.put (some 140) (.pointer (some ⟨b0, 5, none⟩)) = x := ⟨_, rfl⟩
  rw [hac13]
  have e12_13 : ac13.eval (.tmp 12) = _ := hac13 ▸ ev_put e12_12 (by decide)
  have e137_13 : ac13.eval (.tmp 137) = _ := hac13 ▸ ev_put e137_12 (by decide)
  have e140_13 : ac13.eval (.tmp 140) = _ := hac13 ▸ ev_same (by rw [zz12]; decide)
  have zz13 : ac13.tmps.size = 272 := hac13 ▸ size_put zz12
  obtain ⟨xo13, xi13, xd13, xg13, xp13⟩ := o26_13
  refine qd_want (k := 13) (v := .slice (some ⟨b2, 0, none⟩) n n) xi13 xd13 (w_some xg13 (by kernel_rfl) e137_13 rfl) (fun w hw => by obtain ⟨n, rfl⟩ := hw; exact run_l67 xp13 e140_13 c5) ?_
  obtain ⟨ac14, hac14⟩ : ∃ x, ac13.put (some 141) (.slice (some ⟨b2, 0, none⟩) n n) = x := ⟨_, rfl⟩
  rw [hac14]
  have e12_14 : ac14.eval (.tmp 12) = _ := hac14 ▸ ev_put e12_13 (by decide)
  have e137_14 : ac14.eval (.tmp 137) = _ := hac14 ▸ ev_put e137_13 (by decide)
  have e141_14 : ac14.eval (.tmp 141) = _ := hac14 ▸ ev_same (by rw [zz13]; decide)
  have zz14 : ac14.tmps.size = 272 := hac14 ▸ size_put zz13
  obtain ⟨xo14, xi14, xd14, xg14, xp14⟩ := o26_14
  refine qd_want (k := 14) (v := .pointer (some ⟨b0, 0, none⟩)) xi14 xd14 (w_some xg14 (by kernel_rfl) e137_14 rfl) (fun w _ => run_move xp14 e12_14 w) ?_
  obtain ⟨ac15, hac15⟩ : ∃ x, ac14.put (some 142) (.pointer (some ⟨b0, 0, none⟩)) = x := ⟨_, rfl⟩
  rw [hac15]
  have e12_15 : ac15.eval (.tmp 12) = _ := hac15 ▸ ev_put e12_14 (by decide)
  have e137_15 : ac15.eval (.tmp 137) = _ := hac15 ▸ ev_put e137_14 (by decide)
  have e141_15 : ac15.eval (.tmp 141) = _ := hac15 ▸ ev_put e141_14 (by decide)
  have e142_15 : ac15.eval (.tmp 142) = _ := hac15 ▸ ev_same (by rw [zz14]; decide)
  have zz15 : ac15.tmps.size = 272 := hac15 ▸ size_put zz14
  obtain ⟨xo15, xi15, xd15, xg15, xp15⟩ := o26_15
  refine qd_want (k := 15) (v := .pointer (some ⟨b0, 0, none⟩)) xi15 xd15 (w_some xg15 (by kernel_rfl) e137_15 rfl) (fun w _ => run_nil xp15 e142_15 w) ?_
  obtain ⟨ac16, hac16⟩ : ∃ x, ac15.put (some 143) (.pointer (some ⟨b0, 0, none⟩)) = x := ⟨_, rfl⟩
  rw [hac16]
  have e12_16 : ac16.eval (.tmp 12) = _ := hac16 ▸ ev_put e12_15 (by decide)
  have e137_16 : ac16.eval (.tmp 137) = _ := hac16 ▸ ev_put e137_15 (by decide)
  have e141_16 : ac16.eval (.tmp 141) = _ := hac16 ▸ ev_put e141_15 (by decide)
  have e143_16 : ac16.eval (.tmp 143) = _ := hac16 ▸ ev_same (by rw [zz15]; decide)
  have zz16 : ac16.tmps.size = 272 := hac16 ▸ size_put zz15
  obtain ⟨xo16, xi16, xd16, xg16, xp16⟩ := o26_16
  refine qd_want (k := 16) (v := .pointer (some ⟨b0, 3, none⟩)) xi16 xd16 (w_some xg16 (by kernel_rfl) e137_16 rfl) (fun w _ => run_f70_3 xp16 e143_16 w) ?_
  obtain ⟨ac17, hac17⟩ : ∃ x, ac16.put (some 144) (.pointer (some ⟨b0, 3, none⟩)) = x := ⟨_, rfl⟩
  rw [hac17]
  have e12_17 : ac17.eval (.tmp 12) = _ := hac17 ▸ ev_put e12_16 (by decide)
  have e137_17 : ac17.eval (.tmp 137) = _ := hac17 ▸ ev_put e137_16 (by decide)
  have e141_17 : ac17.eval (.tmp 141) = _ := hac17 ▸ ev_put e141_16 (by decide)
  have e144_17 : ac17.eval (.tmp 144) = _ := hac17 ▸ ev_same (by rw [zz16]; decide)
  have zz17 : ac17.tmps.size = 272 := hac17 ▸ size_put zz16
  obtain ⟨xo17, xi17, xd17, xg17, xp17⟩ := o26_17
  refine qd_want (k := 17) (v := .int .i64 ot) xi17 xd17 (w_some xg17 (by kernel_rfl) e137_17 rfl) (fun w hw => by obtain ⟨n, rfl⟩ := hw; exact run_l3 xp17 e144_17 c3) ?_
  obtain ⟨ac18, hac18⟩ : ∃ x, ac17.put (some 145) (.int .i64 ot) = x := ⟨_, rfl⟩
  rw [hac18]
  have e12_18 : ac18.eval (.tmp 12) = _ := hac18 ▸ ev_put e12_17 (by decide)
  have e137_18 : ac18.eval (.tmp 137) = _ := hac18 ▸ ev_put e137_17 (by decide)
  have e141_18 : ac18.eval (.tmp 141) = _ := hac18 ▸ ev_put e141_17 (by decide)
  have e145_18 : ac18.eval (.tmp 145) = _ := hac18 ▸ ev_same (by rw [zz17]; decide)
  have zz18 : ac18.tmps.size = 272 := hac18 ▸ size_put zz17
  obtain ⟨xo18, xi18, xd18, xg18, xp18⟩ := o26_18
  refine qd_want (k := 18) (v := .pointer (some ⟨b2, ot, none⟩)) xi18 xd18 (w_some xg18 (by kernel_rfl) e137_18 rfl) (fun w _ => run_i67 xp18 e141_18 e145_18 hon w) ?_
  obtain ⟨ac19, hac19⟩ : ∃ x, ac18.put (some 146) (.pointer (some ⟨b2, ot, none⟩)) = x := ⟨_, rfl⟩
  rw [hac19]
  have e12_19 : ac19.eval (.tmp 12) = _ := hac19 ▸ ev_put e12_18 (by decide)
  have e137_19 : ac19.eval (.tmp 137) = _ := hac19 ▸ ev_put e137_18 (by decide)
  have e146_19 : ac19.eval (.tmp 146) = _ := hac19 ▸ ev_same (by rw [zz18]; decide)
  have zz19 : ac19.tmps.size = 272 := hac19 ▸ size_put zz18
  obtain ⟨xo19, xi19, xd19, xg19, xp19⟩ := o26_19
  refine qd_want (k := 19) (v := .bool true) xi19 xd19 (w_some xg19 (by kernel_rfl) e137_19 rfl) (fun w hw => by obtain ⟨n, rfl⟩ := hw; exact run_l4 xp19 e146_19 e2) ?_
  obtain ⟨ac20, hac20⟩ : ∃ x, ac19.put (some 147) (.bool true) = x := ⟨_, rfl⟩
  rw [hac20]
  have e12_20 : ac20.eval (.tmp 12) = _ := hac20 ▸ ev_put e12_19 (by decide)
  have e137_20 : ac20.eval (.tmp 137) = _ := hac20 ▸ ev_put e137_19 (by decide)
  have e147_20 : ac20.eval (.tmp 147) = _ := hac20 ▸ ev_same (by rw [zz19]; decide)
  have zz20 : ac20.tmps.size = 272 := hac20 ▸ size_put zz19
  obtain ⟨xo20, xi20, xd20, xg20, xp20⟩ := o26_20
  refine qd_want (k := 20) (v := .bool true) xi20 xd20 (w_none xg20) (fun w _ => run_pick xp20 e137_20 (fun _ => e147_20) (fun q => by cases q) w) ?_
  obtain ⟨ac21, hac21⟩ : ∃ x, ac20.put (some 148) (.bool true) = x := ⟨_, rfl⟩
  rw [hac21]
  have e12_21 : ac21.eval (.tmp 12) = _ := hac21 ▸ ev_put e12_20 (by decide)
  have e148_21 : ac21.eval (.tmp 148) = _ := hac21 ▸ ev_same (by rw [zz20]; decide)
  have zz21 : ac21.tmps.size = 272 := hac21 ▸ size_put zz20
  obtain ⟨xo21, xi21, xd21, xg21, xp21⟩ := o26_21
  refine qd_want (k := 21) (v := .bool true) xi21 xd21 (w_none xg21) (fun w _ => run_move xp21 e148_21 w) ?_
  obtain ⟨ac22, hac22⟩ : ∃ x, ac21.put (some 149) (.bool true) = x := ⟨_, rfl⟩
  rw [hac22]
  have e12_22 : ac22.eval (.tmp 12) = _ := hac22 ▸ ev_put e12_21 (by decide)
  have e149_22 : ac22.eval (.tmp 149) = _ := hac22 ▸ ev_same (by rw [zz21]; decide)
  have zz22 : ac22.tmps.size = 272 := hac22 ▸ size_put zz21
  obtain ⟨xo22, xi22, xd22, xg22, xp22⟩ := o26_22
  refine qd_want (k := 22) (v := .pointer (some ⟨b0, 0, none⟩)) xi22 xd22 (w_some xg22 (by kernel_rfl) e149_22 rfl) (fun w _ => run_move xp22 e12_22 w) ?_
  obtain ⟨ac23, hac23⟩ : ∃ x, ac22.put (some 150) (.pointer (some ⟨b0, 0, none⟩)) = x := ⟨_, rfl⟩
  rw [hac23]
  have e12_23 : ac23.eval (.tmp 12) = _ := hac23 ▸ ev_put e12_22 (by decide)
  have e149_23 : ac23.eval (.tmp 149) = _ := hac23 ▸ ev_put e149_22 (by decide)
  have e150_23 : ac23.eval (.tmp 150) = _ := hac23 ▸ ev_same (by rw [zz22]; decide)
  have zz23 : ac23.tmps.size = 272 := hac23 ▸ size_put zz22
  obtain ⟨xo23, xi23, xd23, xg23, xp23⟩ := o26_23
  refine qd_want (k := 23) (v := .pointer (some ⟨b0, 0, none⟩)) xi23 xd23 (w_some xg23 (by kernel_rfl) e149_23 rfl) (fun w _ => run_nil xp23 e150_23 w) ?_
  obtain ⟨ac24, hac24⟩ : ∃ x, ac23.put (some 151) (.pointer (some ⟨b0, 0, none⟩)) = x := ⟨_, rfl⟩
  rw [hac24]
  have e12_24 : ac24.eval (.tmp 12) = _ := hac24 ▸ ev_put e12_23 (by decide)
  have e149_24 : ac24.eval (.tmp 149) = _ := hac24 ▸ ev_put e149_23 (by decide)
  have e151_24 : ac24.eval (.tmp 151) = _ := hac24 ▸ ev_same (by rw [zz23]; decide)
  have zz24 : ac24.tmps.size = 272 := hac24 ▸ size_put zz23
  obtain ⟨xo24, xi24, xd24, xg24, xp24⟩ := o26_24
  refine qd_want (k := 24) (v := .pointer (some ⟨b0, 1, none⟩)) xi24 xd24 (w_some xg24 (by kernel_rfl) e149_24 rfl) (fun w _ => run_f70_1 xp24 e151_24 w) ?_
  obtain ⟨ac25, hac25⟩ : ∃ x, ac24.put (some 152) (.pointer (some ⟨b0, 1, none⟩)) = x := ⟨_, rfl⟩
  rw [hac25]
  have e12_25 : ac25.eval (.tmp 12) = _ := hac25 ▸ ev_put e12_24 (by decide)
  have e149_25 : ac25.eval (.tmp 149) = _ := hac25 ▸ ev_put e149_24 (by decide)
  have e152_25 : ac25.eval (.tmp 152) = _ := hac25 ▸ ev_same (by rw [zz24]; decide)
  have zz25 : ac25.tmps.size = 272 := hac25 ▸ size_put zz24
  obtain ⟨xo25, xi25, xd25, xg25, xp25⟩ := o26_25
  refine qd_want (k := 25) (v := .slice (some ⟨sb, so, none⟩) n cl) xi25 xd25 (w_some xg25 (by kernel_rfl) e149_25 rfl) (fun w hw => by obtain ⟨n, rfl⟩ := hw; exact run_l62 xp25 e152_25 c1) ?_
  obtain ⟨ac26, hac26⟩ : ∃ x, ac25.put (some 153) (.slice (some ⟨sb, so, none⟩) n cl) = x := ⟨_, rfl⟩
  rw [hac26]
  have e12_26 : ac26.eval (.tmp 12) = _ := hac26 ▸ ev_put e12_25 (by decide)
  have e149_26 : ac26.eval (.tmp 149) = _ := hac26 ▸ ev_put e149_25 (by decide)
  have e153_26 : ac26.eval (.tmp 153) = _ := hac26 ▸ ev_same (by rw [zz25]; decide)
  have zz26 : ac26.tmps.size = 272 := hac26 ▸ size_put zz25
  obtain ⟨xo26, xi26, xd26, xg26, xp26⟩ := o26_26
  refine qd_want (k := 26) (v := .pointer (some ⟨b0, 0, none⟩)) xi26 xd26 (w_some xg26 (by kernel_rfl) e149_26 rfl) (fun w _ => run_move xp26 e12_26 w) ?_
  obtain ⟨ac27, hac27⟩ : ∃ x, ac26.put (some 154) (.pointer (some ⟨b0, 0, none⟩)) = x := ⟨_, rfl⟩
  rw [hac27]
  have e12_27 : ac27.eval (.tmp 12) = _ := hac27 ▸ ev_put e12_26 (by decide)
  have e149_27 : ac27.eval (.tmp 149) = _ := hac27 ▸ ev_put e149_26 (by decide)
  have e153_27 : ac27.eval (.tmp 153) = _ := hac27 ▸ ev_put e153_26 (by decide)
  have e154_27 : ac27.eval (.tmp 154) = _ := hac27 ▸ ev_same (by rw [zz26]; decide)
  have zz27 : ac27.tmps.size = 272 := hac27 ▸ size_put zz26
  obtain ⟨xo27, xi27, xd27, xg27, xp27⟩ := o26_27
  refine qd_want (k := 27) (v := .pointer (some ⟨b0, 0, none⟩)) xi27 xd27 (w_some xg27 (by kernel_rfl) e149_27 rfl) (fun w _ => run_nil xp27 e154_27 w) ?_
  obtain ⟨ac28, hac28⟩ : ∃ x, ac27.put (some 155) (.pointer (some ⟨b0, 0, none⟩)) = x := ⟨_, rfl⟩
  rw [hac28]
  have e12_28 : ac28.eval (.tmp 12) = _ := hac28 ▸ ev_put e12_27 (by decide)
  have e149_28 : ac28.eval (.tmp 149) = _ := hac28 ▸ ev_put e149_27 (by decide)
  have e153_28 : ac28.eval (.tmp 153) = _ := hac28 ▸ ev_put e153_27 (by decide)
  have e155_28 : ac28.eval (.tmp 155) = _ := hac28 ▸ ev_same (by rw [zz27]; decide)
  have zz28 : ac28.tmps.size = 272 := hac28 ▸ size_put zz27
  obtain ⟨xo28, xi28, xd28, xg28, xp28⟩ := o26_28
  refine qd_want (k := 28) (v := .pointer (some ⟨b0, 3, none⟩)) xi28 xd28 (w_some xg28 (by kernel_rfl) e149_28 rfl) (fun w _ => run_f70_3 xp28 e155_28 w) ?_
  obtain ⟨ac29, hac29⟩ : ∃ x, ac28.put (some 156) (.pointer (some ⟨b0, 3, none⟩)) = x := ⟨_, rfl⟩
  rw [hac29]
  have e12_29 : ac29.eval (.tmp 12) = _ := hac29 ▸ ev_put e12_28 (by decide)
  have e149_29 : ac29.eval (.tmp 149) = _ := hac29 ▸ ev_put e149_28 (by decide)
  have e153_29 : ac29.eval (.tmp 153) = _ := hac29 ▸ ev_put e153_28 (by decide)
  have e156_29 : ac29.eval (.tmp 156) = _ := hac29 ▸ ev_same (by rw [zz28]; decide)
  have zz29 : ac29.tmps.size = 272 := hac29 ▸ size_put zz28
  obtain ⟨xo29, xi29, xd29, xg29, xp29⟩ := o26_29
  refine qd_want (k := 29) (v := .int .i64 ot) xi29 xd29 (w_some xg29 (by kernel_rfl) e149_29 rfl) (fun w hw => by obtain ⟨n, rfl⟩ := hw; exact run_l3 xp29 e156_29 c3) ?_
  obtain ⟨ac30, hac30⟩ : ∃ x, ac29.put (some 157) (.int .i64 ot) = x := ⟨_, rfl⟩
  rw [hac30]
  have e12_30 : ac30.eval (.tmp 12) = _ := hac30 ▸ ev_put e12_29 (by decide)
  have e149_30 : ac30.eval (.tmp 149) = _ := hac30 ▸ ev_put e149_29 (by decide)
  have e153_30 : ac30.eval (.tmp 153) = _ := hac30 ▸ ev_put e153_29 (by decide)
  have e157_30 : ac30.eval (.tmp 157) = _ := hac30 ▸ ev_same (by rw [zz29]; decide)
  have zz30 : ac30.tmps.size = 272 := hac30 ▸ size_put zz29
  obtain ⟨xo30, xi30, xd30, xg30, xp30⟩ := o26_30
  refine qd_want (k := 30) (v := .pointer (some ⟨sb, so + ot * 4, none⟩)) xi30 xd30 (w_some xg30 (by kernel_rfl) e149_30 rfl) (fun w _ => run_i62 xp30 e153_30 e157_30 hon w) ?_
  obtain ⟨ac31, hac31⟩ : ∃ x, ac30.put (some 158) (.pointer (some ⟨sb, so + ot * 4, none⟩)) = x := ⟨_, rfl⟩
  rw [hac31]
  have e12_31 : ac31.eval (.tmp 12) = _ := hac31 ▸ ev_put e12_30 (by decide)
  have e149_31 : ac31.eval (.tmp 149) = _ := hac31 ▸ ev_put e149_30 (by decide)
  have e158_31 : ac31.eval (.tmp 158) = _ := hac31 ▸ ev_same (by rw [zz30]; decide)
  have zz31 : ac31.tmps.size = 272 := hac31 ▸ size_put zz30
  obtain ⟨xo31, xi31, xd31, xg31, xp31⟩ := o26_31
  refine qd_want (k := 31) (v := .pointer (some ⟨sb, so + ot * 4, none⟩)) xi31 xd31 (w_some xg31 (by kernel_rfl) e149_31 rfl) (fun w _ => run_f74_0 xp31 e158_31 w) ?_
  obtain ⟨ac32, hac32⟩ : ∃ x, ac31.put (some 159) (.pointer (some ⟨sb, so + ot * 4, none⟩)) = x := ⟨_, rfl⟩
  rw [hac32]
  have e12_32 : ac32.eval (.tmp 12) = _ := hac32 ▸ ev_put e12_31 (by decide)
  have e149_32 : ac32.eval (.tmp 149) = _ := hac32 ▸ ev_put e149_31 (by decide)
  have e159_32 : ac32.eval (.tmp 159) = _ := hac32 ▸ ev_same (by rw [zz31]; decide)
  have zz32 : ac32.tmps.size = 272 := hac32 ▸ size_put zz31
  obtain ⟨xo32, xi32, xd32, xg32, xp32⟩ := o26_32
  refine qd_want (k := 32) (v := .bool true) xi32 xd32 (w_some xg32 (by kernel_rfl) e149_32 rfl) (fun w hw => by obtain ⟨n, rfl⟩ := hw; exact run_l4 xp32 e159_32 e0) ?_
  obtain ⟨ac33, hac33⟩ : ∃ x, ac32.put (some 160) (.bool true) = x := ⟨_, rfl⟩
  rw [hac33]
  have e12_33 : ac33.eval (.tmp 12) = _ := hac33 ▸ ev_put e12_32 (by decide)
  have e149_33 : ac33.eval (.tmp 149) = _ := hac33 ▸ ev_put e149_32 (by decide)
  have e160_33 : ac33.eval (.tmp 160) = _ := hac33 ▸ ev_same (by rw [zz32]; decide)
  have zz33 : ac33.tmps.size = 272 := hac33 ▸ size_put zz32
  obtain ⟨xo33, xi33, xd33, xg33, xp33⟩ := o26_33
  refine qd_want (k := 33) (v := .bool true) xi33 xd33 (w_some xg33 (by kernel_rfl) e149_33 rfl) (fun w _ => run_move xp33 e160_33 w) ?_
  obtain ⟨ac34, hac34⟩ : ∃ x, ac33.put (some 161) (.bool true) = x := ⟨_, rfl⟩
  rw [hac34]
  have e12_34 : ac34.eval (.tmp 12) = _ := hac34 ▸ ev_put e12_33 (by decide)
  have e149_34 : ac34.eval (.tmp 149) = _ := hac34 ▸ ev_put e149_33 (by decide)
  have e161_34 : ac34.eval (.tmp 161) = _ := hac34 ▸ ev_same (by rw [zz33]; decide)
  have zz34 : ac34.tmps.size = 272 := hac34 ▸ size_put zz33
  obtain ⟨xo34, xi34, xd34, xg34, xp34⟩ := o26_34
  refine qd_want (k := 34) (v := .pointer (some ⟨b0, 0, none⟩)) xi34 xd34 (w_some xg34 (by kernel_rfl) e161_34 rfl) (fun w _ => run_move xp34 e12_34 w) ?_
  obtain ⟨ac35, hac35⟩ : ∃ x, ac34.put (some 162) (.pointer (some ⟨b0, 0, none⟩)) = x := ⟨_, rfl⟩
  rw [hac35]
  have e12_35 : ac35.eval (.tmp 12) = _ := hac35 ▸ ev_put e12_34 (by decide)
  have e149_35 : ac35.eval (.tmp 149) = _ := hac35 ▸ ev_put e149_34 (by decide)
  have e161_35 : ac35.eval (.tmp 161) = _ := hac35 ▸ ev_put e161_34 (by decide)
  have e162_35 : ac35.eval (.tmp 162) = _ := hac35 ▸ ev_same (by rw [zz34]; decide)
  have zz35 : ac35.tmps.size = 272 := hac35 ▸ size_put zz34
  obtain ⟨xo35, xi35, xd35, xg35, xp35⟩ := o26_35
  refine qd_want (k := 35) (v := .pointer (some ⟨b0, 0, none⟩)) xi35 xd35 (w_some xg35 (by kernel_rfl) e161_35 rfl) (fun w _ => run_nil xp35 e162_35 w) ?_
  obtain ⟨ac36, hac36⟩ : ∃ x, ac35.put (some 163) (.pointer (some ⟨b0, 0, none⟩)) = x := ⟨_, rfl⟩
  rw [hac36]
  have e12_36 : ac36.eval (.tmp 12) = _ := hac36 ▸ ev_put e12_35 (by decide)
  have e149_36 : ac36.eval (.tmp 149) = _ := hac36 ▸ ev_put e149_35 (by decide)
  have e161_36 : ac36.eval (.tmp 161) = _ := hac36 ▸ ev_put e161_35 (by decide)
  have e163_36 : ac36.eval (.tmp 163) = _ := hac36 ▸ ev_same (by rw [zz35]; decide)
  have zz36 : ac36.tmps.size = 272 := hac36 ▸ size_put zz35
  obtain ⟨xo36, xi36, xd36, xg36, xp36⟩ := o26_36
  refine qd_want (k := 36) (v := .pointer (some ⟨b0, 6, none⟩)) xi36 xd36 (w_some xg36 (by kernel_rfl) e161_36 rfl) (fun w _ => run_f70_6 xp36 e163_36 w) ?_
  obtain ⟨ac37, hac37⟩ : ∃ x, ac36.put (some 164) (.pointer (some ⟨b0, 6, none⟩)) = x := ⟨_, rfl⟩
  rw [hac37]
  have e12_37 : ac37.eval (.tmp 12) = _ := hac37 ▸ ev_put e12_36 (by decide)
  have e149_37 : ac37.eval (.tmp 149) = _ := hac37 ▸ ev_put e149_36 (by decide)
  have e161_37 : ac37.eval (.tmp 161) = _ := hac37 ▸ ev_put e161_36 (by decide)
  have e164_37 : ac37.eval (.tmp 164) = _ := hac37 ▸ ev_same (by rw [zz36]; decide)
  have zz37 : ac37.tmps.size = 272 := hac37 ▸ size_put zz36
  obtain ⟨xo37, xi37, xd37, xg37, xp37⟩ := o26_37
  refine qd_want (k := 37) (v := .slice (some ⟨b3, 0, none⟩) n n) xi37 xd37 (w_some xg37 (by kernel_rfl) e161_37 rfl) (fun w hw => by obtain ⟨n, rfl⟩ := hw; exact run_l67 xp37 e164_37 c6) ?_
  obtain ⟨ac38, hac38⟩ : ∃ x, ac37.put (some 165) (.slice (some ⟨b3, 0, none⟩) n n) = x := ⟨_, rfl⟩
  rw [hac38]
  have e12_38 : ac38.eval (.tmp 12) = _ := hac38 ▸ ev_put e12_37 (by decide)
  have e149_38 : ac38.eval (.tmp 149) = _ := hac38 ▸ ev_put e149_37 (by decide)
  have e161_38 : ac38.eval (.tmp 161) = _ := hac38 ▸ ev_put e161_37 (by decide)
  have e165_38 : ac38.eval (.tmp 165) = _ := hac38 ▸ ev_same (by rw [zz37]; decide)
  have zz38 : ac38.tmps.size = 272 := hac38 ▸ size_put zz37
  obtain ⟨xo38, xi38, xd38, xg38, xp38⟩ := o26_38
  refine qd_want (k := 38) (v := .pointer (some ⟨b0, 0, none⟩)) xi38 xd38 (w_some xg38 (by kernel_rfl) e161_38 rfl) (fun w _ => run_move xp38 e12_38 w) ?_
  obtain ⟨ac39, hac39⟩ : ∃ x, ac38.put (some 166) (.pointer (some ⟨b0, 0, none⟩)) = x := ⟨_, rfl⟩
  rw [hac39]
  have e12_39 : ac39.eval (.tmp 12) = _ := hac39 ▸ ev_put e12_38 (by decide)
  have e149_39 : ac39.eval (.tmp 149) = _ := hac39 ▸ ev_put e149_38 (by decide)
  have e161_39 : ac39.eval (.tmp 161) = _ := hac39 ▸ ev_put e161_38 (by decide)
  have e165_39 : ac39.eval (.tmp 165) = _ := hac39 ▸ ev_put e165_38 (by decide)
  have e166_39 : ac39.eval (.tmp 166) = _ := hac39 ▸ ev_same (by rw [zz38]; decide)
  have zz39 : ac39.tmps.size = 272 := hac39 ▸ size_put zz38
  obtain ⟨xo39, xi39, xd39, xg39, xp39⟩ := o26_39
  refine qd_want (k := 39) (v := .pointer (some ⟨b0, 0, none⟩)) xi39 xd39 (w_some xg39 (by kernel_rfl) e161_39 rfl) (fun w _ => run_nil xp39 e166_39 w) ?_
  obtain ⟨ac40, hac40⟩ : ∃ x, ac39.put (some 167) (.pointer (some ⟨b0, 0, none⟩)) = x := ⟨_, rfl⟩
  rw [hac40]
  have e12_40 : ac40.eval (.tmp 12) = _ := hac40 ▸ ev_put e12_39 (by decide)
  have e149_40 : ac40.eval (.tmp 149) = _ := hac40 ▸ ev_put e149_39 (by decide)
  have e161_40 : ac40.eval (.tmp 161) = _ := hac40 ▸ ev_put e161_39 (by decide)
  have e165_40 : ac40.eval (.tmp 165) = _ := hac40 ▸ ev_put e165_39 (by decide)
  have e167_40 : ac40.eval (.tmp 167) = _ := hac40 ▸ ev_same (by rw [zz39]; decide)
  have zz40 : ac40.tmps.size = 272 := hac40 ▸ size_put zz39
  obtain ⟨xo40, xi40, xd40, xg40, xp40⟩ := o26_40
  refine qd_want (k := 40) (v := .pointer (some ⟨b0, 3, none⟩)) xi40 xd40 (w_some xg40 (by kernel_rfl) e161_40 rfl) (fun w _ => run_f70_3 xp40 e167_40 w) ?_
  obtain ⟨ac41, hac41⟩ : ∃ x, ac40.put (some 168) (.pointer (some ⟨b0, 3, none⟩)) = x := ⟨_, rfl⟩
  rw [hac41]
  have e12_41 : ac41.eval (.tmp 12) = _ := hac41 ▸ ev_put e12_40 (by decide)
  have e149_41 : ac41.eval (.tmp 149) = _ := hac41 ▸ ev_put e149_40 (by decide)
  have e161_41 : ac41.eval (.tmp 161) = _ := hac41 ▸ ev_put e161_40 (by decide)
  have e165_41 : ac41.eval (.tmp 165) = _ := hac41 ▸ ev_put e165_40 (by decide)
  have e168_41 : ac41.eval (.tmp 168) = _ := hac41 ▸ ev_same (by rw [zz40]; decide)
  have zz41 : ac41.tmps.size = 272 := hac41 ▸ size_put zz40
  obtain ⟨xo41, xi41, xd41, xg41, xp41⟩ := o26_41
  refine qd_want (k := 41) (v := .int .i64 ot) xi41 xd41 (w_some xg41 (by kernel_rfl) e161_41 rfl) (fun w hw => by obtain ⟨n, rfl⟩ := hw; exact run_l3 xp41 e168_41 c3) ?_
  obtain ⟨ac42, hac42⟩ : ∃ x, ac41.put (some 169) (.int .i64 ot) = x := ⟨_, rfl⟩
  rw [hac42]
  have e12_42 : ac42.eval (.tmp 12) = _ := hac42 ▸ ev_put e12_41 (by decide)
  have e149_42 : ac42.eval (.tmp 149) = _ := hac42 ▸ ev_put e149_41 (by decide)
  have e161_42 : ac42.eval (.tmp 161) = _ := hac42 ▸ ev_put e161_41 (by decide)
  have e165_42 : ac42.eval (.tmp 165) = _ := hac42 ▸ ev_put e165_41 (by decide)
  have e169_42 : ac42.eval (.tmp 169) = _ := hac42 ▸ ev_same (by rw [zz41]; decide)
  have zz42 : ac42.tmps.size = 272 := hac42 ▸ size_put zz41
  obtain ⟨xo42, xi42, xd42, xg42, xp42⟩ := o26_42
  refine qd_want (k := 42) (v := .pointer (some ⟨b3, ot, none⟩)) xi42 xd42 (w_some xg42 (by kernel_rfl) e161_42 rfl) (fun w _ => run_i67 xp42 e165_42 e169_42 hon w) ?_
  obtain ⟨ac43, hac43⟩ : ∃ x, ac42.put (some 170) (.pointer (some ⟨b3, ot, none⟩)) = x := ⟨_, rfl⟩
  rw [hac43]
  have e12_43 : ac43.eval (.tmp 12) = _ := hac43 ▸ ev_put e12_42 (by decide)
  have e149_43 : ac43.eval (.tmp 149) = _ := hac43 ▸ ev_put e149_42 (by decide)
  have e161_43 : ac43.eval (.tmp 161) = _ := hac43 ▸ ev_put e161_42 (by decide)
  have e170_43 : ac43.eval (.tmp 170) = _ := hac43 ▸ ev_same (by rw [zz42]; decide)
  have zz43 : ac43.tmps.size = 272 := hac43 ▸ size_put zz42
  obtain ⟨xo43, xi43, xd43, xg43, xp43⟩ := o26_43
  refine qd_want (k := 43) (v := .bool true) xi43 xd43 (w_some xg43 (by kernel_rfl) e161_43 rfl) (fun w hw => by obtain ⟨n, rfl⟩ := hw; exact run_l4 xp43 e170_43 e3) ?_
  obtain ⟨ac44, hac44⟩ : ∃ x, ac43.put (some 171) (.bool true) = x := ⟨_, rfl⟩
  rw [hac44]
  have e12_44 : ac44.eval (.tmp 12) = _ := hac44 ▸ ev_put e12_43 (by decide)
  have e149_44 : ac44.eval (.tmp 149) = _ := hac44 ▸ ev_put e149_43 (by decide)
  have e161_44 : ac44.eval (.tmp 161) = _ := hac44 ▸ ev_put e161_43 (by decide)
  have e171_44 : ac44.eval (.tmp 171) = _ := hac44 ▸ ev_same (by rw [zz43]; decide)
  have zz44 : ac44.tmps.size = 272 := hac44 ▸ size_put zz43
  obtain ⟨xo44, xi44, xd44, xg44, xp44⟩ := o26_44
  refine qd_want (k := 44) (v := .bool true) xi44 xd44 (w_some xg44 (by kernel_rfl) e149_44 rfl) (fun w _ => run_pick xp44 e161_44 (fun _ => e171_44) (fun q => by cases q) w) ?_
  obtain ⟨ac45, hac45⟩ : ∃ x, ac44.put (some 172) (.bool true) = x := ⟨_, rfl⟩
  rw [hac45]
  have e12_45 : ac45.eval (.tmp 12) = _ := hac45 ▸ ev_put e12_44 (by decide)
  have e149_45 : ac45.eval (.tmp 149) = _ := hac45 ▸ ev_put e149_44 (by decide)
  have e172_45 : ac45.eval (.tmp 172) = _ := hac45 ▸ ev_same (by rw [zz44]; decide)
  have zz45 : ac45.tmps.size = 272 := hac45 ▸ size_put zz44
  obtain ⟨xo45, xi45, xd45, xg45, xp45⟩ := o26_45
  refine qd_want (k := 45) (v := .bool true) xi45 xd45 (w_some xg45 (by kernel_rfl) e149_45 rfl) (fun w _ => run_move xp45 e172_45 w) ?_
  obtain ⟨ac46, hac46⟩ : ∃ x, ac45.put (some 173) (.bool true) = x := ⟨_, rfl⟩
  rw [hac46]
  have e12_46 : ac46.eval (.tmp 12) = _ := hac46 ▸ ev_put e12_45 (by decide)
  have e149_46 : ac46.eval (.tmp 149) = _ := hac46 ▸ ev_put e149_45 (by decide)
  have e173_46 : ac46.eval (.tmp 173) = _ := hac46 ▸ ev_same (by rw [zz45]; decide)
  have zz46 : ac46.tmps.size = 272 := hac46 ▸ size_put zz45
  obtain ⟨xo46, xi46, xd46, xg46, xp46⟩ := o26_46
  refine qd_skip (k := 46) xi46 xd46 (w_some xg46 (by kernel_rfl) e173_46 rfl) ?_
  obtain ⟨ac47, hac47⟩ : ∃ x, ac46.put (some 174) (undef) = x := ⟨_, rfl⟩
  rw [hac47]
  have e12_47 : ac47.eval (.tmp 12) = _ := hac47 ▸ ev_put e12_46 (by decide)
  have e149_47 : ac47.eval (.tmp 149) = _ := hac47 ▸ ev_put e149_46 (by decide)
  have e173_47 : ac47.eval (.tmp 173) = _ := hac47 ▸ ev_put e173_46 (by decide)
  have e174_47 : ac47.eval (.tmp 174) = _ := hac47 ▸ ev_same (by rw [zz46]; decide)
  have zz47 : ac47.tmps.size = 272 := hac47 ▸ size_put zz46
  obtain ⟨xo47, xi47, xd47, xg47, xp47⟩ := o26_47
  refine qd_skip (k := 47) xi47 xd47 (w_some xg47 (by kernel_rfl) e173_47 rfl) ?_
  obtain ⟨ac48, hac48⟩ : ∃ x, ac47.put (some 175) (undef) = x := ⟨_, rfl⟩
  rw [hac48]
  have e12_48 : ac48.eval (.tmp 12) = _ := hac48 ▸ ev_put e12_47 (by decide)
  have e149_48 : ac48.eval (.tmp 149) = _ := hac48 ▸ ev_put e149_47 (by decide)
  have e173_48 : ac48.eval (.tmp 173) = _ := hac48 ▸ ev_put e173_47 (by decide)
  have e175_48 : ac48.eval (.tmp 175) = _ := hac48 ▸ ev_same (by rw [zz47]; decide)
  have zz48 : ac48.tmps.size = 272 := hac48 ▸ size_put zz47
  obtain ⟨xo48, xi48, xd48, xg48, xp48⟩ := o26_48
  refine qd_skip (k := 48) xi48 xd48 (w_some xg48 (by kernel_rfl) e173_48 rfl) ?_
  obtain ⟨ac49, hac49⟩ : ∃ x, ac48.put (some 176) (undef) = x := ⟨_, rfl⟩
  rw [hac49]
  have e12_49 : ac49.eval (.tmp 12) = _ := hac49 ▸ ev_put e12_48 (by decide)
  have e149_49 : ac49.eval (.tmp 149) = _ := hac49 ▸ ev_put e149_48 (by decide)
  have e173_49 : ac49.eval (.tmp 173) = _ := hac49 ▸ ev_put e173_48 (by decide)
  have e176_49 : ac49.eval (.tmp 176) = _ := hac49 ▸ ev_same (by rw [zz48]; decide)
  have zz49 : ac49.tmps.size = 272 := hac49 ▸ size_put zz48
  obtain ⟨xo49, xi49, xd49, xg49, xp49⟩ := o26_49
  refine qd_skip (k := 49) xi49 xd49 (w_some xg49 (by kernel_rfl) e173_49 rfl) ?_
  obtain ⟨ac50, hac50⟩ : ∃ x, ac49.put (some 177) (undef) = x := ⟨_, rfl⟩
  rw [hac50]
  have e12_50 : ac50.eval (.tmp 12) = _ := hac50 ▸ ev_put e12_49 (by decide)
  have e149_50 : ac50.eval (.tmp 149) = _ := hac50 ▸ ev_put e149_49 (by decide)
  have e173_50 : ac50.eval (.tmp 173) = _ := hac50 ▸ ev_put e173_49 (by decide)
  have e177_50 : ac50.eval (.tmp 177) = _ := hac50 ▸ ev_same (by rw [zz49]; decide)
  have zz50 : ac50.tmps.size = 272 := hac50 ▸ size_put zz49
  obtain ⟨xo50, xi50, xd50, xg50, xp50⟩ := o26_50
  refine qd_skip (k := 50) xi50 xd50 (w_some xg50 (by kernel_rfl) e173_50 rfl) ?_
  obtain ⟨ac51, hac51⟩ : ∃ x, ac50.put (some 178) (undef) = x := ⟨_, rfl⟩
  rw [hac51]
  have e149_51 : ac51.eval (.tmp 149) = _ := hac51 ▸ ev_put e149_50 (by decide)
  have e173_51 : ac51.eval (.tmp 173) = _ := hac51 ▸ ev_put e173_50 (by decide)
  have e177_51 : ac51.eval (.tmp 177) = _ := hac51 ▸ ev_put e177_50 (by decide)
  have e178_51 : ac51.eval (.tmp 178) = _ := hac51 ▸ ev_same (by rw [zz50]; decide)
  have zz51 : ac51.tmps.size = 272 := hac51 ▸ size_put zz50
  obtain ⟨xo51, xi51, xd51, xg51, xp51⟩ := o26_51
  refine qd_skip (k := 51) xi51 xd51 (w_some xg51 (by kernel_rfl) e173_51 rfl) ?_
  obtain ⟨ac52, hac52⟩ : ∃ x, ac51.put (some 179) (undef) = x := ⟨_, rfl⟩
  rw [hac52]
  have e149_52 : ac52.eval (.tmp 149) = _ := hac52 ▸ ev_put e149_51 (by decide)
  have e173_52 : ac52.eval (.tmp 173) = _ := hac52 ▸ ev_put e173_51 (by decide)
  have e177_52 : ac52.eval (.tmp 177) = _ := hac52 ▸ ev_put e177_51 (by decide)
  have e179_52 : ac52.eval (.tmp 179) = _ := hac52 ▸ ev_same (by rw [zz51]; decide)
  have zz52 : ac52.tmps.size = 272 := hac52 ▸ size_put zz51
  obtain ⟨xo52, xi52, xd52, xg52, xp52⟩ := o26_52
  refine qd_skip (k := 52) xi52 xd52 (w_some xg52 (by kernel_rfl) e173_52 rfl) ?_
  obtain ⟨ac53, hac53⟩ : ∃ x, ac52.put (some 180) (undef) = x := ⟨_, rfl⟩
  rw [hac53]
  have e149_53 : ac53.eval (.tmp 149) = _ := hac53 ▸ ev_put e149_52 (by decide)
  have e173_53 : ac53.eval (.tmp 173) = _ := hac53 ▸ ev_put e173_52 (by decide)
  have e177_53 : ac53.eval (.tmp 177) = _ := hac53 ▸ ev_put e177_52 (by decide)
  have e180_53 : ac53.eval (.tmp 180) = _ := hac53 ▸ ev_same (by rw [zz52]; decide)
  have zz53 : ac53.tmps.size = 272 := hac53 ▸ size_put zz52
  obtain ⟨xo53, xi53, xd53, xg53, xp53⟩ := o26_53
  refine qd_skip (k := 53) xi53 xd53 (w_some xg53 (by kernel_rfl) e173_53 rfl) ?_
  obtain ⟨ac54, hac54⟩ : ∃ x, ac53.put (some 181) (undef) = x := ⟨_, rfl⟩
  rw [hac54]
  have e149_54 : ac54.eval (.tmp 149) = _ := hac54 ▸ ev_put e149_53 (by decide)
  have e173_54 : ac54.eval (.tmp 173) = _ := hac54 ▸ ev_put e173_53 (by decide)
  have e177_54 : ac54.eval (.tmp 177) = _ := hac54 ▸ ev_put e177_53 (by decide)
  have e181_54 : ac54.eval (.tmp 181) = _ := hac54 ▸ ev_same (by rw [zz53]; decide)
  have zz54 : ac54.tmps.size = 272 := hac54 ▸ size_put zz53
  obtain ⟨xo54, xi54, xd54, xg54, xp54⟩ := o26_54
  refine qd_skip (k := 54) xi54 xd54 (w_some xg54 (by kernel_rfl) e173_54 rfl) ?_
  obtain ⟨ac55, hac55⟩ : ∃ x, ac54.put (some 182) (undef) = x := ⟨_, rfl⟩
  rw [hac55]
  have e149_55 : ac55.eval (.tmp 149) = _ := hac55 ▸ ev_put e149_54 (by decide)
  have e173_55 : ac55.eval (.tmp 173) = _ := hac55 ▸ ev_put e173_54 (by decide)
  have e182_55 : ac55.eval (.tmp 182) = _ := hac55 ▸ ev_same (by rw [zz54]; decide)
  have zz55 : ac55.tmps.size = 272 := hac55 ▸ size_put zz54
  obtain ⟨xo55, xi55, xd55, xg55, xp55⟩ := o26_55
  refine qd_skip (k := 55) xi55 xd55 (w_some xg55 (by kernel_rfl) e173_55 rfl) ?_
  obtain ⟨ac56, hac56⟩ : ∃ x, ac55.put (some 183) (undef) = x := ⟨_, rfl⟩
  rw [hac56]
  have e149_56 : ac56.eval (.tmp 149) = _ := hac56 ▸ ev_put e149_55 (by decide)
  have e173_56 : ac56.eval (.tmp 173) = _ := hac56 ▸ ev_put e173_55 (by decide)
  have e183_56 : ac56.eval (.tmp 183) = _ := hac56 ▸ ev_same (by rw [zz55]; decide)
  have zz56 : ac56.tmps.size = 272 := hac56 ▸ size_put zz55
  obtain ⟨xo56, xi56, xd56, xg56, xp56⟩ := o26_56
  refine qd_want (k := 56) (v := .bool true) xi56 xd56 (w_some xg56 (by kernel_rfl) e149_56 rfl) (fun w _ => run_pick xp56 e173_56 (fun _ => rfl) (fun q => by cases q) w) ?_
  obtain ⟨ac57, hac57⟩ : ∃ x, ac56.put (some 184) (.bool true) = x := ⟨_, rfl⟩
  rw [hac57]
  have e149_57 : ac57.eval (.tmp 149) = _ := hac57 ▸ ev_put e149_56 (by decide)
  have e184_57 : ac57.eval (.tmp 184) = _ := hac57 ▸ ev_same (by rw [zz56]; decide)
  have zz57 : ac57.tmps.size = 272 := hac57 ▸ size_put zz56
  obtain ⟨xo57, xi57, xd57, xg57, xp57⟩ := o26_57
  refine qd_want (k := 57) (v := .bool true) xi57 xd57 (w_none xg57) (fun w _ => run_pick xp57 e149_57 (fun _ => e184_57) (fun q => by cases q) w) ?_
  obtain ⟨ac58, hac58⟩ : ∃ x, ac57.put (some 185) (.bool true) = x := ⟨_, rfl⟩
  rw [hac58]
  have zz58 : ac58.tmps.size = 272 := hac58 ▸ size_put zz57
  refine qd_end (k := 58) (by kernel_rfl) ?_
  rintro w' ⟨m, rfl⟩
  subst hac58 hac57 hac56 hac55 hac54 hac53 hac52 hac51 hac50 hac49 hac48 hac47 hac46 hac45 hac44 hac43 hac42 hac41 hac40 hac39 hac38 hac37 hac36 hac35 hac34 hac33 hac32 hac31 hac30 hac29 hac28 hac27 hac26 hac25 hac24 hac23 hac22 hac21 hac20 hac19 hac18 hac17 hac16 hac15 hac14 hac13 hac12 hac11 hac10 hac9 hac8 hac7 hac6 hac5 hac4 hac3 hac2 hac1
  exact hk m
end Go.Proofs.YthbffonedpeeiaaDoor
/-
  LSQ's LAW LsqMemory: may the oldest one retire? A way of it.
-/
namespace Go.Proofs.YthbffonedpeeiaaDoor
open Go Go.RowKit
set_option maxRecDepth 100000 in
set_option maxHeartbeats 4000000 in
theorem reg26z (ot i1 b0 : Nat) (W0 : World) (a : Act) (hs : a.tmps.size = 272) (h12 : a.eval (.tmp 12) = .pointer (some ⟨b0, 0, none⟩)) (hlt : decide ((ot : Int) < (i1 : Int)) = false) (c2 : W0.cell? ⟨b0, 2, none⟩ = some (.int .i64 i1)) (c3 : W0.cell? ⟨b0, 3, none⟩ = some (.int .i64 ot)) {K : Act → World → Prop} (hk : ∀ k : Nat, K (((((((((((((((((((((((((((((((((((((((((((((((((((((((((((a).put (some 128) (.pointer (some ⟨b0, 0, none⟩))).put (some 129) (.pointer (some ⟨b0, 0, none⟩))).put (some 130) (.pointer (some ⟨b0, 3, none⟩))).put (some 131) (.int .i64 ot)).put (some 132) (.pointer (some ⟨b0, 0, none⟩))).put (some 133) (.pointer (some ⟨b0, 0, none⟩))).put (some 134) (.pointer (some ⟨b0, 2, none⟩))).put (some 135) (.int .i64 i1)).put (some 136) (.bool false)).put (some 137) (.bool false)).put (some 138) (undef)).put (some 139) (undef)).put (some 140) (undef)).put (some 141) (undef)).put (some 142) (undef)).put (some 143) (undef)).put (some 144) (undef)).put (some 145) (undef)).put (some 146) (undef)).put (some 147) (undef)).put (some 148) (.bool false)).put (some 149) (.bool false)).put (some 150) (undef)).put (some 151) (undef)).put (some 152) (undef)).put (some 153) (undef)).put (some 154) (undef)).put (some 155) (undef)).put (some 156) (undef)).put (some 157) (undef)).put (some 158) (undef)).put (some 159) (undef)).put (some 160) (undef)).put (some 161) (undef)).put (some 162) (undef)).put (some 163) (undef)).put (some 164) (undef)).put (some 165) (undef)).put (some 166) (undef)).put (some 167) (undef)).put (some 168) (undef)).put (some 169) (undef)).put (some 170) (undef)).put (some 171) (undef)).put (some 172) (undef)).put (some 173) (undef)).put (some 174) (undef)).put (some 175) (undef)).put (some 176) (undef)).put (some 177) (undef)).put (some 178) (undef)).put (some 179) (undef)).put (some 180) (undef)).put (some 181) (undef)).put (some 182) (undef)).put (some 183) (undef)).put (some 184) (undef)).put (some 185) (.bool false)) (W0.drewN k)) : (regIn Tryd.f4.body 26).wp Tryd.prog (Exit.then K NoX) a W0 := by
  show (Code.region 26 (opsIn (regIn Tryd.f4.body 26)) true).wp _ _ _ _
  refine wp_region_quiet (C := fun w' => ∃ n, w' = W0.drewN n) (by kernel_rfl) (by kernel_rfl) ⟨1, rfl⟩ ?_
  show wpQuiet _ _ _ _ (List.drop 0 _) _
  obtain ⟨xo0, xi0, xd0, xg0, xp0⟩ := o26_0
  refine qd_want (k := 0) (v := .pointer (some ⟨b0, 0, none⟩)) xi0 xd0 (w_none xg0) (fun w _ => run_move xp0 h12 w) ?_
  obtain ⟨ac1, hac1⟩ : ∃ x, a.put (some 128) (.pointer (some ⟨b0, 0, none⟩)) = x := ⟨_, rfl⟩
  rw [hac1]
  have e12_1 : ac1.eval (.tmp 12) = _ := hac1 ▸ ev_put h12 (by decide)
  have e128_1 : ac1.eval (.tmp 128) = _ := hac1 ▸ ev_same (by rw [hs]; decide)
  have zz1 : ac1.tmps.size = 272 := hac1 ▸ size_put hs
  obtain ⟨xo1, xi1, xd1, xg1, xp1⟩ := o26_1
  refine qd_want (k := 1) (v := .pointer (some ⟨b0, 0, none⟩)) xi1 xd1 (w_none xg1) (fun w _ => run_nil xp1 e128_1 w) ?_
  obtain ⟨ac2, hac2⟩ : ∃ x, ac1.put (some 129) (.pointer (some ⟨b0, 0, none⟩)) = x := ⟨_, rfl⟩
  rw [hac2]
  have e12_2 : ac2.eval (.tmp 12) = _ := hac2 ▸ ev_put e12_1 (by decide)
  have e129_2 : ac2.eval (.tmp 129) = _ := hac2 ▸ ev_same (by rw [zz1]; decide)
  have zz2 : ac2.tmps.size = 272 := hac2 ▸ size_put zz1
  obtain ⟨xo2, xi2, xd2, xg2, xp2⟩ := o26_2
  refine qd_want (k := 2) (v := .pointer (some ⟨b0, 3, none⟩)) xi2 xd2 (w_none xg2) (fun w _ => run_f70_3 xp2 e129_2 w) ?_
  obtain ⟨ac3, hac3⟩ : ∃ x, ac2.put (some 130) (.pointer (some ⟨b0, 3, none⟩)) = x := ⟨_, rfl⟩
  rw [hac3]
  have e12_3 : ac3.eval (.tmp 12) = _ := hac3 ▸ ev_put e12_2 (by decide)
  have e130_3 : ac3.eval (.tmp 130) = _ := hac3 ▸ ev_same (by rw [zz2]; decide)
  have zz3 : ac3.tmps.size = 272 := hac3 ▸ size_put zz2
  obtain ⟨xo3, xi3, xd3, xg3, xp3⟩ := o26_3
  refine qd_want (k := 3) (v := .int .i64 ot) xi3 xd3 (w_none xg3) (fun w hw => by obtain ⟨n, rfl⟩ := hw; exact run_l3 xp3 e130_3 c3) ?_
  obtain ⟨ac4, hac4⟩ : ∃ x, ac3.put (some 131) (.int .i64 ot) = x := ⟨_, rfl⟩
  rw [hac4]
  have e12_4 : ac4.eval (.tmp 12) = _ := hac4 ▸ ev_put e12_3 (by decide)
  have e131_4 : ac4.eval (.tmp 131) = _ := hac4 ▸ ev_same (by rw [zz3]; decide)
  have zz4 : ac4.tmps.size = 272 := hac4 ▸ size_put zz3
  obtain ⟨xo4, xi4, xd4, xg4, xp4⟩ := o26_4
  refine qd_want (k := 4) (v := .pointer (some ⟨b0, 0, none⟩)) xi4 xd4 (w_none xg4) (fun w _ => run_move xp4 e12_4 w) ?_
  obtain ⟨ac5, hac5⟩ : ∃ x, ac4.put (some 132) (.pointer (some ⟨b0, 0, none⟩)) = x := ⟨_, rfl⟩
  rw [hac5]
  have e12_5 : ac5.eval (.tmp 12) = _ := hac5 ▸ ev_put e12_4 (by decide)
  have e131_5 : ac5.eval (.tmp 131) = _ := hac5 ▸ ev_put e131_4 (by decide)
  have e132_5 : ac5.eval (.tmp 132) = _ := hac5 ▸ ev_same (by rw [zz4]; decide)
  have zz5 : ac5.tmps.size = 272 := hac5 ▸ size_put zz4
  obtain ⟨xo5, xi5, xd5, xg5, xp5⟩ := o26_5
  refine qd_want (k := 5) (v := .pointer (some ⟨b0, 0, none⟩)) xi5 xd5 (w_none xg5) (fun w _ => run_nil xp5 e132_5 w) ?_
  obtain ⟨ac6, hac6⟩ : ∃ x, ac5.put (some 133) (.pointer (some ⟨b0, 0, none⟩)) = x := ⟨_, rfl⟩
  rw [hac6]
  have e12_6 : ac6.eval (.tmp 12) = _ := hac6 ▸ ev_put e12_5 (by decide)
  have e131_6 : ac6.eval (.tmp 131) = _ := hac6 ▸ ev_put e131_5 (by decide)
  have e133_6 : ac6.eval (.tmp 133) = _ := hac6 ▸ ev_same (by rw [zz5]; decide)
  have zz6 : ac6.tmps.size = 272 := hac6 ▸ size_put zz5
  obtain ⟨xo6, xi6, xd6, xg6, xp6⟩ := o26_6
  refine qd_want (k := 6) (v := .pointer (some ⟨b0, 2, none⟩)) xi6 xd6 (w_none xg6) (fun w _ => run_f70_2 xp6 e133_6 w) ?_
  obtain ⟨ac7, hac7⟩ : ∃ x, ac6.put (some 134) (.pointer (some ⟨b0, 2, none⟩)) = x := ⟨_, rfl⟩
  rw [hac7]
  have e12_7 : ac7.eval (.tmp 12) = _ := hac7 ▸ ev_put e12_6 (by decide)
  have e131_7 : ac7.eval (.tmp 131) = _ := hac7 ▸ ev_put e131_6 (by decide)
  have e134_7 : ac7.eval (.tmp 134) = _ := hac7 ▸ ev_same (by rw [zz6]; decide)
  have zz7 : ac7.tmps.size = 272 := hac7 ▸ size_put zz6
  obtain ⟨xo7, xi7, xd7, xg7, xp7⟩ := o26_7
  refine qd_want (k := 7) (v := .int .i64 i1) xi7 xd7 (w_none xg7) (fun w hw => by obtain ⟨n, rfl⟩ := hw; exact run_l3 xp7 e134_7 c2) ?_
  obtain ⟨ac8, hac8⟩ : ∃ x, ac7.put (some 135) (.int .i64 i1) = x := ⟨_, rfl⟩
  rw [hac8]
  have e12_8 : ac8.eval (.tmp 12) = _ := hac8 ▸ ev_put e12_7 (by decide)
  have e131_8 : ac8.eval (.tmp 131) = _ := hac8 ▸ ev_put e131_7 (by decide)
  have e135_8 : ac8.eval (.tmp 135) = _ := hac8 ▸ ev_same (by rw [zz7]; decide)
  have zz8 : ac8.tmps.size = 272 := hac8 ▸ size_put zz7
  obtain ⟨xo8, xi8, xd8, xg8, xp8⟩ := o26_8
  refine qd_want (k := 8) (v := .bool false) xi8 xd8 (w_none xg8) (fun w _ => run_lss xp8 e131_8 e135_8 hlt w) ?_
  obtain ⟨ac9, hac9⟩ : ∃ x, ac8.put (some 136) (.bool false) = x := ⟨_, rfl⟩
  rw [hac9]
  have e12_9 : ac9.eval (.tmp 12) = _ := hac9 ▸ ev_put e12_8 (by decide)
  have e136_9 : ac9.eval (.tmp 136) = _ := hac9 ▸ ev_same (by rw [zz8]; decide)
  have zz9 : ac9.tmps.size = 272 := hac9 ▸ size_put zz8
  obtain ⟨xo9, xi9, xd9, xg9, xp9⟩ := o26_9
  refine qd_want (k := 9) (v := .bool false) xi9 xd9 (w_none xg9) (fun w _ => run_move xp9 e136_9 w) ?_
  obtain ⟨ac10, hac10⟩ : ∃ x, ac9.put (some 137) (.bool false) = x := ⟨_, rfl⟩
  rw [hac10]
  have e12_10 : ac10.eval (.tmp 12) = _ := hac10 ▸ ev_put e12_9 (by decide)
  have e137_10 : ac10.eval (.tmp 137) = _ := hac10 ▸ ev_same (by rw [zz9]; decide)
  have zz10 : ac10.tmps.size = 272 := hac10 ▸ size_put zz9
  obtain ⟨xo10, xi10, xd10, xg10, xp10⟩ := o26_10
  refine qd_skip (k := 10) xi10 xd10 (w_some xg10 (by kernel_rfl) e137_10 rfl) ?_
  obtain ⟨ac11, hac11⟩ : ∃ x, ac10.put (some 138) (undef) = x := ⟨_, rfl⟩
  rw [hac11]
  have e12_11 : ac11.eval (.tmp 12) = _ := hac11 ▸ ev_put e12_10 (by decide)
  have e137_11 : ac11.eval (.tmp 137) = _ := hac11 ▸ ev_put e137_10 (by decide)
  have e138_11 : ac11.eval (.tmp 138) = _ := hac11 ▸ ev_same (by rw [zz10]; decide)
  have zz11 : ac11.tmps.size = 272 := hac11 ▸ size_put zz10
  obtain ⟨xo11, xi11, xd11, xg11, xp11⟩ := o26_11
  refine qd_skip (k := 11) xi11 xd11 (w_some xg11 (by kernel_rfl) e137_11 rfl) ?_
  obtain ⟨ac12, hac12⟩ : ∃ x, ac11.put (some 139) (undef) = x := ⟨_, rfl⟩
  rw [hac12]
  have e12_12 : ac12.eval (.tmp 12) = _ := hac12 ▸ ev_put e12_11 (by decide)
  have e137_12 : ac12.eval (.tmp 137) = _ := hac12 ▸ ev_put e137_11 (by decide)
  have e139_12 : ac12.eval (.tmp 139) = _ := hac12 ▸ ev_same (by rw [zz11]; decide)
  have zz12 : ac12.tmps.size = 272 := hac12 ▸ size_put zz11
  obtain ⟨xo12, xi12, xd12, xg12, xp12⟩ := o26_12
  refine qd_skip (k := 12) xi12 xd12 (w_some xg12 (by kernel_rfl) e137_12 rfl) ?_
  obtain ⟨ac13, hac13⟩ : ∃ x, ac12.put (some 140) (undef) = x := ⟨_, rfl⟩
  rw [hac13]
  have e12_13 : ac13.eval (.tmp 12) = _ := hac13 ▸ ev_put e12_12 (by decide)
  have e137_13 : ac13.eval (.tmp 137) = _ := hac13 ▸ ev_put e137_12 (by decide)
  have e140_13 : ac13.eval (.tmp 140) = _ := hac13 ▸ ev_same (by rw [zz12]; decide)
  have zz13 : ac13.tmps.size = 272 := hac13 ▸ size_put zz12
  obtain ⟨xo13, xi13, xd13, xg13, xp13⟩ := o26_13
  refine qd_skip (k := 13) xi13 xd13 (w_some xg13 (by kernel_rfl) e137_13 rfl) ?_
  obtain ⟨ac14, hac14⟩ : ∃ x, ac13.put (some 141) (undef) = x := ⟨_, rfl⟩
  rw [hac14]
  have e12_14 : ac14.eval (.tmp 12) = _ := hac14 ▸ ev_put e12_13 (by decide)
  have e137_14 : ac14.eval (.tmp 137) = _ := hac14 ▸ ev_put e137_13 (by decide)
  have e141_14 : ac14.eval (.tmp 141) = _ := hac14 ▸ ev_same (by rw [zz13]; decide)
  have zz14 : ac14.tmps.size = 272 := hac14 ▸ size_put zz13
  obtain ⟨xo14, xi14, xd14, xg14, xp14⟩ := o26_14
  refine qd_skip (k := 14) xi14 xd14 (w_some xg14 (by kernel_rfl) e137_14 rfl) ?_
  obtain ⟨ac15, hac15⟩ : ∃ x, ac14.put (some 142) (undef) = x := ⟨_, rfl⟩
  rw [hac15]
  have e12_15 : ac15.eval (.tmp 12) = _ := hac15 ▸ ev_put e12_14 (by decide)
  have e137_15 : ac15.eval (.tmp 137) = _ := hac15 ▸ ev_put e137_14 (by decide)
  have e141_15 : ac15.eval (.tmp 141) = _ := hac15 ▸ ev_put e141_14 (by decide)
  have e142_15 : ac15.eval (.tmp 142) = _ := hac15 ▸ ev_same (by rw [zz14]; decide)
  have zz15 : ac15.tmps.size = 272 := hac15 ▸ size_put zz14
  obtain ⟨xo15, xi15, xd15, xg15, xp15⟩ := o26_15
  refine qd_skip (k := 15) xi15 xd15 (w_some xg15 (by kernel_rfl) e137_15 rfl) ?_
  obtain ⟨ac16, hac16⟩ : ∃ x, ac15.put (some 143) (undef) = x := ⟨_, rfl⟩
  rw [hac16]
  have e12_16 : ac16.eval (.tmp 12) = _ := hac16 ▸ ev_put e12_15 (by decide)
  have e137_16 : ac16.eval (.tmp 137) = _ := hac16 ▸ ev_put e137_15 (by decide)
  have e141_16 : ac16.eval (.tmp 141) = _ := hac16 ▸ ev_put e141_15 (by decide)
  have e143_16 : ac16.eval (.tmp 143) = _ := hac16 ▸ ev_same (by rw [zz15]; decide)
  have zz16 : ac16.tmps.size = 272 := hac16 ▸ size_put zz15
  obtain ⟨xo16, xi16, xd16, xg16, xp16⟩ := o26_16
  refine qd_skip (k := 16) xi16 xd16 (w_some xg16 (by kernel_rfl) e137_16 rfl) ?_
  obtain ⟨ac17, hac17⟩ : ∃ x, ac16.put (some 144) (undef) = x := ⟨_, rfl⟩
  rw [hac17]
  have e12_17 : ac17.eval (.tmp 12) = _ := hac17 ▸ ev_put e12_16 (by decide)
  have e137_17 : ac17.eval (.tmp 137) = _ := hac17 ▸ ev_put e137_16 (by decide)
  have e141_17 : ac17.eval (.tmp 141) = _ := hac17 ▸ ev_put e141_16 (by decide)
  have e144_17 : ac17.eval (.tmp 144) = _ := hac17 ▸ ev_same (by rw [zz16]; decide)
  have zz17 : ac17.tmps.size = 272 := hac17 ▸ size_put zz16
  obtain ⟨xo17, xi17, xd17, xg17, xp17⟩ := o26_17
  refine qd_skip (k := 17) xi17 xd17 (w_some xg17 (by kernel_rfl) e137_17 rfl) ?_
  obtain ⟨ac18, hac18⟩ : ∃ x, ac17.put (some 145) (undef) = x := ⟨_, rfl⟩
  rw [hac18]
  have e12_18 : ac18.eval (.tmp 12) = _ := hac18 ▸ ev_put e12_17 (by decide)
  have e137_18 : ac18.eval (.tmp 137) = _ := hac18 ▸ ev_put e137_17 (by decide)
  have e141_18 : ac18.eval (.tmp 141) = _ := hac18 ▸ ev_put e141_17 (by decide)
  have e145_18 : ac18.eval (.tmp 145) = _ := hac18 ▸ ev_same (by rw [zz17]; decide)
  have zz18 : ac18.tmps.size = 272 := hac18 ▸ size_put zz17
  obtain ⟨xo18, xi18, xd18, xg18, xp18⟩ := o26_18
  refine qd_skip (k := 18) xi18 xd18 (w_some xg18 (by kernel_rfl) e137_18 rfl) ?_
  obtain ⟨ac19, hac19⟩ : ∃ x, ac18.put (some 146) (undef) = x := ⟨_, rfl⟩
  rw [hac19]
  have e12_19 : ac19.eval (.tmp 12) = _ := hac19 ▸ ev_put e12_18 (by decide)
  have e137_19 : ac19.eval (.tmp 137) = _ := hac19 ▸ ev_put e137_18 (by decide)
  have e146_19 : ac19.eval (.tmp 146) = _ := hac19 ▸ ev_same (by rw [zz18]; decide)
  have zz19 : ac19.tmps.size = 272 := hac19 ▸ size_put zz18
  obtain ⟨xo19, xi19, xd19, xg19, xp19⟩ := o26_19
  refine qd_skip (k := 19) xi19 xd19 (w_some xg19 (by kernel_rfl) e137_19 rfl) ?_
  obtain ⟨ac20, hac20⟩ : ∃ x, ac19.put (some 147) (undef) = x := ⟨_, rfl⟩
  rw [hac20]
  have e12_20 : ac20.eval (.tmp 12) = _ := hac20 ▸ ev_put e12_19 (by decide)
  have e137_20 : ac20.eval (.tmp 137) = _ := hac20 ▸ ev_put e137_19 (by decide)
  have e147_20 : ac20.eval (.tmp 147) = _ := hac20 ▸ ev_same (by rw [zz19]; decide)
  have zz20 : ac20.tmps.size = 272 := hac20 ▸ size_put zz19
  obtain ⟨xo20, xi20, xd20, xg20, xp20⟩ := o26_20
  refine qd_want (k := 20) (v := .bool false) xi20 xd20 (w_none xg20) (fun w _ => run_pick xp20 e137_20 (fun q => by cases q) (fun _ => rfl) w) ?_
  obtain ⟨ac21, hac21⟩ : ∃ x, ac20.put (some 148) (.bool false) = x := ⟨_, rfl⟩
  rw [hac21]
  have e12_21 : ac21.eval (.tmp 12) = _ := hac21 ▸ ev_put e12_20 (by decide)
  have e148_21 : ac21.eval (.tmp 148) = _ := hac21 ▸ ev_same (by rw [zz20]; decide)
  have zz21 : ac21.tmps.size = 272 := hac21 ▸ size_put zz20
  obtain ⟨xo21, xi21, xd21, xg21, xp21⟩ := o26_21
  refine qd_want (k := 21) (v := .bool false) xi21 xd21 (w_none xg21) (fun w _ => run_move xp21 e148_21 w) ?_
  obtain ⟨ac22, hac22⟩ : ∃ x, ac21.put (some 149) (.bool false) = x := ⟨_, rfl⟩
  rw [hac22]
  have e12_22 : ac22.eval (.tmp 12) = _ := hac22 ▸ ev_put e12_21 (by decide)
  have e149_22 : ac22.eval (.tmp 149) = _ := hac22 ▸ ev_same (by rw [zz21]; decide)
  have zz22 : ac22.tmps.size = 272 := hac22 ▸ size_put zz21
  obtain ⟨xo22, xi22, xd22, xg22, xp22⟩ := o26_22
  refine qd_skip (k := 22) xi22 xd22 (w_some xg22 (by kernel_rfl) e149_22 rfl) ?_
  obtain ⟨ac23, hac23⟩ : ∃ x, ac22.put (some 150) (undef) = x := ⟨_, rfl⟩
  rw [hac23]
  have e12_23 : ac23.eval (.tmp 12) = _ := hac23 ▸ ev_put e12_22 (by decide)
  have e149_23 : ac23.eval (.tmp 149) = _ := hac23 ▸ ev_put e149_22 (by decide)
  have e150_23 : ac23.eval (.tmp 150) = _ := hac23 ▸ ev_same (by rw [zz22]; decide)
  have zz23 : ac23.tmps.size = 272 := hac23 ▸ size_put zz22
  obtain ⟨xo23, xi23, xd23, xg23, xp23⟩ := o26_23
  refine qd_skip (k := 23) xi23 xd23 (w_some xg23 (by kernel_rfl) e149_23 rfl) ?_
  obtain ⟨ac24, hac24⟩ : ∃ x, ac23.put (some 151) (undef) = x := ⟨_, rfl⟩
  rw [hac24]
  have e12_24 : ac24.eval (.tmp 12) = _ := hac24 ▸ ev_put e12_23 (by decide)
  have e149_24 : ac24.eval (.tmp 149) = _ := hac24 ▸ ev_put e149_23 (by decide)
  have e151_24 : ac24.eval (.tmp 151) = _ := hac24 ▸ ev_same (by rw [zz23]; decide)
  have zz24 : ac24.tmps.size = 272 := hac24 ▸ size_put zz23
  obtain ⟨xo24, xi24, xd24, xg24, xp24⟩ := o26_24
  refine qd_skip (k := 24) xi24 xd24 (w_some xg24 (by kernel_rfl) e149_24 rfl) ?_
  obtain ⟨ac25, hac25⟩ : ∃ x, ac24.put (some 152) (undef) = x := ⟨_, rfl⟩
  rw [hac25]
  have e12_25 : ac25.eval (.tmp 12) = _ := hac25 ▸ ev_put e12_24 (by decide)
  have e149_25 : ac25.eval (.tmp 149) = _ := hac25 ▸ ev_put e149_24 (by decide)
  have e152_25 : ac25.eval (.tmp 152) = _ := hac25 ▸ ev_same (by rw [zz24]; decide)
  have zz25 : ac25.tmps.size = 272 := hac25 ▸ size_put zz24
  obtain ⟨xo25, xi25, xd25, xg25, xp25⟩ := o26_25
  refine qd_skip (k := 25) xi25 xd25 (w_some xg25 (by kernel_rfl) e149_25 rfl) ?_
  obtain ⟨ac26, hac26⟩ : ∃ x, ac25.put (some 153) (undef) = x := ⟨_, rfl⟩
  rw [hac26]
  have e12_26 : ac26.eval (.tmp 12) = _ := hac26 ▸ ev_put e12_25 (by decide)
  have e149_26 : ac26.eval (.tmp 149) = _ := hac26 ▸ ev_put e149_25 (by decide)
  have e153_26 : ac26.eval (.tmp 153) = _ := hac26 ▸ ev_same (by rw [zz25]; decide)
  have zz26 : ac26.tmps.size = 272 := hac26 ▸ size_put zz25
  obtain ⟨xo26, xi26, xd26, xg26, xp26⟩ := o26_26
  refine qd_skip (k := 26) xi26 xd26 (w_some xg26 (by kernel_rfl) e149_26 rfl) ?_
  obtain ⟨ac27, hac27⟩ : ∃ x, ac26.put (some 154) (undef) = x := ⟨_, rfl⟩
  rw [hac27]
  have e12_27 : ac27.eval (.tmp 12) = _ := hac27 ▸ ev_put e12_26 (by decide)
  have e149_27 : ac27.eval (.tmp 149) = _ := hac27 ▸ ev_put e149_26 (by decide)
  have e153_27 : ac27.eval (.tmp 153) = _ := hac27 ▸ ev_put e153_26 (by decide)
  have e154_27 : ac27.eval (.tmp 154) = _ := hac27 ▸ ev_same (by rw [zz26]; decide)
  have zz27 : ac27.tmps.size = 272 := hac27 ▸ size_put zz26
  obtain ⟨xo27, xi27, xd27, xg27, xp27⟩ := o26_27
  refine qd_skip (k := 27) xi27 xd27 (w_some xg27 (by kernel_rfl) e149_27 rfl) ?_
  obtain ⟨ac28, hac28⟩ : ∃ x, ac27.put (some 155) (undef) = x := ⟨_, rfl⟩
  rw [hac28]
  have e12_28 : ac28.eval (.tmp 12) = _ := hac28 ▸ ev_put e12_27 (by decide)
  have e149_28 : ac28.eval (.tmp 149) = _ := hac28 ▸ ev_put e149_27 (by decide)
  have e153_28 : ac28.eval (.tmp 153) = _ := hac28 ▸ ev_put e153_27 (by decide)
  have e155_28 : ac28.eval (.tmp 155) = _ := hac28 ▸ ev_same (by rw [zz27]; decide)
  have zz28 : ac28.tmps.size = 272 := hac28 ▸ size_put zz27
  obtain ⟨xo28, xi28, xd28, xg28, xp28⟩ := o26_28
  refine qd_skip (k := 28) xi28 xd28 (w_some xg28 (by kernel_rfl) e149_28 rfl) ?_
  obtain ⟨ac29, hac29⟩ : ∃ x, ac28.put (some 156) (undef) = x := ⟨_, rfl⟩
  rw [hac29]
  have e12_29 : ac29.eval (.tmp 12) = _ := hac29 ▸ ev_put e12_28 (by decide)
  have e149_29 : ac29.eval (.tmp 149) = _ := hac29 ▸ ev_put e149_28 (by decide)
  have e153_29 : ac29.eval (.tmp 153) = _ := hac29 ▸ ev_put e153_28 (by decide)
  have e156_29 : ac29.eval (.tmp 156) = _ := hac29 ▸ ev_same (by rw [zz28]; decide)
  have zz29 : ac29.tmps.size = 272 := hac29 ▸ size_put zz28
  obtain ⟨xo29, xi29, xd29, xg29, xp29⟩ := o26_29
  refine qd_skip (k := 29) xi29 xd29 (w_some xg29 (by kernel_rfl) e149_29 rfl) ?_
  obtain ⟨ac30, hac30⟩ : ∃ x, ac29.put (some 157) (undef) = x := ⟨_, rfl⟩
  rw [hac30]
  have e12_30 : ac30.eval (.tmp 12) = _ := hac30 ▸ ev_put e12_29 (by decide)
  have e149_30 : ac30.eval (.tmp 149) = _ := hac30 ▸ ev_put e149_29 (by decide)
  have e153_30 : ac30.eval (.tmp 153) = _ := hac30 ▸ ev_put e153_29 (by decide)
  have e157_30 : ac30.eval (.tmp 157) = _ := hac30 ▸ ev_same (by rw [zz29]; decide)
  have zz30 : ac30.tmps.size = 272 := hac30 ▸ size_put zz29
  obtain ⟨xo30, xi30, xd30, xg30, xp30⟩ := o26_30
  refine qd_skip (k := 30) xi30 xd30 (w_some xg30 (by kernel_rfl) e149_30 rfl) ?_
  obtain ⟨ac31, hac31⟩ : ∃ x, ac30.put (some 158) (undef) = x := ⟨_, rfl⟩
  rw [hac31]
  have e12_31 : ac31.eval (.tmp 12) = _ := hac31 ▸ ev_put e12_30 (by decide)
  have e149_31 : ac31.eval (.tmp 149) = _ := hac31 ▸ ev_put e149_30 (by decide)
  have e158_31 : ac31.eval (.tmp 158) = _ := hac31 ▸ ev_same (by rw [zz30]; decide)
  have zz31 : ac31.tmps.size = 272 := hac31 ▸ size_put zz30
  obtain ⟨xo31, xi31, xd31, xg31, xp31⟩ := o26_31
  refine qd_skip (k := 31) xi31 xd31 (w_some xg31 (by kernel_rfl) e149_31 rfl) ?_
  obtain ⟨ac32, hac32⟩ : ∃ x, ac31.put (some 159) (undef) = x := ⟨_, rfl⟩
  rw [hac32]
  have e12_32 : ac32.eval (.tmp 12) = _ := hac32 ▸ ev_put e12_31 (by decide)
  have e149_32 : ac32.eval (.tmp 149) = _ := hac32 ▸ ev_put e149_31 (by decide)
  have e159_32 : ac32.eval (.tmp 159) = _ := hac32 ▸ ev_same (by rw [zz31]; decide)
  have zz32 : ac32.tmps.size = 272 := hac32 ▸ size_put zz31
  obtain ⟨xo32, xi32, xd32, xg32, xp32⟩ := o26_32
  refine qd_skip (k := 32) xi32 xd32 (w_some xg32 (by kernel_rfl) e149_32 rfl) ?_
  obtain ⟨ac33, hac33⟩ : ∃ x, ac32.put (some 160) (undef) = x := ⟨_, rfl⟩
  rw [hac33]
  have e12_33 : ac33.eval (.tmp 12) = _ := hac33 ▸ ev_put e12_32 (by decide)
  have e149_33 : ac33.eval (.tmp 149) = _ := hac33 ▸ ev_put e149_32 (by decide)
  have e160_33 : ac33.eval (.tmp 160) = _ := hac33 ▸ ev_same (by rw [zz32]; decide)
  have zz33 : ac33.tmps.size = 272 := hac33 ▸ size_put zz32
  obtain ⟨xo33, xi33, xd33, xg33, xp33⟩ := o26_33
  refine qd_skip (k := 33) xi33 xd33 (w_some xg33 (by kernel_rfl) e149_33 rfl) ?_
  obtain ⟨ac34, hac34⟩ : ∃ x, ac33.put (some 161) (undef) = x := ⟨_, rfl⟩
  rw [hac34]
  have e12_34 : ac34.eval (.tmp 12) = _ := hac34 ▸ ev_put e12_33 (by decide)
  have e149_34 : ac34.eval (.tmp 149) = _ := hac34 ▸ ev_put e149_33 (by decide)
  have e161_34 : ac34.eval (.tmp 161) = _ := hac34 ▸ ev_same (by rw [zz33]; decide)
  have zz34 : ac34.tmps.size = 272 := hac34 ▸ size_put zz33
  obtain ⟨xo34, xi34, xd34, xg34, xp34⟩ := o26_34
  refine qd_skip (k := 34) xi34 xd34 (w_undef xg34 (by kernel_rfl) e161_34) ?_
  obtain ⟨ac35, hac35⟩ : ∃ x, ac34.put (some 162) (undef) = x := ⟨_, rfl⟩
  rw [hac35]
  have e12_35 : ac35.eval (.tmp 12) = _ := hac35 ▸ ev_put e12_34 (by decide)
  have e149_35 : ac35.eval (.tmp 149) = _ := hac35 ▸ ev_put e149_34 (by decide)
  have e161_35 : ac35.eval (.tmp 161) = _ := hac35 ▸ ev_put e161_34 (by decide)
  have e162_35 : ac35.eval (.tmp 162) = _ := hac35 ▸ ev_same (by rw [zz34]; decide)
  have zz35 : ac35.tmps.size = 272 := hac35 ▸ size_put zz34
  obtain ⟨xo35, xi35, xd35, xg35, xp35⟩ := o26_35
  refine qd_skip (k := 35) xi35 xd35 (w_undef xg35 (by kernel_rfl) e161_35) ?_
  obtain ⟨ac36, hac36⟩ : ∃ x, ac35.put (some 163) (undef) = x := ⟨_, rfl⟩
  rw [hac36]
  have e12_36 : ac36.eval (.tmp 12) = _ := hac36 ▸ ev_put e12_35 (by decide)
  have e149_36 : ac36.eval (.tmp 149) = _ := hac36 ▸ ev_put e149_35 (by decide)
  have e161_36 : ac36.eval (.tmp 161) = _ := hac36 ▸ ev_put e161_35 (by decide)
  have e163_36 : ac36.eval (.tmp 163) = _ := hac36 ▸ ev_same (by rw [zz35]; decide)
  have zz36 : ac36.tmps.size = 272 := hac36 ▸ size_put zz35
  obtain ⟨xo36, xi36, xd36, xg36, xp36⟩ := o26_36
  refine qd_skip (k := 36) xi36 xd36 (w_undef xg36 (by kernel_rfl) e161_36) ?_
  obtain ⟨ac37, hac37⟩ : ∃ x, ac36.put (some 164) (undef) = x := ⟨_, rfl⟩
  rw [hac37]
  have e12_37 : ac37.eval (.tmp 12) = _ := hac37 ▸ ev_put e12_36 (by decide)
  have e149_37 : ac37.eval (.tmp 149) = _ := hac37 ▸ ev_put e149_36 (by decide)
  have e161_37 : ac37.eval (.tmp 161) = _ := hac37 ▸ ev_put e161_36 (by decide)
  have e164_37 : ac37.eval (.tmp 164) = _ := hac37 ▸ ev_same (by rw [zz36]; decide)
  have zz37 : ac37.tmps.size = 272 := hac37 ▸ size_put zz36
  obtain ⟨xo37, xi37, xd37, xg37, xp37⟩ := o26_37
  refine qd_skip (k := 37) xi37 xd37 (w_undef xg37 (by kernel_rfl) e161_37) ?_
  obtain ⟨ac38, hac38⟩ : ∃ x, ac37.put (some 165) (undef) = x := ⟨_, rfl⟩
  rw [hac38]
  have e12_38 : ac38.eval (.tmp 12) = _ := hac38 ▸ ev_put e12_37 (by decide)
  have e149_38 : ac38.eval (.tmp 149) = _ := hac38 ▸ ev_put e149_37 (by decide)
  have e161_38 : ac38.eval (.tmp 161) = _ := hac38 ▸ ev_put e161_37 (by decide)
  have e165_38 : ac38.eval (.tmp 165) = _ := hac38 ▸ ev_same (by rw [zz37]; decide)
  have zz38 : ac38.tmps.size = 272 := hac38 ▸ size_put zz37
  obtain ⟨xo38, xi38, xd38, xg38, xp38⟩ := o26_38
  refine qd_skip (k := 38) xi38 xd38 (w_undef xg38 (by kernel_rfl) e161_38) ?_
  obtain ⟨ac39, hac39⟩ : ∃ x, ac38.put (some 166) (undef) = x := ⟨_, rfl⟩
  rw [hac39]
  have e12_39 : ac39.eval (.tmp 12) = _ := hac39 ▸ ev_put e12_38 (by decide)
  have e149_39 : ac39.eval (.tmp 149) = _ := hac39 ▸ ev_put e149_38 (by decide)
  have e161_39 : ac39.eval (.tmp 161) = _ := hac39 ▸ ev_put e161_38 (by decide)
  have e165_39 : ac39.eval (.tmp 165) = _ := hac39 ▸ ev_put e165_38 (by decide)
  have e166_39 : ac39.eval (.tmp 166) = _ := hac39 ▸ ev_same (by rw [zz38]; decide)
  have zz39 : ac39.tmps.size = 272 := hac39 ▸ size_put zz38
  obtain ⟨xo39, xi39, xd39, xg39, xp39⟩ := o26_39
  refine qd_skip (k := 39) xi39 xd39 (w_undef xg39 (by kernel_rfl) e161_39) ?_
  obtain ⟨ac40, hac40⟩ : ∃ x, ac39.put (some 167) (undef) = x := ⟨_, rfl⟩
  rw [hac40]
  have e12_40 : ac40.eval (.tmp 12) = _ := hac40 ▸ ev_put e12_39 (by decide)
  have e149_40 : ac40.eval (.tmp 149) = _ := hac40 ▸ ev_put e149_39 (by decide)
  have e161_40 : ac40.eval (.tmp 161) = _ := hac40 ▸ ev_put e161_39 (by decide)
  have e165_40 : ac40.eval (.tmp 165) = _ := hac40 ▸ ev_put e165_39 (by decide)
  have e167_40 : ac40.eval (.tmp 167) = _ := hac40 ▸ ev_same (by rw [zz39]; decide)
  have zz40 : ac40.tmps.size = 272 := hac40 ▸ size_put zz39
  obtain ⟨xo40, xi40, xd40, xg40, xp40⟩ := o26_40
  refine qd_skip (k := 40) xi40 xd40 (w_undef xg40 (by kernel_rfl) e161_40) ?_
  obtain ⟨ac41, hac41⟩ : ∃ x, ac40.put (some 168) (undef) = x := ⟨_, rfl⟩
  rw [hac41]
  have e12_41 : ac41.eval (.tmp 12) = _ := hac41 ▸ ev_put e12_40 (by decide)
  have e149_41 : ac41.eval (.tmp 149) = _ := hac41 ▸ ev_put e149_40 (by decide)
  have e161_41 : ac41.eval (.tmp 161) = _ := hac41 ▸ ev_put e161_40 (by decide)
  have e165_41 : ac41.eval (.tmp 165) = _ := hac41 ▸ ev_put e165_40 (by decide)
  have e168_41 : ac41.eval (.tmp 168) = _ := hac41 ▸ ev_same (by rw [zz40]; decide)
  have zz41 : ac41.tmps.size = 272 := hac41 ▸ size_put zz40
  obtain ⟨xo41, xi41, xd41, xg41, xp41⟩ := o26_41
  refine qd_skip (k := 41) xi41 xd41 (w_undef xg41 (by kernel_rfl) e161_41) ?_
  obtain ⟨ac42, hac42⟩ : ∃ x, ac41.put (some 169) (undef) = x := ⟨_, rfl⟩
  rw [hac42]
  have e12_42 : ac42.eval (.tmp 12) = _ := hac42 ▸ ev_put e12_41 (by decide)
  have e149_42 : ac42.eval (.tmp 149) = _ := hac42 ▸ ev_put e149_41 (by decide)
  have e161_42 : ac42.eval (.tmp 161) = _ := hac42 ▸ ev_put e161_41 (by decide)
  have e165_42 : ac42.eval (.tmp 165) = _ := hac42 ▸ ev_put e165_41 (by decide)
  have e169_42 : ac42.eval (.tmp 169) = _ := hac42 ▸ ev_same (by rw [zz41]; decide)
  have zz42 : ac42.tmps.size = 272 := hac42 ▸ size_put zz41
  obtain ⟨xo42, xi42, xd42, xg42, xp42⟩ := o26_42
  refine qd_skip (k := 42) xi42 xd42 (w_undef xg42 (by kernel_rfl) e161_42) ?_
  obtain ⟨ac43, hac43⟩ : ∃ x, ac42.put (some 170) (undef) = x := ⟨_, rfl⟩
  rw [hac43]
  have e12_43 : ac43.eval (.tmp 12) = _ := hac43 ▸ ev_put e12_42 (by decide)
  have e149_43 : ac43.eval (.tmp 149) = _ := hac43 ▸ ev_put e149_42 (by decide)
  have e161_43 : ac43.eval (.tmp 161) = _ := hac43 ▸ ev_put e161_42 (by decide)
  have e170_43 : ac43.eval (.tmp 170) = _ := hac43 ▸ ev_same (by rw [zz42]; decide)
  have zz43 : ac43.tmps.size = 272 := hac43 ▸ size_put zz42
  obtain ⟨xo43, xi43, xd43, xg43, xp43⟩ := o26_43
  refine qd_skip (k := 43) xi43 xd43 (w_undef xg43 (by kernel_rfl) e161_43) ?_
  obtain ⟨ac44, hac44⟩ : ∃ x, ac43.put (some 171) (undef) = x := ⟨_, rfl⟩
  rw [hac44]
  have e12_44 : ac44.eval (.tmp 12) = _ := hac44 ▸ ev_put e12_43 (by decide)
  have e149_44 : ac44.eval (.tmp 149) = _ := hac44 ▸ ev_put e149_43 (by decide)
  have e161_44 : ac44.eval (.tmp 161) = _ := hac44 ▸ ev_put e161_43 (by decide)
  have e171_44 : ac44.eval (.tmp 171) = _ := hac44 ▸ ev_same (by rw [zz43]; decide)
  have zz44 : ac44.tmps.size = 272 := hac44 ▸ size_put zz43
  obtain ⟨xo44, xi44, xd44, xg44, xp44⟩ := o26_44
  refine qd_skip (k := 44) xi44 xd44 (w_some xg44 (by kernel_rfl) e149_44 rfl) ?_
  obtain ⟨ac45, hac45⟩ : ∃ x, ac44.put (some 172) (undef) = x := ⟨_, rfl⟩
  rw [hac45]
  have e12_45 : ac45.eval (.tmp 12) = _ := hac45 ▸ ev_put e12_44 (by decide)
  have e149_45 : ac45.eval (.tmp 149) = _ := hac45 ▸ ev_put e149_44 (by decide)
  have e172_45 : ac45.eval (.tmp 172) = _ := hac45 ▸ ev_same (by rw [zz44]; decide)
  have zz45 : ac45.tmps.size = 272 := hac45 ▸ size_put zz44
  obtain ⟨xo45, xi45, xd45, xg45, xp45⟩ := o26_45
  refine qd_skip (k := 45) xi45 xd45 (w_some xg45 (by kernel_rfl) e149_45 rfl) ?_
  obtain ⟨ac46, hac46⟩ : ∃ x, ac45.put (some 173) (undef) = x := ⟨_, rfl⟩
  rw [hac46]
  have e12_46 : ac46.eval (.tmp 12) = _ := hac46 ▸ ev_put e12_45 (by decide)
  have e149_46 : ac46.eval (.tmp 149) = _ := hac46 ▸ ev_put e149_45 (by decide)
  have e173_46 : ac46.eval (.tmp 173) = _ := hac46 ▸ ev_same (by rw [zz45]; decide)
  have zz46 : ac46.tmps.size = 272 := hac46 ▸ size_put zz45
  obtain ⟨xo46, xi46, xd46, xg46, xp46⟩ := o26_46
  refine qd_skip (k := 46) xi46 xd46 (w_undef xg46 (by kernel_rfl) e173_46) ?_
  obtain ⟨ac47, hac47⟩ : ∃ x, ac46.put (some 174) (undef) = x := ⟨_, rfl⟩
  rw [hac47]
  have e12_47 : ac47.eval (.tmp 12) = _ := hac47 ▸ ev_put e12_46 (by decide)
  have e149_47 : ac47.eval (.tmp 149) = _ := hac47 ▸ ev_put e149_46 (by decide)
  have e173_47 : ac47.eval (.tmp 173) = _ := hac47 ▸ ev_put e173_46 (by decide)
  have e174_47 : ac47.eval (.tmp 174) = _ := hac47 ▸ ev_same (by rw [zz46]; decide)
  have zz47 : ac47.tmps.size = 272 := hac47 ▸ size_put zz46
  obtain ⟨xo47, xi47, xd47, xg47, xp47⟩ := o26_47
  refine qd_skip (k := 47) xi47 xd47 (w_undef xg47 (by kernel_rfl) e173_47) ?_
  obtain ⟨ac48, hac48⟩ : ∃ x, ac47.put (some 175) (undef) = x := ⟨_, rfl⟩
  rw [hac48]
  have e12_48 : ac48.eval (.tmp 12) = _ := hac48 ▸ ev_put e12_47 (by decide)
  have e149_48 : ac48.eval (.tmp 149) = _ := hac48 ▸ ev_put e149_47 (by decide)
  have e173_48 : ac48.eval (.tmp 173) = _ := hac48 ▸ ev_put e173_47 (by decide)
  have e175_48 : ac48.eval (.tmp 175) = _ := hac48 ▸ ev_same (by rw [zz47]; decide)
  have zz48 : ac48.tmps.size = 272 := hac48 ▸ size_put zz47
  obtain ⟨xo48, xi48, xd48, xg48, xp48⟩ := o26_48
  refine qd_skip (k := 48) xi48 xd48 (w_undef xg48 (by kernel_rfl) e173_48) ?_
  obtain ⟨ac49, hac49⟩ : ∃ x, ac48.put (some 176) (undef) = x := ⟨_, rfl⟩
  rw [hac49]
  have e12_49 : ac49.eval (.tmp 12) = _ := hac49 ▸ ev_put e12_48 (by decide)
  have e149_49 : ac49.eval (.tmp 149) = _ := hac49 ▸ ev_put e149_48 (by decide)
  have e173_49 : ac49.eval (.tmp 173) = _ := hac49 ▸ ev_put e173_48 (by decide)
  have e176_49 : ac49.eval (.tmp 176) = _ := hac49 ▸ ev_same (by rw [zz48]; decide)
  have zz49 : ac49.tmps.size = 272 := hac49 ▸ size_put zz48
  obtain ⟨xo49, xi49, xd49, xg49, xp49⟩ := o26_49
  refine qd_skip (k := 49) xi49 xd49 (w_undef xg49 (by kernel_rfl) e173_49) ?_
  obtain ⟨ac50, hac50⟩ : ∃ x, ac49.put (some 177) (undef) = x := ⟨_, rfl⟩
  rw [hac50]
  have e12_50 : ac50.eval (.tmp 12) = _ := hac50 ▸ ev_put e12_49 (by decide)
  have e149_50 : ac50.eval (.tmp 149) = _ := hac50 ▸ ev_put e149_49 (by decide)
  have e173_50 : ac50.eval (.tmp 173) = _ := hac50 ▸ ev_put e173_49 (by decide)
  have e177_50 : ac50.eval (.tmp 177) = _ := hac50 ▸ ev_same (by rw [zz49]; decide)
  have zz50 : ac50.tmps.size = 272 := hac50 ▸ size_put zz49
  obtain ⟨xo50, xi50, xd50, xg50, xp50⟩ := o26_50
  refine qd_skip (k := 50) xi50 xd50 (w_undef xg50 (by kernel_rfl) e173_50) ?_
  obtain ⟨ac51, hac51⟩ : ∃ x, ac50.put (some 178) (undef) = x := ⟨_, rfl⟩
  rw [hac51]
  have e149_51 : ac51.eval (.tmp 149) = _ := hac51 ▸ ev_put e149_50 (by decide)
  have e173_51 : ac51.eval (.tmp 173) = _ := hac51 ▸ ev_put e173_50 (by decide)
  have e177_51 : ac51.eval (.tmp 177) = _ := hac51 ▸ ev_put e177_50 (by decide)
  have e178_51 : ac51.eval (.tmp 178) = _ := hac51 ▸ ev_same (by rw [zz50]; decide)
  have zz51 : ac51.tmps.size = 272 := hac51 ▸ size_put zz50
  obtain ⟨xo51, xi51, xd51, xg51, xp51⟩ := o26_51
  refine qd_skip (k := 51) xi51 xd51 (w_undef xg51 (by kernel_rfl) e173_51) ?_
  obtain ⟨ac52, hac52⟩ : ∃ x, ac51.put (some 179) (undef) = x := ⟨_, rfl⟩
  rw [hac52]
  have e149_52 : ac52.eval (.tmp 149) = _ := hac52 ▸ ev_put e149_51 (by decide)
  have e173_52 : ac52.eval (.tmp 173) = _ := hac52 ▸ ev_put e173_51 (by decide)
  have e177_52 : ac52.eval (.tmp 177) = _ := hac52 ▸ ev_put e177_51 (by decide)
  have e179_52 : ac52.eval (.tmp 179) = _ := hac52 ▸ ev_same (by rw [zz51]; decide)
  have zz52 : ac52.tmps.size = 272 := hac52 ▸ size_put zz51
  obtain ⟨xo52, xi52, xd52, xg52, xp52⟩ := o26_52
  refine qd_skip (k := 52) xi52 xd52 (w_undef xg52 (by kernel_rfl) e173_52) ?_
  obtain ⟨ac53, hac53⟩ : ∃ x, ac52.put (some 180) (undef) = x := ⟨_, rfl⟩
  rw [hac53]
  have e149_53 : ac53.eval (.tmp 149) = _ := hac53 ▸ ev_put e149_52 (by decide)
  have e173_53 : ac53.eval (.tmp 173) = _ := hac53 ▸ ev_put e173_52 (by decide)
  have e177_53 : ac53.eval (.tmp 177) = _ := hac53 ▸ ev_put e177_52 (by decide)
  have e180_53 : ac53.eval (.tmp 180) = _ := hac53 ▸ ev_same (by rw [zz52]; decide)
  have zz53 : ac53.tmps.size = 272 := hac53 ▸ size_put zz52
  obtain ⟨xo53, xi53, xd53, xg53, xp53⟩ := o26_53
  refine qd_skip (k := 53) xi53 xd53 (w_undef xg53 (by kernel_rfl) e173_53) ?_
  obtain ⟨ac54, hac54⟩ : ∃ x, ac53.put (some 181) (undef) = x := ⟨_, rfl⟩
  rw [hac54]
  have e149_54 : ac54.eval (.tmp 149) = _ := hac54 ▸ ev_put e149_53 (by decide)
  have e173_54 : ac54.eval (.tmp 173) = _ := hac54 ▸ ev_put e173_53 (by decide)
  have e177_54 : ac54.eval (.tmp 177) = _ := hac54 ▸ ev_put e177_53 (by decide)
  have e181_54 : ac54.eval (.tmp 181) = _ := hac54 ▸ ev_same (by rw [zz53]; decide)
  have zz54 : ac54.tmps.size = 272 := hac54 ▸ size_put zz53
  obtain ⟨xo54, xi54, xd54, xg54, xp54⟩ := o26_54
  refine qd_skip (k := 54) xi54 xd54 (w_undef xg54 (by kernel_rfl) e173_54) ?_
  obtain ⟨ac55, hac55⟩ : ∃ x, ac54.put (some 182) (undef) = x := ⟨_, rfl⟩
  rw [hac55]
  have e149_55 : ac55.eval (.tmp 149) = _ := hac55 ▸ ev_put e149_54 (by decide)
  have e173_55 : ac55.eval (.tmp 173) = _ := hac55 ▸ ev_put e173_54 (by decide)
  have e182_55 : ac55.eval (.tmp 182) = _ := hac55 ▸ ev_same (by rw [zz54]; decide)
  have zz55 : ac55.tmps.size = 272 := hac55 ▸ size_put zz54
  obtain ⟨xo55, xi55, xd55, xg55, xp55⟩ := o26_55
  refine qd_skip (k := 55) xi55 xd55 (w_undef xg55 (by kernel_rfl) e173_55) ?_
  obtain ⟨ac56, hac56⟩ : ∃ x, ac55.put (some 183) (undef) = x := ⟨_, rfl⟩
  rw [hac56]
  have e149_56 : ac56.eval (.tmp 149) = _ := hac56 ▸ ev_put e149_55 (by decide)
  have e173_56 : ac56.eval (.tmp 173) = _ := hac56 ▸ ev_put e173_55 (by decide)
  have e183_56 : ac56.eval (.tmp 183) = _ := hac56 ▸ ev_same (by rw [zz55]; decide)
  have zz56 : ac56.tmps.size = 272 := hac56 ▸ size_put zz55
  obtain ⟨xo56, xi56, xd56, xg56, xp56⟩ := o26_56
  refine qd_skip (k := 56) xi56 xd56 (w_some xg56 (by kernel_rfl) e149_56 rfl) ?_
  obtain ⟨ac57, hac57⟩ : ∃ x, ac56.put (some 184) (undef) = x := ⟨_, rfl⟩
  rw [hac57]
  have e149_57 : ac57.eval (.tmp 149) = _ := hac57 ▸ ev_put e149_56 (by decide)
  have e184_57 : ac57.eval (.tmp 184) = _ := hac57 ▸ ev_same (by rw [zz56]; decide)
  have zz57 : ac57.tmps.size = 272 := hac57 ▸ size_put zz56
  obtain ⟨xo57, xi57, xd57, xg57, xp57⟩ := o26_57
  refine qd_want (k := 57) (v := .bool false) xi57 xd57 (w_none xg57) (fun w _ => run_pick xp57 e149_57 (fun q => by cases q) (fun _ => rfl) w) ?_
  obtain ⟨ac58, hac58⟩ : ∃ x, ac57.put (some 185) (.bool false) = x := ⟨_, rfl⟩
  rw [hac58]
  have zz58 : ac58.tmps.size = 272 := hac58 ▸ size_put zz57
  refine qd_end (k := 58) (by kernel_rfl) ?_
  rintro w' ⟨m, rfl⟩
  subst hac58 hac57 hac56 hac55 hac54 hac53 hac52 hac51 hac50 hac49 hac48 hac47 hac46 hac45 hac44 hac43 hac42 hac41 hac40 hac39 hac38 hac37 hac36 hac35 hac34 hac33 hac32 hac31 hac30 hac29 hac28 hac27 hac26 hac25 hac24 hac23 hac22 hac21 hac20 hac19 hac18 hac17 hac16 hac15 hac14 hac13 hac12 hac11 hac10 hac9 hac8 hac7 hac6 hac5 hac4 hac3 hac2 hac1
  exact hk m
end Go.Proofs.YthbffonedpeeiaaDoor
/-
  LSQ's LAW LsqMemory: may the oldest one retire? In its frame.
-/
namespace Go.Proofs.YthbffonedpeeiaaDoor
open Go Go.RowKit
set_option maxRecDepth 100000 in
set_option maxHeartbeats 4000000 in
theorem reg26 {u0 u1 u2 u3 u4 u5 u6 u7 u8 u9 u10 u11 u13 u14 u15 u16 u17 u18 u19 u20 u21 u22 u23 u24 u25 u26 u27 u28 u29 u30 u31 u32 u33 u34 u35 u36 u37 u38 u39 u40 u41 u42 u43 u44 u45 u46 u47 u48 u49 u50 u51 u52 u53 u54 u55 u56 u57 u58 u59 u60 u61 u62 u63 u64 u65 u66 u67 u68 u69 u70 u71 u72 u73 u74 u75 u76 u77 u78 u79 u80 u81 u82 u83 u84 u85 u86 u87 u88 u89 u90 u91 u92 u93 u94 u95 u96 u97 u98 u99 u100 u101 u102 u103 u104 u105 u106 u107 u108 u109 u110 u111 u112 u113 u114 u115 u116 u117 u118 u119 u120 u121 u122 u123 u124 u125 u126 u127 u128 u129 u130 u131 u132 u133 u134 u135 u136 u137 u138 u139 u140 u141 u142 u143 u144 u145 u146 u147 u148 u149 u150 u151 u152 u153 u154 u155 u156 u157 u158 u159 u160 u161 u162 u163 u164 u165 u166 u167 u168 u169 u170 u171 u172 u173 u174 u175 u176 u177 u178 u179 u180 u181 u182 u183 u184 u185 u186 u187 u188 u189 u190 u191 u192 u193 u194 u195 u196 u197 u198 u199 u200 u201 u202 u203 u204 u205 u206 u207 u208 u209 u210 u211 u212 u213 u214 u215 u216 u217 u218 u219 u220 u221 u222 u223 u224 u225 u226 u227 u228 u229 u230 u231 u232 u233 u234 u235 u236 u237 u238 u239 u240 u241 u242 u243 u244 u245 u246 u247 u248 u249 u250 u251 u252 u253 u254 u255 u256 u257 u258 u259 u260 u261 u262 u263 u264 u265 u266 u267 u268 u269 u270 u271 : Value} {ds : List Deferred} (g : Nat → Acc) (n r : Nat) (w W0 : World) (q cl : Nat) (v1 : Value) (lp : Option Addr) (b : Nat → Nat) (M1 : Ms) (hl : Accs w lp n g) (hX : Xm w W0 q v1 (.slice lp n cl) b n M1) (hK1 : Kept g n M1 r) {K : Act → World → Prop}
    (hk : ∀ (t128 t129 t130 t131 t132 t133 t134 t135 t136 t137 t138 t139 t140 t141 t142 t143 t144 t145 t146 t147 t148 t149 t150 t151 t152 t153 t154 t155 t156 t157 t158 t159 t160 t161 t162 t163 t164 t165 t166 t167 t168 t169 t170 t171 t172 t173 t174 t175 t176 t177 t178 t179 t180 t181 t182 t183 t184 : Value) (y : World), Below W0.heap.size W0 y → K ⟨#[u0, u1, u2, u3, u4, u5, u6, u7, u8, u9, u10, u11, .pointer (some ⟨b 0, 0, none⟩), u13, u14, u15, u16, u17, u18, u19, u20, u21, u22, u23, u24, u25, u26, u27, u28, u29, u30, u31, u32, u33, u34, u35, u36, u37, u38, u39, u40, u41, u42, u43, u44, u45, u46, u47, u48, u49, u50, u51, u52, u53, u54, u55, u56, u57, u58, u59, u60, u61, u62, u63, u64, u65, u66, u67, u68, u69, u70, u71, u72, u73, u74, u75, u76, u77, u78, u79, u80, u81, u82, u83, u84, u85, u86, u87, u88, u89, u90, u91, u92, u93, u94, u95, u96, u97, u98, u99, u100, u101, u102, u103, u104, u105, u106, u107, u108, u109, u110, u111, u112, u113, u114, u115, u116, u117, u118, u119, u120, u121, u122, u123, u124, u125, u126, u127, t128, t129, t130, t131, t132, t133, t134, t135, t136, t137, t138, t139, t140, t141, t142, t143, t144, t145, t146, t147, t148, t149, t150, t151, t152, t153, t154, t155, t156, t157, t158, t159, t160, t161, t162, t163, t164, t165, t166, t167, t168, t169, t170, t171, t172, t173, t174, t175, t176, t177, t178, t179, t180, t181, t182, t183, t184, .bool (M1.may g), u186, u187, u188, u189, u190, u191, u192, u193, u194, u195, u196, u197, u198, u199, u200, u201, u202, u203, u204, u205, u206, u207, u208, u209, u210, u211, u212, u213, u214, u215, u216, u217, u218, u219, u220, u221, u222, u223, u224, u225, u226, u227, u228, u229, u230, u231, u232, u233, u234, u235, u236, u237, u238, u239, u240, u241, u242, u243, u244, u245, u246, u247, u248, u249, u250, u251, u252, u253, u254, u255, u256, u257, u258, u259, u260, u261, u262, u263, u264, u265, u266, u267, u268, u269, u270, u271], ds⟩ y) : (regIn Tryd.f4.body 26).wp Tryd.prog (Exit.then K NoX) ⟨#[u0, u1, u2, u3, u4, u5, u6, u7, u8, u9, u10, u11, .pointer (some ⟨b 0, 0, none⟩), u13, u14, u15, u16, u17, u18, u19, u20, u21, u22, u23, u24, u25, u26, u27, u28, u29, u30, u31, u32, u33, u34, u35, u36, u37, u38, u39, u40, u41, u42, u43, u44, u45, u46, u47, u48, u49, u50, u51, u52, u53, u54, u55, u56, u57, u58, u59, u60, u61, u62, u63, u64, u65, u66, u67, u68, u69, u70, u71, u72, u73, u74, u75, u76, u77, u78, u79, u80, u81, u82, u83, u84, u85, u86, u87, u88, u89, u90, u91, u92, u93, u94, u95, u96, u97, u98, u99, u100, u101, u102, u103, u104, u105, u106, u107, u108, u109, u110, u111, u112, u113, u114, u115, u116, u117, u118, u119, u120, u121, u122, u123, u124, u125, u126, u127, u128, u129, u130, u131, u132, u133, u134, u135, u136, u137, u138, u139, u140, u141, u142, u143, u144, u145, u146, u147, u148, u149, u150, u151, u152, u153, u154, u155, u156, u157, u158, u159, u160, u161, u162, u163, u164, u165, u166, u167, u168, u169, u170, u171, u172, u173, u174, u175, u176, u177, u178, u179, u180, u181, u182, u183, u184, u185, u186, u187, u188, u189, u190, u191, u192, u193, u194, u195, u196, u197, u198, u199, u200, u201, u202, u203, u204, u205, u206, u207, u208, u209, u210, u211, u212, u213, u214, u215, u216, u217, u218, u219, u220, u221, u222, u223, u224, u225, u226, u227, u228, u229, u230, u231, u232, u233, u234, u235, u236, u237, u238, u239, u240, u241, u242, u243, u244, u245, u246, u247, u248, u249, u250, u251, u252, u253, u254, u255, u256, u257, u258, u259, u260, u261, u262, u263, u264, u265, u266, u267, u268, u269, u270, u271], ds⟩ W0 := by
  have HQ := Hid.in hk
  have HB : Hid (∀ k, Below W0.heap.size W0 (W0.drewN k)) := fun k => below_drewN W0 k
  obtain ⟨-, -, c1, c2, c3, -, c5, c6, c7, -⟩ := hX.cells
  have hio := hK1.io
  have k2 := hX.c 2 (by decide)
  have k3 := hX.c 3 (by decide)
  have k4 := hX.c 4 (by decide)
  have hlow := hX.low
  obtain ⟨ot, hot⟩ : ∃ ot, M1.out = ot := ⟨_, rfl⟩
  obtain ⟨i1, hi1⟩ : ∃ i1, M1.inn = i1 := ⟨_, rfl⟩
  have hmay : M1.may g = (decide (ot < i1) && (M1.given ot && (((g ot).st && M1.known ot) || M1.done ot))) := by unfold Ms.may; rw [hot, hi1]
  rw [hmay] at HQ
  rw [hot] at c3 hio
  rw [hi1] at c2 hio
  clear hk hX hK1 hmay hot hi1
  by_cases ho : ot < i1
  · have hon : ot < n := by omega
    have d1 : decide ((ot : Int) < (i1 : Int)) = true := decide_eq_true (by omega)
    rw [decide_eq_true ho] at HQ
    obtain ⟨sb, so, rfl, hsb, s0, -, -, -, -⟩ := hl ot hon
    have e0 := (hlow.cell (p := ⟨sb, so + ot * 4, none⟩) hsb).trans s0
    have e2 : W0.cell? ⟨b 2, ot, none⟩ = some (.bool (M1.given ot)) := k2.cell ot hon
    have e3 : W0.cell? ⟨b 3, ot, none⟩ = some (.bool (M1.known ot)) := k3.cell ot hon
    have e4 : W0.cell? ⟨b 4, ot, none⟩ = some (.bool (M1.done ot)) := k4.cell ot hon
    generalize M1.given ot = gv at e2 HQ
    generalize (g ot).st = st at e0 HQ
    generalize M1.known ot = kn at e3 HQ
    generalize M1.done ot = dn at e4 HQ
    cases gv
    · rw [show (true && (false && ((st && kn) || dn))) = false from rfl] at HQ
      refine reg26a n ot i1 (b 0) (b 2) W0 _ rfl rfl d1 hon c2 c3 c5 e2 (fun k => ?_)
      have h := HQ.out (.pointer (some ⟨b 0, 0, none⟩)) (.pointer (some ⟨b 0, 0, none⟩)) (.pointer (some ⟨b 0, 3, none⟩)) (.int .i64 ot) (.pointer (some ⟨b 0, 0, none⟩)) (.pointer (some ⟨b 0, 0, none⟩)) (.pointer (some ⟨b 0, 2, none⟩)) (.int .i64 i1) (.bool true) (.bool true) (.pointer (some ⟨b 0, 0, none⟩)) (.pointer (some ⟨b 0, 0, none⟩)) (.pointer (some ⟨b 0, 5, none⟩)) (.slice (some ⟨b 2, 0, none⟩) n n) (.pointer (some ⟨b 0, 0, none⟩)) (.pointer (some ⟨b 0, 0, none⟩)) (.pointer (some ⟨b 0, 3, none⟩)) (.int .i64 ot) (.pointer (some ⟨b 2, ot, none⟩)) (.bool false) (.bool false) (.bool false) (undef) (undef) (undef) (undef) (undef) (undef) (undef) (undef) (undef) (undef) (undef) (undef) (undef) (undef) (undef) (undef) (undef) (undef) (undef) (undef) (undef) (undef) (undef) (undef) (undef) (undef) (undef) (undef) (undef) (undef) (undef) (undef) (undef) (undef) (undef) _ (HB.out k)
      exact Eq.mpr (by kernel_rfl) h
    cases st
    · cases dn
      · rw [show (true && (true && ((false && kn) || false))) = false from rfl] at HQ
        refine reg26b n ot i1 cl sb so (b 0) (b 2) (b 4) W0 _ rfl rfl d1 hon c1 c2 c3 c5 c7 e0 e2 e4 (fun k => ?_)
        have h := HQ.out (.pointer (some ⟨b 0, 0, none⟩)) (.pointer (some ⟨b 0, 0, none⟩)) (.pointer (some ⟨b 0, 3, none⟩)) (.int .i64 ot) (.pointer (some ⟨b 0, 0, none⟩)) (.pointer (some ⟨b 0, 0, none⟩)) (.pointer (some ⟨b 0, 2, none⟩)) (.int .i64 i1) (.bool true) (.bool true) (.pointer (some ⟨b 0, 0, none⟩)) (.pointer (some ⟨b 0, 0, none⟩)) (.pointer (some ⟨b 0, 5, none⟩)) (.slice (some ⟨b 2, 0, none⟩) n n) (.pointer (some ⟨b 0, 0, none⟩)) (.pointer (some ⟨b 0, 0, none⟩)) (.pointer (some ⟨b 0, 3, none⟩)) (.int .i64 ot) (.pointer (some ⟨b 2, ot, none⟩)) (.bool true) (.bool true) (.bool true) (.pointer (some ⟨b 0, 0, none⟩)) (.pointer (some ⟨b 0, 0, none⟩)) (.pointer (some ⟨b 0, 1, none⟩)) (.slice (some ⟨sb, so, none⟩) n cl) (.pointer (some ⟨b 0, 0, none⟩)) (.pointer (some ⟨b 0, 0, none⟩)) (.pointer (some ⟨b 0, 3, none⟩)) (.int .i64 ot) (.pointer (some ⟨sb, so + ot * 4, none⟩)) (.pointer (some ⟨sb, so + ot * 4, none⟩)) (.bool false) (.bool false) (undef) (undef) (undef) (undef) (undef) (undef) (undef) (undef) (undef) (undef) (.bool false) (.bool false) (.pointer (some ⟨b 0, 0, none⟩)) (.pointer (some ⟨b 0, 0, none⟩)) (.pointer (some ⟨b 0, 7, none⟩)) (.slice (some ⟨b 4, 0, none⟩) n n) (.pointer (some ⟨b 0, 0, none⟩)) (.pointer (some ⟨b 0, 0, none⟩)) (.pointer (some ⟨b 0, 3, none⟩)) (.int .i64 ot) (.pointer (some ⟨b 4, ot, none⟩)) (.bool false) (.bool false) _ (HB.out k)
        exact Eq.mpr (by kernel_rfl) h
      · rw [show (true && (true && ((false && kn) || true))) = true from rfl] at HQ
        refine reg26c n ot i1 cl sb so (b 0) (b 2) (b 4) W0 _ rfl rfl d1 hon c1 c2 c3 c5 c7 e0 e2 e4 (fun k => ?_)
        have h := HQ.out (.pointer (some ⟨b 0, 0, none⟩)) (.pointer (some ⟨b 0, 0, none⟩)) (.pointer (some ⟨b 0, 3, none⟩)) (.int .i64 ot) (.pointer (some ⟨b 0, 0, none⟩)) (.pointer (some ⟨b 0, 0, none⟩)) (.pointer (some ⟨b 0, 2, none⟩)) (.int .i64 i1) (.bool true) (.bool true) (.pointer (some ⟨b 0, 0, none⟩)) (.pointer (some ⟨b 0, 0, none⟩)) (.pointer (some ⟨b 0, 5, none⟩)) (.slice (some ⟨b 2, 0, none⟩) n n) (.pointer (some ⟨b 0, 0, none⟩)) (.pointer (some ⟨b 0, 0, none⟩)) (.pointer (some ⟨b 0, 3, none⟩)) (.int .i64 ot) (.pointer (some ⟨b 2, ot, none⟩)) (.bool true) (.bool true) (.bool true) (.pointer (some ⟨b 0, 0, none⟩)) (.pointer (some ⟨b 0, 0, none⟩)) (.pointer (some ⟨b 0, 1, none⟩)) (.slice (some ⟨sb, so, none⟩) n cl) (.pointer (some ⟨b 0, 0, none⟩)) (.pointer (some ⟨b 0, 0, none⟩)) (.pointer (some ⟨b 0, 3, none⟩)) (.int .i64 ot) (.pointer (some ⟨sb, so + ot * 4, none⟩)) (.pointer (some ⟨sb, so + ot * 4, none⟩)) (.bool false) (.bool false) (undef) (undef) (undef) (undef) (undef) (undef) (undef) (undef) (undef) (undef) (.bool false) (.bool false) (.pointer (some ⟨b 0, 0, none⟩)) (.pointer (some ⟨b 0, 0, none⟩)) (.pointer (some ⟨b 0, 7, none⟩)) (.slice (some ⟨b 4, 0, none⟩) n n) (.pointer (some ⟨b 0, 0, none⟩)) (.pointer (some ⟨b 0, 0, none⟩)) (.pointer (some ⟨b 0, 3, none⟩)) (.int .i64 ot) (.pointer (some ⟨b 4, ot, none⟩)) (.bool true) (.bool true) _ (HB.out k)
        exact Eq.mpr (by kernel_rfl) h
    cases kn
    · cases dn
      · rw [show (true && (true && ((true && false) || false))) = false from rfl] at HQ
        refine reg26d n ot i1 cl sb so (b 0) (b 2) (b 3) (b 4) W0 _ rfl rfl d1 hon c1 c2 c3 c5 c6 c7 e0 e2 e3 e4 (fun k => ?_)
        have h := HQ.out (.pointer (some ⟨b 0, 0, none⟩)) (.pointer (some ⟨b 0, 0, none⟩)) (.pointer (some ⟨b 0, 3, none⟩)) (.int .i64 ot) (.pointer (some ⟨b 0, 0, none⟩)) (.pointer (some ⟨b 0, 0, none⟩)) (.pointer (some ⟨b 0, 2, none⟩)) (.int .i64 i1) (.bool true) (.bool true) (.pointer (some ⟨b 0, 0, none⟩)) (.pointer (some ⟨b 0, 0, none⟩)) (.pointer (some ⟨b 0, 5, none⟩)) (.slice (some ⟨b 2, 0, none⟩) n n) (.pointer (some ⟨b 0, 0, none⟩)) (.pointer (some ⟨b 0, 0, none⟩)) (.pointer (some ⟨b 0, 3, none⟩)) (.int .i64 ot) (.pointer (some ⟨b 2, ot, none⟩)) (.bool true) (.bool true) (.bool true) (.pointer (some ⟨b 0, 0, none⟩)) (.pointer (some ⟨b 0, 0, none⟩)) (.pointer (some ⟨b 0, 1, none⟩)) (.slice (some ⟨sb, so, none⟩) n cl) (.pointer (some ⟨b 0, 0, none⟩)) (.pointer (some ⟨b 0, 0, none⟩)) (.pointer (some ⟨b 0, 3, none⟩)) (.int .i64 ot) (.pointer (some ⟨sb, so + ot * 4, none⟩)) (.pointer (some ⟨sb, so + ot * 4, none⟩)) (.bool true) (.bool true) (.pointer (some ⟨b 0, 0, none⟩)) (.pointer (some ⟨b 0, 0, none⟩)) (.pointer (some ⟨b 0, 6, none⟩)) (.slice (some ⟨b 3, 0, none⟩) n n) (.pointer (some ⟨b 0, 0, none⟩)) (.pointer (some ⟨b 0, 0, none⟩)) (.pointer (some ⟨b 0, 3, none⟩)) (.int .i64 ot) (.pointer (some ⟨b 3, ot, none⟩)) (.bool false) (.bool false) (.bool false) (.pointer (some ⟨b 0, 0, none⟩)) (.pointer (some ⟨b 0, 0, none⟩)) (.pointer (some ⟨b 0, 7, none⟩)) (.slice (some ⟨b 4, 0, none⟩) n n) (.pointer (some ⟨b 0, 0, none⟩)) (.pointer (some ⟨b 0, 0, none⟩)) (.pointer (some ⟨b 0, 3, none⟩)) (.int .i64 ot) (.pointer (some ⟨b 4, ot, none⟩)) (.bool false) (.bool false) _ (HB.out k)
        exact Eq.mpr (by kernel_rfl) h
      · rw [show (true && (true && ((true && false) || true))) = true from rfl] at HQ
        refine reg26e n ot i1 cl sb so (b 0) (b 2) (b 3) (b 4) W0 _ rfl rfl d1 hon c1 c2 c3 c5 c6 c7 e0 e2 e3 e4 (fun k => ?_)
        have h := HQ.out (.pointer (some ⟨b 0, 0, none⟩)) (.pointer (some ⟨b 0, 0, none⟩)) (.pointer (some ⟨b 0, 3, none⟩)) (.int .i64 ot) (.pointer (some ⟨b 0, 0, none⟩)) (.pointer (some ⟨b 0, 0, none⟩)) (.pointer (some ⟨b 0, 2, none⟩)) (.int .i64 i1) (.bool true) (.bool true) (.pointer (some ⟨b 0, 0, none⟩)) (.pointer (some ⟨b 0, 0, none⟩)) (.pointer (some ⟨b 0, 5, none⟩)) (.slice (some ⟨b 2, 0, none⟩) n n) (.pointer (some ⟨b 0, 0, none⟩)) (.pointer (some ⟨b 0, 0, none⟩)) (.pointer (some ⟨b 0, 3, none⟩)) (.int .i64 ot) (.pointer (some ⟨b 2, ot, none⟩)) (.bool true) (.bool true) (.bool true) (.pointer (some ⟨b 0, 0, none⟩)) (.pointer (some ⟨b 0, 0, none⟩)) (.pointer (some ⟨b 0, 1, none⟩)) (.slice (some ⟨sb, so, none⟩) n cl) (.pointer (some ⟨b 0, 0, none⟩)) (.pointer (some ⟨b 0, 0, none⟩)) (.pointer (some ⟨b 0, 3, none⟩)) (.int .i64 ot) (.pointer (some ⟨sb, so + ot * 4, none⟩)) (.pointer (some ⟨sb, so + ot * 4, none⟩)) (.bool true) (.bool true) (.pointer (some ⟨b 0, 0, none⟩)) (.pointer (some ⟨b 0, 0, none⟩)) (.pointer (some ⟨b 0, 6, none⟩)) (.slice (some ⟨b 3, 0, none⟩) n n) (.pointer (some ⟨b 0, 0, none⟩)) (.pointer (some ⟨b 0, 0, none⟩)) (.pointer (some ⟨b 0, 3, none⟩)) (.int .i64 ot) (.pointer (some ⟨b 3, ot, none⟩)) (.bool false) (.bool false) (.bool false) (.pointer (some ⟨b 0, 0, none⟩)) (.pointer (some ⟨b 0, 0, none⟩)) (.pointer (some ⟨b 0, 7, none⟩)) (.slice (some ⟨b 4, 0, none⟩) n n) (.pointer (some ⟨b 0, 0, none⟩)) (.pointer (some ⟨b 0, 0, none⟩)) (.pointer (some ⟨b 0, 3, none⟩)) (.int .i64 ot) (.pointer (some ⟨b 4, ot, none⟩)) (.bool true) (.bool true) _ (HB.out k)
        exact Eq.mpr (by kernel_rfl) h
    · rw [show (true && (true && ((true && true) || dn))) = true from rfl] at HQ
      refine reg26f n ot i1 cl sb so (b 0) (b 2) (b 3) W0 _ rfl rfl d1 hon c1 c2 c3 c5 c6 e0 e2 e3 (fun k => ?_)
      have h := HQ.out (.pointer (some ⟨b 0, 0, none⟩)) (.pointer (some ⟨b 0, 0, none⟩)) (.pointer (some ⟨b 0, 3, none⟩)) (.int .i64 ot) (.pointer (some ⟨b 0, 0, none⟩)) (.pointer (some ⟨b 0, 0, none⟩)) (.pointer (some ⟨b 0, 2, none⟩)) (.int .i64 i1) (.bool true) (.bool true) (.pointer (some ⟨b 0, 0, none⟩)) (.pointer (some ⟨b 0, 0, none⟩)) (.pointer (some ⟨b 0, 5, none⟩)) (.slice (some ⟨b 2, 0, none⟩) n n) (.pointer (some ⟨b 0, 0, none⟩)) (.pointer (some ⟨b 0, 0, none⟩)) (.pointer (some ⟨b 0, 3, none⟩)) (.int .i64 ot) (.pointer (some ⟨b 2, ot, none⟩)) (.bool true) (.bool true) (.bool true) (.pointer (some ⟨b 0, 0, none⟩)) (.pointer (some ⟨b 0, 0, none⟩)) (.pointer (some ⟨b 0, 1, none⟩)) (.slice (some ⟨sb, so, none⟩) n cl) (.pointer (some ⟨b 0, 0, none⟩)) (.pointer (some ⟨b 0, 0, none⟩)) (.pointer (some ⟨b 0, 3, none⟩)) (.int .i64 ot) (.pointer (some ⟨sb, so + ot * 4, none⟩)) (.pointer (some ⟨sb, so + ot * 4, none⟩)) (.bool true) (.bool true) (.pointer (some ⟨b 0, 0, none⟩)) (.pointer (some ⟨b 0, 0, none⟩)) (.pointer (some ⟨b 0, 6, none⟩)) (.slice (some ⟨b 3, 0, none⟩) n n) (.pointer (some ⟨b 0, 0, none⟩)) (.pointer (some ⟨b 0, 0, none⟩)) (.pointer (some ⟨b 0, 3, none⟩)) (.int .i64 ot) (.pointer (some ⟨b 3, ot, none⟩)) (.bool true) (.bool true) (.bool true) (undef) (undef) (undef) (undef) (undef) (undef) (undef) (undef) (undef) (undef) (.bool true) _ (HB.out k)
      exact Eq.mpr (by kernel_rfl) h
  · have d1 : decide ((ot : Int) < (i1 : Int)) = false := decide_eq_false (by omega)
    rw [decide_eq_false ho] at HQ
    rw [show (false && (M1.given ot && (((g ot).st && M1.known ot) || M1.done ot))) = false from rfl] at HQ
    refine reg26z ot i1 (b 0) W0 _ rfl rfl d1 c2 c3 (fun k => ?_)
    have h := HQ.out (.pointer (some ⟨b 0, 0, none⟩)) (.pointer (some ⟨b 0, 0, none⟩)) (.pointer (some ⟨b 0, 3, none⟩)) (.int .i64 ot) (.pointer (some ⟨b 0, 0, none⟩)) (.pointer (some ⟨b 0, 0, none⟩)) (.pointer (some ⟨b 0, 2, none⟩)) (.int .i64 i1) (.bool false) (.bool false) (undef) (undef) (undef) (undef) (undef) (undef) (undef) (undef) (undef) (undef) (.bool false) (.bool false) (undef) (undef) (undef) (undef) (undef) (undef) (undef) (undef) (undef) (undef) (undef) (undef) (undef) (undef) (undef) (undef) (undef) (undef) (undef) (undef) (undef) (undef) (undef) (undef) (undef) (undef) (undef) (undef) (undef) (undef) (undef) (undef) (undef) (undef) (undef) _ (HB.out k)
    exact Eq.mpr (by kernel_rfl) h
end Go.Proofs.YthbffonedpeeiaaDoor
