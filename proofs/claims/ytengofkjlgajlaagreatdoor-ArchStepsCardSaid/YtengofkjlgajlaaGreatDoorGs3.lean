import Derived.Test.YtengofkjlgajlaaGreatDoorGs1
import Derived.Test.YtengofkjlgajlaaGreatDoorGa3
/-
  ArchSteps: region 16: was what was handed in left alone?
-/
namespace Go.Proofs.YtengofkjlgajlaaGreatDoor
open Go Go.RowKit
set_option maxRecDepth 100000 in
set_option maxHeartbeats 4000000 in
theorem r16a (gx : Int) (i n m cb co cc wb : Nat) (W0 : World) (a : Act) (hs : a.tmps.size = 287) (hA : a.eval (.tmp 1) = .slice (some ⟨cb, co, none⟩) n cc) (hB : a.eval (.tmp 10) = .slice (some ⟨wb, 0, none⟩) m m) (hI : a.eval (.tmp 16) = .int .i64 i) (him : i < m) (hin : i < n) (hlt : decide ((i : Int) < (n : Int)) = true) (hge : decide ((n : Int) ≤ (i : Int)) = false) (cw : W0.cell? ⟨wb, 0 + i, none⟩ = some (.int .u8 gx)) (ca : W0.cell? ⟨cb, co + i, none⟩ = some (.int .u8 gx)) {K : Act → World → Prop} (hk : ∀ j : Nat, K (((((((((((((((((((((((((((((a).put (some 109) (.int .i64 i)).put (some 110) (.slice (some ⟨cb, co, none⟩) n cc)).put (some 111) (.int .i64 n)).put (some 112) (.bool true)).put (some 113) (.bool true)).put (some 114) (.slice (some ⟨wb, 0, none⟩) m m)).put (some 115) (.int .i64 i)).put (some 116) (.pointer (some ⟨wb, 0 + i, none⟩))).put (some 117) (.int .u8 gx)).put (some 118) (.slice (some ⟨cb, co, none⟩) n cc)).put (some 119) (.int .i64 i)).put (some 120) (.pointer (some ⟨cb, co + i, none⟩))).put (some 121) (.int .u8 gx)).put (some 122) (.bool false)).put (some 123) (.bool false)).put (some 124) (.bool false)).put (some 125) (.int .i64 i)).put (some 126) (.slice (some ⟨cb, co, none⟩) n cc)).put (some 127) (.int .i64 n)).put (some 128) (.bool false)).put (some 129) (.bool false)).put (some 130) (undef)).put (some 131) (undef)).put (some 132) (undef)).put (some 133) (undef)).put (some 134) (undef)).put (some 135) (.bool false)).put (some 136) (.bool false)) (W0.drewN j)) : (regIn Tryz.f3.body 16).wp Tryz.prog (Exit.then K NoX) a W0 := by
  show (Code.region 16 (opsIn (regIn Tryz.f3.body 16)) true).wp _ _ _ _
  refine wp_region_quiet (C := fun w' => ∃ n, w' = W0.drewN n) (by kernel_rfl) (by kernel_rfl) ⟨1, rfl⟩ ?_
  show wpQuiet _ _ _ _ (List.drop 0 _) _
  obtain ⟨xo0, xi0, xd0, xg0, xp0⟩ := q16_0
  refine qd_want (k := 0) (v := .int .i64 i) xi0 xd0 (w_none xg0) (fun w _ => run_move xp0 hI w) ?_
  obtain ⟨ac1, hac1⟩ : ∃ x, a.put (some 109) (.int .i64 i) = x := ⟨_, rfl⟩
  rw [hac1]
  have e1_1 : ac1.eval (.tmp 1) = _ := hac1 ▸ ev_put hA (by decide)
  have e10_1 : ac1.eval (.tmp 10) = _ := hac1 ▸ ev_put hB (by decide)
  have e16_1 : ac1.eval (.tmp 16) = _ := hac1 ▸ ev_put hI (by decide)
  have e109_1 : ac1.eval (.tmp 109) = _ := hac1 ▸ ev_same (by rw [hs]; decide)
  have zz1 : ac1.tmps.size = 287 := hac1 ▸ size_put hs
  obtain ⟨xo1, xi1, xd1, xg1, xp1⟩ := q16_1
  refine qd_want (k := 1) (v := .slice (some ⟨cb, co, none⟩) n cc) xi1 xd1 (w_none xg1) (fun w _ => run_move xp1 e1_1 w) ?_
  obtain ⟨ac2, hac2⟩ : ∃ x, ac1.put (some 110) (.slice (some ⟨cb, co, none⟩) n cc) = x := ⟨_, rfl⟩
  rw [hac2]
  have e1_2 : ac2.eval (.tmp 1) = _ := hac2 ▸ ev_put e1_1 (by decide)
  have e10_2 : ac2.eval (.tmp 10) = _ := hac2 ▸ ev_put e10_1 (by decide)
  have e16_2 : ac2.eval (.tmp 16) = _ := hac2 ▸ ev_put e16_1 (by decide)
  have e109_2 : ac2.eval (.tmp 109) = _ := hac2 ▸ ev_put e109_1 (by decide)
  have e110_2 : ac2.eval (.tmp 110) = _ := hac2 ▸ ev_same (by rw [zz1]; decide)
  have zz2 : ac2.tmps.size = 287 := hac2 ▸ size_put zz1
  obtain ⟨xo2, xi2, xd2, xg2, xp2⟩ := q16_2
  refine qd_want (k := 2) (v := .int .i64 n) xi2 xd2 (w_none xg2) (fun w _ => run_len23 xp2 e110_2 w) ?_
  obtain ⟨ac3, hac3⟩ : ∃ x, ac2.put (some 111) (.int .i64 n) = x := ⟨_, rfl⟩
  rw [hac3]
  have e1_3 : ac3.eval (.tmp 1) = _ := hac3 ▸ ev_put e1_2 (by decide)
  have e10_3 : ac3.eval (.tmp 10) = _ := hac3 ▸ ev_put e10_2 (by decide)
  have e16_3 : ac3.eval (.tmp 16) = _ := hac3 ▸ ev_put e16_2 (by decide)
  have e109_3 : ac3.eval (.tmp 109) = _ := hac3 ▸ ev_put e109_2 (by decide)
  have e111_3 : ac3.eval (.tmp 111) = _ := hac3 ▸ ev_same (by rw [zz2]; decide)
  have zz3 : ac3.tmps.size = 287 := hac3 ▸ size_put zz2
  obtain ⟨xo3, xi3, xd3, xg3, xp3⟩ := q16_3
  refine qd_want (k := 3) (v := .bool true) xi3 xd3 (w_none xg3) (fun w _ => run_lss xp3 e109_3 e111_3 hlt w) ?_
  obtain ⟨ac4, hac4⟩ : ∃ x, ac3.put (some 112) (.bool true) = x := ⟨_, rfl⟩
  rw [hac4]
  have e1_4 : ac4.eval (.tmp 1) = _ := hac4 ▸ ev_put e1_3 (by decide)
  have e10_4 : ac4.eval (.tmp 10) = _ := hac4 ▸ ev_put e10_3 (by decide)
  have e16_4 : ac4.eval (.tmp 16) = _ := hac4 ▸ ev_put e16_3 (by decide)
  have e112_4 : ac4.eval (.tmp 112) = _ := hac4 ▸ ev_same (by rw [zz3]; decide)
  have zz4 : ac4.tmps.size = 287 := hac4 ▸ size_put zz3
  obtain ⟨xo4, xi4, xd4, xg4, xp4⟩ := q16_4
  refine qd_want (k := 4) (v := .bool true) xi4 xd4 (w_none xg4) (fun w _ => run_move xp4 e112_4 w) ?_
  obtain ⟨ac5, hac5⟩ : ∃ x, ac4.put (some 113) (.bool true) = x := ⟨_, rfl⟩
  rw [hac5]
  have e1_5 : ac5.eval (.tmp 1) = _ := hac5 ▸ ev_put e1_4 (by decide)
  have e10_5 : ac5.eval (.tmp 10) = _ := hac5 ▸ ev_put e10_4 (by decide)
  have e16_5 : ac5.eval (.tmp 16) = _ := hac5 ▸ ev_put e16_4 (by decide)
  have e113_5 : ac5.eval (.tmp 113) = _ := hac5 ▸ ev_same (by rw [zz4]; decide)
  have zz5 : ac5.tmps.size = 287 := hac5 ▸ size_put zz4
  obtain ⟨xo5, xi5, xd5, xg5, xp5⟩ := q16_5
  refine qd_want (k := 5) (v := .slice (some ⟨wb, 0, none⟩) m m) xi5 xd5 (w_some xg5 (by kernel_rfl) e113_5 rfl) (fun w _ => run_move xp5 e10_5 w) ?_
  obtain ⟨ac6, hac6⟩ : ∃ x, ac5.put (some 114) (.slice (some ⟨wb, 0, none⟩) m m) = x := ⟨_, rfl⟩
  rw [hac6]
  have e1_6 : ac6.eval (.tmp 1) = _ := hac6 ▸ ev_put e1_5 (by decide)
  have e10_6 : ac6.eval (.tmp 10) = _ := hac6 ▸ ev_put e10_5 (by decide)
  have e16_6 : ac6.eval (.tmp 16) = _ := hac6 ▸ ev_put e16_5 (by decide)
  have e113_6 : ac6.eval (.tmp 113) = _ := hac6 ▸ ev_put e113_5 (by decide)
  have e114_6 : ac6.eval (.tmp 114) = _ := hac6 ▸ ev_same (by rw [zz5]; decide)
  have zz6 : ac6.tmps.size = 287 := hac6 ▸ size_put zz5
  obtain ⟨xo6, xi6, xd6, xg6, xp6⟩ := q16_6
  refine qd_want (k := 6) (v := .int .i64 i) xi6 xd6 (w_some xg6 (by kernel_rfl) e113_6 rfl) (fun w _ => run_move xp6 e16_6 w) ?_
  obtain ⟨ac7, hac7⟩ : ∃ x, ac6.put (some 115) (.int .i64 i) = x := ⟨_, rfl⟩
  rw [hac7]
  have e1_7 : ac7.eval (.tmp 1) = _ := hac7 ▸ ev_put e1_6 (by decide)
  have e10_7 : ac7.eval (.tmp 10) = _ := hac7 ▸ ev_put e10_6 (by decide)
  have e16_7 : ac7.eval (.tmp 16) = _ := hac7 ▸ ev_put e16_6 (by decide)
  have e113_7 : ac7.eval (.tmp 113) = _ := hac7 ▸ ev_put e113_6 (by decide)
  have e114_7 : ac7.eval (.tmp 114) = _ := hac7 ▸ ev_put e114_6 (by decide)
  have e115_7 : ac7.eval (.tmp 115) = _ := hac7 ▸ ev_same (by rw [zz6]; decide)
  have zz7 : ac7.tmps.size = 287 := hac7 ▸ size_put zz6
  obtain ⟨xo7, xi7, xd7, xg7, xp7⟩ := q16_7
  refine qd_want (k := 7) (v := .pointer (some ⟨wb, 0 + i, none⟩)) xi7 xd7 (w_some xg7 (by kernel_rfl) e113_7 rfl) (fun w _ => run_i23 xp7 e114_7 e115_7 him w) ?_
  obtain ⟨ac8, hac8⟩ : ∃ x, ac7.put (some 116) (.pointer (some ⟨wb, 0 + i, none⟩)) = x := ⟨_, rfl⟩
  rw [hac8]
  have e1_8 : ac8.eval (.tmp 1) = _ := hac8 ▸ ev_put e1_7 (by decide)
  have e10_8 : ac8.eval (.tmp 10) = _ := hac8 ▸ ev_put e10_7 (by decide)
  have e16_8 : ac8.eval (.tmp 16) = _ := hac8 ▸ ev_put e16_7 (by decide)
  have e113_8 : ac8.eval (.tmp 113) = _ := hac8 ▸ ev_put e113_7 (by decide)
  have e116_8 : ac8.eval (.tmp 116) = _ := hac8 ▸ ev_same (by rw [zz7]; decide)
  have zz8 : ac8.tmps.size = 287 := hac8 ▸ size_put zz7
  obtain ⟨xo8, xi8, xd8, xg8, xp8⟩ := q16_8
  refine qd_want (k := 8) (v := .int .u8 gx) xi8 xd8 (w_some xg8 (by kernel_rfl) e113_8 rfl) (fun w hw => by obtain ⟨_, rfl⟩ := hw; exact run_l5 xp8 e116_8 cw) ?_
  obtain ⟨ac9, hac9⟩ : ∃ x, ac8.put (some 117) (.int .u8 gx) = x := ⟨_, rfl⟩
  rw [hac9]
  have e1_9 : ac9.eval (.tmp 1) = _ := hac9 ▸ ev_put e1_8 (by decide)
  have e10_9 : ac9.eval (.tmp 10) = _ := hac9 ▸ ev_put e10_8 (by decide)
  have e16_9 : ac9.eval (.tmp 16) = _ := hac9 ▸ ev_put e16_8 (by decide)
  have e113_9 : ac9.eval (.tmp 113) = _ := hac9 ▸ ev_put e113_8 (by decide)
  have e117_9 : ac9.eval (.tmp 117) = _ := hac9 ▸ ev_same (by rw [zz8]; decide)
  have zz9 : ac9.tmps.size = 287 := hac9 ▸ size_put zz8
  obtain ⟨xo9, xi9, xd9, xg9, xp9⟩ := q16_9
  refine qd_want (k := 9) (v := .slice (some ⟨cb, co, none⟩) n cc) xi9 xd9 (w_some xg9 (by kernel_rfl) e113_9 rfl) (fun w _ => run_move xp9 e1_9 w) ?_
  obtain ⟨ac10, hac10⟩ : ∃ x, ac9.put (some 118) (.slice (some ⟨cb, co, none⟩) n cc) = x := ⟨_, rfl⟩
  rw [hac10]
  have e1_10 : ac10.eval (.tmp 1) = _ := hac10 ▸ ev_put e1_9 (by decide)
  have e10_10 : ac10.eval (.tmp 10) = _ := hac10 ▸ ev_put e10_9 (by decide)
  have e16_10 : ac10.eval (.tmp 16) = _ := hac10 ▸ ev_put e16_9 (by decide)
  have e113_10 : ac10.eval (.tmp 113) = _ := hac10 ▸ ev_put e113_9 (by decide)
  have e117_10 : ac10.eval (.tmp 117) = _ := hac10 ▸ ev_put e117_9 (by decide)
  have e118_10 : ac10.eval (.tmp 118) = _ := hac10 ▸ ev_same (by rw [zz9]; decide)
  have zz10 : ac10.tmps.size = 287 := hac10 ▸ size_put zz9
  obtain ⟨xo10, xi10, xd10, xg10, xp10⟩ := q16_10
  refine qd_want (k := 10) (v := .int .i64 i) xi10 xd10 (w_some xg10 (by kernel_rfl) e113_10 rfl) (fun w _ => run_move xp10 e16_10 w) ?_
  obtain ⟨ac11, hac11⟩ : ∃ x, ac10.put (some 119) (.int .i64 i) = x := ⟨_, rfl⟩
  rw [hac11]
  have e1_11 : ac11.eval (.tmp 1) = _ := hac11 ▸ ev_put e1_10 (by decide)
  have e10_11 : ac11.eval (.tmp 10) = _ := hac11 ▸ ev_put e10_10 (by decide)
  have e16_11 : ac11.eval (.tmp 16) = _ := hac11 ▸ ev_put e16_10 (by decide)
  have e113_11 : ac11.eval (.tmp 113) = _ := hac11 ▸ ev_put e113_10 (by decide)
  have e117_11 : ac11.eval (.tmp 117) = _ := hac11 ▸ ev_put e117_10 (by decide)
  have e118_11 : ac11.eval (.tmp 118) = _ := hac11 ▸ ev_put e118_10 (by decide)
  have e119_11 : ac11.eval (.tmp 119) = _ := hac11 ▸ ev_same (by rw [zz10]; decide)
  have zz11 : ac11.tmps.size = 287 := hac11 ▸ size_put zz10
  obtain ⟨xo11, xi11, xd11, xg11, xp11⟩ := q16_11
  refine qd_want (k := 11) (v := .pointer (some ⟨cb, co + i, none⟩)) xi11 xd11 (w_some xg11 (by kernel_rfl) e113_11 rfl) (fun w _ => run_i23 xp11 e118_11 e119_11 hin w) ?_
  obtain ⟨ac12, hac12⟩ : ∃ x, ac11.put (some 120) (.pointer (some ⟨cb, co + i, none⟩)) = x := ⟨_, rfl⟩
  rw [hac12]
  have e1_12 : ac12.eval (.tmp 1) = _ := hac12 ▸ ev_put e1_11 (by decide)
  have e10_12 : ac12.eval (.tmp 10) = _ := hac12 ▸ ev_put e10_11 (by decide)
  have e16_12 : ac12.eval (.tmp 16) = _ := hac12 ▸ ev_put e16_11 (by decide)
  have e113_12 : ac12.eval (.tmp 113) = _ := hac12 ▸ ev_put e113_11 (by decide)
  have e117_12 : ac12.eval (.tmp 117) = _ := hac12 ▸ ev_put e117_11 (by decide)
  have e120_12 : ac12.eval (.tmp 120) = _ := hac12 ▸ ev_same (by rw [zz11]; decide)
  have zz12 : ac12.tmps.size = 287 := hac12 ▸ size_put zz11
  obtain ⟨xo12, xi12, xd12, xg12, xp12⟩ := q16_12
  refine qd_want (k := 12) (v := .int .u8 gx) xi12 xd12 (w_some xg12 (by kernel_rfl) e113_12 rfl) (fun w hw => by obtain ⟨_, rfl⟩ := hw; exact run_l5 xp12 e120_12 ca) ?_
  obtain ⟨ac13, hac13⟩ : ∃ x, ac12.put (some 121) (.int .u8 gx) = x := ⟨_, rfl⟩
  rw [hac13]
  have e1_13 : ac13.eval (.tmp 1) = _ := hac13 ▸ ev_put e1_12 (by decide)
  have e10_13 : ac13.eval (.tmp 10) = _ := hac13 ▸ ev_put e10_12 (by decide)
  have e16_13 : ac13.eval (.tmp 16) = _ := hac13 ▸ ev_put e16_12 (by decide)
  have e113_13 : ac13.eval (.tmp 113) = _ := hac13 ▸ ev_put e113_12 (by decide)
  have e117_13 : ac13.eval (.tmp 117) = _ := hac13 ▸ ev_put e117_12 (by decide)
  have e121_13 : ac13.eval (.tmp 121) = _ := hac13 ▸ ev_same (by rw [zz12]; decide)
  have zz13 : ac13.tmps.size = 287 := hac13 ▸ size_put zz12
  obtain ⟨xo13, xi13, xd13, xg13, xp13⟩ := q16_13
  refine qd_want (k := 13) (v := .bool false) xi13 xd13 (w_some xg13 (by kernel_rfl) e113_13 rfl) (fun w _ => run_ne5 xp13 e117_13 e121_13 (by simp) w) ?_
  obtain ⟨ac14, hac14⟩ : ∃ x, ac13.put (some 122) (.bool false) = x := ⟨_, rfl⟩
  rw [hac14]
  have e1_14 : ac14.eval (.tmp 1) = _ := hac14 ▸ ev_put e1_13 (by decide)
  have e10_14 : ac14.eval (.tmp 10) = _ := hac14 ▸ ev_put e10_13 (by decide)
  have e16_14 : ac14.eval (.tmp 16) = _ := hac14 ▸ ev_put e16_13 (by decide)
  have e113_14 : ac14.eval (.tmp 113) = _ := hac14 ▸ ev_put e113_13 (by decide)
  have e122_14 : ac14.eval (.tmp 122) = _ := hac14 ▸ ev_same (by rw [zz13]; decide)
  have zz14 : ac14.tmps.size = 287 := hac14 ▸ size_put zz13
  obtain ⟨xo14, xi14, xd14, xg14, xp14⟩ := q16_14
  refine qd_want (k := 14) (v := .bool false) xi14 xd14 (w_none xg14) (fun w _ => run_pick xp14 e113_14 (fun _ => e122_14) (fun q => by cases q) w) ?_
  obtain ⟨ac15, hac15⟩ : ∃ x, ac14.put (some 123) (.bool false) = x := ⟨_, rfl⟩
  rw [hac15]
  have e1_15 : ac15.eval (.tmp 1) = _ := hac15 ▸ ev_put e1_14 (by decide)
  have e10_15 : ac15.eval (.tmp 10) = _ := hac15 ▸ ev_put e10_14 (by decide)
  have e16_15 : ac15.eval (.tmp 16) = _ := hac15 ▸ ev_put e16_14 (by decide)
  have e123_15 : ac15.eval (.tmp 123) = _ := hac15 ▸ ev_same (by rw [zz14]; decide)
  have zz15 : ac15.tmps.size = 287 := hac15 ▸ size_put zz14
  obtain ⟨xo15, xi15, xd15, xg15, xp15⟩ := q16_15
  refine qd_want (k := 15) (v := .bool false) xi15 xd15 (w_none xg15) (fun w _ => run_move xp15 e123_15 w) ?_
  obtain ⟨ac16, hac16⟩ : ∃ x, ac15.put (some 124) (.bool false) = x := ⟨_, rfl⟩
  rw [hac16]
  have e1_16 : ac16.eval (.tmp 1) = _ := hac16 ▸ ev_put e1_15 (by decide)
  have e10_16 : ac16.eval (.tmp 10) = _ := hac16 ▸ ev_put e10_15 (by decide)
  have e16_16 : ac16.eval (.tmp 16) = _ := hac16 ▸ ev_put e16_15 (by decide)
  have e124_16 : ac16.eval (.tmp 124) = _ := hac16 ▸ ev_same (by rw [zz15]; decide)
  have zz16 : ac16.tmps.size = 287 := hac16 ▸ size_put zz15
  obtain ⟨xo16, xi16, xd16, xg16, xp16⟩ := q16_16
  refine qd_want (k := 16) (v := .int .i64 i) xi16 xd16 (w_some xg16 (by kernel_rfl) e124_16 rfl) (fun w _ => run_move xp16 e16_16 w) ?_
  obtain ⟨ac17, hac17⟩ : ∃ x, ac16.put (some 125) (.int .i64 i) = x := ⟨_, rfl⟩
  rw [hac17]
  have e1_17 : ac17.eval (.tmp 1) = _ := hac17 ▸ ev_put e1_16 (by decide)
  have e10_17 : ac17.eval (.tmp 10) = _ := hac17 ▸ ev_put e10_16 (by decide)
  have e16_17 : ac17.eval (.tmp 16) = _ := hac17 ▸ ev_put e16_16 (by decide)
  have e124_17 : ac17.eval (.tmp 124) = _ := hac17 ▸ ev_put e124_16 (by decide)
  have e125_17 : ac17.eval (.tmp 125) = _ := hac17 ▸ ev_same (by rw [zz16]; decide)
  have zz17 : ac17.tmps.size = 287 := hac17 ▸ size_put zz16
  obtain ⟨xo17, xi17, xd17, xg17, xp17⟩ := q16_17
  refine qd_want (k := 17) (v := .slice (some ⟨cb, co, none⟩) n cc) xi17 xd17 (w_some xg17 (by kernel_rfl) e124_17 rfl) (fun w _ => run_move xp17 e1_17 w) ?_
  obtain ⟨ac18, hac18⟩ : ∃ x, ac17.put (some 126) (.slice (some ⟨cb, co, none⟩) n cc) = x := ⟨_, rfl⟩
  rw [hac18]
  have e10_18 : ac18.eval (.tmp 10) = _ := hac18 ▸ ev_put e10_17 (by decide)
  have e16_18 : ac18.eval (.tmp 16) = _ := hac18 ▸ ev_put e16_17 (by decide)
  have e124_18 : ac18.eval (.tmp 124) = _ := hac18 ▸ ev_put e124_17 (by decide)
  have e125_18 : ac18.eval (.tmp 125) = _ := hac18 ▸ ev_put e125_17 (by decide)
  have e126_18 : ac18.eval (.tmp 126) = _ := hac18 ▸ ev_same (by rw [zz17]; decide)
  have zz18 : ac18.tmps.size = 287 := hac18 ▸ size_put zz17
  obtain ⟨xo18, xi18, xd18, xg18, xp18⟩ := q16_18
  refine qd_want (k := 18) (v := .int .i64 n) xi18 xd18 (w_some xg18 (by kernel_rfl) e124_18 rfl) (fun w _ => run_len23 xp18 e126_18 w) ?_
  obtain ⟨ac19, hac19⟩ : ∃ x, ac18.put (some 127) (.int .i64 n) = x := ⟨_, rfl⟩
  rw [hac19]
  have e10_19 : ac19.eval (.tmp 10) = _ := hac19 ▸ ev_put e10_18 (by decide)
  have e16_19 : ac19.eval (.tmp 16) = _ := hac19 ▸ ev_put e16_18 (by decide)
  have e124_19 : ac19.eval (.tmp 124) = _ := hac19 ▸ ev_put e124_18 (by decide)
  have e125_19 : ac19.eval (.tmp 125) = _ := hac19 ▸ ev_put e125_18 (by decide)
  have e127_19 : ac19.eval (.tmp 127) = _ := hac19 ▸ ev_same (by rw [zz18]; decide)
  have zz19 : ac19.tmps.size = 287 := hac19 ▸ size_put zz18
  obtain ⟨xo19, xi19, xd19, xg19, xp19⟩ := q16_19
  refine qd_want (k := 19) (v := .bool false) xi19 xd19 (w_some xg19 (by kernel_rfl) e124_19 rfl) (fun w _ => run_geq xp19 e125_19 e127_19 hge w) ?_
  obtain ⟨ac20, hac20⟩ : ∃ x, ac19.put (some 128) (.bool false) = x := ⟨_, rfl⟩
  rw [hac20]
  have e10_20 : ac20.eval (.tmp 10) = _ := hac20 ▸ ev_put e10_19 (by decide)
  have e16_20 : ac20.eval (.tmp 16) = _ := hac20 ▸ ev_put e16_19 (by decide)
  have e124_20 : ac20.eval (.tmp 124) = _ := hac20 ▸ ev_put e124_19 (by decide)
  have e128_20 : ac20.eval (.tmp 128) = _ := hac20 ▸ ev_same (by rw [zz19]; decide)
  have zz20 : ac20.tmps.size = 287 := hac20 ▸ size_put zz19
  obtain ⟨xo20, xi20, xd20, xg20, xp20⟩ := q16_20
  refine qd_want (k := 20) (v := .bool false) xi20 xd20 (w_some xg20 (by kernel_rfl) e124_20 rfl) (fun w _ => run_move xp20 e128_20 w) ?_
  obtain ⟨ac21, hac21⟩ : ∃ x, ac20.put (some 129) (.bool false) = x := ⟨_, rfl⟩
  rw [hac21]
  have e10_21 : ac21.eval (.tmp 10) = _ := hac21 ▸ ev_put e10_20 (by decide)
  have e16_21 : ac21.eval (.tmp 16) = _ := hac21 ▸ ev_put e16_20 (by decide)
  have e124_21 : ac21.eval (.tmp 124) = _ := hac21 ▸ ev_put e124_20 (by decide)
  have e129_21 : ac21.eval (.tmp 129) = _ := hac21 ▸ ev_same (by rw [zz20]; decide)
  have zz21 : ac21.tmps.size = 287 := hac21 ▸ size_put zz20
  obtain ⟨xo21, xi21, xd21, xg21, xp21⟩ := q16_21
  refine qd_skip (k := 21) xi21 xd21 (w_some xg21 (by kernel_rfl) e129_21 rfl) ?_
  obtain ⟨ac22, hac22⟩ : ∃ x, ac21.put (some 130) (undef) = x := ⟨_, rfl⟩
  rw [hac22]
  have e16_22 : ac22.eval (.tmp 16) = _ := hac22 ▸ ev_put e16_21 (by decide)
  have e124_22 : ac22.eval (.tmp 124) = _ := hac22 ▸ ev_put e124_21 (by decide)
  have e129_22 : ac22.eval (.tmp 129) = _ := hac22 ▸ ev_put e129_21 (by decide)
  have e130_22 : ac22.eval (.tmp 130) = _ := hac22 ▸ ev_same (by rw [zz21]; decide)
  have zz22 : ac22.tmps.size = 287 := hac22 ▸ size_put zz21
  obtain ⟨xo22, xi22, xd22, xg22, xp22⟩ := q16_22
  refine qd_skip (k := 22) xi22 xd22 (w_some xg22 (by kernel_rfl) e129_22 rfl) ?_
  obtain ⟨ac23, hac23⟩ : ∃ x, ac22.put (some 131) (undef) = x := ⟨_, rfl⟩
  rw [hac23]
  have e124_23 : ac23.eval (.tmp 124) = _ := hac23 ▸ ev_put e124_22 (by decide)
  have e129_23 : ac23.eval (.tmp 129) = _ := hac23 ▸ ev_put e129_22 (by decide)
  have e130_23 : ac23.eval (.tmp 130) = _ := hac23 ▸ ev_put e130_22 (by decide)
  have e131_23 : ac23.eval (.tmp 131) = _ := hac23 ▸ ev_same (by rw [zz22]; decide)
  have zz23 : ac23.tmps.size = 287 := hac23 ▸ size_put zz22
  obtain ⟨xo23, xi23, xd23, xg23, xp23⟩ := q16_23
  refine qd_skip (k := 23) xi23 xd23 (w_some xg23 (by kernel_rfl) e129_23 rfl) ?_
  obtain ⟨ac24, hac24⟩ : ∃ x, ac23.put (some 132) (undef) = x := ⟨_, rfl⟩
  rw [hac24]
  have e124_24 : ac24.eval (.tmp 124) = _ := hac24 ▸ ev_put e124_23 (by decide)
  have e129_24 : ac24.eval (.tmp 129) = _ := hac24 ▸ ev_put e129_23 (by decide)
  have e132_24 : ac24.eval (.tmp 132) = _ := hac24 ▸ ev_same (by rw [zz23]; decide)
  have zz24 : ac24.tmps.size = 287 := hac24 ▸ size_put zz23
  obtain ⟨xo24, xi24, xd24, xg24, xp24⟩ := q16_24
  refine qd_skip (k := 24) xi24 xd24 (w_some xg24 (by kernel_rfl) e129_24 rfl) ?_
  obtain ⟨ac25, hac25⟩ : ∃ x, ac24.put (some 133) (undef) = x := ⟨_, rfl⟩
  rw [hac25]
  have e124_25 : ac25.eval (.tmp 124) = _ := hac25 ▸ ev_put e124_24 (by decide)
  have e129_25 : ac25.eval (.tmp 129) = _ := hac25 ▸ ev_put e129_24 (by decide)
  have e133_25 : ac25.eval (.tmp 133) = _ := hac25 ▸ ev_same (by rw [zz24]; decide)
  have zz25 : ac25.tmps.size = 287 := hac25 ▸ size_put zz24
  obtain ⟨xo25, xi25, xd25, xg25, xp25⟩ := q16_25
  refine qd_skip (k := 25) xi25 xd25 (w_some xg25 (by kernel_rfl) e129_25 rfl) ?_
  obtain ⟨ac26, hac26⟩ : ∃ x, ac25.put (some 134) (undef) = x := ⟨_, rfl⟩
  rw [hac26]
  have e124_26 : ac26.eval (.tmp 124) = _ := hac26 ▸ ev_put e124_25 (by decide)
  have e129_26 : ac26.eval (.tmp 129) = _ := hac26 ▸ ev_put e129_25 (by decide)
  have e134_26 : ac26.eval (.tmp 134) = _ := hac26 ▸ ev_same (by rw [zz25]; decide)
  have zz26 : ac26.tmps.size = 287 := hac26 ▸ size_put zz25
  obtain ⟨xo26, xi26, xd26, xg26, xp26⟩ := q16_26
  refine qd_want (k := 26) (v := .bool false) xi26 xd26 (w_some xg26 (by kernel_rfl) e124_26 rfl) (fun w _ => run_pick xp26 e129_26 (fun q => by cases q) (fun _ => rfl) w) ?_
  obtain ⟨ac27, hac27⟩ : ∃ x, ac26.put (some 135) (.bool false) = x := ⟨_, rfl⟩
  rw [hac27]
  have e124_27 : ac27.eval (.tmp 124) = _ := hac27 ▸ ev_put e124_26 (by decide)
  have e135_27 : ac27.eval (.tmp 135) = _ := hac27 ▸ ev_same (by rw [zz26]; decide)
  have zz27 : ac27.tmps.size = 287 := hac27 ▸ size_put zz26
  obtain ⟨xo27, xi27, xd27, xg27, xp27⟩ := q16_27
  refine qd_want (k := 27) (v := .bool false) xi27 xd27 (w_none xg27) (fun w _ => run_pick xp27 e124_27 (fun q => by cases q) (fun _ => e135_27) w) ?_
  obtain ⟨ac28, hac28⟩ : ∃ x, ac27.put (some 136) (.bool false) = x := ⟨_, rfl⟩
  rw [hac28]
  have zz28 : ac28.tmps.size = 287 := hac28 ▸ size_put zz27
  refine qd_end (k := 28) (by kernel_rfl) ?_
  rintro w' ⟨j, rfl⟩
  subst hac28 hac27 hac26 hac25 hac24 hac23 hac22 hac21 hac20 hac19 hac18 hac17 hac16 hac15 hac14 hac13 hac12 hac11 hac10 hac9 hac8 hac7 hac6 hac5 hac4 hac3 hac2 hac1
  exact hk j
set_option maxRecDepth 100000 in
set_option maxHeartbeats 4000000 in
theorem r16b (q : Option Addr) (i n m cc wb : Nat) (W0 : World) (a : Act) (hs : a.tmps.size = 287) (hA : a.eval (.tmp 1) = .slice q n cc) (hB : a.eval (.tmp 10) = .slice (some ⟨wb, 0, none⟩) m m) (hI : a.eval (.tmp 16) = .int .i64 i) (him : i < m) (hlt : decide ((i : Int) < (n : Int)) = false) (hge : decide ((n : Int) ≤ (i : Int)) = true) (cw : W0.cell? ⟨wb, 0 + i, none⟩ = some (.int .u8 0)) {K : Act → World → Prop} (hk : ∀ j : Nat, K (((((((((((((((((((((((((((((a).put (some 109) (.int .i64 i)).put (some 110) (.slice q n cc)).put (some 111) (.int .i64 n)).put (some 112) (.bool false)).put (some 113) (.bool false)).put (some 114) (undef)).put (some 115) (undef)).put (some 116) (undef)).put (some 117) (undef)).put (some 118) (undef)).put (some 119) (undef)).put (some 120) (undef)).put (some 121) (undef)).put (some 122) (undef)).put (some 123) (.bool false)).put (some 124) (.bool false)).put (some 125) (.int .i64 i)).put (some 126) (.slice q n cc)).put (some 127) (.int .i64 n)).put (some 128) (.bool true)).put (some 129) (.bool true)).put (some 130) (.slice (some ⟨wb, 0, none⟩) m m)).put (some 131) (.int .i64 i)).put (some 132) (.pointer (some ⟨wb, 0 + i, none⟩))).put (some 133) (.int .u8 0)).put (some 134) (.bool false)).put (some 135) (.bool false)).put (some 136) (.bool false)) (W0.drewN j)) : (regIn Tryz.f3.body 16).wp Tryz.prog (Exit.then K NoX) a W0 := by
  show (Code.region 16 (opsIn (regIn Tryz.f3.body 16)) true).wp _ _ _ _
  refine wp_region_quiet (C := fun w' => ∃ n, w' = W0.drewN n) (by kernel_rfl) (by kernel_rfl) ⟨1, rfl⟩ ?_
  show wpQuiet _ _ _ _ (List.drop 0 _) _
  obtain ⟨xo0, xi0, xd0, xg0, xp0⟩ := q16_0
  refine qd_want (k := 0) (v := .int .i64 i) xi0 xd0 (w_none xg0) (fun w _ => run_move xp0 hI w) ?_
  obtain ⟨ac1, hac1⟩ : ∃ x, a.put (some 109) (.int .i64 i) = x := ⟨_, rfl⟩
  rw [hac1]
  have e1_1 : ac1.eval (.tmp 1) = _ := hac1 ▸ ev_put hA (by decide)
  have e10_1 : ac1.eval (.tmp 10) = _ := hac1 ▸ ev_put hB (by decide)
  have e16_1 : ac1.eval (.tmp 16) = _ := hac1 ▸ ev_put hI (by decide)
  have e109_1 : ac1.eval (.tmp 109) = _ := hac1 ▸ ev_same (by rw [hs]; decide)
  have zz1 : ac1.tmps.size = 287 := hac1 ▸ size_put hs
  obtain ⟨xo1, xi1, xd1, xg1, xp1⟩ := q16_1
  refine qd_want (k := 1) (v := .slice q n cc) xi1 xd1 (w_none xg1) (fun w _ => run_move xp1 e1_1 w) ?_
  obtain ⟨ac2, hac2⟩ : ∃ x, ac1.put (some 110) (.slice q n cc) = x := ⟨_, rfl⟩
  rw [hac2]
  have e1_2 : ac2.eval (.tmp 1) = _ := hac2 ▸ ev_put e1_1 (by decide)
  have e10_2 : ac2.eval (.tmp 10) = _ := hac2 ▸ ev_put e10_1 (by decide)
  have e16_2 : ac2.eval (.tmp 16) = _ := hac2 ▸ ev_put e16_1 (by decide)
  have e109_2 : ac2.eval (.tmp 109) = _ := hac2 ▸ ev_put e109_1 (by decide)
  have e110_2 : ac2.eval (.tmp 110) = _ := hac2 ▸ ev_same (by rw [zz1]; decide)
  have zz2 : ac2.tmps.size = 287 := hac2 ▸ size_put zz1
  obtain ⟨xo2, xi2, xd2, xg2, xp2⟩ := q16_2
  refine qd_want (k := 2) (v := .int .i64 n) xi2 xd2 (w_none xg2) (fun w _ => run_len23 xp2 e110_2 w) ?_
  obtain ⟨ac3, hac3⟩ : ∃ x, ac2.put (some 111) (.int .i64 n) = x := ⟨_, rfl⟩
  rw [hac3]
  have e1_3 : ac3.eval (.tmp 1) = _ := hac3 ▸ ev_put e1_2 (by decide)
  have e10_3 : ac3.eval (.tmp 10) = _ := hac3 ▸ ev_put e10_2 (by decide)
  have e16_3 : ac3.eval (.tmp 16) = _ := hac3 ▸ ev_put e16_2 (by decide)
  have e109_3 : ac3.eval (.tmp 109) = _ := hac3 ▸ ev_put e109_2 (by decide)
  have e111_3 : ac3.eval (.tmp 111) = _ := hac3 ▸ ev_same (by rw [zz2]; decide)
  have zz3 : ac3.tmps.size = 287 := hac3 ▸ size_put zz2
  obtain ⟨xo3, xi3, xd3, xg3, xp3⟩ := q16_3
  refine qd_want (k := 3) (v := .bool false) xi3 xd3 (w_none xg3) (fun w _ => run_lss xp3 e109_3 e111_3 hlt w) ?_
  obtain ⟨ac4, hac4⟩ : ∃ x, ac3.put (some 112) (.bool false) = x := ⟨_, rfl⟩
  rw [hac4]
  have e1_4 : ac4.eval (.tmp 1) = _ := hac4 ▸ ev_put e1_3 (by decide)
  have e10_4 : ac4.eval (.tmp 10) = _ := hac4 ▸ ev_put e10_3 (by decide)
  have e16_4 : ac4.eval (.tmp 16) = _ := hac4 ▸ ev_put e16_3 (by decide)
  have e112_4 : ac4.eval (.tmp 112) = _ := hac4 ▸ ev_same (by rw [zz3]; decide)
  have zz4 : ac4.tmps.size = 287 := hac4 ▸ size_put zz3
  obtain ⟨xo4, xi4, xd4, xg4, xp4⟩ := q16_4
  refine qd_want (k := 4) (v := .bool false) xi4 xd4 (w_none xg4) (fun w _ => run_move xp4 e112_4 w) ?_
  obtain ⟨ac5, hac5⟩ : ∃ x, ac4.put (some 113) (.bool false) = x := ⟨_, rfl⟩
  rw [hac5]
  have e1_5 : ac5.eval (.tmp 1) = _ := hac5 ▸ ev_put e1_4 (by decide)
  have e10_5 : ac5.eval (.tmp 10) = _ := hac5 ▸ ev_put e10_4 (by decide)
  have e16_5 : ac5.eval (.tmp 16) = _ := hac5 ▸ ev_put e16_4 (by decide)
  have e113_5 : ac5.eval (.tmp 113) = _ := hac5 ▸ ev_same (by rw [zz4]; decide)
  have zz5 : ac5.tmps.size = 287 := hac5 ▸ size_put zz4
  obtain ⟨xo5, xi5, xd5, xg5, xp5⟩ := q16_5
  refine qd_skip (k := 5) xi5 xd5 (w_some xg5 (by kernel_rfl) e113_5 rfl) ?_
  obtain ⟨ac6, hac6⟩ : ∃ x, ac5.put (some 114) (undef) = x := ⟨_, rfl⟩
  rw [hac6]
  have e1_6 : ac6.eval (.tmp 1) = _ := hac6 ▸ ev_put e1_5 (by decide)
  have e10_6 : ac6.eval (.tmp 10) = _ := hac6 ▸ ev_put e10_5 (by decide)
  have e16_6 : ac6.eval (.tmp 16) = _ := hac6 ▸ ev_put e16_5 (by decide)
  have e113_6 : ac6.eval (.tmp 113) = _ := hac6 ▸ ev_put e113_5 (by decide)
  have e114_6 : ac6.eval (.tmp 114) = _ := hac6 ▸ ev_same (by rw [zz5]; decide)
  have zz6 : ac6.tmps.size = 287 := hac6 ▸ size_put zz5
  obtain ⟨xo6, xi6, xd6, xg6, xp6⟩ := q16_6
  refine qd_skip (k := 6) xi6 xd6 (w_some xg6 (by kernel_rfl) e113_6 rfl) ?_
  obtain ⟨ac7, hac7⟩ : ∃ x, ac6.put (some 115) (undef) = x := ⟨_, rfl⟩
  rw [hac7]
  have e1_7 : ac7.eval (.tmp 1) = _ := hac7 ▸ ev_put e1_6 (by decide)
  have e10_7 : ac7.eval (.tmp 10) = _ := hac7 ▸ ev_put e10_6 (by decide)
  have e16_7 : ac7.eval (.tmp 16) = _ := hac7 ▸ ev_put e16_6 (by decide)
  have e113_7 : ac7.eval (.tmp 113) = _ := hac7 ▸ ev_put e113_6 (by decide)
  have e114_7 : ac7.eval (.tmp 114) = _ := hac7 ▸ ev_put e114_6 (by decide)
  have e115_7 : ac7.eval (.tmp 115) = _ := hac7 ▸ ev_same (by rw [zz6]; decide)
  have zz7 : ac7.tmps.size = 287 := hac7 ▸ size_put zz6
  obtain ⟨xo7, xi7, xd7, xg7, xp7⟩ := q16_7
  refine qd_skip (k := 7) xi7 xd7 (w_some xg7 (by kernel_rfl) e113_7 rfl) ?_
  obtain ⟨ac8, hac8⟩ : ∃ x, ac7.put (some 116) (undef) = x := ⟨_, rfl⟩
  rw [hac8]
  have e1_8 : ac8.eval (.tmp 1) = _ := hac8 ▸ ev_put e1_7 (by decide)
  have e10_8 : ac8.eval (.tmp 10) = _ := hac8 ▸ ev_put e10_7 (by decide)
  have e16_8 : ac8.eval (.tmp 16) = _ := hac8 ▸ ev_put e16_7 (by decide)
  have e113_8 : ac8.eval (.tmp 113) = _ := hac8 ▸ ev_put e113_7 (by decide)
  have e116_8 : ac8.eval (.tmp 116) = _ := hac8 ▸ ev_same (by rw [zz7]; decide)
  have zz8 : ac8.tmps.size = 287 := hac8 ▸ size_put zz7
  obtain ⟨xo8, xi8, xd8, xg8, xp8⟩ := q16_8
  refine qd_skip (k := 8) xi8 xd8 (w_some xg8 (by kernel_rfl) e113_8 rfl) ?_
  obtain ⟨ac9, hac9⟩ : ∃ x, ac8.put (some 117) (undef) = x := ⟨_, rfl⟩
  rw [hac9]
  have e1_9 : ac9.eval (.tmp 1) = _ := hac9 ▸ ev_put e1_8 (by decide)
  have e10_9 : ac9.eval (.tmp 10) = _ := hac9 ▸ ev_put e10_8 (by decide)
  have e16_9 : ac9.eval (.tmp 16) = _ := hac9 ▸ ev_put e16_8 (by decide)
  have e113_9 : ac9.eval (.tmp 113) = _ := hac9 ▸ ev_put e113_8 (by decide)
  have e117_9 : ac9.eval (.tmp 117) = _ := hac9 ▸ ev_same (by rw [zz8]; decide)
  have zz9 : ac9.tmps.size = 287 := hac9 ▸ size_put zz8
  obtain ⟨xo9, xi9, xd9, xg9, xp9⟩ := q16_9
  refine qd_skip (k := 9) xi9 xd9 (w_some xg9 (by kernel_rfl) e113_9 rfl) ?_
  obtain ⟨ac10, hac10⟩ : ∃ x, ac9.put (some 118) (undef) = x := ⟨_, rfl⟩
  rw [hac10]
  have e1_10 : ac10.eval (.tmp 1) = _ := hac10 ▸ ev_put e1_9 (by decide)
  have e10_10 : ac10.eval (.tmp 10) = _ := hac10 ▸ ev_put e10_9 (by decide)
  have e16_10 : ac10.eval (.tmp 16) = _ := hac10 ▸ ev_put e16_9 (by decide)
  have e113_10 : ac10.eval (.tmp 113) = _ := hac10 ▸ ev_put e113_9 (by decide)
  have e117_10 : ac10.eval (.tmp 117) = _ := hac10 ▸ ev_put e117_9 (by decide)
  have e118_10 : ac10.eval (.tmp 118) = _ := hac10 ▸ ev_same (by rw [zz9]; decide)
  have zz10 : ac10.tmps.size = 287 := hac10 ▸ size_put zz9
  obtain ⟨xo10, xi10, xd10, xg10, xp10⟩ := q16_10
  refine qd_skip (k := 10) xi10 xd10 (w_some xg10 (by kernel_rfl) e113_10 rfl) ?_
  obtain ⟨ac11, hac11⟩ : ∃ x, ac10.put (some 119) (undef) = x := ⟨_, rfl⟩
  rw [hac11]
  have e1_11 : ac11.eval (.tmp 1) = _ := hac11 ▸ ev_put e1_10 (by decide)
  have e10_11 : ac11.eval (.tmp 10) = _ := hac11 ▸ ev_put e10_10 (by decide)
  have e16_11 : ac11.eval (.tmp 16) = _ := hac11 ▸ ev_put e16_10 (by decide)
  have e113_11 : ac11.eval (.tmp 113) = _ := hac11 ▸ ev_put e113_10 (by decide)
  have e117_11 : ac11.eval (.tmp 117) = _ := hac11 ▸ ev_put e117_10 (by decide)
  have e118_11 : ac11.eval (.tmp 118) = _ := hac11 ▸ ev_put e118_10 (by decide)
  have e119_11 : ac11.eval (.tmp 119) = _ := hac11 ▸ ev_same (by rw [zz10]; decide)
  have zz11 : ac11.tmps.size = 287 := hac11 ▸ size_put zz10
  obtain ⟨xo11, xi11, xd11, xg11, xp11⟩ := q16_11
  refine qd_skip (k := 11) xi11 xd11 (w_some xg11 (by kernel_rfl) e113_11 rfl) ?_
  obtain ⟨ac12, hac12⟩ : ∃ x, ac11.put (some 120) (undef) = x := ⟨_, rfl⟩
  rw [hac12]
  have e1_12 : ac12.eval (.tmp 1) = _ := hac12 ▸ ev_put e1_11 (by decide)
  have e10_12 : ac12.eval (.tmp 10) = _ := hac12 ▸ ev_put e10_11 (by decide)
  have e16_12 : ac12.eval (.tmp 16) = _ := hac12 ▸ ev_put e16_11 (by decide)
  have e113_12 : ac12.eval (.tmp 113) = _ := hac12 ▸ ev_put e113_11 (by decide)
  have e117_12 : ac12.eval (.tmp 117) = _ := hac12 ▸ ev_put e117_11 (by decide)
  have e120_12 : ac12.eval (.tmp 120) = _ := hac12 ▸ ev_same (by rw [zz11]; decide)
  have zz12 : ac12.tmps.size = 287 := hac12 ▸ size_put zz11
  obtain ⟨xo12, xi12, xd12, xg12, xp12⟩ := q16_12
  refine qd_skip (k := 12) xi12 xd12 (w_some xg12 (by kernel_rfl) e113_12 rfl) ?_
  obtain ⟨ac13, hac13⟩ : ∃ x, ac12.put (some 121) (undef) = x := ⟨_, rfl⟩
  rw [hac13]
  have e1_13 : ac13.eval (.tmp 1) = _ := hac13 ▸ ev_put e1_12 (by decide)
  have e10_13 : ac13.eval (.tmp 10) = _ := hac13 ▸ ev_put e10_12 (by decide)
  have e16_13 : ac13.eval (.tmp 16) = _ := hac13 ▸ ev_put e16_12 (by decide)
  have e113_13 : ac13.eval (.tmp 113) = _ := hac13 ▸ ev_put e113_12 (by decide)
  have e117_13 : ac13.eval (.tmp 117) = _ := hac13 ▸ ev_put e117_12 (by decide)
  have e121_13 : ac13.eval (.tmp 121) = _ := hac13 ▸ ev_same (by rw [zz12]; decide)
  have zz13 : ac13.tmps.size = 287 := hac13 ▸ size_put zz12
  obtain ⟨xo13, xi13, xd13, xg13, xp13⟩ := q16_13
  refine qd_skip (k := 13) xi13 xd13 (w_some xg13 (by kernel_rfl) e113_13 rfl) ?_
  obtain ⟨ac14, hac14⟩ : ∃ x, ac13.put (some 122) (undef) = x := ⟨_, rfl⟩
  rw [hac14]
  have e1_14 : ac14.eval (.tmp 1) = _ := hac14 ▸ ev_put e1_13 (by decide)
  have e10_14 : ac14.eval (.tmp 10) = _ := hac14 ▸ ev_put e10_13 (by decide)
  have e16_14 : ac14.eval (.tmp 16) = _ := hac14 ▸ ev_put e16_13 (by decide)
  have e113_14 : ac14.eval (.tmp 113) = _ := hac14 ▸ ev_put e113_13 (by decide)
  have e122_14 : ac14.eval (.tmp 122) = _ := hac14 ▸ ev_same (by rw [zz13]; decide)
  have zz14 : ac14.tmps.size = 287 := hac14 ▸ size_put zz13
  obtain ⟨xo14, xi14, xd14, xg14, xp14⟩ := q16_14
  refine qd_want (k := 14) (v := .bool false) xi14 xd14 (w_none xg14) (fun w _ => run_pick xp14 e113_14 (fun q => by cases q) (fun _ => rfl) w) ?_
  obtain ⟨ac15, hac15⟩ : ∃ x, ac14.put (some 123) (.bool false) = x := ⟨_, rfl⟩
  rw [hac15]
  have e1_15 : ac15.eval (.tmp 1) = _ := hac15 ▸ ev_put e1_14 (by decide)
  have e10_15 : ac15.eval (.tmp 10) = _ := hac15 ▸ ev_put e10_14 (by decide)
  have e16_15 : ac15.eval (.tmp 16) = _ := hac15 ▸ ev_put e16_14 (by decide)
  have e123_15 : ac15.eval (.tmp 123) = _ := hac15 ▸ ev_same (by rw [zz14]; decide)
  have zz15 : ac15.tmps.size = 287 := hac15 ▸ size_put zz14
  obtain ⟨xo15, xi15, xd15, xg15, xp15⟩ := q16_15
  refine qd_want (k := 15) (v := .bool false) xi15 xd15 (w_none xg15) (fun w _ => run_move xp15 e123_15 w) ?_
  obtain ⟨ac16, hac16⟩ : ∃ x, ac15.put (some 124) (.bool false) = x := ⟨_, rfl⟩
  rw [hac16]
  have e1_16 : ac16.eval (.tmp 1) = _ := hac16 ▸ ev_put e1_15 (by decide)
  have e10_16 : ac16.eval (.tmp 10) = _ := hac16 ▸ ev_put e10_15 (by decide)
  have e16_16 : ac16.eval (.tmp 16) = _ := hac16 ▸ ev_put e16_15 (by decide)
  have e124_16 : ac16.eval (.tmp 124) = _ := hac16 ▸ ev_same (by rw [zz15]; decide)
  have zz16 : ac16.tmps.size = 287 := hac16 ▸ size_put zz15
  obtain ⟨xo16, xi16, xd16, xg16, xp16⟩ := q16_16
  refine qd_want (k := 16) (v := .int .i64 i) xi16 xd16 (w_some xg16 (by kernel_rfl) e124_16 rfl) (fun w _ => run_move xp16 e16_16 w) ?_
  obtain ⟨ac17, hac17⟩ : ∃ x, ac16.put (some 125) (.int .i64 i) = x := ⟨_, rfl⟩
  rw [hac17]
  have e1_17 : ac17.eval (.tmp 1) = _ := hac17 ▸ ev_put e1_16 (by decide)
  have e10_17 : ac17.eval (.tmp 10) = _ := hac17 ▸ ev_put e10_16 (by decide)
  have e16_17 : ac17.eval (.tmp 16) = _ := hac17 ▸ ev_put e16_16 (by decide)
  have e124_17 : ac17.eval (.tmp 124) = _ := hac17 ▸ ev_put e124_16 (by decide)
  have e125_17 : ac17.eval (.tmp 125) = _ := hac17 ▸ ev_same (by rw [zz16]; decide)
  have zz17 : ac17.tmps.size = 287 := hac17 ▸ size_put zz16
  obtain ⟨xo17, xi17, xd17, xg17, xp17⟩ := q16_17
  refine qd_want (k := 17) (v := .slice q n cc) xi17 xd17 (w_some xg17 (by kernel_rfl) e124_17 rfl) (fun w _ => run_move xp17 e1_17 w) ?_
  obtain ⟨ac18, hac18⟩ : ∃ x, ac17.put (some 126) (.slice q n cc) = x := ⟨_, rfl⟩
  rw [hac18]
  have e10_18 : ac18.eval (.tmp 10) = _ := hac18 ▸ ev_put e10_17 (by decide)
  have e16_18 : ac18.eval (.tmp 16) = _ := hac18 ▸ ev_put e16_17 (by decide)
  have e124_18 : ac18.eval (.tmp 124) = _ := hac18 ▸ ev_put e124_17 (by decide)
  have e125_18 : ac18.eval (.tmp 125) = _ := hac18 ▸ ev_put e125_17 (by decide)
  have e126_18 : ac18.eval (.tmp 126) = _ := hac18 ▸ ev_same (by rw [zz17]; decide)
  have zz18 : ac18.tmps.size = 287 := hac18 ▸ size_put zz17
  obtain ⟨xo18, xi18, xd18, xg18, xp18⟩ := q16_18
  refine qd_want (k := 18) (v := .int .i64 n) xi18 xd18 (w_some xg18 (by kernel_rfl) e124_18 rfl) (fun w _ => run_len23 xp18 e126_18 w) ?_
  obtain ⟨ac19, hac19⟩ : ∃ x, ac18.put (some 127) (.int .i64 n) = x := ⟨_, rfl⟩
  rw [hac19]
  have e10_19 : ac19.eval (.tmp 10) = _ := hac19 ▸ ev_put e10_18 (by decide)
  have e16_19 : ac19.eval (.tmp 16) = _ := hac19 ▸ ev_put e16_18 (by decide)
  have e124_19 : ac19.eval (.tmp 124) = _ := hac19 ▸ ev_put e124_18 (by decide)
  have e125_19 : ac19.eval (.tmp 125) = _ := hac19 ▸ ev_put e125_18 (by decide)
  have e127_19 : ac19.eval (.tmp 127) = _ := hac19 ▸ ev_same (by rw [zz18]; decide)
  have zz19 : ac19.tmps.size = 287 := hac19 ▸ size_put zz18
  obtain ⟨xo19, xi19, xd19, xg19, xp19⟩ := q16_19
  refine qd_want (k := 19) (v := .bool true) xi19 xd19 (w_some xg19 (by kernel_rfl) e124_19 rfl) (fun w _ => run_geq xp19 e125_19 e127_19 hge w) ?_
  obtain ⟨ac20, hac20⟩ : ∃ x, ac19.put (some 128) (.bool true) = x := ⟨_, rfl⟩
  rw [hac20]
  have e10_20 : ac20.eval (.tmp 10) = _ := hac20 ▸ ev_put e10_19 (by decide)
  have e16_20 : ac20.eval (.tmp 16) = _ := hac20 ▸ ev_put e16_19 (by decide)
  have e124_20 : ac20.eval (.tmp 124) = _ := hac20 ▸ ev_put e124_19 (by decide)
  have e128_20 : ac20.eval (.tmp 128) = _ := hac20 ▸ ev_same (by rw [zz19]; decide)
  have zz20 : ac20.tmps.size = 287 := hac20 ▸ size_put zz19
  obtain ⟨xo20, xi20, xd20, xg20, xp20⟩ := q16_20
  refine qd_want (k := 20) (v := .bool true) xi20 xd20 (w_some xg20 (by kernel_rfl) e124_20 rfl) (fun w _ => run_move xp20 e128_20 w) ?_
  obtain ⟨ac21, hac21⟩ : ∃ x, ac20.put (some 129) (.bool true) = x := ⟨_, rfl⟩
  rw [hac21]
  have e10_21 : ac21.eval (.tmp 10) = _ := hac21 ▸ ev_put e10_20 (by decide)
  have e16_21 : ac21.eval (.tmp 16) = _ := hac21 ▸ ev_put e16_20 (by decide)
  have e124_21 : ac21.eval (.tmp 124) = _ := hac21 ▸ ev_put e124_20 (by decide)
  have e129_21 : ac21.eval (.tmp 129) = _ := hac21 ▸ ev_same (by rw [zz20]; decide)
  have zz21 : ac21.tmps.size = 287 := hac21 ▸ size_put zz20
  obtain ⟨xo21, xi21, xd21, xg21, xp21⟩ := q16_21
  refine qd_want (k := 21) (v := .slice (some ⟨wb, 0, none⟩) m m) xi21 xd21 (w_some xg21 (by kernel_rfl) e129_21 rfl) (fun w _ => run_move xp21 e10_21 w) ?_
  obtain ⟨ac22, hac22⟩ : ∃ x, ac21.put (some 130) (.slice (some ⟨wb, 0, none⟩) m m) = x := ⟨_, rfl⟩
  rw [hac22]
  have e16_22 : ac22.eval (.tmp 16) = _ := hac22 ▸ ev_put e16_21 (by decide)
  have e124_22 : ac22.eval (.tmp 124) = _ := hac22 ▸ ev_put e124_21 (by decide)
  have e129_22 : ac22.eval (.tmp 129) = _ := hac22 ▸ ev_put e129_21 (by decide)
  have e130_22 : ac22.eval (.tmp 130) = _ := hac22 ▸ ev_same (by rw [zz21]; decide)
  have zz22 : ac22.tmps.size = 287 := hac22 ▸ size_put zz21
  obtain ⟨xo22, xi22, xd22, xg22, xp22⟩ := q16_22
  refine qd_want (k := 22) (v := .int .i64 i) xi22 xd22 (w_some xg22 (by kernel_rfl) e129_22 rfl) (fun w _ => run_move xp22 e16_22 w) ?_
  obtain ⟨ac23, hac23⟩ : ∃ x, ac22.put (some 131) (.int .i64 i) = x := ⟨_, rfl⟩
  rw [hac23]
  have e124_23 : ac23.eval (.tmp 124) = _ := hac23 ▸ ev_put e124_22 (by decide)
  have e129_23 : ac23.eval (.tmp 129) = _ := hac23 ▸ ev_put e129_22 (by decide)
  have e130_23 : ac23.eval (.tmp 130) = _ := hac23 ▸ ev_put e130_22 (by decide)
  have e131_23 : ac23.eval (.tmp 131) = _ := hac23 ▸ ev_same (by rw [zz22]; decide)
  have zz23 : ac23.tmps.size = 287 := hac23 ▸ size_put zz22
  obtain ⟨xo23, xi23, xd23, xg23, xp23⟩ := q16_23
  refine qd_want (k := 23) (v := .pointer (some ⟨wb, 0 + i, none⟩)) xi23 xd23 (w_some xg23 (by kernel_rfl) e129_23 rfl) (fun w _ => run_i23 xp23 e130_23 e131_23 him w) ?_
  obtain ⟨ac24, hac24⟩ : ∃ x, ac23.put (some 132) (.pointer (some ⟨wb, 0 + i, none⟩)) = x := ⟨_, rfl⟩
  rw [hac24]
  have e124_24 : ac24.eval (.tmp 124) = _ := hac24 ▸ ev_put e124_23 (by decide)
  have e129_24 : ac24.eval (.tmp 129) = _ := hac24 ▸ ev_put e129_23 (by decide)
  have e132_24 : ac24.eval (.tmp 132) = _ := hac24 ▸ ev_same (by rw [zz23]; decide)
  have zz24 : ac24.tmps.size = 287 := hac24 ▸ size_put zz23
  obtain ⟨xo24, xi24, xd24, xg24, xp24⟩ := q16_24
  refine qd_want (k := 24) (v := .int .u8 0) xi24 xd24 (w_some xg24 (by kernel_rfl) e129_24 rfl) (fun w hw => by obtain ⟨_, rfl⟩ := hw; exact run_l5 xp24 e132_24 cw) ?_
  obtain ⟨ac25, hac25⟩ : ∃ x, ac24.put (some 133) (.int .u8 0) = x := ⟨_, rfl⟩
  rw [hac25]
  have e124_25 : ac25.eval (.tmp 124) = _ := hac25 ▸ ev_put e124_24 (by decide)
  have e129_25 : ac25.eval (.tmp 129) = _ := hac25 ▸ ev_put e129_24 (by decide)
  have e133_25 : ac25.eval (.tmp 133) = _ := hac25 ▸ ev_same (by rw [zz24]; decide)
  have zz25 : ac25.tmps.size = 287 := hac25 ▸ size_put zz24
  obtain ⟨xo25, xi25, xd25, xg25, xp25⟩ := q16_25
  refine qd_want (k := 25) (v := .bool false) xi25 xd25 (w_some xg25 (by kernel_rfl) e129_25 rfl) (fun w _ => run_ne5 xp25 e133_25 rfl (by simp) w) ?_
  obtain ⟨ac26, hac26⟩ : ∃ x, ac25.put (some 134) (.bool false) = x := ⟨_, rfl⟩
  rw [hac26]
  have e124_26 : ac26.eval (.tmp 124) = _ := hac26 ▸ ev_put e124_25 (by decide)
  have e129_26 : ac26.eval (.tmp 129) = _ := hac26 ▸ ev_put e129_25 (by decide)
  have e134_26 : ac26.eval (.tmp 134) = _ := hac26 ▸ ev_same (by rw [zz25]; decide)
  have zz26 : ac26.tmps.size = 287 := hac26 ▸ size_put zz25
  obtain ⟨xo26, xi26, xd26, xg26, xp26⟩ := q16_26
  refine qd_want (k := 26) (v := .bool false) xi26 xd26 (w_some xg26 (by kernel_rfl) e124_26 rfl) (fun w _ => run_pick xp26 e129_26 (fun _ => e134_26) (fun q => by cases q) w) ?_
  obtain ⟨ac27, hac27⟩ : ∃ x, ac26.put (some 135) (.bool false) = x := ⟨_, rfl⟩
  rw [hac27]
  have e124_27 : ac27.eval (.tmp 124) = _ := hac27 ▸ ev_put e124_26 (by decide)
  have e135_27 : ac27.eval (.tmp 135) = _ := hac27 ▸ ev_same (by rw [zz26]; decide)
  have zz27 : ac27.tmps.size = 287 := hac27 ▸ size_put zz26
  obtain ⟨xo27, xi27, xd27, xg27, xp27⟩ := q16_27
  refine qd_want (k := 27) (v := .bool false) xi27 xd27 (w_none xg27) (fun w _ => run_pick xp27 e124_27 (fun q => by cases q) (fun _ => e135_27) w) ?_
  obtain ⟨ac28, hac28⟩ : ∃ x, ac27.put (some 136) (.bool false) = x := ⟨_, rfl⟩
  rw [hac28]
  have zz28 : ac28.tmps.size = 287 := hac28 ▸ size_put zz27
  refine qd_end (k := 28) (by kernel_rfl) ?_
  rintro w' ⟨j, rfl⟩
  subst hac28 hac27 hac26 hac25 hac24 hac23 hac22 hac21 hac20 hac19 hac18 hac17 hac16 hac15 hac14 hac13 hac12 hac11 hac10 hac9 hac8 hac7 hac6 hac5 hac4 hac3 hac2 hac1
  exact hk j
set_option maxRecDepth 100000 in
set_option maxHeartbeats 4000000 in
theorem reg16 {u0 u2 u3 u4 u5 u6 u7 u8 u9 u11 u12 u13 u14 u15 u17 u18 u19 u20 u21 u22 u23 u24 u25 u26 u27 u28 u29 u30 u31 u32 u33 u34 u35 u36 u37 u38 u39 u40 u41 u42 u43 u44 u45 u46 u47 u48 u49 u50 u51 u52 u53 u54 u55 u56 u57 u58 u59 u60 u61 u62 u63 u64 u65 u66 u67 u68 u69 u70 u71 u72 u73 u74 u75 u76 u77 u78 u79 u80 u81 u82 u83 u84 u85 u86 u87 u88 u89 u90 u91 u92 u93 u94 u95 u96 u97 u98 u99 u100 u101 u102 u103 u104 u105 u106 u107 u108 u109 u110 u111 u112 u113 u114 u115 u116 u117 u118 u119 u120 u121 u122 u123 u124 u125 u126 u127 u128 u129 u130 u131 u132 u133 u134 u135 u136 u137 u138 u139 u140 u141 u142 u143 u144 u145 u146 u147 u148 u149 u150 u151 u152 u153 u154 u155 u156 u157 u158 u159 u160 u161 u162 u163 u164 u165 u166 u167 u168 u169 u170 u171 u172 u173 u174 u175 u176 u177 u178 u179 u180 u181 u182 u183 u184 u185 u186 u187 u188 u189 u190 u191 u192 u193 u194 u195 u196 u197 u198 u199 u200 u201 u202 u203 u204 u205 u206 u207 u208 u209 u210 u211 u212 u213 u214 u215 u216 u217 u218 u219 u220 u221 u222 u223 u224 u225 u226 u227 u228 u229 u230 u231 u232 u233 u234 u235 u236 u237 u238 u239 u240 u241 u242 u243 u244 u245 u246 u247 u248 u249 u250 u251 u252 u253 u254 u255 u256 u257 u258 u259 u260 u261 u262 u263 u264 u265 u266 u267 u268 u269 u270 u271 u272 u273 u274 u275 u276 u277 u278 u279 u280 u281 u282 u283 u284 u285 u286 : Value} {ds : List Deferred} (q : Option Addr) (i n m cc wb : Nat) (g : Nat → Int) (W0 : World) (him : i < m) (hc : ∀ j, j < n → ∃ cb co, q = some ⟨cb, co, none⟩ ∧ W0.cell? ⟨cb, co + j, none⟩ = some (.int .u8 (g j))) (cw : W0.cell? ⟨wb, i, none⟩ = some (.int .u8 (if i < n then g i else 0))) {K : Act → World → Prop} (hk : ∀ (t109 t110 t111 t112 t113 t114 t115 t116 t117 t118 t119 t120 t121 t122 t123 t124 t125 t126 t127 t128 t129 t130 t131 t132 t133 t134 t135 : Value) (j : Nat), K ⟨#[u0, .slice q n cc, u2, u3, u4, u5, u6, u7, u8, u9, .slice (some ⟨wb, 0, none⟩) m m, u11, u12, u13, u14, u15, .int .i64 i, u17, u18, u19, u20, u21, u22, u23, u24, u25, u26, u27, u28, u29, u30, u31, u32, u33, u34, u35, u36, u37, u38, u39, u40, u41, u42, u43, u44, u45, u46, u47, u48, u49, u50, u51, u52, u53, u54, u55, u56, u57, u58, u59, u60, u61, u62, u63, u64, u65, u66, u67, u68, u69, u70, u71, u72, u73, u74, u75, u76, u77, u78, u79, u80, u81, u82, u83, u84, u85, u86, u87, u88, u89, u90, u91, u92, u93, u94, u95, u96, u97, u98, u99, u100, u101, u102, u103, u104, u105, u106, u107, u108, t109, t110, t111, t112, t113, t114, t115, t116, t117, t118, t119, t120, t121, t122, t123, t124, t125, t126, t127, t128, t129, t130, t131, t132, t133, t134, t135, .bool false, u137, u138, u139, u140, u141, u142, u143, u144, u145, u146, u147, u148, u149, u150, u151, u152, u153, u154, u155, u156, u157, u158, u159, u160, u161, u162, u163, u164, u165, u166, u167, u168, u169, u170, u171, u172, u173, u174, u175, u176, u177, u178, u179, u180, u181, u182, u183, u184, u185, u186, u187, u188, u189, u190, u191, u192, u193, u194, u195, u196, u197, u198, u199, u200, u201, u202, u203, u204, u205, u206, u207, u208, u209, u210, u211, u212, u213, u214, u215, u216, u217, u218, u219, u220, u221, u222, u223, u224, u225, u226, u227, u228, u229, u230, u231, u232, u233, u234, u235, u236, u237, u238, u239, u240, u241, u242, u243, u244, u245, u246, u247, u248, u249, u250, u251, u252, u253, u254, u255, u256, u257, u258, u259, u260, u261, u262, u263, u264, u265, u266, u267, u268, u269, u270, u271, u272, u273, u274, u275, u276, u277, u278, u279, u280, u281, u282, u283, u284, u285, u286], ds⟩ (W0.drewN j)) : (regIn Tryz.f3.body 16).wp Tryz.prog (Exit.then K NoX) ⟨#[u0, .slice q n cc, u2, u3, u4, u5, u6, u7, u8, u9, .slice (some ⟨wb, 0, none⟩) m m, u11, u12, u13, u14, u15, .int .i64 i, u17, u18, u19, u20, u21, u22, u23, u24, u25, u26, u27, u28, u29, u30, u31, u32, u33, u34, u35, u36, u37, u38, u39, u40, u41, u42, u43, u44, u45, u46, u47, u48, u49, u50, u51, u52, u53, u54, u55, u56, u57, u58, u59, u60, u61, u62, u63, u64, u65, u66, u67, u68, u69, u70, u71, u72, u73, u74, u75, u76, u77, u78, u79, u80, u81, u82, u83, u84, u85, u86, u87, u88, u89, u90, u91, u92, u93, u94, u95, u96, u97, u98, u99, u100, u101, u102, u103, u104, u105, u106, u107, u108, u109, u110, u111, u112, u113, u114, u115, u116, u117, u118, u119, u120, u121, u122, u123, u124, u125, u126, u127, u128, u129, u130, u131, u132, u133, u134, u135, u136, u137, u138, u139, u140, u141, u142, u143, u144, u145, u146, u147, u148, u149, u150, u151, u152, u153, u154, u155, u156, u157, u158, u159, u160, u161, u162, u163, u164, u165, u166, u167, u168, u169, u170, u171, u172, u173, u174, u175, u176, u177, u178, u179, u180, u181, u182, u183, u184, u185, u186, u187, u188, u189, u190, u191, u192, u193, u194, u195, u196, u197, u198, u199, u200, u201, u202, u203, u204, u205, u206, u207, u208, u209, u210, u211, u212, u213, u214, u215, u216, u217, u218, u219, u220, u221, u222, u223, u224, u225, u226, u227, u228, u229, u230, u231, u232, u233, u234, u235, u236, u237, u238, u239, u240, u241, u242, u243, u244, u245, u246, u247, u248, u249, u250, u251, u252, u253, u254, u255, u256, u257, u258, u259, u260, u261, u262, u263, u264, u265, u266, u267, u268, u269, u270, u271, u272, u273, u274, u275, u276, u277, u278, u279, u280, u281, u282, u283, u284, u285, u286], ds⟩ W0 := by
  have cw : W0.cell? ⟨wb, 0 + i, none⟩ = some (.int .u8 (if i < n then g i else 0)) := by rw [Nat.zero_add]; exact cw
  by_cases hin : i < n
  · obtain ⟨cb, co, rfl, ca⟩ := hc i hin
    rw [if_pos hin] at cw
    have hlt : decide ((i : Int) < (n : Int)) = true := decide_eq_true (by omega)
    have hge : decide ((n : Int) ≤ (i : Int)) = false := decide_eq_false (by omega)
    refine r16a (g i) i n m cb co cc wb W0 _ rfl rfl rfl rfl him hin hlt hge cw ca (fun j => ?_)
    have h := hk (.int .i64 i) (.slice (some ⟨cb, co, none⟩) n cc) (.int .i64 n) (.bool true) (.bool true) (.slice (some ⟨wb, 0, none⟩) m m) (.int .i64 i) (.pointer (some ⟨wb, 0 + i, none⟩)) (.int .u8 (g i)) (.slice (some ⟨cb, co, none⟩) n cc) (.int .i64 i) (.pointer (some ⟨cb, co + i, none⟩)) (.int .u8 (g i)) (.bool false) (.bool false) (.bool false) (.int .i64 i) (.slice (some ⟨cb, co, none⟩) n cc) (.int .i64 n) (.bool false) (.bool false) (undef) (undef) (undef) (undef) (undef) (.bool false) j
    exact Eq.mpr (by kernel_rfl) h
  · rw [if_neg hin] at cw
    have hlt : decide ((i : Int) < (n : Int)) = false := decide_eq_false (by omega)
    have hge : decide ((n : Int) ≤ (i : Int)) = true := decide_eq_true (by omega)
    refine r16b q i n m cc wb W0 _ rfl rfl rfl rfl him hlt hge cw (fun j => ?_)
    have h := hk (.int .i64 i) (.slice q n cc) (.int .i64 n) (.bool false) (.bool false) (undef) (undef) (undef) (undef) (undef) (undef) (undef) (undef) (undef) (.bool false) (.bool false) (.int .i64 i) (.slice q n cc) (.int .i64 n) (.bool true) (.bool true) (.slice (some ⟨wb, 0, none⟩) m m) (.int .i64 i) (.pointer (some ⟨wb, 0 + i, none⟩)) (.int .u8 0) (.bool false) (.bool false) j
    exact Eq.mpr (by kernel_rfl) h
end Go.Proofs.YtengofkjlgajlaaGreatDoor
/-
  ArchSteps: what was handed in is written over: a loop.
-/
namespace Go.Proofs.YtengofkjlgajlaaGreatDoor
open Go Go.RowKit
set_option maxRecDepth 100000 in
set_option maxHeartbeats 4000000 in
theorem lp2 {u0 u2 u3 u4 u5 u6 u7 u8 u9 u11 u12 u13 u14 u15 u17 u18 u19 u20 u21 u22 u23 u24 u25 u26 u27 u28 u29 u30 u31 u32 u33 u34 u35 u36 u37 u38 u39 u40 u41 u42 u43 u44 u45 u46 u47 u48 u49 u50 u51 u52 u53 u54 u55 u56 u57 u58 u59 u60 u61 u62 u63 u64 u65 u66 u67 u68 u69 u70 u71 u72 u73 u74 u75 u76 u77 u78 u79 u80 u81 u82 u83 u84 u85 u86 u87 u88 u89 u90 u91 u92 u93 u94 u95 u96 u97 u98 u99 u100 u101 u102 u103 u104 u105 u106 u107 u108 u109 u110 u111 u112 u113 u114 u115 u116 u117 u118 u119 u120 u121 u122 u123 u124 u125 u126 u127 u128 u129 u130 u131 u132 u133 u134 u135 u136 u137 u138 u139 u140 u141 u142 u143 u144 u145 u146 u147 u148 u149 u150 u151 u152 u153 u154 u155 u156 u157 u158 u159 u160 u161 u162 u163 u164 u165 u166 u167 u168 u169 u170 u171 u172 u173 u174 u175 u176 u177 u178 u179 u180 u181 u182 u183 u184 u185 u186 u187 u188 u189 u190 u191 u192 u193 u194 u195 u196 u197 u198 u199 u200 u201 u202 u203 u204 u205 u206 u207 u208 u209 u210 u211 u212 u213 u214 u215 u216 u217 u218 u219 u220 u221 u222 u223 u224 u225 u226 u227 u228 u229 u230 u231 u232 u233 u234 u235 u236 u237 u238 u239 u240 u241 u242 u243 u244 u245 u246 u247 u248 u249 u250 u251 u252 u253 u254 u255 u256 u257 u258 u259 u260 u261 u262 u263 u264 u265 u266 u267 u268 u269 u270 u271 u272 u273 u274 u275 u276 u277 u278 u279 u280 u281 u282 u283 u284 u285 u286 : Value} {ds : List Deferred} (q : Option Addr) (n m cc wb : Nat) (g : Nat → Int) (W0 : World) (hm : m ≤ 9223372036854775807) (hc : ∀ j, j < n → ∃ cb co, q = some ⟨cb, co, none⟩ ∧ cb ≠ wb ∧ cb < W0.heap.size ∧ W0.cell? ⟨cb, co + j, none⟩ = some (.int .u8 (g j))) (hw : CellsAt m W0 wb (fun i => .int .u8 (if i < n then g i else 0))) {K : Act → World → Prop} (hk : ∀ (t8 t16 t103 t104 t105 t106 t107 t108 t109 t110 t111 t112 t113 t114 t115 t116 t117 t118 t119 t120 t121 t122 t123 t124 t125 t126 t127 t128 t129 t130 t131 t132 t133 t134 t135 t136 t137 t138 t139 : Value) (y : World), Turned (fun j => j = wb) W0 y → K ⟨#[u0, .slice q n cc, u2, u3, u4, u5, u6, u7, t8, u9, .slice (some ⟨wb, 0, none⟩) m m, u11, u12, u13, u14, u15, t16, u17, u18, u19, u20, u21, u22, u23, u24, u25, u26, u27, u28, u29, u30, u31, u32, u33, u34, u35, u36, u37, u38, u39, u40, u41, u42, u43, u44, u45, u46, u47, u48, u49, u50, u51, u52, u53, u54, u55, u56, u57, u58, u59, u60, u61, u62, u63, u64, u65, u66, u67, u68, u69, u70, u71, u72, u73, u74, u75, u76, u77, u78, u79, u80, u81, u82, u83, u84, u85, u86, u87, u88, u89, u90, u91, u92, u93, u94, u95, u96, u97, u98, u99, u100, u101, u102, t103, t104, t105, t106, t107, t108, t109, t110, t111, t112, t113, t114, t115, t116, t117, t118, t119, t120, t121, t122, t123, t124, t125, t126, t127, t128, t129, t130, t131, t132, t133, t134, t135, t136, t137, t138, t139, u140, u141, u142, u143, u144, u145, u146, u147, u148, u149, u150, u151, u152, u153, u154, u155, u156, u157, u158, u159, u160, u161, u162, u163, u164, u165, u166, u167, u168, u169, u170, u171, u172, u173, u174, u175, u176, u177, u178, u179, u180, u181, u182, u183, u184, u185, u186, u187, u188, u189, u190, u191, u192, u193, u194, u195, u196, u197, u198, u199, u200, u201, u202, u203, u204, u205, u206, u207, u208, u209, u210, u211, u212, u213, u214, u215, u216, u217, u218, u219, u220, u221, u222, u223, u224, u225, u226, u227, u228, u229, u230, u231, u232, u233, u234, u235, u236, u237, u238, u239, u240, u241, u242, u243, u244, u245, u246, u247, u248, u249, u250, u251, u252, u253, u254, u255, u256, u257, u258, u259, u260, u261, u262, u263, u264, u265, u266, u267, u268, u269, u270, u271, u272, u273, u274, u275, u276, u277, u278, u279, u280, u281, u282, u283, u284, u285, u286], ds⟩ y) : (blkIn Tryz.f3.body 2).wp Tryz.prog (Exit.then K NoX) ⟨#[u0, .slice q n cc, u2, u3, u4, u5, u6, u7, u8, u9, .slice (some ⟨wb, 0, none⟩) m m, u11, u12, u13, u14, u15, .int .i64 0, u17, u18, u19, u20, u21, u22, u23, u24, u25, u26, u27, u28, u29, u30, u31, u32, u33, u34, u35, u36, u37, u38, u39, u40, u41, u42, u43, u44, u45, u46, u47, u48, u49, u50, u51, u52, u53, u54, u55, u56, u57, u58, u59, u60, u61, u62, u63, u64, u65, u66, u67, u68, u69, u70, u71, u72, u73, u74, u75, u76, u77, u78, u79, u80, u81, u82, u83, u84, u85, u86, u87, u88, u89, u90, u91, u92, u93, u94, u95, u96, u97, u98, u99, u100, u101, u102, u103, u104, u105, u106, u107, u108, u109, u110, u111, u112, u113, u114, u115, u116, u117, u118, u119, u120, u121, u122, u123, u124, u125, u126, u127, u128, u129, u130, u131, u132, u133, u134, u135, u136, u137, u138, u139, u140, u141, u142, u143, u144, u145, u146, u147, u148, u149, u150, u151, u152, u153, u154, u155, u156, u157, u158, u159, u160, u161, u162, u163, u164, u165, u166, u167, u168, u169, u170, u171, u172, u173, u174, u175, u176, u177, u178, u179, u180, u181, u182, u183, u184, u185, u186, u187, u188, u189, u190, u191, u192, u193, u194, u195, u196, u197, u198, u199, u200, u201, u202, u203, u204, u205, u206, u207, u208, u209, u210, u211, u212, u213, u214, u215, u216, u217, u218, u219, u220, u221, u222, u223, u224, u225, u226, u227, u228, u229, u230, u231, u232, u233, u234, u235, u236, u237, u238, u239, u240, u241, u242, u243, u244, u245, u246, u247, u248, u249, u250, u251, u252, u253, u254, u255, u256, u257, u258, u259, u260, u261, u262, u263, u264, u265, u266, u267, u268, u269, u270, u271, u272, u273, u274, u275, u276, u277, u278, u279, u280, u281, u282, u283, u284, u285, u286], ds⟩ W0 := by
  have HQ := Hid.in hk
  have HC := Hid.in hc
  have HW := Hid.in hw
  clear hk hc hw
  show Code.wp _ (Code.block 2 (Code.loop _)) _ _ _
  go_wp2
  go_loopw [16] (fun iv wr => ∃ i : Nat, iv = .int .i64 i ∧ i ≤ m ∧ Turned (fun j => j = wb) W0 wr ∧ CellsAt m wr wb (fun j => if j < i then .int .u8 119 else .int .u8 (if j < n then g j else 0))) (fun iv _ => m + 1 - (intOf iv).toNat)
  case atStart => exact ⟨0, rfl, by omega, Turned.of_below (Below.refl _ _), ⟨HW.out.here, fun o ho => by rw [HW.out.cell o ho]; simp, HW.out.free⟩⟩
  case round =>
    obtain ⟨i, rfl, hi, hT, hC⟩ := hrel
    have HT := Hid.in hT
    have HCC := Hid.in hC
    clear hT hC
    by_cases hlt : i < m
    · have hlt' : (i : Int) < (m : Int) := by omega
      go_upto_region 16 with fail
      refine wp_any (reg16 q i n m cc wb g wr hlt (fun j hj => ?_) ?_ (fun s109 s110 s111 s112 s113 s114 s115 s116 s117 s118 s119 s120 s121 s122 s123 s124 s125 s126 s127 s128 s129 s130 s131 s132 s133 s134 s135 jj => ?_))
      · obtain ⟨cb, co, h1, h2, h3, h4⟩ := HC.out j hj
        exact ⟨cb, co, h1, HT.out.to_cell h3 h2 h4⟩
      · rw [HCC.out.cell i hlt]
        simp
      · have HT2 := Hid.in (HT.out.trans (Turned.of_below (below_drewN (Below.refl _ wr) jj)))
        have HC2 := Hid.in ((Turned.of_below (below_drewN (Below.refl _ wr) jj) : Turned (fun _ => False) wr _).cells HCC.out (fun h => h))
        generalize wr.drewN jj = wd at HT2 HC2 ⊢
        have e1 := HC2.out.cell i hlt
        have e2 := HC2.out.free i
        have e3 := HC2.out.here
        clear hlt'
        have hlt' : (i : Int) < (m : Int) := by omega
        go_wp2
        go_roundw
        case rel =>
          refine ⟨i + 1, by go_num, by omega, HT2.out.set rfl i _, ?_⟩
          have h := HC2.out.set i hlt (.int .u8 119)
          refine ⟨h.here, fun o ho => ?_, h.free⟩
          rw [h.cell o ho]
          unfold upd
          by_cases q1 : o = i
          · rw [if_pos q1, if_pos (by omega)]
          · have q3 : o < i + 1 ↔ o < i := by omega
            simp only [if_neg q1, q3]
        case measure =>
          simp [intOf]
          omega
    · obtain rfl : i = m := by omega
      go_wp2
      exact HQ.out _ _ _ _ _ _ _ _ _ _ _ _ _ _ _ _ _ _ _ _ _ _ _ _ _ _ _ _ _ _ _ _ _ _ _ _ _ _ _ _ HT.out
end Go.Proofs.YtengofkjlgajlaaGreatDoor
