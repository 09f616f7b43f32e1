import Derived.Test.YthbffonedpeeiaaDoorZmf
import Derived.Deep.CutBlock
import Derived.StillTailTactics
import Derived.Deep.DeepCutAuto
/-
  LSQ's LAW LsqMemory: a byte of a store.
-/
namespace Go.Proofs.YthbffonedpeeiaaDoor
open Go Go.RowKit
theorem o43_0 : ∃ o, (opsIn (regIn Tryd.f4.body 43))[0]? = some o ∧ o.dst = some 240 ∧ o.guard = none ∧ o.op = .move (.tmp 18) := ⟨_, rfl, rfl, rfl, rfl⟩
theorem o43_1 : ∃ o, (opsIn (regIn Tryd.f4.body 43))[1]? = some o ∧ o.dst = some 241 ∧ o.guard = none ∧ o.op = .move (.tmp 20) := ⟨_, rfl, rfl, rfl, rfl⟩
theorem o43_2 : ∃ o, (opsIn (regIn Tryd.f4.body 43))[2]? = some o ∧ o.dst = some 242 ∧ o.guard = none ∧ o.op = .convert 38 3 (.tmp 241) := ⟨_, rfl, rfl, rfl, rfl⟩
theorem o43_3 : ∃ o, (opsIn (regIn Tryd.f4.body 43))[3]? = some o ∧ o.dst = some 243 ∧ o.guard = none ∧ o.op = .binOp .sub 3 (.tmp 242) (.const (.int .i64 64)) 3 := ⟨_, rfl, rfl, rfl, rfl⟩
theorem o43_4 : ∃ o, (opsIn (regIn Tryd.f4.body 43))[4]? = some o ∧ o.dst = some 244 ∧ o.guard = none ∧ o.op = .move (.tmp 23) := ⟨_, rfl, rfl, rfl, rfl⟩
theorem o43_5 : ∃ o, (opsIn (regIn Tryd.f4.body 43))[5]? = some o ∧ o.dst = some 245 ∧ o.guard = none ∧ o.op = .binOp .add 3 (.tmp 243) (.tmp 244) 3 := ⟨_, rfl, rfl, rfl, rfl⟩
theorem o43_6 : ∃ o, (opsIn (regIn Tryd.f4.body 43))[6]? = some o ∧ o.dst = some 246 ∧ o.guard = none ∧ o.op = .move (.tmp 2) := ⟨_, rfl, rfl, rfl, rfl⟩
theorem o43_7 : ∃ o, (opsIn (regIn Tryd.f4.body 43))[7]? = some o ∧ o.dst = some 247 ∧ o.guard = none ∧ o.op = .move (.tmp 19) := ⟨_, rfl, rfl, rfl, rfl⟩
theorem o43_8 : ∃ o, (opsIn (regIn Tryd.f4.body 43))[8]? = some o ∧ o.dst = some 248 ∧ o.guard = none ∧ o.op = .indexAddr 62 (.tmp 246) (.tmp 247) := ⟨_, rfl, rfl, rfl, rfl⟩
theorem o43_9 : ∃ o, (opsIn (regIn Tryd.f4.body 43))[9]? = some o ∧ o.dst = some 249 ∧ o.guard = none ∧ o.op = .fieldAddr 74 (.tmp 248) 3 := ⟨_, rfl, rfl, rfl, rfl⟩
theorem o43_10 : ∃ o, (opsIn (regIn Tryd.f4.body 43))[10]? = some o ∧ o.dst = some 250 ∧ o.guard = none ∧ o.op = .load 38 (.tmp 249) := ⟨_, rfl, rfl, rfl, rfl⟩
theorem o43_11 : ∃ o, (opsIn (regIn Tryd.f4.body 43))[11]? = some o ∧ o.dst = some 251 ∧ o.guard = none ∧ o.op = .move (.tmp 23) := ⟨_, rfl, rfl, rfl, rfl⟩
theorem o43_12 : ∃ o, (opsIn (regIn Tryd.f4.body 43))[12]? = some o ∧ o.dst = some 252 ∧ o.guard = none ∧ o.op = .binOp .mul 3 (.const (.int .i64 8)) (.tmp 251) 3 := ⟨_, rfl, rfl, rfl, rfl⟩
theorem o43_13 : ∃ o, (opsIn (regIn Tryd.f4.body 43))[13]? = some o ∧ o.dst = some 253 ∧ o.guard = none ∧ o.op = .binOp .shr 38 (.tmp 250) (.tmp 252) 3 := ⟨_, rfl, rfl, rfl, rfl⟩
theorem o43_14 : ∃ o, (opsIn (regIn Tryd.f4.body 43))[14]? = some o ∧ o.dst = some 254 ∧ o.guard = none ∧ o.op = .convert 38 5 (.tmp 253) := ⟨_, rfl, rfl, rfl, rfl⟩
theorem o43_15 : ∃ o, (opsIn (regIn Tryd.f4.body 43))[15]? = some o ∧ o.dst = some 255 ∧ o.guard = none ∧ o.op = .indexAddr 68 (.tmp 240) (.tmp 245) := ⟨_, rfl, rfl, rfl, rfl⟩
theorem o43_16 : ∃ o, (opsIn (regIn Tryd.f4.body 43))[16]? = some o ∧ o.dst = none ∧ o.guard = none ∧ o.op = .store 5 (.tmp 255) (.tmp 254) := ⟨_, rfl, rfl, rfl, rfl⟩
set_option maxRecDepth 100000 in
set_option maxHeartbeats 4000000 in
theorem reg43A (m k ad ot oj t da sb so cl mm : Nat) (u : Value) (W0 : World) (a : Act) (hs : a.tmps.size = 272) (h2 : a.eval (.tmp 2) = .slice (some ⟨sb, so, none⟩) m cl) (h18 : a.eval (.tmp 18) = .slice (some ⟨mm, 0, none⟩) 16 16) (h19 : a.eval (.tmp 19) = .int .i64 k) (h20 : a.eval (.tmp 20) = .int .u32 ad) (h23 : a.eval (.tmp 23) = .int .i64 t) (hkm : k < m) (had : ad < 4294967296) (hot : ad = 64 + ot) (hoj' : oj = ot + t) (hoj : oj < 16) (ht : t < 4) (hda : W0.cell? ⟨sb, so + k * 4 + 3, none⟩ = some (.int .u32 da)) (hc : W0.cell? ⟨mm, oj, none⟩ = some u) (hf : W0.frozen? ⟨mm, oj, none⟩ = false) {K : Act → World → Prop} (hk : K (((((((((((((((((a).put (some 240) (.slice (some ⟨mm, 0, none⟩) 16 16)).put (some 241) (.int .u32 ad)).put (some 242) (.int .i64 ad)).put (some 243) (.int .i64 ot)).put (some 244) (.int .i64 t)).put (some 245) (.int .i64 oj)).put (some 246) (.slice (some ⟨sb, so, none⟩) m cl)).put (some 247) (.int .i64 k)).put (some 248) (.pointer (some ⟨sb, so + k * 4, none⟩))).put (some 249) (.pointer (some ⟨sb, so + k * 4 + 3, none⟩))).put (some 250) (.int .u32 da)).put (some 251) (.int .i64 t)).put (some 252) (.int .i64 ((8 * t : Nat) : Int))).put (some 253) (.int .u32 ((da : Int) / 2 ^ (8 * t)))).put (some 254) (.int .u8 ((da : Int) / 2 ^ (8 * t) % 256))).put (some 255) (.pointer (some ⟨mm, oj, none⟩))) (W0.setCell ⟨mm, oj, none⟩ (.int .u8 ((da : Int) / 2 ^ (8 * t) % 256)))) : (regIn Tryd.f4.body 43).wp Tryd.prog (Exit.then K NoX) a W0 := by
  show (Code.region 43 (opsIn (regIn Tryd.f4.body 43)) false).wp _ _ _ _
  refine wp_region_list ?_
  show wpList _ _ _ (List.drop 0 _) _ _
  obtain ⟨xo0, xi0, xd0, xg0, xp0⟩ := o43_0
  refine pd_want (k := 0) (v := .slice (some ⟨mm, 0, none⟩) 16 16) xi0 xd0 (w_none xg0) (run_move xp0 h18 _) ?_
  obtain ⟨ac1, hac1⟩ : ∃ x, a.put (some 240) (.slice (some ⟨mm, 0, none⟩) 16 16) = x := ⟨_, rfl⟩
  rw [hac1]
  have e2_1 : ac1.eval (.tmp 2) = _ := hac1 ▸ ev_put h2 (by decide)
  have e19_1 : ac1.eval (.tmp 19) = _ := hac1 ▸ ev_put h19 (by decide)
  have e20_1 : ac1.eval (.tmp 20) = _ := hac1 ▸ ev_put h20 (by decide)
  have e23_1 : ac1.eval (.tmp 23) = _ := hac1 ▸ ev_put h23 (by decide)
  have e240_1 : ac1.eval (.tmp 240) = _ := hac1 ▸ ev_same (by rw [hs]; decide)
  have zz1 : ac1.tmps.size = 272 := hac1 ▸ size_put hs
  obtain ⟨xo1, xi1, xd1, xg1, xp1⟩ := o43_1
  refine pd_want (k := 1) (v := .int .u32 ad) xi1 xd1 (w_none xg1) (run_move xp1 e20_1 _) ?_
  obtain ⟨ac2, hac2⟩ : ∃ x, ac1.put (some 241) (.int .u32 ad) = x := ⟨_, rfl⟩
  rw [hac2]
  have e2_2 : ac2.eval (.tmp 2) = _ := hac2 ▸ ev_put e2_1 (by decide)
  have e19_2 : ac2.eval (.tmp 19) = _ := hac2 ▸ ev_put e19_1 (by decide)
  have e23_2 : ac2.eval (.tmp 23) = _ := hac2 ▸ ev_put e23_1 (by decide)
  have e240_2 : ac2.eval (.tmp 240) = _ := hac2 ▸ ev_put e240_1 (by decide)
  have e241_2 : ac2.eval (.tmp 241) = _ := hac2 ▸ ev_same (by rw [zz1]; decide)
  have zz2 : ac2.tmps.size = 272 := hac2 ▸ size_put zz1
  obtain ⟨xo2, xi2, xd2, xg2, xp2⟩ := o43_2
  refine pd_want (k := 2) (v := .int .i64 ad) xi2 xd2 (w_none xg2) (run_cv38_3 xp2 e241_2 had _) ?_
  obtain ⟨ac3, hac3⟩ : ∃ x, ac2.put (some 242) (.int .i64 ad) = x := ⟨_, rfl⟩
  rw [hac3]
  have e2_3 : ac3.eval (.tmp 2) = _ := hac3 ▸ ev_put e2_2 (by decide)
  have e19_3 : ac3.eval (.tmp 19) = _ := hac3 ▸ ev_put e19_2 (by decide)
  have e23_3 : ac3.eval (.tmp 23) = _ := hac3 ▸ ev_put e23_2 (by decide)
  have e240_3 : ac3.eval (.tmp 240) = _ := hac3 ▸ ev_put e240_2 (by decide)
  have e242_3 : ac3.eval (.tmp 242) = _ := hac3 ▸ ev_same (by rw [zz2]; decide)
  have zz3 : ac3.tmps.size = 272 := hac3 ▸ size_put zz2
  obtain ⟨xo3, xi3, xd3, xg3, xp3⟩ := o43_3
  refine pd_want (k := 3) (v := .int .i64 ot) xi3 xd3 (w_none xg3) (run_sub xp3 e242_3 rfl (by omega) (by omega) _) ?_
  obtain ⟨ac4, hac4⟩ : ∃ x, ac3.put (some 243) (.int .i64 ot) = x := ⟨_, rfl⟩
  rw [hac4]
  have e2_4 : ac4.eval (.tmp 2) = _ := hac4 ▸ ev_put e2_3 (by decide)
  have e19_4 : ac4.eval (.tmp 19) = _ := hac4 ▸ ev_put e19_3 (by decide)
  have e23_4 : ac4.eval (.tmp 23) = _ := hac4 ▸ ev_put e23_3 (by decide)
  have e240_4 : ac4.eval (.tmp 240) = _ := hac4 ▸ ev_put e240_3 (by decide)
  have e243_4 : ac4.eval (.tmp 243) = _ := hac4 ▸ ev_same (by rw [zz3]; decide)
  have zz4 : ac4.tmps.size = 272 := hac4 ▸ size_put zz3
  obtain ⟨xo4, xi4, xd4, xg4, xp4⟩ := o43_4
  refine pd_want (k := 4) (v := .int .i64 t) xi4 xd4 (w_none xg4) (run_move xp4 e23_4 _) ?_
  obtain ⟨ac5, hac5⟩ : ∃ x, ac4.put (some 244) (.int .i64 t) = x := ⟨_, rfl⟩
  rw [hac5]
  have e2_5 : ac5.eval (.tmp 2) = _ := hac5 ▸ ev_put e2_4 (by decide)
  have e19_5 : ac5.eval (.tmp 19) = _ := hac5 ▸ ev_put e19_4 (by decide)
  have e23_5 : ac5.eval (.tmp 23) = _ := hac5 ▸ ev_put e23_4 (by decide)
  have e240_5 : ac5.eval (.tmp 240) = _ := hac5 ▸ ev_put e240_4 (by decide)
  have e243_5 : ac5.eval (.tmp 243) = _ := hac5 ▸ ev_put e243_4 (by decide)
  have e244_5 : ac5.eval (.tmp 244) = _ := hac5 ▸ ev_same (by rw [zz4]; decide)
  have zz5 : ac5.tmps.size = 272 := hac5 ▸ size_put zz4
  obtain ⟨xo5, xi5, xd5, xg5, xp5⟩ := o43_5
  refine pd_want (k := 5) (v := .int .i64 oj) xi5 xd5 (w_none xg5) (run_add xp5 e243_5 e244_5 (by omega) (by omega) _) ?_
  obtain ⟨ac6, hac6⟩ : ∃ x, ac5.put (some 245) (.int .i64 oj) = x := ⟨_, rfl⟩
  rw [hac6]
  have e2_6 : ac6.eval (.tmp 2) = _ := hac6 ▸ ev_put e2_5 (by decide)
  have e19_6 : ac6.eval (.tmp 19) = _ := hac6 ▸ ev_put e19_5 (by decide)
  have e23_6 : ac6.eval (.tmp 23) = _ := hac6 ▸ ev_put e23_5 (by decide)
  have e240_6 : ac6.eval (.tmp 240) = _ := hac6 ▸ ev_put e240_5 (by decide)
  have e245_6 : ac6.eval (.tmp 245) = _ := hac6 ▸ ev_same (by rw [zz5]; decide)
  have zz6 : ac6.tmps.size = 272 := hac6 ▸ size_put zz5
  obtain ⟨xo6, xi6, xd6, xg6, xp6⟩ := o43_6
  refine pd_want (k := 6) (v := .slice (some ⟨sb, so, none⟩) m cl) xi6 xd6 (w_none xg6) (run_move xp6 e2_6 _) ?_
  obtain ⟨ac7, hac7⟩ : ∃ x, ac6.put (some 246) (.slice (some ⟨sb, so, none⟩) m cl) = x := ⟨_, rfl⟩
  rw [hac7]
  have e19_7 : ac7.eval (.tmp 19) = _ := hac7 ▸ ev_put e19_6 (by decide)
  have e23_7 : ac7.eval (.tmp 23) = _ := hac7 ▸ ev_put e23_6 (by decide)
  have e240_7 : ac7.eval (.tmp 240) = _ := hac7 ▸ ev_put e240_6 (by decide)
  have e245_7 : ac7.eval (.tmp 245) = _ := hac7 ▸ ev_put e245_6 (by decide)
  have e246_7 : ac7.eval (.tmp 246) = _ := hac7 ▸ ev_same (by rw [zz6]; decide)
  have zz7 : ac7.tmps.size = 272 := hac7 ▸ size_put zz6
  obtain ⟨xo7, xi7, xd7, xg7, xp7⟩ := o43_7
  refine pd_want (k := 7) (v := .int .i64 k) xi7 xd7 (w_none xg7) (run_move xp7 e19_7 _) ?_
  obtain ⟨ac8, hac8⟩ : ∃ x, ac7.put (some 247) (.int .i64 k) = x := ⟨_, rfl⟩
  rw [hac8]
  have e23_8 : ac8.eval (.tmp 23) = _ := hac8 ▸ ev_put e23_7 (by decide)
  have e240_8 : ac8.eval (.tmp 240) = _ := hac8 ▸ ev_put e240_7 (by decide)
  have e245_8 : ac8.eval (.tmp 245) = _ := hac8 ▸ ev_put e245_7 (by decide)
  have e246_8 : ac8.eval (.tmp 246) = _ := hac8 ▸ ev_put e246_7 (by decide)
  have e247_8 : ac8.eval (.tmp 247) = _ := hac8 ▸ ev_same (by rw [zz7]; decide)
  have zz8 : ac8.tmps.size = 272 := hac8 ▸ size_put zz7
  obtain ⟨xo8, xi8, xd8, xg8, xp8⟩ := o43_8
  refine pd_want (k := 8) (v := .pointer (some ⟨sb, so + k * 4, none⟩)) xi8 xd8 (w_none xg8) (run_i62 xp8 e246_8 e247_8 hkm _) ?_
  obtain ⟨ac9, hac9⟩ : ∃ x, ac8.put (some 248) (.pointer (some ⟨sb, so + k * 4, none⟩)) = x := ⟨_, rfl⟩
  rw [hac9]
  have e23_9 : ac9.eval (.tmp 23) = _ := hac9 ▸ ev_put e23_8 (by decide)
  have e240_9 : ac9.eval (.tmp 240) = _ := hac9 ▸ ev_put e240_8 (by decide)
  have e245_9 : ac9.eval (.tmp 245) = _ := hac9 ▸ ev_put e245_8 (by decide)
  have e248_9 : ac9.eval (.tmp 248) = _ := hac9 ▸ ev_same (by rw [zz8]; decide)
  have zz9 : ac9.tmps.size = 272 := hac9 ▸ size_put zz8
  obtain ⟨xo9, xi9, xd9, xg9, xp9⟩ := o43_9
  refine pd_want (k := 9) (v := .pointer (some ⟨sb, so + k * 4 + 3, none⟩)) xi9 xd9 (w_none xg9) (run_f74_3 xp9 e248_9 _) ?_
  obtain ⟨ac10, hac10⟩ : ∃ x, ac9.put (some 249) (.pointer (some ⟨sb, so + k * 4 + 3, none⟩)) = x := ⟨_, rfl⟩
  rw [hac10]
  have e23_10 : ac10.eval (.tmp 23) = _ := hac10 ▸ ev_put e23_9 (by decide)
  have e240_10 : ac10.eval (.tmp 240) = _ := hac10 ▸ ev_put e240_9 (by decide)
  have e245_10 : ac10.eval (.tmp 245) = _ := hac10 ▸ ev_put e245_9 (by decide)
  have e249_10 : ac10.eval (.tmp 249) = _ := hac10 ▸ ev_same (by rw [zz9]; decide)
  have zz10 : ac10.tmps.size = 272 := hac10 ▸ size_put zz9
  obtain ⟨xo10, xi10, xd10, xg10, xp10⟩ := o43_10
  refine pd_want (k := 10) (v := .int .u32 da) xi10 xd10 (w_none xg10) (run_l38 xp10 e249_10 hda) ?_
  obtain ⟨ac11, hac11⟩ : ∃ x, ac10.put (some 250) (.int .u32 da) = x := ⟨_, rfl⟩
  rw [hac11]
  have e23_11 : ac11.eval (.tmp 23) = _ := hac11 ▸ ev_put e23_10 (by decide)
  have e240_11 : ac11.eval (.tmp 240) = _ := hac11 ▸ ev_put e240_10 (by decide)
  have e245_11 : ac11.eval (.tmp 245) = _ := hac11 ▸ ev_put e245_10 (by decide)
  have e250_11 : ac11.eval (.tmp 250) = _ := hac11 ▸ ev_same (by rw [zz10]; decide)
  have zz11 : ac11.tmps.size = 272 := hac11 ▸ size_put zz10
  obtain ⟨xo11, xi11, xd11, xg11, xp11⟩ := o43_11
  refine pd_want (k := 11) (v := .int .i64 t) xi11 xd11 (w_none xg11) (run_move xp11 e23_11 _) ?_
  obtain ⟨ac12, hac12⟩ : ∃ x, ac11.put (some 251) (.int .i64 t) = x := ⟨_, rfl⟩
  rw [hac12]
  have e240_12 : ac12.eval (.tmp 240) = _ := hac12 ▸ ev_put e240_11 (by decide)
  have e245_12 : ac12.eval (.tmp 245) = _ := hac12 ▸ ev_put e245_11 (by decide)
  have e250_12 : ac12.eval (.tmp 250) = _ := hac12 ▸ ev_put e250_11 (by decide)
  have e251_12 : ac12.eval (.tmp 251) = _ := hac12 ▸ ev_same (by rw [zz11]; decide)
  have zz12 : ac12.tmps.size = 272 := hac12 ▸ size_put zz11
  obtain ⟨xo12, xi12, xd12, xg12, xp12⟩ := o43_12
  refine pd_want (k := 12) (v := .int .i64 ((8 * t : Nat) : Int)) xi12 xd12 (w_none xg12) (run_mul xp12 rfl e251_12 (by omega) (by omega) _) ?_
  obtain ⟨ac13, hac13⟩ : ∃ x, ac12.put (some 252) (.int .i64 ((8 * t : Nat) : Int)) = x := ⟨_, rfl⟩
  rw [hac13]
  have e240_13 : ac13.eval (.tmp 240) = _ := hac13 ▸ ev_put e240_12 (by decide)
  have e245_13 : ac13.eval (.tmp 245) = _ := hac13 ▸ ev_put e245_12 (by decide)
  have e250_13 : ac13.eval (.tmp 250) = _ := hac13 ▸ ev_put e250_12 (by decide)
  have e252_13 : ac13.eval (.tmp 252) = _ := hac13 ▸ ev_same (by rw [zz12]; decide)
  have zz13 : ac13.tmps.size = 272 := hac13 ▸ size_put zz12
  obtain ⟨xo13, xi13, xd13, xg13, xp13⟩ := o43_13
  refine pd_want (k := 13) (v := .int .u32 ((da : Int) / 2 ^ (8 * t))) xi13 xd13 (w_none xg13) (run_shr38 xp13 e250_13 e252_13 ht _) ?_
  obtain ⟨ac14, hac14⟩ : ∃ x, ac13.put (some 253) (.int .u32 ((da : Int) / 2 ^ (8 * t))) = x := ⟨_, rfl⟩
  rw [hac14]
  have e240_14 : ac14.eval (.tmp 240) = _ := hac14 ▸ ev_put e240_13 (by decide)
  have e245_14 : ac14.eval (.tmp 245) = _ := hac14 ▸ ev_put e245_13 (by decide)
  have e253_14 : ac14.eval (.tmp 253) = _ := hac14 ▸ ev_same (by rw [zz13]; decide)
  have zz14 : ac14.tmps.size = 272 := hac14 ▸ size_put zz13
  obtain ⟨xo14, xi14, xd14, xg14, xp14⟩ := o43_14
  refine pd_want (k := 14) (v := .int .u8 ((da : Int) / 2 ^ (8 * t) % 256)) xi14 xd14 (w_none xg14) (run_cv38_5 xp14 e253_14 _) ?_
  obtain ⟨ac15, hac15⟩ : ∃ x, ac14.put (some 254) (.int .u8 ((da : Int) / 2 ^ (8 * t) % 256)) = x := ⟨_, rfl⟩
  rw [hac15]
  have e240_15 : ac15.eval (.tmp 240) = _ := hac15 ▸ ev_put e240_14 (by decide)
  have e245_15 : ac15.eval (.tmp 245) = _ := hac15 ▸ ev_put e245_14 (by decide)
  have e254_15 : ac15.eval (.tmp 254) = _ := hac15 ▸ ev_same (by rw [zz14]; decide)
  have zz15 : ac15.tmps.size = 272 := hac15 ▸ size_put zz14
  obtain ⟨xo15, xi15, xd15, xg15, xp15⟩ := o43_15
  refine pd_want (k := 15) (v := .pointer (some ⟨mm, oj, none⟩)) xi15 xd15 (w_none xg15) (run_i68 xp15 e240_15 e245_15 hoj _) ?_
  obtain ⟨ac16, hac16⟩ : ∃ x, ac15.put (some 255) (.pointer (some ⟨mm, oj, none⟩)) = x := ⟨_, rfl⟩
  rw [hac16]
  have e254_16 : ac16.eval (.tmp 254) = _ := hac16 ▸ ev_put e254_15 (by decide)
  have e255_16 : ac16.eval (.tmp 255) = _ := hac16 ▸ ev_same (by rw [zz15]; decide)
  have zz16 : ac16.tmps.size = 272 := hac16 ▸ size_put zz15
  obtain ⟨xo16, xi16, xd16, xg16, xp16⟩ := o43_16
  refine pd_store (k := 16) xi16 xd16 (w_none xg16) (run_s5 xp16 e255_16 e254_16 hc hf) ?_
  refine pd_end (k := 17) (by kernel_rfl) ?_
  subst hac16 hac15 hac14 hac13 hac12 hac11 hac10 hac9 hac8 hac7 hac6 hac5 hac4 hac3 hac2 hac1
  exact hk
set_option maxRecDepth 100000 in
set_option maxHeartbeats 4000000 in
theorem reg43 {u0 u1 u3 u4 u5 u6 u7 u8 u9 u10 u11 u12 u13 u14 u15 u16 u17 u21 u22 u24 u25 u26 u27 u28 u29 u30 u31 u32 u33 u34 u35 u36 u37 u38 u39 u40 u41 u42 u43 u44 u45 u46 u47 u48 u49 u50 u51 u52 u53 u54 u55 u56 u57 u58 u59 u60 u61 u62 u63 u64 u65 u66 u67 u68 u69 u70 u71 u72 u73 u74 u75 u76 u77 u78 u79 u80 u81 u82 u83 u84 u85 u86 u87 u88 u89 u90 u91 u92 u93 u94 u95 u96 u97 u98 u99 u100 u101 u102 u103 u104 u105 u106 u107 u108 u109 u110 u111 u112 u113 u114 u115 u116 u117 u118 u119 u120 u121 u122 u123 u124 u125 u126 u127 u128 u129 u130 u131 u132 u133 u134 u135 u136 u137 u138 u139 u140 u141 u142 u143 u144 u145 u146 u147 u148 u149 u150 u151 u152 u153 u154 u155 u156 u157 u158 u159 u160 u161 u162 u163 u164 u165 u166 u167 u168 u169 u170 u171 u172 u173 u174 u175 u176 u177 u178 u179 u180 u181 u182 u183 u184 u185 u186 u187 u188 u189 u190 u191 u192 u193 u194 u195 u196 u197 u198 u199 u200 u201 u202 u203 u204 u205 u206 u207 u208 u209 u210 u211 u212 u213 u214 u215 u216 u217 u218 u219 u220 u221 u222 u223 u224 u225 u226 u227 u228 u229 u230 u231 u232 u233 u234 u235 u236 u237 u238 u239 u240 u241 u242 u243 u244 u245 u246 u247 u248 u249 u250 u251 u252 u253 u254 u255 u256 u257 u258 u259 u260 u261 u262 u263 u264 u265 u266 u267 u268 u269 u270 u271 : Value} {ds : List Deferred} (m k ad ot oj t da sb so cl mm : Nat) (u : Value) (W0 : World) (hkm : k < m) (had : ad < 4294967296) (hot : ad = 64 + ot) (hoj' : oj = ot + t) (hoj : oj < 16) (ht : t < 4) (hda : W0.cell? ⟨sb, so + k * 4 + 3, none⟩ = some (.int .u32 da)) (hc : W0.cell? ⟨mm, oj, none⟩ = some u) (hf : W0.frozen? ⟨mm, oj, none⟩ = false) {K : Act → World → Prop} (hk : ∀ (t240 t241 t242 t243 t244 t245 t246 t247 t248 t249 t250 t251 t252 t253 t254 t255 : Value), K ⟨#[u0, u1, .slice (some ⟨sb, so, none⟩) m cl, u3, u4, u5, u6, u7, u8, u9, u10, u11, u12, u13, u14, u15, u16, u17, .slice (some ⟨mm, 0, none⟩) 16 16, .int .i64 k, .int .u32 ad, u21, u22, .int .i64 t, u24, u25, u26, u27, u28, u29, u30, u31, u32, u33, u34, u35, u36, u37, u38, u39, u40, u41, u42, u43, u44, u45, u46, u47, u48, u49, u50, u51, u52, u53, u54, u55, u56, u57, u58, u59, u60, u61, u62, u63, u64, u65, u66, u67, u68, u69, u70, u71, u72, u73, u74, u75, u76, u77, u78, u79, u80, u81, u82, u83, u84, u85, u86, u87, u88, u89, u90, u91, u92, u93, u94, u95, u96, u97, u98, u99, u100, u101, u102, u103, u104, u105, u106, u107, u108, u109, u110, u111, u112, u113, u114, u115, u116, u117, u118, u119, u120, u121, u122, u123, u124, u125, u126, u127, u128, u129, u130, u131, u132, u133, u134, u135, u136, u137, u138, u139, u140, u141, u142, u143, u144, u145, u146, u147, u148, u149, u150, u151, u152, u153, u154, u155, u156, u157, u158, u159, u160, u161, u162, u163, u164, u165, u166, u167, u168, u169, u170, u171, u172, u173, u174, u175, u176, u177, u178, u179, u180, u181, u182, u183, u184, u185, u186, u187, u188, u189, u190, u191, u192, u193, u194, u195, u196, u197, u198, u199, u200, u201, u202, u203, u204, u205, u206, u207, u208, u209, u210, u211, u212, u213, u214, u215, u216, u217, u218, u219, u220, u221, u222, u223, u224, u225, u226, u227, u228, u229, u230, u231, u232, u233, u234, u235, u236, u237, u238, u239, t240, t241, t242, t243, t244, t245, t246, t247, t248, t249, t250, t251, t252, t253, t254, t255, u256, u257, u258, u259, u260, u261, u262, u263, u264, u265, u266, u267, u268, u269, u270, u271], ds⟩ (W0.setCell ⟨mm, oj, none⟩ (.int .u8 ((da : Int) / 2 ^ (8 * t) % 256)))) : (regIn Tryd.f4.body 43).wp Tryd.prog (Exit.then K NoX) ⟨#[u0, u1, .slice (some ⟨sb, so, none⟩) m cl, u3, u4, u5, u6, u7, u8, u9, u10, u11, u12, u13, u14, u15, u16, u17, .slice (some ⟨mm, 0, none⟩) 16 16, .int .i64 k, .int .u32 ad, u21, u22, .int .i64 t, u24, u25, u26, u27, u28, u29, u30, u31, u32, u33, u34, u35, u36, u37, u38, u39, u40, u41, u42, u43, u44, u45, u46, u47, u48, u49, u50, u51, u52, u53, u54, u55, u56, u57, u58, u59, u60, u61, u62, u63, u64, u65, u66, u67, u68, u69, u70, u71, u72, u73, u74, u75, u76, u77, u78, u79, u80, u81, u82, u83, u84, u85, u86, u87, u88, u89, u90, u91, u92, u93, u94, u95, u96, u97, u98, u99, u100, u101, u102, u103, u104, u105, u106, u107, u108, u109, u110, u111, u112, u113, u114, u115, u116, u117, u118, u119, u120, u121, u122, u123, u124, u125, u126, u127, u128, u129, u130, u131, u132, u133, u134, u135, u136, u137, u138, u139, u140, u141, u142, u143, u144, u145, u146, u147, u148, u149, u150, u151, u152, u153, u154, u155, u156, u157, u158, u159, u160, u161, u162, u163, u164, u165, u166, u167, u168, u169, u170, u171, u172, u173, u174, u175, u176, u177, u178, u179, u180, u181, u182, u183, u184, u185, u186, u187, u188, u189, u190, u191, u192, u193, u194, u195, u196, u197, u198, u199, u200, u201, u202, u203, u204, u205, u206, u207, u208, u209, u210, u211, u212, u213, u214, u215, u216, u217, u218, u219, u220, u221, u222, u223, u224, u225, u226, u227, u228, u229, u230, u231, u232, u233, u234, u235, u236, u237, u238, u239, u240, u241, u242, u243, u244, u245, u246, u247, u248, u249, u250, u251, u252, u253, u254, u255, u256, u257, u258, u259, u260, u261, u262, u263, u264, u265, u266, u267, u268, u269, u270, u271], ds⟩ W0 := by
  refine reg43A m k ad ot oj t da sb so cl mm u W0 _ rfl rfl rfl rfl rfl rfl hkm had hot hoj' hoj ht hda hc hf ?_
  have h := hk (.slice (some ⟨mm, 0, none⟩) 16 16) (.int .u32 ad) (.int .i64 ad) (.int .i64 ot) (.int .i64 t) (.int .i64 oj) (.slice (some ⟨sb, so, none⟩) m cl) (.int .i64 k) (.pointer (some ⟨sb, so + k * 4, none⟩)) (.pointer (some ⟨sb, so + k * 4 + 3, none⟩)) (.int .u32 da) (.int .i64 t) (.int .i64 ((8 * t : Nat) : Int)) (.int .u32 ((da : Int) / 2 ^ (8 * t))) (.int .u8 ((da : Int) / 2 ^ (8 * t) % 256)) (.pointer (some ⟨mm, oj, none⟩))
  exact Eq.mpr (by kernel_rfl) h
end Go.Proofs.YthbffonedpeeiaaDoor
/-
  LSQ's LAW LsqMemory: in the end: every load got what the order says.
-/
namespace Go.Proofs.YthbffonedpeeiaaDoor
open Go Go.RowKit
/-- a block apart from the law's memory has turned -/
theorem Xm.turn {w0 x y : World} {q n : Nat} {v lv : Value} {b : Nat → Nat} {M : Ms} {mm : Nat} (k : Xm w0 x q v lv b n M) (t : Turned (fun j => j = mm) x y) (h1 : ∀ i, i < 6 → b i ≠ mm) (h2 : ¬ qmine q v M.S mm) (h3 : w0.heap.size ≤ mm) : Xm w0 y q v lv b n M :=
  ⟨fun i hi => t.cells (k.c i hi) (h1 i hi), k.qm.turned t (fun j hj e => h2 (by rw [← e]; exact hj)), k.ne, k.ap, k.lo, k.low.trans (t.below k.low.size (fun j hj => by rw [hj]; exact h3))⟩
theorem seqM_load {g : Nat → Acc} {k : Nat} (h : (g k).st = false) : seqM g (k + 1) = seqM g k := by
  funext y
  show (if (g k).st = true ∧ (g k).a ≤ y ∧ y < (g k).a + (g k).z then (g k).da / 256 ^ (y - (g k).a) % 256 else seqM g k y) = _
  rw [if_neg (fun q => by rw [h] at q; cases q.1)]
theorem seqM_store {g : Nat → Acc} {k : Nat} (h : (g k).st = true) : seqM g (k + 1) = memT (seqM g k) (g k).a (g k).da (g k).z := by
  funext y
  show (if (g k).st = true ∧ (g k).a ≤ y ∧ y < (g k).a + (g k).z then (g k).da / 256 ^ (y - (g k).a) % 256 else seqM g k y) = _
  unfold memT
  by_cases c : (g k).a ≤ y ∧ y < (g k).a + (g k).z
  · rw [if_pos ⟨h, c⟩, if_pos c]
  · rw [if_neg (fun q => c q.2), if_neg c]
/-- what lasts of the law's memory in the end -/
structure Lastly (w y : World) (q : Nat) (v lv : Value) (b : Nat → Nat) (n : Nat) (M : Ms) (mm : Nat) (f : Nat → Nat) : Prop where
  X : Xm w y q v lv b n M
  c : CellsAt 16 y mm (fun o => .int .u8 (f (64 + o) : Nat))
  n1 : ∀ i, i < 6 → b i ≠ mm
  n2 : ¬ qmine q v M.S mm
  n3 : w.heap.size ≤ mm
theorem Lastly.below {w x y : World} {q n mm : Nat} {v lv : Value} {b : Nat → Nat} {M : Ms} {f : Nat → Nat} (k : Lastly w x q v lv b n M mm f) (h : Below x.heap.size x y) : Lastly w y q v lv b n M mm f := ⟨k.X.below h, k.c.below h, k.n1, k.n2, k.n3⟩
theorem Lastly.set {w x : World} {q n mm : Nat} {v lv : Value} {b : Nat → Nat} {M : Ms} {f : Nat → Nat} (k : Lastly w x q v lv b n M mm f) (o z : Nat) (ho : o < 16) : Lastly w (x.setCell ⟨mm, o, none⟩ (.int .u8 z)) q v lv b n M mm (upd f (64 + o) z) := by
  refine ⟨k.X.turn (Turned.set (Q := fun j => j = mm) (Turned.refl _ _) rfl o _) k.n1 k.n2 k.n3, (k.c.set o ho _).ext (fun i hi => ?_), k.n1, k.n2, k.n3⟩
  unfold upd
  by_cases e : i = o
  · rw [if_pos e, if_pos (by omega)]
  · rw [if_neg e, if_neg (by omega)]
set_option maxRecDepth 100000 in
set_option maxHeartbeats 4000000 in
theorem blk4 {u0 u1 u3 u4 u5 u6 u7 u8 u9 u10 u11 u12 u13 u14 u15 u16 u17 u22 u24 u25 u26 u27 u28 u29 u30 u31 u32 u33 u34 u35 u36 u37 u38 u39 u40 u41 u42 u43 u44 u45 u46 u47 u48 u49 u50 u51 u52 u53 u54 u55 u56 u57 u58 u59 u60 u61 u62 u63 u64 u65 u66 u67 u68 u69 u70 u71 u72 u73 u74 u75 u76 u77 u78 u79 u80 u81 u82 u83 u84 u85 u86 u87 u88 u89 u90 u91 u92 u93 u94 u95 u96 u97 u98 u99 u100 u101 u102 u103 u104 u105 u106 u107 u108 u109 u110 u111 u112 u113 u114 u115 u116 u117 u118 u119 u120 u121 u122 u123 u124 u125 u126 u127 u128 u129 u130 u131 u132 u133 u134 u135 u136 u137 u138 u139 u140 u141 u142 u143 u144 u145 u146 u147 u148 u149 u150 u151 u152 u153 u154 u155 u156 u157 u158 u159 u160 u161 u162 u163 u164 u165 u166 u167 u168 u169 u170 u171 u172 u173 u174 u175 u176 u177 u178 u179 u180 u181 u182 u183 u184 u185 u186 u187 u188 u189 u190 u191 u192 u193 u194 u195 u196 u197 u198 u199 u200 u201 u202 u203 u204 u205 u206 u207 u208 u209 u210 u211 u212 u213 u214 u215 u216 u217 u218 u219 u220 u221 u222 u223 u224 u225 u226 u227 u228 u229 u230 u231 u232 u233 u234 u235 u236 u237 u238 u239 u240 u241 u242 u243 u244 u245 u246 u247 u248 u249 u250 u251 u252 u253 u254 u255 u256 u257 u258 u259 u260 u261 u262 u263 u264 u265 u266 u267 u268 u269 u270 u271 : Value} {ds : List Deferred} (g : Nat → Acc) (n m k a z da : Nat) (w W0 : World) (q cl mm sb so : Nat) (v1 : Value) (b : Nat → Nat) (M1 : Ms) (hkm : k < m) (hsb : sb < w.heap.size) (hs3 : w.cell? ⟨sb, so + k * 4 + 3, none⟩ = some (.int .u32 da)) (hai : 64 ≤ a ∧ a + z ≤ 80 ∧ a % z = 0) (hzi : z = 1 ∨ z = 2 ∨ z = 4) (hX : Lastly w W0 q v1 (.slice (some ⟨sb, so, none⟩) n cl) b n M1 mm (seqM g k)) {K : Act → World → Prop}
    (hk : ∀ (t23 t235 t236 t237 t238 t239 t240 t241 t242 t243 t244 t245 t246 t247 t248 t249 t250 t251 t252 t253 t254 t255 : Value) (y : World), Lastly w y q v1 (.slice (some ⟨sb, so, none⟩) n cl) b n M1 mm (memT (seqM g k) a da z) → K ⟨#[u0, u1, .slice (some ⟨sb, so, none⟩) m cl, u3, u4, u5, u6, u7, u8, u9, u10, u11, u12, u13, u14, u15, u16, u17, .slice (some ⟨mm, 0, none⟩) 16 16, .int .i64 k, .int .u32 a, .int .i64 z, u22, t23, u24, u25, u26, u27, u28, u29, u30, u31, u32, u33, u34, u35, u36, u37, u38, u39, u40, u41, u42, u43, u44, u45, u46, u47, u48, u49, u50, u51, u52, u53, u54, u55, u56, u57, u58, u59, u60, u61, u62, u63, u64, u65, u66, u67, u68, u69, u70, u71, u72, u73, u74, u75, u76, u77, u78, u79, u80, u81, u82, u83, u84, u85, u86, u87, u88, u89, u90, u91, u92, u93, u94, u95, u96, u97, u98, u99, u100, u101, u102, u103, u104, u105, u106, u107, u108, u109, u110, u111, u112, u113, u114, u115, u116, u117, u118, u119, u120, u121, u122, u123, u124, u125, u126, u127, u128, u129, u130, u131, u132, u133, u134, u135, u136, u137, u138, u139, u140, u141, u142, u143, u144, u145, u146, u147, u148, u149, u150, u151, u152, u153, u154, u155, u156, u157, u158, u159, u160, u161, u162, u163, u164, u165, u166, u167, u168, u169, u170, u171, u172, u173, u174, u175, u176, u177, u178, u179, u180, u181, u182, u183, u184, u185, u186, u187, u188, u189, u190, u191, u192, u193, u194, u195, u196, u197, u198, u199, u200, u201, u202, u203, u204, u205, u206, u207, u208, u209, u210, u211, u212, u213, u214, u215, u216, u217, u218, u219, u220, u221, u222, u223, u224, u225, u226, u227, u228, u229, u230, u231, u232, u233, u234, t235, t236, t237, t238, t239, t240, t241, t242, t243, t244, t245, t246, t247, t248, t249, t250, t251, t252, t253, t254, t255, u256, u257, u258, u259, u260, u261, u262, u263, u264, u265, u266, u267, u268, u269, u270, u271], ds⟩ y) : (blkIn Tryd.f4.body 4).wp Tryd.prog (Exit.then K NoX) ⟨#[u0, u1, .slice (some ⟨sb, so, none⟩) m cl, u3, u4, u5, u6, u7, u8, u9, u10, u11, u12, u13, u14, u15, u16, u17, .slice (some ⟨mm, 0, none⟩) 16 16, .int .i64 k, .int .u32 a, .int .i64 z, u22, .int .i64 0, u24, u25, u26, u27, u28, u29, u30, u31, u32, u33, u34, u35, u36, u37, u38, u39, u40, u41, u42, u43, u44, u45, u46, u47, u48, u49, u50, u51, u52, u53, u54, u55, u56, u57, u58, u59, u60, u61, u62, u63, u64, u65, u66, u67, u68, u69, u70, u71, u72, u73, u74, u75, u76, u77, u78, u79, u80, u81, u82, u83, u84, u85, u86, u87, u88, u89, u90, u91, u92, u93, u94, u95, u96, u97, u98, u99, u100, u101, u102, u103, u104, u105, u106, u107, u108, u109, u110, u111, u112, u113, u114, u115, u116, u117, u118, u119, u120, u121, u122, u123, u124, u125, u126, u127, u128, u129, u130, u131, u132, u133, u134, u135, u136, u137, u138, u139, u140, u141, u142, u143, u144, u145, u146, u147, u148, u149, u150, u151, u152, u153, u154, u155, u156, u157, u158, u159, u160, u161, u162, u163, u164, u165, u166, u167, u168, u169, u170, u171, u172, u173, u174, u175, u176, u177, u178, u179, u180, u181, u182, u183, u184, u185, u186, u187, u188, u189, u190, u191, u192, u193, u194, u195, u196, u197, u198, u199, u200, u201, u202, u203, u204, u205, u206, u207, u208, u209, u210, u211, u212, u213, u214, u215, u216, u217, u218, u219, u220, u221, u222, u223, u224, u225, u226, u227, u228, u229, u230, u231, u232, u233, u234, u235, u236, u237, u238, u239, u240, u241, u242, u243, u244, u245, u246, u247, u248, u249, u250, u251, u252, u253, u254, u255, u256, u257, u258, u259, u260, u261, u262, u263, u264, u265, u266, u267, u268, u269, u270, u271], ds⟩ W0 := by
  have HX := Hid.in hX
  have HS3 := Hid.in hs3
  have HQ := Hid.in hk
  have hmul : (k : Int) * 4 = ((k * 4 : Nat) : Int) := by omega
  clear hX hs3 hk
  show Code.wp _ (Code.block 4 (Code.loop _)) _ _ _
  go_wp2
  go_loopw [23] (fun bv wr2 => ∃ t : Nat, bv = .int .i64 t ∧ t ≤ z ∧ Lastly w wr2 q v1 (.slice (some ⟨sb, so, none⟩) n cl) b n M1 mm (memT (seqM g k) a da t)) (fun bv _ => 5 - (intOf bv).toNat)
  case atStart => exact ⟨0, rfl, Nat.zero_le _, by rw [memT_zero]; exact HX.out⟩
  case round =>
    obtain ⟨t, rfl, htz, hT⟩ := hrel
    have HT := Hid.in hT
    by_cases htl : t < z
    · have htl' : (t : Int) < (z : Int) := by omega
      obtain ⟨o, ho⟩ : ∃ o, a = 64 + o := ⟨a - 64, by omega⟩
      obtain ⟨oj, hoj⟩ : ∃ oj, o + t = oj := ⟨_, rfl⟩
      have hojl : oj < 16 := by omega
      have e5 := hT.c.cell oj hojl
      have f5 := hT.c.free oj
      have h5 := hT.c.here
      have e3 := (hT.X.low.cell (p := ⟨sb, so + k * 4 + 3, none⟩) hsb).trans HS3.out
      have ha1 : a < 4294967296 := by omega
      have ht4 : t < 4 := by omega
      have HNX : Hid (Lastly w (wr.setCell ⟨mm, oj, none⟩ (.int .u8 (da / 256 ^ t % 256 : Nat))) q v1 (.slice (some ⟨sb, so, none⟩) n cl) b n M1 mm (memT (seqM g k) a da (t + 1))) := by
        have := hT.set oj (da / 256 ^ t % 256) hojl
        rw [show 64 + oj = a + t by omega] at this
        show Lastly _ _ _ _ _ _ _ _ _ _
        rw [memT_next]
        exact this
      rw [← byte_is da t] at HNX
      clear hT
      go_upto_region 43 with fail
      refine wp_then (wp_any (reg43 m k a o oj t da sb so cl mm _ _ hkm ha1 ho hoj.symm hojl ht4 e3 e5 f5 (fun t240 t241 t242 t243 t244 t245 t246 t247 t248 t249 t250 t251 t252 t253 t254 t255 => ?_)))
      go_wp2
      go_roundw
      case rel => exact ⟨t + 1, by simp, by omega, HNX.out⟩
      case measure =>
        simp [intOf]
        omega
    · obtain rfl : t = z := by omega
      have htl' : ¬ (t : Int) < (t : Int) := by omega
      clear hT
      go_wp2
      exact HQ.out _ _ _ _ _ _ _ _ _ _ _ _ _ _ _ _ _ _ _ _ _ _ _ HT.out
end Go.Proofs.YthbffonedpeeiaaDoor
/-
  LSQ's LAW LsqMemory: in the end: every load got what the order says.
-/
namespace Go.Proofs.YthbffonedpeeiaaDoor
open Go Go.RowKit
set_option maxRecDepth 100000 in
set_option maxHeartbeats 4000000 in
theorem blk2 {u0 u1 u3 u4 u5 u6 u7 u8 u9 u10 u13 u14 u15 u16 u17 u20 u21 u22 u23 u24 u25 u26 u27 u28 u29 u30 u31 u32 u33 u34 u35 u36 u37 u38 u39 u40 u41 u42 u43 u44 u45 u46 u47 u48 u49 u50 u51 u52 u53 u54 u55 u56 u57 u58 u59 u60 u61 u62 u63 u64 u65 u66 u67 u68 u69 u70 u71 u72 u73 u74 u75 u76 u77 u78 u79 u80 u81 u82 u83 u84 u85 u86 u87 u88 u89 u90 u91 u92 u93 u94 u95 u96 u97 u98 u99 u100 u101 u102 u103 u104 u105 u106 u107 u108 u109 u110 u111 u112 u113 u114 u115 u116 u117 u118 u119 u120 u121 u122 u123 u124 u125 u126 u127 u128 u129 u130 u131 u132 u133 u134 u135 u136 u137 u138 u139 u140 u141 u142 u143 u144 u145 u146 u147 u148 u149 u150 u151 u152 u153 u154 u155 u156 u157 u158 u159 u160 u161 u162 u163 u164 u165 u166 u167 u168 u169 u170 u171 u172 u173 u174 u175 u176 u177 u178 u179 u180 u181 u182 u183 u184 u185 u186 u187 u188 u189 u190 u191 u192 u193 u194 u195 u196 u197 u198 u199 u200 u201 u202 u203 u204 u205 u206 u207 u208 u209 u210 u211 u212 u213 u214 u215 u216 u217 u218 u219 u220 u221 u222 u223 u224 u225 u226 u227 u228 u229 u230 u231 u232 u233 u234 u235 u236 u237 u238 u239 u240 u241 u242 u243 u244 u245 u246 u247 u248 u249 u250 u251 u252 u253 u254 u255 u256 u257 u258 u259 u260 u261 u262 u263 u264 u265 u266 u267 u268 u269 u270 u271 : Value} {ds : List Deferred} (g : Nat → Acc) (n m : Nat) (w W0 : World) (q cl mm : Nat) (v1 : Value) (lp : Option Addr) (b : Nat → Nat) (M1 : Ms) (hl : Accs w lp n g) (hn60 : n ≤ 60) (hnm : n ≤ m) (hm : m ≤ 9223372036854775807) (hX : Lastly w W0 q v1 (.slice lp n cl) b n M1 mm (fun _ => 0)) (hgot : ∀ k, k < n → (g k).st = false → M1.got k = right g k) {K : Act → World → Prop}
    (hk : ∀ (t8 t19 t20 t21 t22 t23 t203 t204 t205 t206 t207 t208 t209 t210 t211 t212 t213 t214 t215 t216 t217 t218 t219 t220 t221 t222 t223 t224 t225 t226 t227 t228 t229 t230 t231 t232 t233 t234 t235 t236 t237 t238 t239 t240 t241 t242 t243 t244 t245 t246 t247 t248 t249 t250 t251 t252 t253 t254 t255 : Value) (y : World), Lastly w y q v1 (.slice lp n cl) b n M1 mm (seqM g n) → K ⟨#[u0, u1, .slice lp m cl, u3, u4, u5, u6, u7, t8, u9, u10, .int .i64 n, .pointer (some ⟨b 0, 0, none⟩), u13, u14, u15, u16, u17, .slice (some ⟨mm, 0, none⟩) 16 16, t19, t20, t21, t22, t23, u24, u25, u26, u27, u28, u29, u30, u31, u32, u33, u34, u35, u36, u37, u38, u39, u40, u41, u42, u43, u44, u45, u46, u47, u48, u49, u50, u51, u52, u53, u54, u55, u56, u57, u58, u59, u60, u61, u62, u63, u64, u65, u66, u67, u68, u69, u70, u71, u72, u73, u74, u75, u76, u77, u78, u79, u80, u81, u82, u83, u84, u85, u86, u87, u88, u89, u90, u91, u92, u93, u94, u95, u96, u97, u98, u99, u100, u101, u102, u103, u104, u105, u106, u107, u108, u109, u110, u111, u112, u113, u114, u115, u116, u117, u118, u119, u120, u121, u122, u123, u124, u125, u126, u127, u128, u129, u130, u131, u132, u133, u134, u135, u136, u137, u138, u139, u140, u141, u142, u143, u144, u145, u146, u147, u148, u149, u150, u151, u152, u153, u154, u155, u156, u157, u158, u159, u160, u161, u162, u163, u164, u165, u166, u167, u168, u169, u170, u171, u172, u173, u174, u175, u176, u177, u178, u179, u180, u181, u182, u183, u184, u185, u186, u187, u188, u189, u190, u191, u192, u193, u194, u195, u196, u197, u198, u199, u200, u201, u202, t203, t204, t205, t206, t207, t208, t209, t210, t211, t212, t213, t214, t215, t216, t217, t218, t219, t220, t221, t222, t223, t224, t225, t226, t227, t228, t229, t230, t231, t232, t233, t234, t235, t236, t237, t238, t239, t240, t241, t242, t243, t244, t245, t246, t247, t248, t249, t250, t251, t252, t253, t254, t255, u256, u257, u258, u259, u260, u261, u262, u263, u264, u265, u266, u267, u268, u269, u270, u271], ds⟩ y) : (blkIn Tryd.f4.body 2).wp Tryd.prog (Exit.then K NoX) ⟨#[u0, u1, .slice lp m cl, u3, u4, u5, u6, u7, u8, u9, u10, .int .i64 n, .pointer (some ⟨b 0, 0, none⟩), u13, u14, u15, u16, u17, .slice (some ⟨mm, 0, none⟩) 16 16, .int .i64 0, u20, u21, u22, u23, u24, u25, u26, u27, u28, u29, u30, u31, u32, u33, u34, u35, u36, u37, u38, u39, u40, u41, u42, u43, u44, u45, u46, u47, u48, u49, u50, u51, u52, u53, u54, u55, u56, u57, u58, u59, u60, u61, u62, u63, u64, u65, u66, u67, u68, u69, u70, u71, u72, u73, u74, u75, u76, u77, u78, u79, u80, u81, u82, u83, u84, u85, u86, u87, u88, u89, u90, u91, u92, u93, u94, u95, u96, u97, u98, u99, u100, u101, u102, u103, u104, u105, u106, u107, u108, u109, u110, u111, u112, u113, u114, u115, u116, u117, u118, u119, u120, u121, u122, u123, u124, u125, u126, u127, u128, u129, u130, u131, u132, u133, u134, u135, u136, u137, u138, u139, u140, u141, u142, u143, u144, u145, u146, u147, u148, u149, u150, u151, u152, u153, u154, u155, u156, u157, u158, u159, u160, u161, u162, u163, u164, u165, u166, u167, u168, u169, u170, u171, u172, u173, u174, u175, u176, u177, u178, u179, u180, u181, u182, u183, u184, u185, u186, u187, u188, u189, u190, u191, u192, u193, u194, u195, u196, u197, u198, u199, u200, u201, u202, u203, u204, u205, u206, u207, u208, u209, u210, u211, u212, u213, u214, u215, u216, u217, u218, u219, u220, u221, u222, u223, u224, u225, u226, u227, u228, u229, u230, u231, u232, u233, u234, u235, u236, u237, u238, u239, u240, u241, u242, u243, u244, u245, u246, u247, u248, u249, u250, u251, u252, u253, u254, u255, u256, u257, u258, u259, u260, u261, u262, u263, u264, u265, u266, u267, u268, u269, u270, u271], ds⟩ W0 := by
  have HL := Hid.in hl
  have HX := Hid.in hX
  have HGO := Hid.in hgot
  have HQ := Hid.in hk
  clear hl hX hgot hk
  show Code.wp _ (Code.block 2 (Code.loop _)) _ _ _
  go_wp2
  go_loopw [19] (fun kv wr => ∃ k : Nat, kv = .int .i64 k ∧ k ≤ n ∧ Lastly w wr q v1 (.slice lp n cl) b n M1 mm (seqM g k)) (fun kv _ => 61 - (intOf kv).toNat)
  case atStart => exact ⟨0, rfl, Nat.zero_le _, HX.out⟩
  case round =>
    obtain ⟨k, rfl, hkn, hK⟩ := hrel
    have HK := Hid.in hK
    by_cases hlt : k < n
    · have hlt' : (k : Int) < (n : Int) := by omega
      have hltm : (k : Int) < (m : Int) := by omega
      obtain ⟨sb, so, rfl, hsb, s0, s1, s2, s3, hfit⟩ := HL.out k hlt
      have e0 := (hK.X.low.cell (p := ⟨sb, so + k * 4, none⟩) hsb).trans s0
      have e1 := (hK.X.low.cell (p := ⟨sb, so + k * 4 + 1, none⟩) hsb).trans s1
      have e2 := (hK.X.low.cell (p := ⟨sb, so + k * 4 + 2, none⟩) hsb).trans s2
      have e3 := (hK.X.low.cell (p := ⟨sb, so + k * 4 + 3, none⟩) hsb).trans s3
      have hsb' : sb < wr.heap.size := Nat.lt_of_lt_of_le hsb hK.X.low.size
      have hmul : (k : Int) * 4 = ((k * 4 : Nat) : Int) := by omega
      have HWH : Hid (∀ x, Calls Tryd.prog 35 #[.agg #[.bool (g k).st, .int .i64 (g k).ad, .int .i64 (g k).sz, .int .u32 (g k).da]] x fun r w' => r = .returned (.tuple #[.int .u32 (g k).a, .int .i64 (g k).z]) ∧ Below x.heap.size x w') := fun x => where_any (g k) x hfit
      have hai := (g k).a_is
      have hzi := (g k).z_is
      have HS := Hid.in s0
      have HS3 := Hid.in s3
      have HSL := Hid.in (seqM_load (g := g) (k := k))
      have HSS := Hid.in (seqM_store (g := g) (k := k))
      have HGK := Hid.in (HGO.out k hlt)
      obtain ⟨st, hst⟩ : ∃ st, (g k).st = st := ⟨_, rfl⟩
      obtain ⟨ad, had⟩ : ∃ ad, (g k).ad = ad := ⟨_, rfl⟩
      obtain ⟨sz, hsz⟩ : ∃ sz, (g k).sz = sz := ⟨_, rfl⟩
      obtain ⟨da, hdd⟩ : ∃ da, (g k).da = da := ⟨_, rfl⟩
      obtain ⟨a, ha⟩ : ∃ a, (g k).a = a := ⟨_, rfl⟩
      obtain ⟨z, hz⟩ : ∃ z, (g k).z = z := ⟨_, rfl⟩
      have HRI : Hid (right g k = leN (fun t => seqM g k (64 + (a - 64 + t))) z) := by
        show right g k = _
        unfold right
        rw [ha, hz]
        exact leN_congr _ _ _ (fun t _ => by rw [show 64 + (a - 64 + t) = a + t by omega])
      rw [hst] at e0 HWH HS HSL HSS HGK
      rw [had] at e1 HWH
      rw [hsz] at e2 HWH
      rw [hdd] at e3 HWH HS3 HSS
      rw [ha] at HWH hai HSS
      rw [hz] at HWH hai hzi HSS
      clear hst had hsz hdd ha hz hfit s0 s1 s2 s3 hK
      go_upto_region 36 with (go_at_call 35; refine (HWH.out _).mono ?_; rintro e x1 ⟨rfl, hbx⟩; have HK1 := Hid.in (HK.out.below hbx); clear hbx e0 e1 e2 e3 hsb')
      have e0 := (HK1.out.X.low.cell (p := ⟨sb, so + k * 4, none⟩) hsb).trans HS.out
      have e3 := (HK1.out.X.low.cell (p := ⟨sb, so + k * 4 + 3, none⟩) hsb).trans HS3.out
      have hsb' : sb < x1.heap.size := Nat.lt_of_lt_of_le hsb HK1.out.X.low.size
      cases st
      · have hrow := HK1.out.X.c 1 (by decide)
        have e4 := hrow.cell k hlt
        have h4 := hrow.here
        obtain ⟨hb0, -, -, -, -, c4, -⟩ := HK1.out.X.cells
        simp only [xct] at e4
        rw [HGK.out (by simp), HRI.out] at e4
        have HBY := Hid.in (bytes_any mm a z (fun o => seqM g k (64 + o)) x1 HK1.out.c (fun o => seqM_lt g k _) hai.1 hai.2.1 (by omega))
        have hgl : leN (fun t => seqM g k (64 + (a - 64 + t))) z < 4294967296 := by
          have := leN_lt (fun t => seqM g k (64 + (a - 64 + t))) z (fun t _ => seqM_lt g k _)
          rcases hzi with rfl | rfl | rfl <;> omega
        obtain ⟨gt, hgt⟩ : ∃ gt, leN (fun t => seqM g k (64 + (a - 64 + t))) z = gt := ⟨_, rfl⟩
        rw [hgt] at e4 hgl
        have HBY2 : Hid (Calls Tryd.prog 36 #[.slice (some ⟨mm, 0, none⟩) 16 16, .int .u32 a, .int .i64 z] x1 fun r w' => r = .returned (.int .u32 gt) ∧ w' = x1) := by
          have := HBY.out
          rw [hgt] at this
          exact this
        clear hrow HBY hgt
        go_wp2_with (go_at_call 36; refine HBY2.out.mono ?_; rintro e x2 ⟨rfl, hx2⟩; have hx3 := hx2.symm; clear hx2; subst hx3)
        go_roundw
        case rel => exact ⟨k + 1, by simp, by omega, by rw [HSL.out (by simp)]; exact HK1.out⟩
        case measure =>
          simp [intOf]
          omega
      · clear HGK HRI HSL
        go_upto_block 4 with fail
        refine wp_then (wp_any (blk4 g n m k a z da w _ q cl mm sb so v1 b M1 (by omega) hsb HS3.out hai hzi HK1.out (fun t23 t235 t236 t237 t238 t239 t240 t241 t242 t243 t244 t245 t246 t247 t248 t249 t250 t251 t252 t253 t254 t255 y hy => ?_)))
        go_wp2
        go_roundw
        case rel => exact ⟨k + 1, by simp, by omega, by rw [HSS.out (by simp)]; exact hy⟩
        case measure =>
          simp [intOf]
          omega
    · obtain rfl : k = n := by omega
      have hlt' : ¬ (k : Int) < (k : Int) := by omega
      clear hK
      go_wp2
      exact HQ.out _ _ _ _ _ _ _ _ _ _ _ _ _ _ _ _ _ _ _ _ _ _ _ _ _ _ _ _ _ _ _ _ _ _ _ _ _ _ _ _ _ _ _ _ _ _ _ _ _ _ _ _ _ _ _ _ _ _ _ _ HK.out
end Go.Proofs.YthbffonedpeeiaaDoor
/-
  LSQ's LAW LsqMemory: in the end: memory is what the order says.
-/
namespace Go.Proofs.YthbffonedpeeiaaDoor
open Go Go.RowKit
set_option maxRecDepth 100000 in
set_option maxHeartbeats 4000000 in
theorem blk6 {u0 u1 u2 u3 u4 u5 u6 u7 u8 u9 u10 u11 u13 u14 u15 u16 u17 u19 u20 u21 u22 u23 u25 u26 u27 u28 u29 u30 u31 u32 u33 u34 u35 u36 u37 u38 u39 u40 u41 u42 u43 u44 u45 u46 u47 u48 u49 u50 u51 u52 u53 u54 u55 u56 u57 u58 u59 u60 u61 u62 u63 u64 u65 u66 u67 u68 u69 u70 u71 u72 u73 u74 u75 u76 u77 u78 u79 u80 u81 u82 u83 u84 u85 u86 u87 u88 u89 u90 u91 u92 u93 u94 u95 u96 u97 u98 u99 u100 u101 u102 u103 u104 u105 u106 u107 u108 u109 u110 u111 u112 u113 u114 u115 u116 u117 u118 u119 u120 u121 u122 u123 u124 u125 u126 u127 u128 u129 u130 u131 u132 u133 u134 u135 u136 u137 u138 u139 u140 u141 u142 u143 u144 u145 u146 u147 u148 u149 u150 u151 u152 u153 u154 u155 u156 u157 u158 u159 u160 u161 u162 u163 u164 u165 u166 u167 u168 u169 u170 u171 u172 u173 u174 u175 u176 u177 u178 u179 u180 u181 u182 u183 u184 u185 u186 u187 u188 u189 u190 u191 u192 u193 u194 u195 u196 u197 u198 u199 u200 u201 u202 u203 u204 u205 u206 u207 u208 u209 u210 u211 u212 u213 u214 u215 u216 u217 u218 u219 u220 u221 u222 u223 u224 u225 u226 u227 u228 u229 u230 u231 u232 u233 u234 u235 u236 u237 u238 u239 u240 u241 u242 u243 u244 u245 u246 u247 u248 u249 u250 u251 u252 u253 u254 u255 u256 u257 u258 u259 u260 u261 u262 u263 u264 u265 u266 u267 u268 u269 u270 u271 : Value} {ds : List Deferred} (g : Nat → Acc) (n : Nat) (w W0 : World) (q cl mm : Nat) (v1 : Value) (lp : Option Addr) (b : Nat → Nat) (M1 : Ms) (hX : Lastly w W0 q v1 (.slice lp n cl) b n M1 mm (seqM g n)) (hmem : ∀ y, 64 ≤ y → y < 80 → M1.mem y = seqM g n y) {K : Act → World → Prop}
    (hk : ∀ (t8 t24 t256 t257 t258 t259 t260 t261 t262 t263 t264 t265 t266 t267 t268 t269 t270 t271 : Value) (y : World), Below w.heap.size w y → K ⟨#[u0, u1, u2, u3, u4, u5, u6, u7, t8, u9, u10, u11, .pointer (some ⟨b 0, 0, none⟩), u13, u14, u15, u16, u17, .slice (some ⟨mm, 0, none⟩) 16 16, u19, u20, u21, u22, u23, t24, u25, u26, u27, u28, u29, u30, u31, u32, u33, u34, u35, u36, u37, u38, u39, u40, u41, u42, u43, u44, u45, u46, u47, u48, u49, u50, u51, u52, u53, u54, u55, u56, u57, u58, u59, u60, u61, u62, u63, u64, u65, u66, u67, u68, u69, u70, u71, u72, u73, u74, u75, u76, u77, u78, u79, u80, u81, u82, u83, u84, u85, u86, u87, u88, u89, u90, u91, u92, u93, u94, u95, u96, u97, u98, u99, u100, u101, u102, u103, u104, u105, u106, u107, u108, u109, u110, u111, u112, u113, u114, u115, u116, u117, u118, u119, u120, u121, u122, u123, u124, u125, u126, u127, u128, u129, u130, u131, u132, u133, u134, u135, u136, u137, u138, u139, u140, u141, u142, u143, u144, u145, u146, u147, u148, u149, u150, u151, u152, u153, u154, u155, u156, u157, u158, u159, u160, u161, u162, u163, u164, u165, u166, u167, u168, u169, u170, u171, u172, u173, u174, u175, u176, u177, u178, u179, u180, u181, u182, u183, u184, u185, u186, u187, u188, u189, u190, u191, u192, u193, u194, u195, u196, u197, u198, u199, u200, u201, u202, u203, u204, u205, u206, u207, u208, u209, u210, u211, u212, u213, u214, u215, u216, u217, u218, u219, u220, u221, u222, u223, u224, u225, u226, u227, u228, u229, u230, u231, u232, u233, u234, u235, u236, u237, u238, u239, u240, u241, u242, u243, u244, u245, u246, u247, u248, u249, u250, u251, u252, u253, u254, u255, t256, t257, t258, t259, t260, t261, t262, t263, t264, t265, t266, t267, t268, t269, t270, t271], ds⟩ y) : (blkIn Tryd.f4.body 6).wp Tryd.prog (Exit.then K NoX) ⟨#[u0, u1, u2, u3, u4, u5, u6, u7, u8, u9, u10, u11, .pointer (some ⟨b 0, 0, none⟩), u13, u14, u15, u16, u17, .slice (some ⟨mm, 0, none⟩) 16 16, u19, u20, u21, u22, u23, .int .i64 0, u25, u26, u27, u28, u29, u30, u31, u32, u33, u34, u35, u36, u37, u38, u39, u40, u41, u42, u43, u44, u45, u46, u47, u48, u49, u50, u51, u52, u53, u54, u55, u56, u57, u58, u59, u60, u61, u62, u63, u64, u65, u66, u67, u68, u69, u70, u71, u72, u73, u74, u75, u76, u77, u78, u79, u80, u81, u82, u83, u84, u85, u86, u87, u88, u89, u90, u91, u92, u93, u94, u95, u96, u97, u98, u99, u100, u101, u102, u103, u104, u105, u106, u107, u108, u109, u110, u111, u112, u113, u114, u115, u116, u117, u118, u119, u120, u121, u122, u123, u124, u125, u126, u127, u128, u129, u130, u131, u132, u133, u134, u135, u136, u137, u138, u139, u140, u141, u142, u143, u144, u145, u146, u147, u148, u149, u150, u151, u152, u153, u154, u155, u156, u157, u158, u159, u160, u161, u162, u163, u164, u165, u166, u167, u168, u169, u170, u171, u172, u173, u174, u175, u176, u177, u178, u179, u180, u181, u182, u183, u184, u185, u186, u187, u188, u189, u190, u191, u192, u193, u194, u195, u196, u197, u198, u199, u200, u201, u202, u203, u204, u205, u206, u207, u208, u209, u210, u211, u212, u213, u214, u215, u216, u217, u218, u219, u220, u221, u222, u223, u224, u225, u226, u227, u228, u229, u230, u231, u232, u233, u234, u235, u236, u237, u238, u239, u240, u241, u242, u243, u244, u245, u246, u247, u248, u249, u250, u251, u252, u253, u254, u255, u256, u257, u258, u259, u260, u261, u262, u263, u264, u265, u266, u267, u268, u269, u270, u271], ds⟩ W0 := by
  have HX := Hid.in hX
  have HM := Hid.in hmem
  have HQ := Hid.in hk
  clear hX hmem hk
  show Code.wp _ (Code.block 6 (Code.loop _)) _ _ _
  go_wp2
  go_loopw [24] (fun kv wr => ∃ k : Nat, kv = .int .i64 k ∧ k ≤ 16 ∧ Lastly w wr q v1 (.slice lp n cl) b n M1 mm (seqM g n)) (fun kv _ => 17 - (intOf kv).toNat)
  case atStart => exact ⟨0, rfl, Nat.zero_le _, HX.out⟩
  case round =>
    obtain ⟨k, rfl, hkn, hK⟩ := hrel
    have HK := Hid.in hK
    by_cases hlt : k < 16
    · have hlt' : (k : Int) < 16 := by omega
      have e5 := hK.c.cell k hlt
      have h5 := hK.c.here
      have r5 := (hK.X.c 5 (by decide)).cell k hlt
      have g5 := (hK.X.c 5 (by decide)).here
      obtain ⟨hb0, -, -, -, -, -, -, -, -, c8⟩ := hK.X.cells
      simp only [xct] at r5
      rw [HM.out (64 + k) (by omega) (by omega)] at r5
      have hsl := seqM_lt g n (64 + k)
      generalize seqM g n (64 + k) = sv at e5 r5 hsl
      clear hK
      go_upto_region 47 with fail
      go_quiet (fail)
      go_wp2
      go_roundw
      case rel => exact ⟨k + 1, by simp, by omega, HK.out.below (below_drewN _ _)⟩
      case measure =>
        simp [intOf]
        omega
    · obtain rfl : k = 16 := by omega
      have hlow := hK.X.low
      clear hK
      go_wp2
      exact HQ.out _ _ _ _ _ _ _ _ _ _ _ _ _ _ _ _ _ _ _ hlow
end Go.Proofs.YthbffonedpeeiaaDoor
