/-
  CACHE's LAW CacheSteps: its own helpers: told, line, made.
-/
import Derived.Test.YtljmmepjknfmcaaDoorGc
import Derived.Test.YtljmmepjknfmcaaDoorKc
import Derived.Stop.BytesEq
namespace Go.Proofs.YtljmmepjknfmcaaDoor
open Go Go.RowKit
def handleAt (w : World) : Prop := w.cell? ⟨0, 0, none⟩ = some (.iface 102 (.agg #[.pointer (some ⟨1, 25, none⟩)]))
theorem ltold_nil (w : World) : Calls Tryd.prog 6 #[.nilIface, .int .i64 0] w fun e w' => e = .returned (.bool true) ∧ Below w.heap.size w w' := by
  go_enter Tryd.func6, Tryd.ntmps6
  go_wp2_with (go_at_call 20; refine (told_nil _).mono ?_; rintro e w1 ⟨rfl, hb⟩; have HB := Hid.in hb; clear hb)
  go_ret
  exact ⟨rfl, HB.out⟩
theorem ltold_err (k : Int) (w : World) (hg : handleAt w) : Calls Tryd.prog 6 #[errV k, .int .i64 k] w fun e w' => e = .returned (.bool true) ∧ Below w.heap.size w w' := by
  have HG := Hid.in hg
  clear hg
  unfold errV
  go_enter Tryd.func6, Tryd.ntmps6
  go_wp2_with (go_at_call 20; refine (told_err k _ HG.out).mono ?_; rintro e w1 ⟨rfl, hb⟩; have HB := Hid.in hb; clear hb)
  go_ret
  exact ⟨by simp, HB.out⟩
def errOf (er : Int) : Value := if er = 0 then .nilIface else errV er
theorem errOf_ne {er : Int} (h : er ≠ 0) : errOf er = errV er := by simp [errOf, h]
theorem ltold_of (er : Int) (w : World) (hg : handleAt w) : Calls Tryd.prog 6 #[errOf er, .int .i64 er] w fun e w' => e = .returned (.bool true) ∧ Below w.heap.size w w' := by
  unfold errOf
  split
  · rename_i e
    subst e
    exact ltold_nil w
  · exact ltold_err er w hg
theorem bvs_cell (b : Nat → Nat) (hb : ∀ j, j < 16 → b j < 256) : bvs b = ((List.range 16).map (fun j => UInt8.ofNat (b j))).map Extern.Stop.cell := by
  unfold bvs
  rw [List.map_map]
  refine List.map_congr_left (fun j hj => ?_)
  have hj' : j < 16 := by simpa using hj
  show Value.int .u8 (b j) = Extern.Stop.cell (UInt8.ofNat (b j))
  unfold Extern.Stop.cell
  have : (UInt8.ofNat (b j)).toNat = b j := by
    rw [UInt8.toNat_ofNat']
    exact Nat.mod_eq_of_lt (hb j hj')
  rw [this]
  rfl
theorem eq_bytes (w : World) (b : Nat → Nat) (hb : ∀ j, j < 16 → b j < 256) : (Op.equalIn 10000 45 (.agg (bvs b).toArray) (.agg (bvs b).toArray)).run Tryd.prog w = .ok true w := by
  have hsz : ∀ w, (sizeOf 5).run Tryd.prog w = .ok 1 w := fun w => by
    obtain ⟨i, hi, h2⟩ : ∃ i, Tryd.prog.info? 5 = some i ∧ i.size = 1 := by
      have h : (Tryd.prog.info? 5).map (·.size) = some 1 := by kernel_rfl
      cases q : Tryd.prog.info? 5 with
      | none => rw [q] at h; simp at h
      | some i => rw [q] at h; exact ⟨i, rfl, by simpa using h⟩
    simp [sizeOf, typeInfo, hi, h2]
  rw [bvs_cell b hb]
  have := run_equalIn_bytes (P := Tryd.prog) w 9998 45 5 16 Tryd.underlying45 Tryd.underlying5 hsz ((List.range 16).map (fun j => UInt8.ofNat (b j))) ((List.range 16).map (fun j => UInt8.ofNat (b j))) (by simp) (by simp)
  rw [this]
  simp
set_option maxRecDepth 100000 in
set_option maxHeartbeats 2000000 in
theorem line_same (e : Ln) (w : World) (ha : e.a < 4294967296) (hb : ∀ j, j < 16 → e.b j < 256) : Calls Tryd.prog 16 #[.agg e.vs.toArray, .agg e.rv.toArray] w fun r w' => r = .returned (.bool true) ∧ Below w.heap.size w w' := by
  obtain ⟨X, hX⟩ : ∃ X, (w.alloc (.cells e.vs.toArray 47)).alloc (.cells e.rv.toArray 52) = X := ⟨_, rfl⟩
  have r1 : X.rangeAt w.heap.size 0 e.vs := by rw [← hX]; exact World.rangeAt_alloc (range_new w e _) _
  have r2 : X.rangeAt (w.heap.size + 1) 0 e.rv := by
    rw [← hX]
    have := rrange_new (w.alloc (.cells e.vs.toArray 47)) e 52
    rw [World.size_alloc] at this
    exact this
  have HB : Hid (Below w.heap.size w X) := by show Below _ _ _; rw [← hX]; exact ((Below.refl _ _).alloc (Nat.le_refl _) _).alloc (by simp) _
  have sX : X.heap.size = w.heap.size + 2 := by rw [← hX]; simp
  have h1 : w.heap.size < X.heap.size := by omega
  have h2 : w.heap.size + 1 < X.heap.size := by omega
  have c0 : X.cell? ⟨w.heap.size, 0, none⟩ = some (.int .u32 e.a) := r1 0 _ rfl
  have c1 : X.cell? ⟨w.heap.size, 1, none⟩ = some (.int .i64 e.s) := r1 1 _ rfl
  have d0 : X.cell? ⟨w.heap.size + 1, 0, none⟩ = some (.int .i64 e.a) := r2 0 _ rfl
  have d1 : X.cell? ⟨w.heap.size + 1, 1, none⟩ = some (.int .i64 e.s) := r2 1 _ rfl
  have R1 : X.rangeAt w.heap.size 2 (bvs e.b) := fun j v hv => by
    have := r1 (2 + j) v (by rw [Nat.add_comm]; exact hv)
    rwa [Nat.zero_add] at this
  have R2 : X.rangeAt (w.heap.size + 1) 2 (bvs e.b) := fun j v hv => by
    have := r2 (2 + j) v (by rw [Nat.add_comm]; exact hv)
    rwa [Nat.zero_add] at this
  have p0 : X.cell? ⟨w.heap.size, 2, none⟩ = some (.int .u8 (e.b 0)) := R1 0 _ rfl
  have q0 : X.cell? ⟨w.heap.size + 1, 2, none⟩ = some (.int .u8 (e.b 0)) := R2 0 _ rfl
  have p1 : X.cell? ⟨w.heap.size, 3, none⟩ = some (.int .u8 (e.b 1)) := R1 1 _ rfl
  have q1 : X.cell? ⟨w.heap.size + 1, 3, none⟩ = some (.int .u8 (e.b 1)) := R2 1 _ rfl
  have p2 : X.cell? ⟨w.heap.size, 4, none⟩ = some (.int .u8 (e.b 2)) := R1 2 _ rfl
  have q2 : X.cell? ⟨w.heap.size + 1, 4, none⟩ = some (.int .u8 (e.b 2)) := R2 2 _ rfl
  have p3 : X.cell? ⟨w.heap.size, 5, none⟩ = some (.int .u8 (e.b 3)) := R1 3 _ rfl
  have q3 : X.cell? ⟨w.heap.size + 1, 5, none⟩ = some (.int .u8 (e.b 3)) := R2 3 _ rfl
  have p4 : X.cell? ⟨w.heap.size, 6, none⟩ = some (.int .u8 (e.b 4)) := R1 4 _ rfl
  have q4 : X.cell? ⟨w.heap.size + 1, 6, none⟩ = some (.int .u8 (e.b 4)) := R2 4 _ rfl
  have p5 : X.cell? ⟨w.heap.size, 7, none⟩ = some (.int .u8 (e.b 5)) := R1 5 _ rfl
  have q5 : X.cell? ⟨w.heap.size + 1, 7, none⟩ = some (.int .u8 (e.b 5)) := R2 5 _ rfl
  have p6 : X.cell? ⟨w.heap.size, 8, none⟩ = some (.int .u8 (e.b 6)) := R1 6 _ rfl
  have q6 : X.cell? ⟨w.heap.size + 1, 8, none⟩ = some (.int .u8 (e.b 6)) := R2 6 _ rfl
  have p7 : X.cell? ⟨w.heap.size, 9, none⟩ = some (.int .u8 (e.b 7)) := R1 7 _ rfl
  have q7 : X.cell? ⟨w.heap.size + 1, 9, none⟩ = some (.int .u8 (e.b 7)) := R2 7 _ rfl
  have p8 : X.cell? ⟨w.heap.size, 10, none⟩ = some (.int .u8 (e.b 8)) := R1 8 _ rfl
  have q8 : X.cell? ⟨w.heap.size + 1, 10, none⟩ = some (.int .u8 (e.b 8)) := R2 8 _ rfl
  have p9 : X.cell? ⟨w.heap.size, 11, none⟩ = some (.int .u8 (e.b 9)) := R1 9 _ rfl
  have q9 : X.cell? ⟨w.heap.size + 1, 11, none⟩ = some (.int .u8 (e.b 9)) := R2 9 _ rfl
  have p10 : X.cell? ⟨w.heap.size, 12, none⟩ = some (.int .u8 (e.b 10)) := R1 10 _ rfl
  have q10 : X.cell? ⟨w.heap.size + 1, 12, none⟩ = some (.int .u8 (e.b 10)) := R2 10 _ rfl
  have p11 : X.cell? ⟨w.heap.size, 13, none⟩ = some (.int .u8 (e.b 11)) := R1 11 _ rfl
  have q11 : X.cell? ⟨w.heap.size + 1, 13, none⟩ = some (.int .u8 (e.b 11)) := R2 11 _ rfl
  have p12 : X.cell? ⟨w.heap.size, 14, none⟩ = some (.int .u8 (e.b 12)) := R1 12 _ rfl
  have q12 : X.cell? ⟨w.heap.size + 1, 14, none⟩ = some (.int .u8 (e.b 12)) := R2 12 _ rfl
  have p13 : X.cell? ⟨w.heap.size, 15, none⟩ = some (.int .u8 (e.b 13)) := R1 13 _ rfl
  have q13 : X.cell? ⟨w.heap.size + 1, 15, none⟩ = some (.int .u8 (e.b 13)) := R2 13 _ rfl
  have p14 : X.cell? ⟨w.heap.size, 16, none⟩ = some (.int .u8 (e.b 14)) := R1 14 _ rfl
  have q14 : X.cell? ⟨w.heap.size + 1, 16, none⟩ = some (.int .u8 (e.b 14)) := R2 14 _ rfl
  have p15 : X.cell? ⟨w.heap.size, 17, none⟩ = some (.int .u8 (e.b 15)) := R1 15 _ rfl
  have q15 : X.cell? ⟨w.heap.size + 1, 17, none⟩ = some (.int .u8 (e.b 15)) := R2 15 _ rfl
  have heq : (Op.equalIn 10000 45 (.agg #[.int .u8 (e.b 0), .int .u8 (e.b 1), .int .u8 (e.b 2), .int .u8 (e.b 3), .int .u8 (e.b 4), .int .u8 (e.b 5), .int .u8 (e.b 6), .int .u8 (e.b 7), .int .u8 (e.b 8), .int .u8 (e.b 9), .int .u8 (e.b 10), .int .u8 (e.b 11), .int .u8 (e.b 12), .int .u8 (e.b 13), .int .u8 (e.b 14), .int .u8 (e.b 15)]) (.agg #[.int .u8 (e.b 0), .int .u8 (e.b 1), .int .u8 (e.b 2), .int .u8 (e.b 3), .int .u8 (e.b 4), .int .u8 (e.b 5), .int .u8 (e.b 6), .int .u8 (e.b 7), .int .u8 (e.b 8), .int .u8 (e.b 9), .int .u8 (e.b 10), .int .u8 (e.b 11), .int .u8 (e.b 12), .int .u8 (e.b 13), .int .u8 (e.b 14), .int .u8 (e.b 15)])).run Tryd.prog X = .ok true X := eq_bytes X e.b hb
  have HX := Hid.in hX
  clear r1 r2 hX hb R1 R2
  go_enter Tryd.func16, Tryd.ntmps16
  go_upto_region 1 with fail
  rw [HX.out]
  go_wp2
  go_ret
  exact ⟨rfl, HB.out⟩
end Go.Proofs.YtljmmepjknfmcaaDoor
