/-
  PREDICT: how the answer's predictor is made (where the numbers fit).
-/
import Derived.Test.YtaioaakaffafoaaDoorFk
namespace Go.Proofs.YtaioaakaffafoaaDoor
open Go Go.RowKit
theorem rt0 (x : World) (nt : Nat) : CellsAt (nt * 3) (x.alloc (.cells (madeCells #[.bool false, .int .u32 0, .int .u32 0] (nt * 3)) 86)) x.heap.size (encG newS.tf newS.tp newS.tt) := cells_new x (fun i hi => (made_cell3 _ _ _ nt i hi).trans rfl)
theorem rs0 (x : World) (ret : Nat) : CellsAt ret (x.alloc (.cells (madeCells #[.int .u32 0] ret) 38)) x.heap.size (fun k => .int .u32 (newS.stack k)) := cells_new x (made_cell _ ret)
theorem rc0 (x : World) (nc : Nat) : CellsAt nc (x.alloc (.cells (madeCells #[.int .i64 0] nc) 3)) x.heap.size (fun _ => .int .i64 0) := cells_new x (made_cell _ nc)
theorem rt1 (x : World) (o : Obj) (nt : Nat) : CellsAt (nt * 3) ((x.alloc o).alloc (.cells (madeCells #[.bool false, .int .u32 0, .int .u32 0] (nt * 3)) 86)) (x.heap.size + 1) (encG newS.tf newS.tp newS.tt) := by
  have := rt0 (x.alloc o) nt
  rwa [World.size_alloc] at this
theorem rs1 (x : World) (o : Obj) (ret : Nat) : CellsAt ret ((x.alloc o).alloc (.cells (madeCells #[.int .u32 0] ret) 38)) (x.heap.size + 1) (fun k => .int .u32 (newS.stack k)) := by
  have := rs0 (x.alloc o) ret
  rwa [World.size_alloc] at this
theorem rc1 (x : World) (o : Obj) (nc : Nat) : CellsAt nc ((x.alloc o).alloc (.cells (madeCells #[.int .i64 0] nc) 3)) (x.heap.size + 1) (fun _ => .int .i64 0) := by
  have := rc0 (x.alloc o) nc
  rwa [World.size_alloc] at this
theorem rt2 (x : World) (o p : Obj) (nt : Nat) : CellsAt (nt * 3) (((x.alloc o).alloc p).alloc (.cells (madeCells #[.bool false, .int .u32 0, .int .u32 0] (nt * 3)) 86)) (x.heap.size + 1 + 1) (encG newS.tf newS.tp newS.tt) := by
  have := rt0 ((x.alloc o).alloc p) nt
  rwa [World.size_alloc, World.size_alloc] at this
theorem rs2 (x : World) (o p : Obj) (ret : Nat) : CellsAt ret (((x.alloc o).alloc p).alloc (.cells (madeCells #[.int .u32 0] ret) 38)) (x.heap.size + 1 + 1) (fun k => .int .u32 (newS.stack k)) := by
  have := rs0 ((x.alloc o).alloc p) ret
  rwa [World.size_alloc, World.size_alloc] at this
theorem rc2 (x : World) (o p : Obj) (nc : Nat) : CellsAt nc (((x.alloc o).alloc p).alloc (.cells (madeCells #[.int .i64 0] nc) 3)) (x.heap.size + 1 + 1) (fun _ => .int .i64 0) := by
  have := rc0 ((x.alloc o).alloc p) nc
  rwa [World.size_alloc, World.size_alloc] at this
/-- ahead of the loop -/
structure Rn (w y : World) (kind : Int) (bits hist tg ret nt nc gc gt gs p : Nat) : Prop where
  cells : CellsAt 10 y p (encR kind bits hist tg 0 gc nc gt nt gs ret 0)
  tgt : CellsAt (nt * 3) y gt (encG newS.tf newS.tp newS.tt)
  stk : CellsAt ret y gs (fun k => .int .u32 (newS.stack k))
  ctr : CellsAt nc y gc (fun _ => .int .i64 0)
  ne : p ≠ gt ∧ p ≠ gs ∧ p ≠ gc ∧ gt ≠ gs ∧ gt ≠ gc ∧ gs ≠ gc
  gr : Below w.heap.size w y
  lo : w.heap.size ≤ p ∧ w.heap.size ≤ gt ∧ w.heap.size ≤ gs ∧ w.heap.size ≤ gc
theorem mk_rn (w y0 : World) (kind : Int) (bits hist tg ret nt nc gc gt gs p : Nat) (hp : p = y0.heap.size) (t : CellsAt (nt * 3) y0 gt (encG newS.tf newS.tp newS.tt)) (s : CellsAt ret y0 gs (fun k => .int .u32 (newS.stack k))) (c : CellsAt nc y0 gc (fun _ => .int .i64 0)) (ne : gt ≠ gs ∧ gt ≠ gc ∧ gs ≠ gc) (b : Below w.heap.size w y0) (lo : w.heap.size ≤ gt ∧ w.heap.size ≤ gs ∧ w.heap.size ≤ gc) : Rn w (y0.alloc (.cells #[.int .i64 kind, .int .i64 bits, .int .i64 hist, .int .i64 tg, .int .i64 ret, .int .i64 0, .slice (some ⟨gc, 0, none⟩) nc nc, .slice (some ⟨gt, 0, none⟩) nt nt, .slice (some ⟨gs, 0, none⟩) ret ret, .int .i64 0] 77)) kind bits hist tg ret nt nc gc gt gs p := by
  subst hp
  have h1 := t.here
  have h2 := s.here
  have h3 := c.here
  refine ⟨cells_new y0 fun i hi => ?_, t.alloc _, s.alloc _, c.alloc _, by omega, b.alloc b.size _, ⟨b.size, lo⟩⟩
  match i, hi with
  | 0, _ => rfl
  | 1, _ => rfl
  | 2, _ => rfl
  | 3, _ => rfl
  | 4, _ => rfl
  | 5, _ => rfl
  | 6, _ => rfl
  | 7, _ => rfl
  | 8, _ => rfl
  | 9, _ => rfl
theorem Rn.drew {w y : World} {kind : Int} {bits hist tg ret nt nc gc gt gs p : Nat} (h : Rn w y kind bits hist tg ret nt nc gc gt gs p) : Rn w y.drew kind bits hist tg ret nt nc gc gt gs p := ⟨h.cells.drew, h.tgt.drew, h.stk.drew, h.ctr.drew, h.ne, h.gr.drew, h.lo⟩
theorem rn_end {w Y wr : World} {kind : Int} {bits hist tg ret nt nc gc gt gs p mask : Nat} (h : Rn w Y kind bits hist tg ret nt nc gc gt gs p) (sz : 1 ≤ nt ∧ nt ≤ 256 ∧ 1 ≤ ret ∧ ret ≤ 16 ∧ 1 ≤ nc ∧ nc ≤ 1024 ∧ mask ≤ 1023) (hm : mask + 1 = 2 ^ hist) (h10 : hist ≤ 10) (t : Turned (· = gc) Y wr) (c : CellsAt nc wr gc (fun _ => .int .i64 1)) : ∃ G : PG, Ending.returned (.tuple #[.pointer (some ⟨p, 0, none⟩), .int .i64 0]) = .returned (.tuple #[.pointer (some ⟨G.p, 0, none⟩), .int .i64 0]) ∧ Rp wr G kind bits hist tg newS ∧ G.ns = ret ∧ G.nt = nt ∧ G.mask = mask ∧ G.nc = nc ∧ (w.heap.size ≤ G.p ∧ w.heap.size ≤ G.gt ∧ w.heap.size ≤ G.gs ∧ w.heap.size ≤ G.gc) ∧ Below w.heap.size w wr := by
  obtain ⟨a1, a2, a3, a4, a5, a6, a7⟩ := h
  refine ⟨⟨p, gt, nt, gs, ret, gc, nc, mask, .nilIface⟩, rfl, ⟨t.cells a1 a5.2.2.1, t.cells a2 a5.2.2.2.2.1, t.cells a3 a5.2.2.2.2.2, c, a5, ⟨sz.2.2.1, Nat.zero_le _⟩, sz, fun k _ => by show 1 ≤ 3; omega, hm, h10⟩, rfl, rfl, rfl, rfl, a7, a6.trans (t.below a6.size (fun k hk => by rw [hk]; exact a7.2.2.2))⟩
set_option maxRecDepth 20000 in
set_option maxHeartbeats 4000000 in
theorem rnew_good (kind : Int) (bits hist tg ret nt nc mask : Nat) (hnt : nt = 2 ^ tg) (hnc : nc = 2 ^ bits) (hmask : mask + 1 = 2 ^ hist) (w : World) (h : gOk kind bits hist tg ret = true) : Calls Tryd.prog 8 #[.agg #[.int .i64 kind, .int .i64 bits, .int .i64 hist, .int .i64 tg, .int .i64 ret]] w fun e w' => ∃ G : PG, e = .returned (.tuple #[.pointer (some ⟨G.p, 0, none⟩), .int .i64 0]) ∧ Rp w' G kind bits hist tg newS ∧ G.ns = ret ∧ G.nt = nt ∧ G.mask = mask ∧ G.nc = nc ∧ (w.heap.size ≤ G.p ∧ w.heap.size ≤ G.gt ∧ w.heap.size ≤ G.gs ∧ w.heap.size ≤ G.gc) ∧ Below w.heap.size w w' := by
  obtain ⟨u1, u2, u3, u4, u5, u6, u7, u8⟩ : (0 ≤ kind ∧ kind ≤ 3) ∧ 1 ≤ bits ∧ bits ≤ 10 ∧ hist ≤ 10 ∧ hist ≤ bits ∧ tg ≤ 8 ∧ 1 ≤ ret ∧ ret ≤ 16 := by
    unfold gOk at h
    simp at h
    omega
  have q0 : ¬ ((kind : Int) < 0) := by omega
  have q1 : ¬ ((3 : Int) < kind) := by omega
  have q2 : ¬ ((bits : Int) < 1) := by omega
  have q3 : ¬ ((10 : Int) < (bits : Int)) := by omega
  have q4 : ¬ ((hist : Int) < 0) := by omega
  have q5 : ¬ ((bits : Int) < (hist : Int)) := by omega
  have q6 : ¬ ((tg : Int) < 0) := by omega
  have q7 : ¬ ((8 : Int) < (tg : Int)) := by omega
  have q8 : ¬ ((ret : Int) < 1) := by omega
  have q9 : ¬ ((16 : Int) < (ret : Int)) := by omega
  have HS1 := Hid.in (shl_is2 bits u3 nc hnc)
  have HS2 := Hid.in (shl_is2 tg (by omega) nt hnt)
  obtain ⟨b1, b2⟩ : 1 ≤ nt ∧ nt ≤ 256 := hnt ▸ ⟨Nat.one_le_two_pow, Nat.pow_le_pow_right (n := 2) (by omega) u6⟩
  obtain ⟨b3, b4⟩ : 1 ≤ nc ∧ nc ≤ 1024 := hnc ▸ pow_le10 bits u3
  have HM1 := Hid.in <| make_run3 (P := Tryd.prog) 75 86 (.bool false) (.int .u32 0) (.int .u32 0) 12 Tryd.underlying75 (by kernel_rfl) rfl nt (by omega) (by omega)
  have HM2 := Hid.in <| make_run (P := Tryd.prog) 64 38 (.int .u32 0) 4 Tryd.underlying64 (by kernel_rfl) rfl ret (by omega) (by omega)
  have HM3 := Hid.in <| make_run (P := Tryd.prog) 74 3 (.int .i64 0) 8 Tryd.underlying74 (by kernel_rfl) rfl nc (by omega) (by omega)
  have HFIN : Hid (1 ≤ nt ∧ nt ≤ 256 ∧ 1 ≤ ret ∧ ret ≤ 16 ∧ 1 ≤ nc ∧ nc ≤ 1024 ∧ mask ≤ 1023) := by have := (pow_le10 hist u4).2; show _ ∧ _; omega
  have HMK := Hid.in hmask
  have HU4 := Hid.in u4
  clear h hnt hnc hmask u1 u2 u3 u4 u5 u6
  go_enter Tryd.func8, Tryd.ntmps8
  go_wp2
  obtain ⟨k1, k3, k4⟩ : (∀ i, (w.alloc (.cells #[.int .i64 kind, .int .i64 bits, .int .i64 hist, .int .i64 tg, .int .i64 ret] 24)).cell? ⟨w.heap.size, i, none⟩ = #[.int .i64 kind, .int .i64 bits, .int .i64 hist, .int .i64 tg, .int .i64 ret][i]?) ∧ w.heap.size < (w.alloc (.cells #[.int .i64 kind, .int .i64 bits, .int .i64 hist, .int .i64 tg, .int .i64 ret] 24)).heap.size ∧ Below w.heap.size w (w.alloc (.cells #[.int .i64 kind, .int .i64 bits, .int .i64 hist, .int .i64 tg, .int .i64 ret] 24)) := ⟨fun i => World.cell?_alloc_new _ _ _ i, by simp, (Below.refl _ _).alloc (Nat.le_refl _) _⟩
  generalize hw1 : w.alloc (.cells #[.int .i64 kind, .int .i64 bits, .int .i64 hist, .int .i64 tg, .int .i64 ret] 24) = w1 at k1 k3 k4 ⊢
  have HK4 := Hid.in k4
  clear hw1 k4
  have ka1 : ∀ i o1, (w1.alloc o1).cell? ⟨w.heap.size, i, none⟩ = #[.int .i64 kind, .int .i64 bits, .int .i64 hist, .int .i64 tg, .int .i64 ret][i]? := fun i o1 => (((Below.refl w1.heap.size w1).alloc (Nat.le_refl _) o1).cell (p := ⟨w.heap.size, i, none⟩) k3).trans (k1 i)
  have ka2 : ∀ i o1 o2, ((w1.alloc o1).alloc o2).cell? ⟨w.heap.size, i, none⟩ = #[.int .i64 kind, .int .i64 bits, .int .i64 hist, .int .i64 tg, .int .i64 ret][i]? := fun i o1 o2 => ((((Below.refl w1.heap.size w1).alloc (Nat.le_refl _) o1).alloc (by simp) o2).cell (p := ⟨w.heap.size, i, none⟩) k3).trans (k1 i)
  have ka3 : ∀ i o1 o2 o3, (((w1.alloc o1).alloc o2).alloc o3).cell? ⟨w.heap.size, i, none⟩ = #[.int .i64 kind, .int .i64 bits, .int .i64 hist, .int .i64 tg, .int .i64 ret][i]? := fun i o1 o2 o3 => (((((Below.refl w1.heap.size w1).alloc (Nat.le_refl _) o1).alloc (by simp) o2).alloc (by simp; omega) o3).cell (p := ⟨w.heap.size, i, none⟩) k3).trans (k1 i)
  have ka4 : ∀ i o1 o2 o3 o4, ((((w1.alloc o1).alloc o2).alloc o3).alloc o4).cell? ⟨w.heap.size, i, none⟩ = #[.int .i64 kind, .int .i64 bits, .int .i64 hist, .int .i64 tg, .int .i64 ret][i]? := fun i o1 o2 o3 o4 => ((((((Below.refl w1.heap.size w1).alloc (Nat.le_refl _) o1).alloc (by simp) o2).alloc (by simp; omega) o3).alloc (by simp; omega) o4).cell (p := ⟨w.heap.size, i, none⟩) k3).trans (k1 i)
  have hs1 := HS1.out
  have hs2 := HS2.out
  have hm1 := HM1.out
  have hm2 := HM2.out
  have hm3 := HM3.out
  clear q0 q1 q2 q3 q4 q5 q6 q7 q8 q9
  go_region_held3 (fun w' => w'.cell? ⟨w.heap.size, 0, none⟩ = some (.int .i64 kind) ∧ w'.cell? ⟨w.heap.size, 1, none⟩ = some (.int .i64 bits) ∧ w'.cell? ⟨w.heap.size, 2, none⟩ = some (.int .i64 hist) ∧ w'.cell? ⟨w.heap.size, 3, none⟩ = some (.int .i64 tg) ∧ w'.cell? ⟨w.heap.size, 4, none⟩ = some (.int .i64 ret)) (go_keep) (fail)
  · have hrn := (mk_rn w (((w1.alloc (.cells (madeCells #[.int .i64 0] nc) 3)).alloc (.cells (madeCells #[.bool false, .int .u32 0, .int .u32 0] (nt * 3)) 86)).alloc (.cells (madeCells #[.int .u32 0] ret) 38)) kind bits hist tg ret nt nc (w1.heap.size) (w1.heap.size + 1) (w1.heap.size + 1 + 1) (w1.heap.size + 1 + 1 + 1) (by simp) ((rt1 w1 _ nt).alloc _) (rs2 w1 _ _ ret) (((rc0 w1 nc).alloc _).alloc _) (by omega) (((HK4.out.alloc (by omega) _).alloc (by simp; omega) _).alloc (by simp; omega) _) (by omega)).drew
    generalize hY : ((((w1.alloc (.cells (madeCells #[.int .i64 0] nc) 3)).alloc (.cells (madeCells #[.bool false, .int .u32 0, .int .u32 0] (nt * 3)) 86)).alloc (.cells (madeCells #[.int .u32 0] ret) 38)).alloc (.cells #[.int .i64 kind, .int .i64 bits, .int .i64 hist, .int .i64 tg, .int .i64 ret, .int .i64 0, .slice (some ⟨w1.heap.size, 0, none⟩) nc nc, .slice (some ⟨w1.heap.size + 1, 0, none⟩) nt nt, .slice (some ⟨w1.heap.size + 1 + 1, 0, none⟩) ret ret, .int .i64 0] 77)).drew = Y at hrn ⊢
    generalize hpp : (w1.heap.size + 1 + 1 + 1 : Nat) = p at hrn ⊢
    generalize hgs : (w1.heap.size + 1 + 1 : Nat) = gs at hrn ⊢
    generalize hgt : (w1.heap.size + 1 : Nat) = gt at hrn ⊢
    generalize hgc : (w1.heap.size : Nat) = gc at hrn ⊢
    clear hY hgc hgt hgs hpp ka1 ka2 ka3 ka4 k1 k3 hm1 hm2 hm3 hs1 hs2
    have RN := Hid.in hrn
    have np1 : ¬ p = gc := hrn.ne.2.2.1
    clear hrn
    go_wp2
    go_loopw [5] (fun v wr => ∃ k : Nat, v = .int .i64 k ∧ k ≤ nc ∧ CellsAt nc wr gc (fun o => .int .i64 (if o < k then 1 else 0)) ∧ Turned (· = gc) Y wr) (fun v _ => nc + 1 - (intOf v).toNat)
    case atStart => exact ⟨0, rfl, by omega, RN.out.ctr.ext (fun o ho => by simp), Turned.refl _ _⟩
    case round =>
      obtain ⟨k, rfl, hk, hcl, ht⟩ := hrel
      have hC := ht.cells RN.out.cells np1
      have c6 : wr.cell? ⟨p, 6, none⟩ = some (.slice (some ⟨gc, 0, none⟩) nc nc) := hC.cell 6 (by decide)
      have c9 := hC.here
      have g9 := hcl.here
      have gf := hcl.free
      have HC := Hid.in hcl
      have HT := Hid.in ht
      by_cases hk2 : k < nc
      · have ck : wr.cell? ⟨gc, k, none⟩ = some (.int .i64 0) := by
          rw [hcl.cell k hk2, if_neg (by omega)]
        clear hcl ht hC
        go_wp2
        go_roundw
        case rel =>
          refine ⟨k + 1, by go_num, by omega, ?_, HT.out.set rfl _ _⟩
          refine (HC.out.set k hk2 _).ext fun o ho => ?_
          show (if o = k then _ else _) = _
          by_cases q : o = k
          · subst q; simp
          · by_cases q2 : o < k
            · rw [if_neg q]; show Value.int _ (if o < k then _ else _) = _; rw [if_pos q2, if_pos (by omega)]
            · rw [if_neg q]; show Value.int _ (if o < k then _ else _) = _; rw [if_neg q2, if_neg (by omega)]
        case measure => simp [intOf]; omega
      · have hk3 : k = nc := by omega
        have HK3 := Hid.in hk3
        clear hcl ht hC hk3
        go_wp2
        go_ret2
        exact rn_end (mask := mask) RN.out HFIN.out HMK.out HU4.out HT.out (HC.out.ext fun o ho => by rw [if_pos (by have := HK3.out; omega)])
  · have hrn := (mk_rn w (((w1.alloc (.cells (madeCells #[.int .i64 0] nc) 3)).alloc (.cells (madeCells #[.int .u32 0] ret) 38)).alloc (.cells (madeCells #[.bool false, .int .u32 0, .int .u32 0] (nt * 3)) 86)) kind bits hist tg ret nt nc (w1.heap.size) (w1.heap.size + 1 + 1) (w1.heap.size + 1) (w1.heap.size + 1 + 1 + 1) (by simp) (rt2 w1 _ _ nt) ((rs1 w1 _ ret).alloc _) (((rc0 w1 nc).alloc _).alloc _) (by omega) (((HK4.out.alloc (by omega) _).alloc (by simp; omega) _).alloc (by simp; omega) _) (by omega)).drew
    generalize hY : ((((w1.alloc (.cells (madeCells #[.int .i64 0] nc) 3)).alloc (.cells (madeCells #[.int .u32 0] ret) 38)).alloc (.cells (madeCells #[.bool false, .int .u32 0, .int .u32 0] (nt * 3)) 86)).alloc (.cells #[.int .i64 kind, .int .i64 bits, .int .i64 hist, .int .i64 tg, .int .i64 ret, .int .i64 0, .slice (some ⟨w1.heap.size, 0, none⟩) nc nc, .slice (some ⟨w1.heap.size + 1 + 1, 0, none⟩) nt nt, .slice (some ⟨w1.heap.size + 1, 0, none⟩) ret ret, .int .i64 0] 77)).drew = Y at hrn ⊢
    generalize hpp : (w1.heap.size + 1 + 1 + 1 : Nat) = p at hrn ⊢
    generalize hgt : (w1.heap.size + 1 + 1 : Nat) = gt at hrn ⊢
    generalize hgs : (w1.heap.size + 1 : Nat) = gs at hrn ⊢
    generalize hgc : (w1.heap.size : Nat) = gc at hrn ⊢
    clear hY hgc hgt hgs hpp ka1 ka2 ka3 ka4 k1 k3 hm1 hm2 hm3 hs1 hs2
    have RN := Hid.in hrn
    have np1 : ¬ p = gc := hrn.ne.2.2.1
    clear hrn
    go_wp2
    go_loopw [5] (fun v wr => ∃ k : Nat, v = .int .i64 k ∧ k ≤ nc ∧ CellsAt nc wr gc (fun o => .int .i64 (if o < k then 1 else 0)) ∧ Turned (· = gc) Y wr) (fun v _ => nc + 1 - (intOf v).toNat)
    case atStart => exact ⟨0, rfl, by omega, RN.out.ctr.ext (fun o ho => by simp), Turned.refl _ _⟩
    case round =>
      obtain ⟨k, rfl, hk, hcl, ht⟩ := hrel
      have hC := ht.cells RN.out.cells np1
      have c6 : wr.cell? ⟨p, 6, none⟩ = some (.slice (some ⟨gc, 0, none⟩) nc nc) := hC.cell 6 (by decide)
      have c9 := hC.here
      have g9 := hcl.here
      have gf := hcl.free
      have HC := Hid.in hcl
      have HT := Hid.in ht
      by_cases hk2 : k < nc
      · have ck : wr.cell? ⟨gc, k, none⟩ = some (.int .i64 0) := by
          rw [hcl.cell k hk2, if_neg (by omega)]
        clear hcl ht hC
        go_wp2
        go_roundw
        case rel =>
          refine ⟨k + 1, by go_num, by omega, ?_, HT.out.set rfl _ _⟩
          refine (HC.out.set k hk2 _).ext fun o ho => ?_
          show (if o = k then _ else _) = _
          by_cases q : o = k
          · subst q; simp
          · by_cases q2 : o < k
            · rw [if_neg q]; show Value.int _ (if o < k then _ else _) = _; rw [if_pos q2, if_pos (by omega)]
            · rw [if_neg q]; show Value.int _ (if o < k then _ else _) = _; rw [if_neg q2, if_neg (by omega)]
        case measure => simp [intOf]; omega
      · have hk3 : k = nc := by omega
        have HK3 := Hid.in hk3
        clear hcl ht hC hk3
        go_wp2
        go_ret2
        exact rn_end (mask := mask) RN.out HFIN.out HMK.out HU4.out HT.out (HC.out.ext fun o ho => by rw [if_pos (by have := HK3.out; omega)])
  · have hrn := (mk_rn w (((w1.alloc (.cells (madeCells #[.bool false, .int .u32 0, .int .u32 0] (nt * 3)) 86)).alloc (.cells (madeCells #[.int .i64 0] nc) 3)).alloc (.cells (madeCells #[.int .u32 0] ret) 38)) kind bits hist tg ret nt nc (w1.heap.size + 1) (w1.heap.size) (w1.heap.size + 1 + 1) (w1.heap.size + 1 + 1 + 1) (by simp) (((rt0 w1 nt).alloc _).alloc _) (rs2 w1 _ _ ret) ((rc1 w1 _ nc).alloc _) (by omega) (((HK4.out.alloc (by omega) _).alloc (by simp; omega) _).alloc (by simp; omega) _) (by omega)).drew
    generalize hY : ((((w1.alloc (.cells (madeCells #[.bool false, .int .u32 0, .int .u32 0] (nt * 3)) 86)).alloc (.cells (madeCells #[.int .i64 0] nc) 3)).alloc (.cells (madeCells #[.int .u32 0] ret) 38)).alloc (.cells #[.int .i64 kind, .int .i64 bits, .int .i64 hist, .int .i64 tg, .int .i64 ret, .int .i64 0, .slice (some ⟨w1.heap.size + 1, 0, none⟩) nc nc, .slice (some ⟨w1.heap.size, 0, none⟩) nt nt, .slice (some ⟨w1.heap.size + 1 + 1, 0, none⟩) ret ret, .int .i64 0] 77)).drew = Y at hrn ⊢
    generalize hpp : (w1.heap.size + 1 + 1 + 1 : Nat) = p at hrn ⊢
    generalize hgs : (w1.heap.size + 1 + 1 : Nat) = gs at hrn ⊢
    generalize hgc : (w1.heap.size + 1 : Nat) = gc at hrn ⊢
    generalize hgt : (w1.heap.size : Nat) = gt at hrn ⊢
    clear hY hgc hgt hgs hpp ka1 ka2 ka3 ka4 k1 k3 hm1 hm2 hm3 hs1 hs2
    have RN := Hid.in hrn
    have np1 : ¬ p = gc := hrn.ne.2.2.1
    clear hrn
    go_wp2
    go_loopw [5] (fun v wr => ∃ k : Nat, v = .int .i64 k ∧ k ≤ nc ∧ CellsAt nc wr gc (fun o => .int .i64 (if o < k then 1 else 0)) ∧ Turned (· = gc) Y wr) (fun v _ => nc + 1 - (intOf v).toNat)
    case atStart => exact ⟨0, rfl, by omega, RN.out.ctr.ext (fun o ho => by simp), Turned.refl _ _⟩
    case round =>
      obtain ⟨k, rfl, hk, hcl, ht⟩ := hrel
      have hC := ht.cells RN.out.cells np1
      have c6 : wr.cell? ⟨p, 6, none⟩ = some (.slice (some ⟨gc, 0, none⟩) nc nc) := hC.cell 6 (by decide)
      have c9 := hC.here
      have g9 := hcl.here
      have gf := hcl.free
      have HC := Hid.in hcl
      have HT := Hid.in ht
      by_cases hk2 : k < nc
      · have ck : wr.cell? ⟨gc, k, none⟩ = some (.int .i64 0) := by
          rw [hcl.cell k hk2, if_neg (by omega)]
        clear hcl ht hC
        go_wp2
        go_roundw
        case rel =>
          refine ⟨k + 1, by go_num, by omega, ?_, HT.out.set rfl _ _⟩
          refine (HC.out.set k hk2 _).ext fun o ho => ?_
          show (if o = k then _ else _) = _
          by_cases q : o = k
          · subst q; simp
          · by_cases q2 : o < k
            · rw [if_neg q]; show Value.int _ (if o < k then _ else _) = _; rw [if_pos q2, if_pos (by omega)]
            · rw [if_neg q]; show Value.int _ (if o < k then _ else _) = _; rw [if_neg q2, if_neg (by omega)]
        case measure => simp [intOf]; omega
      · have hk3 : k = nc := by omega
        have HK3 := Hid.in hk3
        clear hcl ht hC hk3
        go_wp2
        go_ret2
        exact rn_end (mask := mask) RN.out HFIN.out HMK.out HU4.out HT.out (HC.out.ext fun o ho => by rw [if_pos (by have := HK3.out; omega)])
  · have hrn := (mk_rn w (((w1.alloc (.cells (madeCells #[.bool false, .int .u32 0, .int .u32 0] (nt * 3)) 86)).alloc (.cells (madeCells #[.int .u32 0] ret) 38)).alloc (.cells (madeCells #[.int .i64 0] nc) 3)) kind bits hist tg ret nt nc (w1.heap.size + 1 + 1) (w1.heap.size) (w1.heap.size + 1) (w1.heap.size + 1 + 1 + 1) (by simp) (((rt0 w1 nt).alloc _).alloc _) ((rs1 w1 _ ret).alloc _) (rc2 w1 _ _ nc) (by omega) (((HK4.out.alloc (by omega) _).alloc (by simp; omega) _).alloc (by simp; omega) _) (by omega)).drew
    generalize hY : ((((w1.alloc (.cells (madeCells #[.bool false, .int .u32 0, .int .u32 0] (nt * 3)) 86)).alloc (.cells (madeCells #[.int .u32 0] ret) 38)).alloc (.cells (madeCells #[.int .i64 0] nc) 3)).alloc (.cells #[.int .i64 kind, .int .i64 bits, .int .i64 hist, .int .i64 tg, .int .i64 ret, .int .i64 0, .slice (some ⟨w1.heap.size + 1 + 1, 0, none⟩) nc nc, .slice (some ⟨w1.heap.size, 0, none⟩) nt nt, .slice (some ⟨w1.heap.size + 1, 0, none⟩) ret ret, .int .i64 0] 77)).drew = Y at hrn ⊢
    generalize hpp : (w1.heap.size + 1 + 1 + 1 : Nat) = p at hrn ⊢
    generalize hgc : (w1.heap.size + 1 + 1 : Nat) = gc at hrn ⊢
    generalize hgs : (w1.heap.size + 1 : Nat) = gs at hrn ⊢
    generalize hgt : (w1.heap.size : Nat) = gt at hrn ⊢
    clear hY hgc hgt hgs hpp ka1 ka2 ka3 ka4 k1 k3 hm1 hm2 hm3 hs1 hs2
    have RN := Hid.in hrn
    have np1 : ¬ p = gc := hrn.ne.2.2.1
    clear hrn
    go_wp2
    go_loopw [5] (fun v wr => ∃ k : Nat, v = .int .i64 k ∧ k ≤ nc ∧ CellsAt nc wr gc (fun o => .int .i64 (if o < k then 1 else 0)) ∧ Turned (· = gc) Y wr) (fun v _ => nc + 1 - (intOf v).toNat)
    case atStart => exact ⟨0, rfl, by omega, RN.out.ctr.ext (fun o ho => by simp), Turned.refl _ _⟩
    case round =>
      obtain ⟨k, rfl, hk, hcl, ht⟩ := hrel
      have hC := ht.cells RN.out.cells np1
      have c6 : wr.cell? ⟨p, 6, none⟩ = some (.slice (some ⟨gc, 0, none⟩) nc nc) := hC.cell 6 (by decide)
      have c9 := hC.here
      have g9 := hcl.here
      have gf := hcl.free
      have HC := Hid.in hcl
      have HT := Hid.in ht
      by_cases hk2 : k < nc
      · have ck : wr.cell? ⟨gc, k, none⟩ = some (.int .i64 0) := by
          rw [hcl.cell k hk2, if_neg (by omega)]
        clear hcl ht hC
        go_wp2
        go_roundw
        case rel =>
          refine ⟨k + 1, by go_num, by omega, ?_, HT.out.set rfl _ _⟩
          refine (HC.out.set k hk2 _).ext fun o ho => ?_
          show (if o = k then _ else _) = _
          by_cases q : o = k
          · subst q; simp
          · by_cases q2 : o < k
            · rw [if_neg q]; show Value.int _ (if o < k then _ else _) = _; rw [if_pos q2, if_pos (by omega)]
            · rw [if_neg q]; show Value.int _ (if o < k then _ else _) = _; rw [if_neg q2, if_neg (by omega)]
        case measure => simp [intOf]; omega
      · have hk3 : k = nc := by omega
        have HK3 := Hid.in hk3
        clear hcl ht hC hk3
        go_wp2
        go_ret2
        exact rn_end (mask := mask) RN.out HFIN.out HMK.out HU4.out HT.out (HC.out.ext fun o ho => by rw [if_pos (by have := HK3.out; omega)])
  · have hrn := (mk_rn w (((w1.alloc (.cells (madeCells #[.int .u32 0] ret) 38)).alloc (.cells (madeCells #[.int .i64 0] nc) 3)).alloc (.cells (madeCells #[.bool false, .int .u32 0, .int .u32 0] (nt * 3)) 86)) kind bits hist tg ret nt nc (w1.heap.size + 1) (w1.heap.size + 1 + 1) (w1.heap.size) (w1.heap.size + 1 + 1 + 1) (by simp) (rt2 w1 _ _ nt) (((rs0 w1 ret).alloc _).alloc _) ((rc1 w1 _ nc).alloc _) (by omega) (((HK4.out.alloc (by omega) _).alloc (by simp; omega) _).alloc (by simp; omega) _) (by omega)).drew
    generalize hY : ((((w1.alloc (.cells (madeCells #[.int .u32 0] ret) 38)).alloc (.cells (madeCells #[.int .i64 0] nc) 3)).alloc (.cells (madeCells #[.bool false, .int .u32 0, .int .u32 0] (nt * 3)) 86)).alloc (.cells #[.int .i64 kind, .int .i64 bits, .int .i64 hist, .int .i64 tg, .int .i64 ret, .int .i64 0, .slice (some ⟨w1.heap.size + 1, 0, none⟩) nc nc, .slice (some ⟨w1.heap.size + 1 + 1, 0, none⟩) nt nt, .slice (some ⟨w1.heap.size, 0, none⟩) ret ret, .int .i64 0] 77)).drew = Y at hrn ⊢
    generalize hpp : (w1.heap.size + 1 + 1 + 1 : Nat) = p at hrn ⊢
    generalize hgt : (w1.heap.size + 1 + 1 : Nat) = gt at hrn ⊢
    generalize hgc : (w1.heap.size + 1 : Nat) = gc at hrn ⊢
    generalize hgs : (w1.heap.size : Nat) = gs at hrn ⊢
    clear hY hgc hgt hgs hpp ka1 ka2 ka3 ka4 k1 k3 hm1 hm2 hm3 hs1 hs2
    have RN := Hid.in hrn
    have np1 : ¬ p = gc := hrn.ne.2.2.1
    clear hrn
    go_wp2
    go_loopw [5] (fun v wr => ∃ k : Nat, v = .int .i64 k ∧ k ≤ nc ∧ CellsAt nc wr gc (fun o => .int .i64 (if o < k then 1 else 0)) ∧ Turned (· = gc) Y wr) (fun v _ => nc + 1 - (intOf v).toNat)
    case atStart => exact ⟨0, rfl, by omega, RN.out.ctr.ext (fun o ho => by simp), Turned.refl _ _⟩
    case round =>
      obtain ⟨k, rfl, hk, hcl, ht⟩ := hrel
      have hC := ht.cells RN.out.cells np1
      have c6 : wr.cell? ⟨p, 6, none⟩ = some (.slice (some ⟨gc, 0, none⟩) nc nc) := hC.cell 6 (by decide)
      have c9 := hC.here
      have g9 := hcl.here
      have gf := hcl.free
      have HC := Hid.in hcl
      have HT := Hid.in ht
      by_cases hk2 : k < nc
      · have ck : wr.cell? ⟨gc, k, none⟩ = some (.int .i64 0) := by
          rw [hcl.cell k hk2, if_neg (by omega)]
        clear hcl ht hC
        go_wp2
        go_roundw
        case rel =>
          refine ⟨k + 1, by go_num, by omega, ?_, HT.out.set rfl _ _⟩
          refine (HC.out.set k hk2 _).ext fun o ho => ?_
          show (if o = k then _ else _) = _
          by_cases q : o = k
          · subst q; simp
          · by_cases q2 : o < k
            · rw [if_neg q]; show Value.int _ (if o < k then _ else _) = _; rw [if_pos q2, if_pos (by omega)]
            · rw [if_neg q]; show Value.int _ (if o < k then _ else _) = _; rw [if_neg q2, if_neg (by omega)]
        case measure => simp [intOf]; omega
      · have hk3 : k = nc := by omega
        have HK3 := Hid.in hk3
        clear hcl ht hC hk3
        go_wp2
        go_ret2
        exact rn_end (mask := mask) RN.out HFIN.out HMK.out HU4.out HT.out (HC.out.ext fun o ho => by rw [if_pos (by have := HK3.out; omega)])
  · have hrn := (mk_rn w (((w1.alloc (.cells (madeCells #[.int .u32 0] ret) 38)).alloc (.cells (madeCells #[.bool false, .int .u32 0, .int .u32 0] (nt * 3)) 86)).alloc (.cells (madeCells #[.int .i64 0] nc) 3)) kind bits hist tg ret nt nc (w1.heap.size + 1 + 1) (w1.heap.size + 1) (w1.heap.size) (w1.heap.size + 1 + 1 + 1) (by simp) ((rt1 w1 _ nt).alloc _) (((rs0 w1 ret).alloc _).alloc _) (rc2 w1 _ _ nc) (by omega) (((HK4.out.alloc (by omega) _).alloc (by simp; omega) _).alloc (by simp; omega) _) (by omega)).drew
    generalize hY : ((((w1.alloc (.cells (madeCells #[.int .u32 0] ret) 38)).alloc (.cells (madeCells #[.bool false, .int .u32 0, .int .u32 0] (nt * 3)) 86)).alloc (.cells (madeCells #[.int .i64 0] nc) 3)).alloc (.cells #[.int .i64 kind, .int .i64 bits, .int .i64 hist, .int .i64 tg, .int .i64 ret, .int .i64 0, .slice (some ⟨w1.heap.size + 1 + 1, 0, none⟩) nc nc, .slice (some ⟨w1.heap.size + 1, 0, none⟩) nt nt, .slice (some ⟨w1.heap.size, 0, none⟩) ret ret, .int .i64 0] 77)).drew = Y at hrn ⊢
    generalize hpp : (w1.heap.size + 1 + 1 + 1 : Nat) = p at hrn ⊢
    generalize hgc : (w1.heap.size + 1 + 1 : Nat) = gc at hrn ⊢
    generalize hgt : (w1.heap.size + 1 : Nat) = gt at hrn ⊢
    generalize hgs : (w1.heap.size : Nat) = gs at hrn ⊢
    clear hY hgc hgt hgs hpp ka1 ka2 ka3 ka4 k1 k3 hm1 hm2 hm3 hs1 hs2
    have RN := Hid.in hrn
    have np1 : ¬ p = gc := hrn.ne.2.2.1
    clear hrn
    go_wp2
    go_loopw [5] (fun v wr => ∃ k : Nat, v = .int .i64 k ∧ k ≤ nc ∧ CellsAt nc wr gc (fun o => .int .i64 (if o < k then 1 else 0)) ∧ Turned (· = gc) Y wr) (fun v _ => nc + 1 - (intOf v).toNat)
    case atStart => exact ⟨0, rfl, by omega, RN.out.ctr.ext (fun o ho => by simp), Turned.refl _ _⟩
    case round =>
      obtain ⟨k, rfl, hk, hcl, ht⟩ := hrel
      have hC := ht.cells RN.out.cells np1
      have c6 : wr.cell? ⟨p, 6, none⟩ = some (.slice (some ⟨gc, 0, none⟩) nc nc) := hC.cell 6 (by decide)
      have c9 := hC.here
      have g9 := hcl.here
      have gf := hcl.free
      have HC := Hid.in hcl
      have HT := Hid.in ht
      by_cases hk2 : k < nc
      · have ck : wr.cell? ⟨gc, k, none⟩ = some (.int .i64 0) := by
          rw [hcl.cell k hk2, if_neg (by omega)]
        clear hcl ht hC
        go_wp2
        go_roundw
        case rel =>
          refine ⟨k + 1, by go_num, by omega, ?_, HT.out.set rfl _ _⟩
          refine (HC.out.set k hk2 _).ext fun o ho => ?_
          show (if o = k then _ else _) = _
          by_cases q : o = k
          · subst q; simp
          · by_cases q2 : o < k
            · rw [if_neg q]; show Value.int _ (if o < k then _ else _) = _; rw [if_pos q2, if_pos (by omega)]
            · rw [if_neg q]; show Value.int _ (if o < k then _ else _) = _; rw [if_neg q2, if_neg (by omega)]
        case measure => simp [intOf]; omega
      · have hk3 : k = nc := by omega
        have HK3 := Hid.in hk3
        clear hcl ht hC hk3
        go_wp2
        go_ret2
        exact rn_end (mask := mask) RN.out HFIN.out HMK.out HU4.out HT.out (HC.out.ext fun o ho => by rw [if_pos (by have := HK3.out; omega)])
end Go.Proofs.YtaioaakaffafoaaDoor
