/-
  PREDICT: how the answer's predictor goes on, whatever comes; its marks.
-/
import Derived.Test.YtaioaakaffafoaaDoorFb
namespace Go.Proofs.YtaioaakaffafoaaDoor
open Go Go.RowKit
set_option maxHeartbeats 400000 in
theorem rgo_none (G : PG) (kd : Int) (bits hb tb : Nat) (S : PS) (what rd rs1 imm pc : Int) (taken : Bool) (w : World) (h : Rp w G kd bits hb tb S) (hw : what = 0 ∨ what = 2 ∨ what = 3) (hrt : what = 3 → (rs1 == 1) = true → (rd == 0) = false) (hcl : what ≠ 0 → (rd == 1) = false) : Calls Tryd.prog 27 #[.pointer (some ⟨G.p, 0, none⟩), .int .u32 pc, .agg #[.int .i64 what, .int .i64 rd, .int .i64 rs1, .int .i64 imm], .bool taken] w fun e w' => e = .returned (.tuple #[]) ∧ Rp w' G kd bits hb tb S ∧ Turned (fun k => k = G.p ∨ k = G.gs) w w' := by
  have HR := Hid.in h
  clear h
  have hu : undef = Value.tuple #[] := rfl
  rcases hw with rfl | rfl | rfl
  · clear hrt hcl
    go_enter Tryd.func27, Tryd.ntmps27
    go_wp2
    exact bodyPost_end (results_none Tryd.results27 _ _ _) rfl ⟨rfl, HR.out.below ((Below.refl _ _).alloc (Nat.le_refl _) _), (Turned.refl _ w).alloc _⟩
  · have h1 := hcl (by decide)
    clear hrt hcl
    go_enter Tryd.func27, Tryd.ntmps27
    go_wp2
    exact bodyPost_end (results_none Tryd.results27 _ _ _) rfl ⟨rfl, HR.out.below ((Below.refl _ _).alloc (Nat.le_refl _) _), (Turned.refl _ w).alloc _⟩
  · have h1 := hcl (by decide)
    have h2 := hrt rfl
    clear hrt hcl
    cases h3 : (rs1 == 1)
    · clear h2
      go_enter Tryd.func27, Tryd.ntmps27
      go_wp2
      exact bodyPost_end (results_none Tryd.results27 _ _ _) rfl ⟨rfl, HR.out.below ((Below.refl _ _).alloc (Nat.le_refl _) _), (Turned.refl _ w).alloc _⟩
    · have h4 := h2 h3
      clear h2
      go_enter Tryd.func27, Tryd.ntmps27
      go_wp2
      exact bodyPost_end (results_none Tryd.results27 _ _ _) rfl ⟨rfl, HR.out.below ((Below.refl _ _).alloc (Nat.le_refl _) _), (Turned.refl _ w).alloc _⟩
def opW (what : Int) : Int := if what = 1 then 8 else if what = 2 then 3 else if what = 3 then 4 else 28
theorem brW8 : brB 8 = true := by decide +kernel
theorem brW3 : brB 3 = false := by decide +kernel
theorem brW4 : brB 4 = false := by decide +kernel
theorem brW28 : brB 28 = false := by decide +kernel
theorem clW (rd : Int) : callB 3 rd = (rd == 1) ∧ callB 4 rd = (rd == 1) ∧ callB 28 rd = false := by
  have h3 : (classOf (opN 3) == 3) = true := by decide +kernel
  have h4 : (classOf (opN 4) == 3) = true := by decide +kernel
  have h8 : (classOf (opN 28) == 3) = false := by decide +kernel
  unfold callB
  rw [h3, h4, h8]
  simp
def What (what : Int) : Prop := what = 0 ∨ what = 1 ∨ what = 2 ∨ what = 3
theorem rgoes_any (G : PG) (kd : Int) (bits hb tb : Nat) (S : PS) (what rd rs1 imm pc : Int) (taken : Bool) (w : World) (h : Rp w G kd bits hb tb S) (hw : What what) (hpc : 0 ≤ pc ∧ pc < 4294967296) : Calls Tryd.prog 27 #[.pointer (some ⟨G.p, 0, none⟩), .int .u32 pc, .agg #[.int .i64 what, .int .i64 rd, .int .i64 rs1, .int .i64 imm], .bool taken] w fun e w' => e = .returned (.tuple #[]) ∧ Rp w' G kd bits hb tb (goS G S (opW what) rd rs1 pc taken) ∧ Turned (fun k => k = G.p ∨ k = G.gs) w w' := by
  rcases hw with rfl | rfl | rfl | rfl
  · have e : goS G S (opW 0) rd rs1 pc taken = S := by
      show goS G S 28 rd rs1 pc taken = S
      unfold goS; rw [brW28, (clW rd).2.2]; rfl
    rw [e]
    exact rgo_none G kd bits hb tb S 0 rd rs1 imm pc taken w h (Or.inl rfl) (fun q => by omega) (fun q => absurd rfl q)
  · have e : goS G S (opW 1) rd rs1 pc taken = { S with hist := (S.hist * 2 + (if taken then 1 else 0)) % (G.mask + 1) } := by
      show goS G S 8 rd rs1 pc taken = _
      unfold goS; rw [brW8]; rfl
    rw [e, h.pw]
    have hb9 : hb = 0 ∨ hb = 1 ∨ hb = 2 ∨ hb = 3 ∨ hb = 4 ∨ hb = 5 ∨ hb = 6 ∨ hb = 7 ∨ hb = 8 ∨ hb = 9 ∨ hb = 10 := by have := h.hb10; omega
    rcases hb9 with rfl | rfl | rfl | rfl | rfl | rfl | rfl | rfl | rfl | rfl | rfl
    · exact rgo_br0 G kd bits tb S rd rs1 imm pc taken w h
    · exact rgo_br1 G kd bits tb S rd rs1 imm pc taken w h
    · exact rgo_br2 G kd bits tb S rd rs1 imm pc taken w h
    · exact rgo_br3 G kd bits tb S rd rs1 imm pc taken w h
    · exact rgo_br4 G kd bits tb S rd rs1 imm pc taken w h
    · exact rgo_br5 G kd bits tb S rd rs1 imm pc taken w h
    · exact rgo_br6 G kd bits tb S rd rs1 imm pc taken w h
    · exact rgo_br7 G kd bits tb S rd rs1 imm pc taken w h
    · exact rgo_br8 G kd bits tb S rd rs1 imm pc taken w h
    · exact rgo_br9 G kd bits tb S rd rs1 imm pc taken w h
    · exact rgo_br10 G kd bits tb S rd rs1 imm pc taken w h
  · cases hr : (rd == 1)
    · have e : goS G S (opW 2) rd rs1 pc taken = S := by
        show goS G S 3 rd rs1 pc taken = S
        unfold goS; rw [brW3, (clW rd).1, hr]; rfl
      rw [e]
      exact rgo_none G kd bits hb tb S 2 rd rs1 imm pc taken w h (Or.inr (Or.inl rfl)) (fun q => by omega) (fun _ => hr)
    · have e : goS G S (opW 2) rd rs1 pc taken = { S with top := (S.top + 1) % G.ns, stack := upd S.stack ((S.top + 1) % G.ns) ((pc + 4) % 4294967296) } := by
        show goS G S 3 rd rs1 pc taken = _
        unfold goS; rw [brW3, (clW rd).1, hr]; rfl
      rw [e]
      exact rgo_call G kd bits hb tb S 2 rd rs1 imm pc taken w h hpc (Or.inl rfl) (fun q => by omega) (by simpa using hr)
  · cases hrt : retB 4 rd rs1
    · cases hr : (rd == 1)
      · have e : goS G S (opW 3) rd rs1 pc taken = S := by
          show goS G S 4 rd rs1 pc taken = S
          unfold goS; rw [brW4, hrt, (clW rd).2.1, hr]; rfl
        rw [e]
        refine rgo_none G kd bits hb tb S 3 rd rs1 imm pc taken w h (Or.inr (Or.inr rfl)) (fun _ q => ?_) (fun _ => hr)
        unfold retB at hrt
        rw [q] at hrt
        simpa using hrt
      · have e : goS G S (opW 3) rd rs1 pc taken = { S with top := (S.top + 1) % G.ns, stack := upd S.stack ((S.top + 1) % G.ns) ((pc + 4) % 4294967296) } := by
          show goS G S 4 rd rs1 pc taken = _
          unfold goS; rw [brW4, hrt, (clW rd).2.1, hr]; rfl
        rw [e]
        exact rgo_call G kd bits hb tb S 3 rd rs1 imm pc taken w h hpc (Or.inr rfl) (fun q => by have := beq_iff_eq.1 hr; omega) (by simpa using hr)
    · have e : goS G S (opW 3) rd rs1 pc taken = { S with top := (S.top + G.ns - 1) % G.ns } := by
        show goS G S 4 rd rs1 pc taken = _
        unfold goS; rw [brW4, hrt]; rfl
      rw [e]
      obtain ⟨rfl, rfl⟩ : rs1 = 1 ∧ rd = 0 := by unfold retB at hrt; simpa using hrt
      exact rgo_ret G kd bits hb tb S imm pc taken w h
set_option maxRecDepth 20000 in
set_option maxHeartbeats 1000000 in
theorem rwhole_any (G : PG) (kd : Int) (bits hb tb : Nat) (S : PS) (mh mt mv : Int) (w : World) (h : Rp w G kd bits hb tb S) : Calls Tryd.prog 29 #[.pointer (some ⟨G.p, 0, none⟩), .agg #[.int .i64 mh, .int .i64 mt, .int .u32 mv]] w fun e w' => e = .returned (.bool (ownB G mh mt)) ∧ Below w.heap.size w w' := by
  have c2 : w.cell? ⟨G.p, 2, none⟩ = some (.int .i64 hb) := h.cells.cell 2 (by decide)
  have c4 : w.cell? ⟨G.p, 4, none⟩ = some (.int .i64 G.ns) := h.cells.cell 4 (by decide)
  have h3 := h.cells.here
  obtain ⟨m1, hm1⟩ : ∃ m1, m1 = G.mask + 1 := ⟨_, rfl⟩
  have hs1 := shl_is2 hb h.hb10 m1 (hm1.trans h.pw)
  have HS2 := Hid.in (shl_is hb h.hb10 m1 (hm1.trans h.pw))
  have e9 : ownB G mh mt = (((decide (0 ≤ mh) && decide (mh < (m1 : Int))) && decide (0 ≤ mt)) && decide (mt < (G.ns : Int))) := by
    unfold ownB
    have e1 : decide (mh ≤ (G.mask : Int)) = decide (mh < (m1 : Int)) := by congr 1; apply propext; omega
    have e2 : decide (mt ≤ (G.ns : Int) - 1) = decide (mt < (G.ns : Int)) := by congr 1; apply propext; omega
    rw [e1, e2]
    cases decide (0 ≤ mh) <;> cases decide (mh < (m1 : Int)) <;> rfl
  rw [e9]
  clear h hm1 e9
  have hu : undef = Value.tuple #[] := rfl
  cases q0 : decide (0 ≤ mh)
  · go_enter Tryd.func29, Tryd.ntmps29
    go_wp2
    go_quiet (fail)
    go_wp2
    go_ret
    exact ⟨rfl, below_drewN ((Below.refl _ _).alloc (Nat.le_refl _) _) _⟩
  · cases q1 : decide (mh < (m1 : Int))
    · go_enter Tryd.func29, Tryd.ntmps29
      go_wp2
      go_quiet (fail)
      go_wp2
      go_ret
      exact ⟨rfl, below_drewN ((Below.refl _ _).alloc (Nat.le_refl _) _) _⟩
    · cases q2 : decide (0 ≤ mt)
      · go_enter Tryd.func29, Tryd.ntmps29
        go_wp2
        go_quiet (fail)
        go_wp2
        go_ret
        exact ⟨rfl, below_drewN ((Below.refl _ _).alloc (Nat.le_refl _) _) _⟩
      · cases q3 : decide (mt < (G.ns : Int))
        all_goals
          go_enter Tryd.func29, Tryd.ntmps29
          go_wp2
          go_quiet (fail)
          go_wp2
          go_ret
          exact ⟨rfl, below_drewN ((Below.refl _ _).alloc (Nat.le_refl _) _) _⟩
end Go.Proofs.YtaioaakaffafoaaDoor
