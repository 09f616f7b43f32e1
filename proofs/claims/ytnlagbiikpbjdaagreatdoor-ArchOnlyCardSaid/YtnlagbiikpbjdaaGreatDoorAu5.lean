import Derived.Test.YtnlagbiikpbjdaaGreatDoorHr
import Derived.Test.YtnlagbiikpbjdaaGreatDoorXu4
import Derived.Test.YtnlagbiikpbjdaaGreatDoorAu2
import Derived.Test.YtnlagbiikpbjdaaGreatDoorXu3
import Derived.Deep.MidRow
import Derived.OwnWalk
/-
  AN INSTRUCTION CHANGES ITS REGISTER ALONE: plainly.
-/
namespace Go.Proofs.YtnlagbiikpbjdaaGreatDoor
open Go Go.RowKit
def exc (word : Int) : Prop := word % 128 = 111 ∨ word % 128 = 103 ∨ word % 128 = 99 ∨ word % 128 = 115
/-- what the law asks of what is told, and of what is left -/
def Told1 (S S' : HS) (R : Value) : Prop := ∃ (word val cause tval : Int) (r : Nat), R = .agg #[.int .u32 S.pc, .int .u32 word, .int .i64 r, .int .u32 val, .int .i64 cause, .int .u32 tval, .int .u32 S'.pc] ∧ r < 32 ∧ (r = 0 → val = 0) ∧ (cause ≠ -1 → r = 0) ∧ (∀ i, i < 32 → S'.regs i = if i = r then val else S.regs i) ∧ (cause = -1 → exc word ∨ S'.pc = (S.pc + 4) % 4294967296) ∧ U32 word
theorem told_trap {S : HS} (hz : S.regs 0 = 0) (word c t : Int) (hc : c ≠ -1) (hw : U32 word) : Told1 S (S.trapped c t) (S.trapR word c t) := by
  have hpc : (S.trapped c t).pc = S.trapTo := by
    unfold HS.trapped HS.trapTo
    split <;> rfl
  have hre : (S.trapped c t).regs = S.regs := by
    unfold HS.trapped
    split <;> rfl
  refine ⟨word, 0, c, t, 0, ?_, by decide, fun _ => rfl, fun _ => rfl, fun i _ => ?_, fun e => absurd e hc, hw⟩
  · rw [hpc]
    rfl
  · rw [hre]
    split
    · subst i; exact hz
    · rfl
theorem told_done {S T : HS} (hpc : T.pc = S.pc) (hre : T.regs = S.regs) (word : Int) (r : Nat) (v next : Int) (hr : r < 32) (hx : exc word ∨ next = (S.pc + 4) % 4294967296) (hw : U32 word) : Told1 S (T.done r (rvI r v) next) (T.doneR word r v next) := by
  refine ⟨word, rvI r v, -1, 0, r, ?_, hr, fun e => by subst e; rfl, fun e => absurd rfl e, fun i _ => ?_, fun _ => hx, hw⟩
  · unfold HS.doneR
    rw [hpc]
    rfl
  · show (if i = r then rvI r v else T.regs i) = _
    rw [hre]
theorem told_jump {S : HS} (hz : S.regs 0 = 0) (word : Int) (r : Nat) (t : Int) (hr : r < 32) (hx : exc word) (hw : U32 word) : Told1 S (S.jumped r t) (S.jumpR word r t) := by
  unfold HS.jumped HS.jumpR
  by_cases h : t % 4 = 0
  · rw [if_pos h, if_pos h]
    exact told_done rfl rfl word r _ t hr (Or.inl hx) hw
  · rw [if_neg h, if_neg h]
    exact told_trap hz word 0 t (by decide) hw
theorem csr_same (S : HS) (n v : Int) : (S.setCsr n v).pc = S.pc ∧ (S.setCsr n v).regs = S.regs := by
  unfold HS.setCsr
  repeat' split
  all_goals exact ⟨rfl, rfl⟩
theorem told_sys {S : HS} (hz : S.regs 0 = 0) (word op : Int) (rd rs1 : Nat) (imm a : Int) (hr : rd < 32) (hx : exc word ∨ op = 57 ∨ op = 61) (hw : U32 word) : Told1 S (S.sysS word op rd rs1 imm a) (S.sysR word op rd rs1 imm a) := by
  unfold HS.sysS HS.sysR
  by_cases h1 : op = 58
  · rw [if_pos h1, if_pos h1]
    exact told_trap hz _ _ _ (by decide) hw
  rw [if_neg h1, if_neg h1]
  by_cases h2 : op = 59
  · rw [if_pos h2, if_pos h2]
    exact told_trap hz _ _ _ (by decide) hw
  rw [if_neg h2, if_neg h2]
  by_cases h3 : op = 60
  · rw [if_pos h3, if_pos h3]
    exact told_done rfl rfl word 0 0 _ (by decide) (Or.inl (by rcases hx with q | q | q; exact q; omega; omega)) hw
  rw [if_neg h3, if_neg h3]
  by_cases h4 : op = 57 ∨ op = 61
  · rw [if_pos h4, if_pos h4]
    exact told_done rfl rfl word 0 0 _ (by decide) (Or.inr rfl) hw
  rw [if_neg h4, if_neg h4]
  unfold HS.csrS HS.csrR
  by_cases h5 : csrB imm = false ∨ (sysW op rs1 = true ∧ imm / 1024 = 3)
  · rw [if_pos h5, if_pos h5]
    exact told_trap hz _ _ _ (by decide) hw
  rw [if_neg h5, if_neg h5]
  split
  · exact told_done (csr_same S _ _).1 (csr_same S _ _).2 word rd _ _ hr (Or.inr rfl) hw
  · exact told_done rfl rfl word rd _ _ hr (Or.inr rfl) hw
theorem told_mem {S : HS} (hz : S.regs 0 = 0) (word op : Int) (rd rs1 : Nat) (imm v : Int) (held : Bool) (hr : rd < 32) (hw : U32 word) : Told1 S (S.memS op rd rs1 imm v held) (S.memR word op rd rs1 imm v held) := by
  unfold HS.memS HS.memR
  by_cases h1 : S.faultI op (S.whereI op rs1 imm) = -1
  · rw [if_pos h1, if_pos h1]
    split
    · exact told_done rfl rfl word 0 0 _ (by decide) (Or.inr rfl) hw
    · exact told_done rfl rfl word rd _ _ hr (Or.inr rfl) hw
  · rw [if_neg h1, if_neg h1]
    exact told_trap hz _ _ _ h1 hw
/-- the opcode of what is decoded -/
theorem opc_all : ∀ k, k < 68 → 1 ≤ k → maskN k % 128 = 127 ∧ (clR (k : Int) = 2 → wantN k % 128 = 99) ∧ (clR (k : Int) = 3 → wantN k % 128 = 111 ∨ wantN k % 128 = 103) ∧ (clR (k : Int) = 7 → wantN k % 128 = 115 ∨ k = 57 ∨ k = 61) := by decide +kernel
theorem opc_of (k x : Nat) (hk : k < 68) (h1 : 1 ≤ k) (h : matchB k x = true) : x % 128 = wantN k % 128 := by
  unfold matchB at h
  have h := beq_iff_eq.1 h
  have e := (opc_all k hk h1).1
  rw [← h, show (128 : Nat) = 2 ^ 7 from rfl, Nat.and_mod_two_pow, show (2 : Nat) ^ 7 = 128 from rfl, e, show (127 : Nat) = 2 ^ 7 - 1 from rfl, Nat.and_two_pow_sub_one_eq_mod]
  omega
theorem told_instr {S : HS} (hz : S.regs 0 = 0) (x : Int) (hx : U32 x) (hok : (decD x).ok = true) (hpc : 0 ≤ S.pc ∧ S.pc < 16384) (v : Int) (held : Bool) : Told1 S (S.instrS (decD x) x v held) (S.instrR (decD x) x v held) := by
  unfold U32 at hx
  cases hk : decK x.toNat with
  | none =>
    unfold decD at hok
    rw [hk] at hok
    cases hok
  | some i =>
    obtain ⟨hi, hm⟩ := decK_some _ _ hk
    have hd : decD x = ⟨i + 1, (rdI (fmtAt (i + 1)) x.toNat).toNat, (rs1I (fmtAt (i + 1)) x.toNat).toNat, (rs2I (fmtAt (i + 1)) x.toNat).toNat, immI (fmtAt (i + 1)) x.toNat, true⟩ := by
      unfold decD
      rw [hk]
    have hop : (decD x).op = i + 1 := by rw [hd]
    have hrd : (decD x).rd < 32 := (decD_good x hok).2.2.1
    have hw := opc_of (i + 1) x.toNat (by omega) (by omega) hm
    obtain ⟨-, o2, o3, o7⟩ := opc_all (i + 1) (by omega) (by omega)
    rw [← hw] at o2 o3 o7
    rw [← hop] at o2 o3 o7
    have hxm : (x.toNat % 128 : Nat) = x % 128 := by omega
    generalize decD x = d at *
    unfold HS.instrS HS.instrR
    by_cases h1 : clR d.op = 0 ∨ clR d.op = 1
    · rw [if_pos h1, if_pos h1]
      exact told_done rfl rfl x d.rd _ _ hrd (Or.inr (by omega)) hx
    rw [if_neg h1, if_neg h1]
    by_cases h2 : clR d.op = 2
    · rw [if_pos h2, if_pos h2]
      have := o2 h2
      have he : exc x := by unfold exc; omega
      split
      · exact told_jump hz x 0 _ (by decide) he hx
      · exact told_done rfl rfl x 0 0 _ (by decide) (Or.inl he) hx
    rw [if_neg h2, if_neg h2]
    by_cases h3 : clR d.op = 3
    · rw [if_pos h3, if_pos h3]
      have := o3 h3
      exact told_jump hz x _ _ hrd (by unfold exc; omega) hx
    rw [if_neg h3, if_neg h3]
    by_cases h7 : clR d.op = 7
    · rw [if_pos h7, if_pos h7]
      have := o7 h7
      exact told_sys hz x _ _ _ _ _ hrd (by unfold exc; omega) hx
    rw [if_neg h7, if_neg h7]
    exact told_mem hz x _ _ _ _ _ _ hrd hx
theorem told_do {S : HS} (hF : S.Fit) (n : Nat) (f : Nat → Int) (hn : n ≤ 4096) (hf : ∀ i, i < n → U32 (f i)) (v : Int) (held : Bool) (hh : S.halted = false) : Told1 S (S.doS decD n f v held) (S.doR decD n f v held) := by
  have hp := hF.ok.pc
  unfold U32 at hp
  unfold HS.doS HS.doR
  rw [hh]
  simp only [Bool.false_eq_true, if_false]
  by_cases h1 : S.pc / 4 < n
  · rw [if_pos h1, if_pos h1]
    have hw : S.fetchW n f = f (S.pc / 4).toNat := if_pos h1
    have hD : S.fetchD decD n f = decD (f (S.pc / 4).toNat) := if_pos h1
    have hu := hf (S.pc / 4).toNat (by omega)
    rw [hw, hD]
    split
    · rename_i hok
      exact told_instr hF.zero _ hu hok (by omega) v held
    · exact told_trap hF.zero _ _ _ (by decide) hu
  · rw [if_neg h1, if_neg h1]
    exact told_trap hF.zero _ _ _ (by decide) (by unfold U32; omega)
end Go.Proofs.YtnlagbiikpbjdaaGreatDoor
/-
  THE MACHINE: a step.
-/
namespace Go.Proofs.YtnlagbiikpbjdaaGreatDoor
open Go Go.RowKit
theorem results_ret2 {fn : Func} {p u : Tmp} (h : fn.results = #[.cell p 41, .tmp u]) (tmps : Array Value) (w : World) (g : Nat) (x0 x1 x2 x3 x4 x5 x6 t : Value) (hp : tmps.getD p undef = .pointer (some ⟨g, 0, none⟩)) (ht : tmps.getD u undef = t) (h0 : w.cell? ⟨g, 0, none⟩ = some x0) (h1 : w.cell? ⟨g, 1, none⟩ = some x1) (h2 : w.cell? ⟨g, 2, none⟩ = some x2) (h3 : w.cell? ⟨g, 3, none⟩ = some x3) (h4 : w.cell? ⟨g, 4, none⟩ = some x4) (h5 : w.cell? ⟨g, 5, none⟩ = some x5) (h6 : w.cell? ⟨g, 6, none⟩ = some x6) : (results fn tmps).run Tryz.prog w = .ok (.tuple #[.agg #[x0, x1, x2, x3, x4, x5, x6], t]) w := by
  have hp' : tmps[p]?.getD undef = .pointer (some ⟨g, 0, none⟩) := by simpa using hp
  have ht' : tmps[u]?.getD undef = t := by simpa using ht
  have hl := run_loadVar_mid (P := Tryz.prog) w g 0 41 [x0, x1, x2, x3, x4, x5, x6] _ (fun j v hv => by
    match j, hv with
    | 0, hv => rw [← Option.some.inj hv]; exact h0
    | 1, hv => rw [← Option.some.inj hv]; exact h1
    | 2, hv => rw [← Option.some.inj hv]; exact h2
    | 3, hv => rw [← Option.some.inj hv]; exact h3
    | 4, hv => rw [← Option.some.inj hv]; exact h4
    | 5, hv => rw [← Option.some.inj hv]; exact h5
    | 6, hv => rw [← Option.some.inj hv]; exact h6) Tryz.underlying41 rfl (by kernel_rfl)
  simp [results, h, hp', ht', asAddr, hl]
theorem szN_all : ∀ k : Nat, k < 68 → ∃ s : Nat, s < 5 ∧ szI (k : Int) = (s : Int) := by decide +kernel
theorem asked_of (S : HS) (d : Dec) (len : Nat) (hs : S.size = len) (hd : d.op ≤ 67) : ∃ (op ad : Int) (sz : Nat) (da : Int), S.askQ d = qV op ad sz da ∧ Asked op ad sz len := by
  unfold HS.askQ
  by_cases h : S.asks d = true
  · rw [if_pos h]
    obtain ⟨sz, h5, hsz⟩ := szN_all d.op (by omega)
    refine ⟨d.op, S.whereI d.op d.rs1 d.imm, sz, S.askV d, by rw [hsz]; rfl, ?_⟩
    unfold HS.asks at h
    simp only [Bool.and_eq_true, bne_iff_ne, beq_iff_eq, Bool.not_eq_true'] at h
    obtain ⟨⟨-, h2⟩, h3⟩ := h
    rw [hsz] at h2
    unfold HS.faultI faultN at h3
    rw [hsz] at h3
    generalize S.whereI d.op d.rs1 d.imm = x at h3
    split at h3
    · split at h3 <;> omega
    · split at h3
      · rename_i hg
        rw [Bool.or_eq_true] at hg
        refine Or.inr ⟨⟨by omega, by omega⟩, ?_⟩
        rcases hg with hg | hg
        · unfold HS.inB at hg
          simp only [Bool.and_eq_true, decide_eq_true_eq] at hg
          refine Or.inl ⟨(x - 65536).toNat, by omega, by omega⟩
        · unfold devB at hg
          simp only [Bool.and_eq_true, decide_eq_true_eq, beq_iff_eq] at hg
          exact Or.inr ⟨hg.1.1, hg.1.2⟩
      · split at h3 <;> omega
  · rw [if_neg h]
    exact ⟨0, 0, 0, 0, rfl, Or.inl (by decide)⟩
set_option maxRecDepth 100000 in
set_option maxHeartbeats 1000000 in
theorem mstep_halted {w0 w : World} {B p hq cg n cap len ol : Nat} {dv ov : Value} {S : HS} {f : Nat → Int} (k : Mw w0 w B p hq cg n cap dv ov S len ol f) (hh : S.halted = true) : Calls Tryz.prog 9 #[.pointer (some ⟨p, 0, none⟩)] w fun e w' => e = .returned (.tuple #[zeroR, .bool false]) ∧ Mw w0 w' B p hq cg n cap dv ov S len ol f ∧ Below w.heap.size w w' := by
  obtain ⟨rs, c⟩ := k.c
  have HH : Hid (∀ x, Below w.heap.size w x → Calls Tryz.prog 23 #[.pointer (some ⟨hq, 0, none⟩)] x fun e w' => e = .returned (.bool true) ∧ w' = x) := fun x hx => by
    have := phalted_any hq _ S x (k.h.below hx)
    rw [hh] at this
    exact this
  have c0 : w.cell? ⟨p, 0, none⟩ = some (.pointer (some ⟨hq, 0, none⟩)) := c.cell 0 (by decide)
  have hp := c.here
  have hp1 : p < w.heap.size + 1 := by omega
  have HK := Hid.in k
  clear k c hh
  go_enter Tryz.func9, Tryz.ntmps9
  go_wp2_with (go_at_call 23; refine (HH.out _ ((Below.refl _ _).alloc (Nat.le_refl _) _)).mono ?_; rintro e x ⟨rfl, hx⟩; have hx2 := hx.symm; clear hx; subst hx2)
  exact bodyPost_ret (results_ret2 Tryz.results9 _ _ w.heap.size _ _ _ _ _ _ _ _ rfl rfl (by rw [World.cell?_alloc_new]; rfl) (by rw [World.cell?_alloc_new]; rfl) (by rw [World.cell?_alloc_new]; rfl) (by rw [World.cell?_alloc_new]; rfl) (by rw [World.cell?_alloc_new]; rfl) (by rw [World.cell?_alloc_new]; rfl) (by rw [World.cell?_alloc_new]; rfl)) rfl ⟨rfl, HK.out.below ((Below.refl _ _).alloc (Nat.le_refl _) _), (Below.refl _ _).alloc (Nat.le_refl _) _⟩
end Go.Proofs.YtnlagbiikpbjdaaGreatDoor
/-
  THE MACHINE: a step that is one.
-/
namespace Go.Proofs.YtnlagbiikpbjdaaGreatDoor
open Go Go.RowKit
theorem boxW7 (w : World) (t : TypeId) : ∃ X, w.alloc (.cells #[.int .u32 0, .int .u32 0, .int .i64 0, .int .u32 0, .int .i64 0, .int .u32 0, .int .u32 0] t) = X ∧ Below w.heap.size w X ∧ w.heap.size < X.heap.size ∧ ∃ c, CellsAt 7 X w.heap.size c :=
  ⟨_, rfl, (Below.refl _ _).alloc (Nat.le_refl _) _, by simp, fun i => (#[.int .u32 0, .int .u32 0, .int .i64 0, .int .u32 0, .int .i64 0, .int .u32 0, .int .u32 0] : Array Value).getD i undef, ⟨by simp, fun o ho => by
    rw [World.cell?_alloc_new]
    match o, ho with
    | 0, _ => rfl
    | 1, _ => rfl
    | 2, _ => rfl
    | 3, _ => rfl
    | 4, _ => rfl
    | 5, _ => rfl
    | 6, _ => rfl, fun i => World.frozen?_alloc_at _ t _ i rfl⟩⟩
theorem set7_cells {w : World} {b : Nat} {c : Nat → Value} (h : CellsAt 7 w b c) (x0 x1 x2 x3 x4 x5 x6 : Value) : CellsAt 7 (((((((w.setCell ⟨b, 0, none⟩ x0).setCell ⟨b, 1, none⟩ x1).setCell ⟨b, 2, none⟩ x2).setCell ⟨b, 3, none⟩ x3).setCell ⟨b, 4, none⟩ x4).setCell ⟨b, 5, none⟩ x5).setCell ⟨b, 6, none⟩ x6) b (fun i => match i with | 0 => x0 | 1 => x1 | 2 => x2 | 3 => x3 | 4 => x4 | 5 => x5 | _ => x6) := by
  have k := (((((((h.set 0 (by decide) x0).set 1 (by decide) x1).set 2 (by decide) x2).set 3 (by decide) x3).set 4 (by decide) x4).set 5 (by decide) x5).set 6 (by decide) x6)
  refine ⟨k.here, fun o ho => ?_, k.free⟩
  rw [k.cell o ho]
  match o, ho with
  | 0, _ => rfl
  | 1, _ => rfl
  | 2, _ => rfl
  | 3, _ => rfl
  | 4, _ => rfl
  | 5, _ => rfl
  | 6, _ => rfl
set_option maxRecDepth 100000 in
set_option maxHeartbeats 2000000 in
theorem mstep_go {w0 w : World} {B p hq cg n cap len ol : Nat} {dv ov : Value} {S : HS} {f : Nat → Int} (k : Mw w0 w B p hq cg n cap dv ov S len ol f) (hh : S.halted = false) (hF : S.Fit) (hsz : S.size = len) (h16 : len % 16 = 0) (hn : n ≤ 4096) (hl : len ≤ 4096) (hol : ol ≤ 5000) (hLd : ∀ y, Below B w0 y → Laid y) : Calls Tryz.prog 9 #[.pointer (some ⟨p, 0, none⟩)] w fun e w' => ∃ (v : Int) (held : Bool), U32 v ∧ e = .returned (.tuple #[S.doR decD n f v held, .bool true]) ∧ (∃ ov' ol', ol' ≤ ol + 1 ∧ Fr ov ov' w.heap.size ∧ Mw w0 w' B p hq cg n cap dv ov' (S.doS decD n f v held) len ol' f) ∧ Turned (fun j => Mine p dv ov j ∨ j = hq) w w' := by
  obtain ⟨X, hX, bX, sX, cR, kR⟩ := boxW7 w 41
  have kX := k.below bX
  obtain ⟨rs, c⟩ := kX.c
  have HH : Hid (Calls Tryz.prog 23 #[.pointer (some ⟨hq, 0, none⟩)] X fun e w' => e = .returned (.bool false) ∧ w' = X) := by
    have := phalted_any hq _ S X kX.h
    rw [hh] at this
    exact this
  have c0 : X.cell? ⟨p, 0, none⟩ = some (.pointer (some ⟨hq, 0, none⟩)) := c.cell 0 (by decide)
  have c4 : X.cell? ⟨p, 4, none⟩ = some (.bool false) := c.cell 4 (by decide)
  have hpX := c.here
  have hdop : (S.fetchD decD n f).op ≤ 67 := by
    unfold HS.fetchD
    split
    · rename_i hlt
      cases ho : (decD (f (S.pc / 4).toNat)).ok
      · have : decD (f (S.pc / 4).toNat) = noDec := by
          unfold decD at ho ⊢
          split
          · rename_i i hi
            rw [hi] at ho
            cases ho
          · rfl
        rw [this]
        decide
      · exact (decD_good _ ho).2.1
    · decide
  obtain ⟨op, ad, sz, da, hq1, hq2⟩ := asked_of S (S.fetchD decD n f) len hsz hdop
  have hs16 : S.size % 16 = 0 := by rw [hsz]; omega
  have HA : Hid (Calls Tryz.prog 26 #[.pointer (some ⟨hq, 0, none⟩)] X fun e w' => e = .returned (qV op ad sz da) ∧ Below X.heap.size X w') := by
    have := pask_any pdecOk (fun x hx h1 h2 => dec_load x h1 h2) hq S cg 0 n cap X kX.h hn (hLd X kX.low) f kX.code hF hs16
    rw [hq1] at this
    exact this
  have HS2 : Hid (∀ x, Below X.heap.size X x → Calls Tryz.prog 25 #[.pointer (some ⟨p, 0, none⟩), qV op ad sz da] x fun e w' => (∃ (v : Int) (held : Bool), U32 v ∧ e = .returned (.tuple #[.int .u32 v, .bool held])) ∧ (∃ ov' ol', ol' ≤ ol + 1 ∧ Fr ov ov' x.heap.size ∧ Mw w0 w' B p hq cg n cap dv ov' S len ol' f) ∧ Turned (Mine p dv ov) x w') := fun x hx => mserve_any (kX.below hx) (Nat.le_trans kX.lo.1 (Nat.le_of_lt (kX.below hx).at.1)) hol (hLd x (kX.below hx).low) op ad sz da hl hq2
  have HD : Hid (∀ x ov' ol' (v : Int) (held : Bool), Mw w0 x B p hq cg n cap dv ov' S len ol' f → Calls Tryz.prog 27 #[.pointer (some ⟨hq, 0, none⟩), .int .u32 v, .bool held] x fun e w' => e = .returned (S.doR decD n f v held) ∧ Mw w0 w' B p hq cg n cap dv ov' (S.doS decD n f v held) len ol' f ∧ Only hq x w') := fun x ov' ol' v held kx => (pdo_any pdecOk hq S cg 0 n cap v held x kx.h hn (hLd x kx.low) f kx.code hF hs16).mono fun e w' h => ⟨h.1, kx.hart h.2.2 h.2.1, h.2.2⟩
  have HTO : Hid (∀ v held, Told1 S (S.doS decD n f v held) (S.doR decD n f v held)) := fun v held => told_do hF n f hn k.code.word v held hh
  have HKR := Hid.in kR
  have HBX := Hid.in bX
  have HNE : Hid (¬ (Mine p dv ov w.heap.size ∨ w.heap.size = hq)) := by
    rintro ((h | h | h) | h)
    · have := k.at.1; omega
    · rcases k.d with h0 | ⟨db, dc, e1, -, e3, -⟩
      · rw [h0.2] at h
        cases h
      · rw [e1] at h
        have h' : db = w.heap.size := Option.some.inj h
        have := e3.here
        omega
    · obtain ⟨l, ho⟩ := k.o
      have := (own_base ho _ h).2
      omega
    · have := k.at.2.1; omega
  obtain ⟨zb, hzb⟩ : ∃ zb, w.heap.size = zb := ⟨_, rfl⟩
  have HCG : Hid (cg ≠ w.heap.size) := fun e => by have := k.at.2.2.1; omega
  have HLO : Hid (B ≤ w.heap.size) := Nat.le_trans k.lo.1 (Nat.le_of_lt k.at.1)
  rw [hzb] at HKR HNE sX HCG HLO
  have HZB := Hid.in hzb
  clear k kX c kR hF hsz h16 hn hl hol hLd hh hdop hq1 hq2 hs16
  unfold qV at HA HS2
  go_enter Tryz.func9, Tryz.ntmps9
  go_upto_region 1 with fail
  try rw [hX, hzb]
  clear hX hzb bX
  go_wp2_with (first
    | (go_at_call 23; refine HH.out.mono ?_; rintro e x ⟨rfl, hx⟩; have hx2 := hx.symm; clear hx; subst hx2)
    | (go_at_call 26; refine HA.out.mono ?_; rintro e X1 ⟨rfl, hb⟩; have HB1 := Hid.in hb; clear hb)
    | (go_at_call 25; refine (HS2.out _ HB1.out).mono ?_; rintro e X2 ⟨⟨v, held, hv, rfl⟩, ⟨ov', ol', ho', hfr, hM⟩, hT⟩; have HV := Hid.in hv; have HO := Hid.in ho'; have HFR := Hid.in hfr; clear hfr; have HM := Hid.in hM; have HT := Hid.in hT; clear hv ho' hM hT; obtain ⟨rs2, d⟩ := HM.out.c; have d0 : X2.cell? ⟨p, 0, none⟩ = some (.pointer (some ⟨hq, 0, none⟩)) := d.cell 0 (by decide); have dp := d.here; clear d)
    | (go_at_call 27; refine (HD.out _ _ _ _ _ HM.out).mono ?_; rintro e X3 ⟨rfl, hM3, hO3⟩; have HM3 := Hid.in hM3; have HO3 := Hid.in hO3; clear hM3 hO3; obtain ⟨word, val, cause, tval, r, hR, -⟩ := HTO.out v held; have k3 := (Turned.of_only HO3.out).cells (HT.out.cells (HKR.out.below HB1.out) (fun q => HNE.out (Or.inl q))) (fun q => HNE.out (Or.inr q)); have t0 := k3.cell 0 (by decide); have t1 := k3.cell 1 (by decide); have t2 := k3.cell 2 (by decide); have t3 := k3.cell 3 (by decide); have t4 := k3.cell 4 (by decide); have t5 := k3.cell 5 (by decide); have t6 := k3.cell 6 (by decide); have g0 := k3.free 0; have g1 := k3.free 1; have g2 := k3.free 2; have g3 := k3.free 3; have g4 := k3.free 4; have g5 := k3.free 5; have g6 := k3.free 6; have z3 := k3.here; have HK3 := Hid.in k3; clear k3))
  have c7 := set7_cells HK3.out (.int .u32 S.pc) (.int .u32 word) (.int .i64 r) (.int .u32 val) (.int .i64 cause) (.int .u32 tval) (.int .u32 (S.doS decD n f v held).pc)
  have t7 : Turned (fun j => j = zb) X3 (((((((X3.setCell ⟨zb, 0, none⟩ (.int .u32 S.pc)).setCell ⟨zb, 1, none⟩ (.int .u32 word)).setCell ⟨zb, 2, none⟩ (.int .i64 r)).setCell ⟨zb, 3, none⟩ (.int .u32 val)).setCell ⟨zb, 4, none⟩ (.int .i64 cause)).setCell ⟨zb, 5, none⟩ (.int .u32 tval)).setCell ⟨zb, 6, none⟩ (.int .u32 (S.doS decD n f v held).pc)) := Turned.of_only (((((((Only.refl zb X3).set 0 _).set 1 _).set 2 _).set 3 _).set 4 _).set 5 _ |>.set 6 _)
  refine bodyPost_ret (results_ret2 Tryz.results9 _ _ zb _ _ _ _ _ _ _ _ rfl rfl (c7.cell 0 (by decide)) (c7.cell 1 (by decide)) (c7.cell 2 (by decide)) (c7.cell 3 (by decide)) (c7.cell 4 (by decide)) (c7.cell 5 (by decide)) (c7.cell 6 (by decide))) rfl ⟨v, held, HV.out, (by rw [hR]; rfl), ⟨ov', ol', HO.out, ?_, HM3.out.other t7 ?_ ?_ ?_ ?_ ?_ ?_⟩, ?_⟩
  · exact HFR.out.mono (Nat.le_trans HBX.out.size HB1.out.size)
  · exact fun e => HNE.out (Or.inl (Or.inl e.symm))
  · exact fun e => HNE.out (Or.inr e.symm)
  · exact fun e => HCG.out e
  · exact fun e => HNE.out (Or.inl (Or.inr (Or.inl e)))
  · intro e
    rcases HFR.out with q | ⟨g, q1, q2⟩
    · exact HNE.out (Or.inl (Or.inr (Or.inr (by rw [← q]; exact e))))
    · rw [e] at q1
      have := Option.some.inj q1
      have := HB1.out.size
      omega
  · exact HLO.out
  · have tA : Turned (fun j => Mine p dv ov j ∨ j = hq) w X3 := (((Turned.of_below HBX.out).trans (Turned.of_below HB1.out)).trans (HT.out.mono (fun j q => Or.inl q))).trans ((Turned.of_only HO3.out).mono (fun j q => Or.inr q))
    exact ⟨t7.os.trans tA.os, t7.tape.trans tA.tape, t7.output.trans tA.output, Nat.le_trans tA.size t7.size, fun j hj hm => (t7.block j (Nat.lt_of_lt_of_le hj tA.size) (fun e => by rw [HZB.out] at hj; omega)).trans (tA.block j hj hm)⟩
end Go.Proofs.YtnlagbiikpbjdaaGreatDoor
/-
  THE MACHINE: New.
-/
namespace Go.Proofs.YtnlagbiikpbjdaaGreatDoor
open Go Go.RowKit
set_option maxRecDepth 100000 in
set_option maxHeartbeats 1000000 in
theorem mnew_bad (p : Option Addr) (n cp : Nat) (q : Option Addr) (len dc : Nat) (w : World) (h : imageB n len = false) : Calls Tryz.prog 5 #[.slice p n cp, .slice q len dc] w fun e w' => e = .returned (.tuple #[.pointer none, .iface 34 (.int .i64 1)]) ∧ w' = w := by
  have HN := Hid.in (pnew_bad1 p n cp len 0 w h)
  clear h
  go_enter Tryz.func5, Tryz.ntmps5
  go_wp2_with (go_at_call 20; refine HN.out.mono ?_; rintro e x ⟨rfl, hx⟩; have hx2 := hx.symm; clear hx; subst hx2)
  exact bodyPost_ret (v := .tuple #[.pointer none, .iface 34 (.int .i64 1)]) (by simp [results, Tryz.results5, go_sem]) rfl ⟨rfl, rfl⟩
/-- what is handed in: bytes -/
def Dat (w : World) (q : Option Addr) (len : Nat) : Prop := ∀ i, i < len → ∃ c o, q = some ⟨c, o, none⟩ ∧ c < w.heap.size ∧ ∃ x : Int, w.cell? ⟨c, o + i, none⟩ = some (.int .u8 x)
theorem Dat.below {w w' : World} {q : Option Addr} {len : Nat} (h : Dat w q len) (hb : Below w.heap.size w w') : Dat w' q len := fun i hi => by
  obtain ⟨c, o, h1, h2, x, h3⟩ := h i hi
  exact ⟨c, o, h1, Nat.lt_of_lt_of_le h2 hb.size, x, (hb.cell (p := ⟨c, o + i, none⟩) h2).trans h3⟩
theorem own_bytes {w : World} {base : Nat} {e : TypeId} {v : Value} {n : Nat} {g : Nat → Int} (hn : 0 < n) (h : w.ownsRow base e 1 v n ((List.range n).map fun i => .int .u8 (g i))) : ∃ b cap, v = .slice (some ⟨b, 0, none⟩) n cap ∧ n ≤ cap ∧ base ≤ b ∧ Bytes w b n := by
  rcases h.2 with ⟨_, h0⟩ | ⟨b, cap, cur, h1, h2, h3, h4, h5, h6, h7⟩
  · omega
  · refine ⟨b, cap, h1, h4, h2, ?_, fun o ho => ⟨g o, ?_⟩, fun o => by simp [World.frozen?, h3]⟩
    · rcases Nat.lt_or_ge b w.heap.size with q | q
      · exact q
      · rw [Array.getElem?_eq_none q] at h3
        cases h3
    · have e1 : (cur.toList.take (n * 1))[o]? = some (.int .u8 (g o)) := by
        rw [h7, List.getElem?_map, List.getElem?_range ho]
        rfl
      rw [List.getElem?_take, if_pos (by omega)] at e1
      simp only [World.cell?, h3]
      simpa using e1
theorem wpl_append {P : Program} {ops : Array Oper} {Q : Exit → Act → World → Prop} {rest : List Oper} {o : Oper} {a : Act} {w w' : World} {s x : Operand} {t : TypeId} {v u v' : Value} (hg : o.guard = none) (ho : o.op = Op.call { callee := Callee.builtin Builtin.append, args := #[s, x], argTypes := #[t, t] }) (hs : a.eval s = v) (hx : a.eval x = u) (hr : (Builtin.append_ #[t, t] o.type #[v, u]).run P w = .ok v' w') (h : wpList P ops Q rest (a.put o.dst v') w') : wpList P ops Q (o :: rest) a w := by
  unfold wpList
  rw [if_pos (by unfold Region.wanted; rw [hg])]
  refine Or.inl ?_
  unfold Oper.wp
  simp [execOp, ho, resolve, invoke, builtin, hs, hx, hr, Result.andThen]
  exact h
/-- its own copy of the data -/
theorem copied (x : World) (q : Option Addr) (len dc : Nat) (hD : Dat x q len) (hq0 : q = none → dc = 0) (hl : len ≤ 4096) : ∃ v' y, (∃ d1 d2 d3, v' = .slice d1 d2 d3) ∧ (Builtin.append_ #[23, 23] 23 #[.slice none 0 0, .slice q len dc]).run Tryz.prog x = .ok v' y ∧ Below x.heap.size x y ∧ ((len = 0 ∧ v'.ownBlock = none) ∨ ∃ db c, v' = .slice (some ⟨db, 0, none⟩) len c ∧ len ≤ c ∧ Bytes y db len ∧ x.heap.size ≤ db) := by
  cases q with
  | none =>
    obtain rfl : len = 0 := by
      rcases Nat.eq_zero_or_pos len with h | h
      · exact h
      · obtain ⟨c, o, h1, -⟩ := hD 0 h
        cases h1
    obtain rfl := hq0 rfl
    refine ⟨.slice none 0 0, x, ⟨_, _, _, rfl⟩, ?_, Below.refl _ _, Or.inl ⟨rfl, rfl⟩⟩
    kernel_rfl
  | some a =>
    obtain ⟨i0, hi0, hz0, hz1, hz2⟩ := info_parts (show (Tryz.prog.info? 5).map (fun i => (i.zero, i.size, i.bytes)) = some (some (.int .u8 0), 1, 1) by kernel_rfl)
    obtain ⟨g, hg⟩ : ∃ g : Nat → Int, ∀ i, i < len → x.cell? (a.add i) = some (.int .u8 (g i)) := by
      have : ∀ i, ∃ v : Int, i < len → x.cell? (a.add i) = some (.int .u8 v) := fun i => by
        by_cases hi : i < len
        · obtain ⟨c, o, h1, h2, v, h3⟩ := hD i hi
          obtain rfl := Option.some.inj h1
          exact ⟨v, fun _ => by rw [Addr.add_lit]; exact h3⟩
        · exact ⟨0, fun h => absurd h hi⟩
      exact ⟨fun i => (this i).choose, fun i hi => (this i).choose_spec hi⟩
    obtain ⟨v', y, hrun, r1, r2, r3, r4⟩ := run_append_own_at (P := Tryz.prog) (w := x) x.heap.size 23 23 5 i0 (.int .u8 0) 1 1 Tryz.underlying23 hi0 hz0 hz1 hz2 rfl (by decide) (.slice none 0 0) 0 [] ⟨rfl, Or.inl ⟨rfl, rfl⟩⟩ a len dc ((List.range len).map fun i => .int .u8 (g i)) (by simp) (fun j u hj => by
      have hjn : j < len := by
        have := (List.getElem?_eq_some_iff.1 hj).1
        simpa using this
      rw [List.getElem?_map, List.getElem?_range hjn] at hj
      rw [hg j hjn]
      exact hj) (by
      intro u hu
      obtain ⟨i, _, rfl⟩ := List.mem_map.1 hu
      rfl) (by unfold maxLen; omega) (by omega) (Nat.le_refl _)
    have hsh : ∃ d1 d2 d3, v' = .slice d1 d2 d3 := by
      rcases r1.2 with ⟨h, -⟩ | ⟨g, cp, cur, h, -⟩
      · exact ⟨_, _, _, h⟩
      · exact ⟨_, _, _, h⟩
    refine ⟨v', y, hsh, hrun, ?_, ?_⟩
    · exact (turned_grown r2).below (Nat.le_refl _) (fun j hj => by cases hj)
    · rw [Nat.zero_add, List.nil_append] at r1
      rcases Nat.eq_zero_or_pos len with h | h
      · left
        refine ⟨h, ?_⟩
        rw [r3.2 ⟨rfl, h⟩]
        rfl
      · right
        obtain ⟨b, c, e1, e2, e3, e4⟩ := own_bytes h r1
        exact ⟨b, c, e1, e2, e4, e3⟩
set_option maxRecDepth 100000 in
set_option maxHeartbeats 2000000 in
theorem mnew_good (cb co n cp : Nat) (q : Option Addr) (len dc : Nat) (w : World) (h : imageB n len = true) (f : Nat → Int) (hC : CodeAt w cb co n f) (hD : Dat w q len) (hq0 : q = none → dc = 0) : Calls Tryz.prog 5 #[.slice (some ⟨cb, co, none⟩) n cp, .slice q len dc] w fun e w' => ∃ p hq cg cap dv, e = .returned (.tuple #[.pointer (some ⟨p, 0, none⟩), .nilIface]) ∧ Mw w w' w.heap.size p hq cg n cap dv (.slice none 0 0) (newH (.slice (some ⟨cg, 0, none⟩) n cap) len 0) len 0 f ∧ Below w.heap.size w w' := by
  have HN := Hid.in (pnew_good cb co n cp len 0 w h (by decide) f hC)
  obtain ⟨b1, b2, b3, b4, b6⟩ := image_true n len h
  have HD : Hid (∀ x, Below w.heap.size w x → ∃ v' y, (∃ d1 d2 d3, v' = .slice d1 d2 d3) ∧ (Builtin.append_ #[23, 23] 23 #[.slice none 0 0, .slice q len dc]).run Tryz.prog x = .ok v' y ∧ Below x.heap.size x y ∧ ((len = 0 ∧ v'.ownBlock = none) ∨ ∃ db c, v' = .slice (some ⟨db, 0, none⟩) len c ∧ len ≤ c ∧ Bytes y db len ∧ x.heap.size ≤ db)) := fun x hx => copied x q len dc (hD.below hx) hq0 (by omega)
  clear h hC hD hq0 b1 b2 b3 b4 b6
  go_enter Tryz.func5, Tryz.ntmps5
  go_upto_region 4 with (go_at_call 20; refine HN.out.mono ?_; rintro e X1 ⟨hq, cg, cap, rfl, h1, h2, h3, h4, h5, h6⟩; have HK1 := Hid.in h1; have HK2 := Hid.in h2; have HK3 := Hid.in h3; have HK4 := Hid.in h4; have HK5 := Hid.in h5; have HK6 := Hid.in h6; clear h1 h2 h3 h4 h5 h6)
  obtain ⟨_, Y, ⟨d1, d2, d3, rfl⟩, hrun, hbY, hdat⟩ := HD.out X1 HK6.out
  have HRUN := Hid.in hrun
  have HBY := Hid.in hbY
  have HDT := Hid.in hdat
  clear hrun hbY hdat
  go_wp2_with (at_builtin; refine wpl_append (v := .slice none 0 0) (u := .slice q len dc) rfl rfl rfl rfl HRUN.out ?_)
  have bZ : Below Y.heap.size Y (Y.alloc (.cells #[.pointer (some ⟨hq, 0, none⟩), .slice d1 d2 d3, .slice none 0 0, .int .u32 0, .bool false] 62)) := (Below.refl _ _).alloc (Nat.le_refl _) _
  have l1 := HK1.out.here
  have l2 := HK2.out.here
  have l3 := HBY.out.size
  have l4 := HK6.out.size
  refine bodyPost_ret (v := .tuple #[.pointer (some ⟨Y.heap.size, 0, none⟩), .nilIface]) (by simp [results, Tryz.results5, go_sem]) rfl ⟨_, hq, cg, cap, .slice d1 d2 d3, rfl, ?_, below2 (below2 HK6.out HBY.out) bZ⟩
  refine ⟨⟨0, cells_new Y (fun i hi => ?_)⟩, (HK1.out.below HBY.out).below bZ, (HK2.out.below HBY.out).below bZ, ?_, ⟨[], rfl, Or.inl ⟨rfl, rfl⟩⟩, ⟨by omega, by omega, HK5.out⟩, ⟨by simp [Value.ownBlock], by simp [Value.ownBlock], by simp [Value.ownBlock]⟩, ⟨by omega, HK3.out, HK4.out⟩, below2 (below2 HK6.out HBY.out) bZ⟩
  · match i, hi with
    | 0, _ => rfl
    | 1, _ => rfl
    | 2, _ => rfl
    | 3, _ => rfl
    | 4, _ => rfl
  · rcases HDT.out with h | ⟨db, c, h1, h2, h3, h4⟩
    · exact Or.inl h
    · have := h3.here
      exact Or.inr ⟨db, c, h1, h2, h3.turned (Q := fun _ => False) (Turned.of_below bZ) (fun q => q), by omega, by omega, by omega, by simp [Value.ownBlock], by omega⟩
end Go.Proofs.YtnlagbiikpbjdaaGreatDoor
