import Derived.Test.YtengofkjlgajlaaGreatDoorGm2
import Derived.Test.YtengofkjlgajlaaGreatDoorGn2
import Derived.Test.YtengofkjlgajlaaGreatDoorMrd
import Derived.Test.YtengofkjlgajlaaGreatDoorMr6
import Derived.Test.YtengofkjlgajlaaGreatDoorMr7
import Derived.Test.YtengofkjlgajlaaGreatDoorMr8
import Derived.Test.YtengofkjlgajlaaGreatDoorMr9
import Derived.Test.YtengofkjlgajlaaGreatDoorGy2
import Derived.Test.YtengofkjlgajlaaGreatDoorGm3
/-
  WHAT IS ASKED, PLAINLY; a conditional store's Do does not look at what was loaded.
-/
namespace Go.Proofs.YtengofkjlgajlaaGreatDoor
open Go Go.RowKit
theorem do_sc (S : HS) (D : Int → Dec) (n : Nat) (f : Nat → Int) (v v' : Int) (held : Bool) (h : (S.fetchD D n f).op = 47) : S.doS D n f v held = S.doS D n f v' held ∧ S.doR D n f v held = S.doR D n f v' held := by
  have e : ((S.fetchD D n f).op : Int) = 47 := by rw [h]; rfl
  have m : memV 47 v held = memV 47 v' held := rfl
  unfold HS.doS HS.doR HS.instrS HS.instrR HS.memS HS.memR
  rw [e, m]
  exact ⟨rfl, rfl⟩
theorem szcl : ∀ k : Nat, k < 68 → szI (k : Int) ≠ 0 → k ≠ 0 ∧ (clR (k : Int) = 4 ∨ clR (k : Int) = 5 ∨ clR (k : Int) = 6) ∧ (clR (k : Int) = 6 → szI (k : Int) = 4) := by decide +kernel
/-- nothing is asked, or a load, a store, an atomic operation at a good place -/
def Askd (d : Dec) (op ad : Int) (sz len : Nat) : Prop := op = 0 ∨ (¬ op = 0 ∧ op = d.op ∧ (clR op = 4 ∨ clR op = 5 ∨ clR op = 6) ∧ (clR op = 6 → sz = 4) ∧ (0 < sz ∧ sz ≤ 4) ∧ Good op ad sz len)
theorem asked_full (S : HS) (d : Dec) (len : Nat) (hs : S.size = len) (hd : d.op ≤ 67) (hF : 0 ≤ S.regs d.rs2) : ∃ (op ad : Int) (sz da : Nat), S.askQ d = qV op ad sz (da : Nat) ∧ Asked op ad sz len ∧ Askd d op ad sz len := by
  by_cases h : S.asks d = true
  · obtain ⟨op, ad, sz, da, h1, h2⟩ := asked_nat S d len hs hd hF
    refine ⟨op, ad, sz, da, h1, h2, ?_⟩
    unfold HS.askQ at h1
    rw [if_pos h] at h1
    unfold qV at h1
    have e0 : (d.op : Int) = op := by simpa using (by simpa using h1 : _ ∧ _).1
    have e2 : szI (d.op : Int) = (sz : Int) := by
      have := h1
      simp only [Value.agg.injEq, Array.mk.injEq, List.cons.injEq, Value.int.injEq, and_true, true_and] at this
      exact this.2.2.1
    unfold HS.asks at h
    simp only [Bool.and_eq_true, bne_iff_ne, ne_eq] at h
    obtain ⟨c1, c2, c3⟩ := szcl d.op (by omega) h.1.2
    rw [e0] at c2 c3
    refine Or.inr ⟨by omega, e0.symm, c2, fun q => ?_, ?_, ?_⟩
    · have := c3 q
      rw [← e0, e2] at this
      omega
    · rcases h2 with q | q
      · obtain ⟨q1, q2, q3⟩ := q
        rcases c2 with c | c | c
        · exact absurd c q1
        · exact absurd c q2
        · exact absurd c q3
      · exact q.1
    · rcases h2 with q | q
      · obtain ⟨q1, q2, q3⟩ := q
        rcases c2 with c | c | c
        · exact absurd c q1
        · exact absurd c q2
        · exact absurd c q3
      · exact q.2
  · refine ⟨0, 0, 0, 0, ?_, Or.inl (by decide), Or.inl rfl⟩
    unfold HS.askQ
    rw [if_neg h]
    rfl
end Go.Proofs.YtengofkjlgajlaaGreatDoor
/-
  ArchSteps: a step of each of the two machines.
-/
namespace Go.Proofs.YtengofkjlgajlaaGreatDoor
open Go Go.RowKit
theorem fetch_op (S : HS) (n : Nat) (f : Nat → Int) : (S.fetchD decD n f).op ≤ 67 ∧ (S.fetchD decD n f).rs2 < 32 := by
  unfold HS.fetchD
  split
  · rename_i hlt
    cases ho : (decD (f (S.pc / 4).toNat)).ok
    · have : decD (f (S.pc / 4).toNat) = noDec := by
        unfold decD at ho ⊢
        split
        · rename_i i hi
          rw [hi] at ho
          cases ho
        · rfl
      rw [this]
      decide
    · exact ⟨(decD_good _ ho).2.1, (decD_good _ ho).2.2.2.2⟩
  · decide
/-- what a step does: nothing, an interrupt, an instruction -/
def One (S : HS) (M : MS) (n : Nat) (f : Nat → Int) (len : Nat) (res : Value) (ok : Bool) (S' : HS) (M' : MS) : Prop :=
  (S.halted = true ∧ ok = false ∧ res = zeroR ∧ S' = S ∧ M' = M) ∨
  (S.halted = false ∧ M.line = true ∧ S.mayI = true ∧ ok = true ∧ res = S.trapR 0 2147483659 0 ∧ S' = S.trapped 2147483659 0 ∧ M' = M) ∨
  (S.halted = false ∧ (M.line = true → S.mayI = false) ∧ ok = true ∧ ∃ (op ad : Int) (sz da : Nat), S.askQ (S.fetchD decD n f) = qV op ad sz (da : Nat) ∧ Asked op ad sz len ∧ Askd (S.fetchD decD n f) op ad sz len ∧ res = S.doR decD n f (M.srvV op ad sz : Nat) (M.srvH op ad) ∧ S' = S.doS decD n f (M.srvV op ad sz : Nat) (M.srvH op ad) ∧ M' = M.srv op ad sz da)
theorem one_is {S : HS} (M : MS) (n : Nat) (f : Nat → Int) (len : Nat) (hF : S.Fit) (hs : S.size = len) : ∃ res ok S' M', One S M n f len res ok S' M' := by
  cases hh : S.halted
  · by_cases hi : M.line = true ∧ S.mayI = true
    · exact ⟨_, _, _, _, Or.inr (Or.inl ⟨hh, hi.1, hi.2, rfl, rfl, rfl, rfl⟩)⟩
    · obtain ⟨h1, h2⟩ := fetch_op S n f
      obtain ⟨op, ad, sz, da, q1, q2, q3⟩ := asked_full S (S.fetchD decD n f) len hs h1 (hF.ok.regs _ h2).1
      refine ⟨_, _, _, _, Or.inr (Or.inr ⟨hh, fun e => ?_, rfl, op, ad, sz, da, q1, q2, q3, rfl, rfl, rfl⟩)⟩
      cases hm : S.mayI
      · rfl
      · exact absurd ⟨e, hm⟩ hi
  · exact ⟨_, _, _, _, Or.inl ⟨hh, rfl, rfl, rfl, rfl⟩⟩
theorem srvV_u32 (M : MS) (h : ∀ o, M.mem o < 256) (d : Dec) (op ad : Int) (sz len : Nat) (ha : Askd d op ad sz len) : U32 (M.srvV op ad sz : Nat) := by
  have hz : U32 ((0 : Nat) : Int) := ⟨by decide, by decide⟩
  have hr : sz ≤ 4 → U32 (M.rd ad sz : Nat) := fun h4 => by
    have h1 := leN_lt (fun t => M.mem ((ad - 65536).toNat + t)) sz (fun t _ => h _)
    have h2 : 256 ^ sz ≤ 256 ^ 4 := Nat.pow_le_pow_right (by omega) h4
    unfold MS.rd
    exact ⟨by omega, by omega⟩
  unfold MS.srvV
  rcases ha with rfl | ⟨-, -, -, -, h4, -⟩
  · rw [if_neg (by decide), if_neg (by decide)]
    exact hz
  · split
    · exact hr h4.2
    · split
      · split
        · exact hz
        · exact hr h4.2
      · exact hz
theorem one_fit {S S' : HS} {M M' : MS} {n len : Nat} {f : Nat → Int} {res : Value} {ok : Bool} (h : One S M n f len res ok S' M') (hF : S.Fit) (hf : ∀ i, i < n → U32 (f i)) (hn : n ≤ 4096) (h8 : ∀ o, M.mem o < 256) : S'.Fit ∧ S.Kept S' ∧ M'.out.length ≤ M.out.length + 1 ∧ IsRet res ∧ (ok = false → res = zeroR) := by
  rcases h with ⟨-, rfl, rfl, rfl, rfl⟩ | ⟨-, -, -, rfl, rfl, rfl, rfl⟩ | ⟨-, -, rfl, op, ad, sz, da, -, -, q3, rfl, rfl, rfl⟩
  · exact ⟨hF, ⟨rfl, rfl, rfl⟩, by omega, ⟨_, _, _, _, _, _, _, rfl⟩, fun _ => rfl⟩
  · exact ⟨Fit.trapped hF _ _ u32_zero, kept_trapped S _ _, by omega, ⟨_, _, _, _, _, _, _, rfl⟩, fun e => by cases e⟩
  · refine ⟨Fit.doS hF decOk n f _ _ hf hn (srvV_u32 M h8 _ op ad sz len q3), kept_doS S decD n f _ _, ?_, doR_is S decD n f _ _, fun e => by cases e⟩
    unfold MS.srv
    repeat' split
    all_goals simp
section
variable {w x : World} {p hq cg n cap : Nat} {dv ov : Value} {r rh db cb co cp len : Nat} {f : Nat → Int} {S S' : HS} {M M' : MS} {T T' : HS} {L L' : MS} {res : Value} {ok : Bool}
theorem pone (k : Lw w x p hq cg n cap dv ov r rh db cb co len f S M T L) (h : One S M n f len res ok S' M') (hF : S.Fit) (hs : S.size = len) (h16 : len % 16 = 0) (hn : n ≤ 4096) (hl : len ≤ 4096) (hol : M.out.length ≤ 5000) (hL : Laid w) : Calls Tryz.prog 9 #[.pointer (some ⟨p, 0, none⟩)] x fun e y => e = .returned (.tuple #[res, .bool ok]) ∧ ∃ ov', Lw w y p hq cg n cap dv ov' r rh db cb co len f S' M' T L := by
  have hLd : ∀ y, Below w.heap.size w y → Laid y := fun y hy => hL.below hy
  rcases h with ⟨hh, rfl, rfl, rfl, rfl⟩ | ⟨hh, hli, hmi, rfl, rfl, rfl, rfl⟩ | ⟨hh, hno, rfl, op, ad, sz, da, q1, q2, q3, rfl, rfl, rfl⟩
  · exact (xstep_halted k.mx hh).mono fun e y h => ⟨h.1, ov, k.below h.2.2⟩
  · exact (xstep_int k.mx hli hmi hh).mono fun e y h => ⟨h.1, ov, k.onP (h.2.2.mono fun j e => Or.inr e) (Or.inl rfl) h.2.1⟩
  · cases hli : M.line
    · refine (xstep_go k.mx hli hh hF hs q1 q2 h16 hn hl hol hLd).mono fun e y h => ⟨h.1, ?_⟩
      obtain ⟨ov', hf, hm⟩ := h.2.1
      exact ⟨ov', k.onP h.2.2 hf hm⟩
    · refine (xstep_on k.mx hli (hno hli) hh hF hs q1 q2 h16 hn hl hol hLd).mono fun e y h => ⟨h.1, ?_⟩
      obtain ⟨ov', hf, hm⟩ := h.2.1
      exact ⟨ov', k.onP h.2.2 hf hm⟩
end
theorem names_46 : ∀ i : Nat, i < 67 → i ≠ 45 → (nameAt i).toList ≠ [108, 114, 46, 119] := by decide +kernel
theorem names_47 : ∀ i : Nat, i < 67 → i ≠ 46 → (nameAt i).toList ≠ [115, 99, 46, 119] := by decide +kernel
end Go.Proofs.YtengofkjlgajlaaGreatDoor
/-
  ArchSteps: a step of the answer's machine.
-/
namespace Go.Proofs.YtengofkjlgajlaaGreatDoor
open Go Go.RowKit
section
variable {w x : World} {p hq cg n cap : Nat} {dv ov : Value} {r rh db cb co cp len : Nat} {f : Nat → Int} {S S' : HS} {M M' : MS} {T T' : HS} {L L' : MS} {res : Value} {ok : Bool}
theorem rgo (hol : L.out.length ≤ 5000) (k : Lw w x p hq cg n cap dv ov r rh db cb co len f S M T L) (hco : T.code = .slice (some ⟨cb, co, none⟩) n cp) (hF : T.Fit) (hn : n ≤ 4096) (hl : len ≤ 4096) (hh : T.halted = false) (hno : L.line = true → T.mayI = false) {op ad : Int} {sz da : Nat} (q1 : T.askQ (T.fetchD decD n f) = qV op ad sz (da : Nat)) (q3 : Askd (T.fetchD decD n f) op ad sz len) : Calls Tryz.prog 10 #[.pointer (some ⟨r, 0, none⟩)] x fun e y => e = .returned (.tuple #[T.doR decD n f (L.srvV op ad sz : Nat) (L.srvH op ad), .bool true]) ∧ Lw w y p hq cg n cap dv ov r rh db cb co len f S M (T.doS decD n f (L.srvV op ad sz : Nat) (L.srvH op ad)) (L.srv op ad sz da) ∧ Turned (fun j => (j = r ∨ j = db) ∨ j = rh) x y := by
  obtain ⟨b1, b2, b3⟩ := k.b0
  have c0 := k.c0
  have n1 : cb ≠ db := by omega
  have n2 : cb ≠ rh := by omega
  have n3 : cb ≠ r := by omega
  have hm2 : ∀ j, (j = db ∨ j = rh) → ((j = r ∨ j = db) ∨ j = rh) := by
    rintro j (e | e)
    · exact Or.inl (Or.inr e)
    · exact Or.inr e
  rcases q3 with rfl | ⟨hop, hod, hcl, hc6, hsz, hg⟩
  · have eV : L.srvV 0 ad sz = 0 := by
      unfold MS.srvV
      rw [if_neg (by decide), if_neg (by decide)]
    have eH : L.srvH 0 ad = false := by
      unfold MS.srvH
      rw [if_neg (by decide)]
    have eM : L.srv 0 ad sz da = L := by
      unfold MS.srv
      rw [if_neg (by decide), if_neg (by decide)]
    rw [eV, eH, eM]
    rcases (show L.line = false ∨ L.line = true by cases L.line <;> simp) with hli | hli
    · exact (rstep_none k.rx hli hh hF hco k.cc n1 n2 hn q1 rfl).mono fun e y h => ⟨h.1, k.onR (h.2.2.mono hm2) h.2.1, h.2.2.mono hm2⟩
    · exact (rstep_none_on k.rx hli (hno hli) hh hF hco k.cc n1 n2 hn q1 rfl).mono fun e y h => ⟨h.1, k.onR (h.2.2.mono hm2) h.2.1, h.2.2.mono hm2⟩
  · rcases hcl with hcl | hcl | hcl
    · rcases hg with ⟨at', had, hin⟩ | ⟨hg, -⟩
      · have ea : (ad - 65536).toNat = at' := by omega
        have eV : L.srvV op ad sz = leN (fun t => L.mem (at' + t)) sz := by
          unfold MS.srvV MS.rd
          rw [if_pos hcl, ea]
        have eH : L.srvH op ad = false := by
          unfold MS.srvH
          rw [if_neg (by omega)]
        have eM : L.srv op ad sz da = L := by
          unfold MS.srv
          rw [if_neg (by omega), if_neg (by omega)]
        rw [eV, eH, eM]
        rcases (show L.line = false ∨ L.line = true by cases L.line <;> simp) with hli | hli
        · exact (rstep_load k.rx hli hh hF hco k.cc n1 n2 hn hl q1 hop hcl at' had hin hsz.1 hsz.2).mono fun e y h => ⟨h.1, k.onR (h.2.2.mono hm2) h.2.1, h.2.2.mono hm2⟩
        · exact (rstep_load_on k.rx hli (hno hli) hh hF hco k.cc n1 n2 hn hl q1 hop hcl at' had hin hsz.1 hsz.2).mono fun e y h => ⟨h.1, k.onR (h.2.2.mono hm2) h.2.1, h.2.2.mono hm2⟩
      · omega
    · have eV : L.srvV op ad sz = 0 := by
        unfold MS.srvV
        rw [if_neg (by omega), if_neg (by omega)]
      have eH : L.srvH op ad = false := by
        unfold MS.srvH
        rw [if_neg (by omega)]
      rcases hg with ⟨at', had, hin⟩ | ⟨-, had⟩
      · have ea : (ad - 65536).toNat = at' := by omega
        have eM : L.srv op ad sz da = { L with mem := memT L.mem at' da sz } := by
          unfold MS.srv
          rw [if_pos hcl, if_neg (by omega), ea]
        rw [eV, eH, eM]
        rcases (show L.line = false ∨ L.line = true by cases L.line <;> simp) with hli | hli
        · exact (rstep_store k.rx hli hh hF hco k.cc n1 n2 hn hl q1 hop hcl at' had hin hsz.2).mono fun e y h => ⟨h.1, k.onR (h.2.2.mono hm2) h.2.1, h.2.2.mono hm2⟩
        · exact (rstep_store_on k.rx hli (hno hli) hh hF hco k.cc n1 n2 hn hl q1 hop hcl at' had hin hsz.2).mono fun e y h => ⟨h.1, k.onR (h.2.2.mono hm2) h.2.1, h.2.2.mono hm2⟩
      · have eM : L.srv op ad sz da = { L with out := L.out ++ [(da : Int) % 256] } := by
          unfold MS.srv
          rw [if_pos hcl, if_pos had]
        rw [eV, eH, eM]
        rcases (show L.line = false ∨ L.line = true by cases L.line <;> simp) with hli | hli
        · exact (rstep_dev k.rx hli hh hF hco k.cc n1 n2 n3 hn q1 hop hcl had hol).mono fun e y h => ⟨h.1, k.onR h.2.2 h.2.1, h.2.2⟩
        · exact (rstep_dev_on k.rx hli (hno hli) hh hF hco k.cc n1 n2 n3 hn q1 hop hcl had hol).mono fun e y h => ⟨h.1, k.onR h.2.2 h.2.1, h.2.2⟩
    · obtain rfl := hc6 hcl
      rcases hg with ⟨at', had, hin⟩ | ⟨hg, -⟩
      · have ea : (ad - 65536).toNat = at' := by omega
        have h67 := (fetch_op T n f).1
        have hd := leN_lt (fun t => L.mem (at' + t)) 4 (fun t _ => k.rx.m8 _)
        have hv : U32 (leN (fun t => L.mem (at' + t)) 4 : Nat) := ⟨by omega, by omega⟩
        by_cases h46 : op = 46
        · subst h46
          have eV : L.srvV 46 ad 4 = leN (fun t => L.mem (at' + t)) 4 := by
            unfold MS.srvV MS.rd
            rw [if_neg (by omega), if_pos hcl, if_neg (by decide), ea]
          have eH : L.srvH 46 ad = false := by
            unfold MS.srvH
            rw [if_pos hcl, if_neg (by decide)]
          have eM : L.srv 46 ad 4 da = { L with mem := L.mem, res := ad } := by
            unfold MS.srv
            rw [if_neg (by omega), if_pos hcl, if_pos rfl]
          rw [eV, eH, eM]
          have hAT : ∀ X, Rx X r rh db len len T L → Calls Tryz.prog 32 #[.slice (some ⟨db, 0, none⟩) len len, .agg #[.int .i64 46, .int .u32 ad, .int .i64 ((4 : Nat) : Int), .int .u32 da], .int .u32 L.res] X fun e w' => e = .returned (.tuple #[.int .u32 (leN (fun t => L.mem (at' + t)) 4 : Nat), .bool false, .int .u32 ad]) ∧ Rx w' r rh db len len T { L with mem := L.mem } ∧ Turned (fun j => j = db) X w' := fun X kX => (ratomic_lr db len len ad at' 4 da L.mem X kX.d kX.m8 had hin hl L.res).mono fun e w' h => ⟨h.1, kX.below h.2, Turned.of_below h.2⟩
          rcases (show L.line = false ∨ L.line = true by cases L.line <;> simp) with hli | hli
          · exact (rstep_atomic k.rx hli hh hF hco k.cc n1 n2 n3 hn q1 hop hcl _ _ _ _ hv hAT).mono fun e y h => ⟨h.1, k.onR h.2.2 h.2.1, h.2.2⟩
          · exact (rstep_atomic_on k.rx hli (hno hli) hh hF hco k.cc n1 n2 n3 hn q1 hop hcl _ _ _ _ hv hAT).mono fun e y h => ⟨h.1, k.onR h.2.2 h.2.1, h.2.2⟩
        by_cases h47 : op = 47
        · subst h47
          have eV : L.srvV 47 ad 4 = 0 := by
            unfold MS.srvV
            rw [if_neg (by omega), if_pos hcl, if_pos rfl]
          have eH : L.srvH 47 ad = (L.res == ad) := by
            unfold MS.srvH
            rw [if_pos hcl, if_pos rfl]
          have hD : (T.fetchD decD n f).op = 47 := by omega
          cases hres : L.res == ad
          · have eM : L.srv 47 ad 4 da = { L with mem := L.mem, res := 0 } := by
              unfold MS.srv
              rw [if_neg (by omega), if_pos hcl, if_neg (by decide), if_pos rfl, if_neg (by rw [hres]; decide)]
            rw [eV, eH, eM, hres]
            obtain ⟨d1, d2⟩ := do_sc T decD n f ((0 : Nat) : Int) (leN (fun t => L.mem (at' + t)) 4 : Nat) false hD
            rw [d1, d2]
            have hAT : ∀ X, Rx X r rh db len len T L → Calls Tryz.prog 32 #[.slice (some ⟨db, 0, none⟩) len len, .agg #[.int .i64 47, .int .u32 ad, .int .i64 ((4 : Nat) : Int), .int .u32 da], .int .u32 L.res] X fun e w' => e = .returned (.tuple #[.int .u32 (leN (fun t => L.mem (at' + t)) 4 : Nat), .bool false, .int .u32 0]) ∧ Rx w' r rh db len len T { L with mem := L.mem } ∧ Turned (fun j => j = db) X w' := fun X kX => (ratomic_sc_false db len len ad at' 4 da L.mem X kX.d kX.m8 had hin hl L.res hres).mono fun e w' h => ⟨h.1, kX.below h.2, Turned.of_below h.2⟩
            rcases (show L.line = false ∨ L.line = true by cases L.line <;> simp) with hli | hli
            · exact (rstep_atomic k.rx hli hh hF hco k.cc n1 n2 n3 hn q1 hop hcl _ _ _ _ hv hAT).mono fun e y h => ⟨h.1, k.onR h.2.2 h.2.1, h.2.2⟩
            · exact (rstep_atomic_on k.rx hli (hno hli) hh hF hco k.cc n1 n2 n3 hn q1 hop hcl _ _ _ _ hv hAT).mono fun e y h => ⟨h.1, k.onR h.2.2 h.2.1, h.2.2⟩
          · have eM : L.srv 47 ad 4 da = { L with mem := memT L.mem at' da 4, res := 0 } := by
              unfold MS.srv
              rw [if_neg (by omega), if_pos hcl, if_neg (by decide), if_pos rfl, if_pos hres, ea]
            rw [eV, eH, eM, hres]
            obtain ⟨d1, d2⟩ := do_sc T decD n f ((0 : Nat) : Int) (leN (fun t => L.mem (at' + t)) 4 : Nat) true hD
            rw [d1, d2]
            have hAT : ∀ X, Rx X r rh db len len T L → Calls Tryz.prog 32 #[.slice (some ⟨db, 0, none⟩) len len, .agg #[.int .i64 47, .int .u32 ad, .int .i64 ((4 : Nat) : Int), .int .u32 da], .int .u32 L.res] X fun e w' => e = .returned (.tuple #[.int .u32 (leN (fun t => L.mem (at' + t)) 4 : Nat), .bool true, .int .u32 0]) ∧ Rx w' r rh db len len T { L with mem := memT L.mem at' da 4 } ∧ Turned (fun j => j = db) X w' := fun X kX => (ratomic_sc_true db len len ad at' 4 da L.mem X kX.d kX.m8 had hin hl L.res hres).mono fun e w' h => ⟨h.1, kX.dat h.2.1 h.2.2 (memT_lt kX.m8 _ _ _), Turned.of_only h.2.1⟩
            rcases (show L.line = false ∨ L.line = true by cases L.line <;> simp) with hli | hli
            · exact (rstep_atomic k.rx hli hh hF hco k.cc n1 n2 n3 hn q1 hop hcl _ _ _ _ hv hAT).mono fun e y h => ⟨h.1, k.onR h.2.2 h.2.1, h.2.2⟩
            · exact (rstep_atomic_on k.rx hli (hno hli) hh hF hco k.cc n1 n2 n3 hn q1 hop hcl _ _ _ _ hv hAT).mono fun e y h => ⟨h.1, k.onR h.2.2 h.2.1, h.2.2⟩
        · have eV : L.srvV op ad 4 = leN (fun t => L.mem (at' + t)) 4 := by
            unfold MS.srvV MS.rd
            rw [if_neg (by omega), if_pos hcl, if_neg h47, ea]
          have eH : L.srvH op ad = false := by
            unfold MS.srvH
            rw [if_pos hcl, if_neg h47]
          have eM : L.srv op ad 4 da = { L with mem := memT L.mem at' (swI op (leN (fun t => L.mem (at' + t)) 4 : Nat) (da : Nat)).toNat 4, res := L.res } := by
            unfold MS.srv MS.rd
            rw [if_neg (by omega), if_pos hcl, if_neg h46, if_neg h47, ea]
          rw [eV, eH, eM]
          obtain ⟨i, hi⟩ : ∃ i : Nat, op = (i : Int) + 1 := ⟨(op - 1).toNat, by omega⟩
          have hi67 : i < 67 := by omega
          have hAT : ∀ X, Rx X r rh db len len T L → Calls Tryz.prog 32 #[.slice (some ⟨db, 0, none⟩) len len, .agg #[.int .i64 op, .int .u32 ad, .int .i64 ((4 : Nat) : Int), .int .u32 da], .int .u32 L.res] X fun e w' => e = .returned (.tuple #[.int .u32 (leN (fun t => L.mem (at' + t)) 4 : Nat), .bool false, .int .u32 L.res]) ∧ Rx w' r rh db len len T { L with mem := memT L.mem at' (swI op (leN (fun t => L.mem (at' + t)) 4 : Nat) (da : Nat)).toNat 4 } ∧ Turned (fun j => j = db) X w' := fun X kX => by
            rw [hi]
            exact (ratomic_rmw i hi67 (names_46 i hi67 (by omega)) (names_47 i hi67 (by omega)) db len len ad at' 4 da L.mem X kX.d kX.m8 had hin hl L.res).mono fun e w' h => ⟨h.1, kX.dat h.2.1 h.2.2 (memT_lt kX.m8 _ _ _), Turned.of_only h.2.1⟩
          rcases (show L.line = false ∨ L.line = true by cases L.line <;> simp) with hli | hli
          · exact (rstep_atomic k.rx hli hh hF hco k.cc n1 n2 n3 hn q1 hop hcl _ _ _ _ hv hAT).mono fun e y h => ⟨h.1, k.onR h.2.2 h.2.1, h.2.2⟩
          · exact (rstep_atomic_on k.rx hli (hno hli) hh hF hco k.cc n1 n2 n3 hn q1 hop hcl _ _ _ _ hv hAT).mono fun e y h => ⟨h.1, k.onR h.2.2 h.2.1, h.2.2⟩
      · omega
theorem rone (hol : L.out.length ≤ 5000) (k : Lw w x p hq cg n cap dv ov r rh db cb co len f S M T L) (h : One T L n f len res ok T' L') (hco : T.code = .slice (some ⟨cb, co, none⟩) n cp) (hF : T.Fit) (hn : n ≤ 4096) (hl : len ≤ 4096) : Calls Tryz.prog 10 #[.pointer (some ⟨r, 0, none⟩)] x fun e y => e = .returned (.tuple #[res, .bool ok]) ∧ Lw w y p hq cg n cap dv ov r rh db cb co len f S M T' L' ∧ Turned (fun j => (j = r ∨ j = db) ∨ j = rh) x y := by
  rcases h with ⟨hh, rfl, rfl, rfl, rfl⟩ | ⟨hh, hli, hmi, rfl, rfl, rfl, rfl⟩ | ⟨hh, hno, rfl, op, ad, sz, da, q1, q2, q3, rfl, rfl, rfl⟩
  · exact (rstep_halted k.rx hh).mono fun e y h => ⟨h.1, k.below h.2.2, Turned.of_below h.2.2⟩
  · exact (rstep_int k.rx hli hmi hh).mono fun e y h => ⟨h.1, k.onR (h.2.2.mono fun j e => Or.inr e) h.2.1, h.2.2.mono fun j e => Or.inr e⟩
  · exact rgo hol k hco hF hn hl hh hno q1 q3
end
end Go.Proofs.YtengofkjlgajlaaGreatDoor
/-
  ArchSteps: both machines at their start.
-/
namespace Go.Proofs.YtengofkjlgajlaaGreatDoor
open Go Go.RowKit
theorem start_lw {w Y y1 y2 y3 y4 : World} {p hq cg n cap : Nat} {dv cv : Value} {r rh db cb co cc len wb bb : Nat} {f : Nat → Int} {M : MS} (ho : M.out = []) (bY : Below w.heap.size w Y) (hm : Mx Y y1 Y.heap.size p hq cg n cap dv (.slice none 0 0) (newH cv len 0) len f M) (hr : Rx y2 r rh db len len (newH (.slice (some ⟨cb, co, none⟩) n cc) len 0) M) (hl : y1.heap.size ≤ r ∧ y1.heap.size ≤ rh ∧ y1.heap.size ≤ db) (b12 : Below y1.heap.size y1 y2) (t3 : Turned (fun j => j = wb) y2 y3) (t4 : Turned (fun j => j = bb) y3 y4) (hwb : w.heap.size ≤ wb ∧ wb < Y.heap.size) (hbb : w.heap.size ≤ bb ∧ bb < Y.heap.size) (hC : CodeAt w cb co n f) : Lw w y4 p hq cg n cap dv (.slice none 0 0) r rh db cb co len f (newH (.slice (some ⟨cb, co, none⟩) n cc) len 0) M (newH (.slice (some ⟨cb, co, none⟩) n cc) len 0) M := by
  obtain ⟨l1, l2, l3⟩ := hm.lo
  obtain ⟨a1, a2, a3⟩ := hl
  have hc0 := hC.here
  have sY := bY.size
  have sy := hm.low.size
  have m0 : Mx w y1 w.heap.size p hq cg n cap dv (.slice none 0 0) (newH (.slice (some ⟨cb, co, none⟩) n cc) len 0) len f M := by
    refine ⟨hm.c, hm.h, hm.code, ?_, ⟨hm.o.1, Or.inl ⟨rfl, by rw [ho]; rfl⟩⟩, hm.n1, hm.n2, ⟨by omega, by omega, by omega⟩, below2 bY hm.low, hm.m8⟩
    rcases hm.d with h | ⟨d, dc, e1, e2, e3, e4, e5, e6, e7, e8⟩
    · exact Or.inl h
    · exact Or.inr ⟨d, dc, e1, e2, e3, e4, e5, e6, e7, by omega⟩
  have hd : ∀ j, dv.ownBlock = some j → Y.heap.size ≤ j := fun j hj => (hm.dlo j hj).1
  have m2 := m0.below b12
  have mk : ∀ (z : Nat) (u v : World), w.heap.size ≤ z ∧ z < Y.heap.size → Turned (fun j => j = z) u v → Mx w u w.heap.size p hq cg n cap dv (.slice none 0 0) (newH (.slice (some ⟨cb, co, none⟩) n cc) len 0) len f M → Mx w v w.heap.size p hq cg n cap dv (.slice none 0 0) (newH (.slice (some ⟨cb, co, none⟩) n cc) len 0) len f M := fun z u v hz t k =>
    k.turned t (fun e => by omega) (fun e => by omega) (fun e => by omega) (fun j hj e => by have := hd j hj; omega) (fun j hj => by cases hj) (fun j e => by omega)
  refine ⟨mk bb y3 y4 hbb t4 (mk wb y2 y3 hwb t3 m2), (hr.turned t3 (fun e => by omega) (fun e => by omega) (fun e => by omega)).turned t4 (fun e => by omega) (fun e => by omega) (fun e => by omega), ((hC.below (below2 (below2 bY hm.low) b12)).turned t3 (fun e => by omega)).turned t4 (fun e => by omega), m0.fresh a1, m0.fresh a2, m0.fresh a3, hc0, ⟨by omega, by omega, by omega⟩⟩
theorem own_slice {x : World} {B : Nat} {e : TypeId} {v : Value} {n : Nat} {xs : List Value} {s : Nat} (h : x.ownsRow B e s v n xs) : ∃ q c, v = .slice q n c := by
  rcases h.2 with ⟨h1, h2⟩ | ⟨b, cp, cur, h1, -⟩
  · rw [h1, h2]
    exact ⟨none, 0, rfl⟩
  · exact ⟨_, _, h1⟩
end Go.Proofs.YtengofkjlgajlaaGreatDoor
