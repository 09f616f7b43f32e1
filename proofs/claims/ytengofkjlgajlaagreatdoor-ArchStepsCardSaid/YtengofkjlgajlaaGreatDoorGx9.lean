import Derived.Test.YtengofkjlgajlaaGreatDoorGx8
import Derived.Test.YtengofkjlgajlaaGreatDoorGr1
import Derived.ArgAppend
import Derived.OwnWalk
import Derived.Maps.AppendAt
/-
  THE PROGRAM's HART: what it asks of memory, whole; what a word is decoded to.
-/
namespace Go.Proofs.YtengofkjlgajlaaGreatDoor
open Go Go.RowKit
theorem cut_zero (z : Int) : cutI z 0 = 0 := by
  unfold cutI
  repeat' split
  all_goals rfl
theorem pask_any {D : Int → Dec} (HD : PDecOk D) (hld : ∀ x : Int, U32 x → (D x).ok = true → clR (D x).op = 4 → (D x).rs2 = 0) (p : Nat) (S : HS) (cb co n cp : Nat) (w : World) (h : PH w p (.slice (some ⟨cb, co, none⟩) n cp) S) (hn : n ≤ 4096) (hL : Laid w) (f : Nat → Int) (hC : CodeAt w cb co n f) (hF : S.Fit) (h16 : S.size % 16 = 0) : Calls Tryz.prog 20 #[.pointer (some ⟨p, 0, none⟩)] w fun e w' => e = .returned (S.askQ (S.fetchD D n f)) ∧ Below w.heap.size w w' := by
  cases hh : S.halted
  · by_cases hk : S.pc / 4 < n
    · have e1 : S.fetchD D n f = D (f (S.pc / 4).toNat) := if_pos hk
      have hu := hC.word (S.pc / 4).toNat (by have := hF.ok.pc.1; omega)
      have hg := HD.good _ hu
      have hl := hld _ hu
      rw [← e1] at hg hl
      cases hok : (S.fetchD D n f).ok
      · obtain ⟨q1, q2⟩ := look_fb S n f _ rfl hk (fun q => by rw [hok] at q; exact absurd q.1 (by decide))
        have ha : S.askQ (S.fetchD D n f) = zeroQ := by
          unfold HS.askQ HS.asks
          rw [hok]
          rfl
        rw [ha]
        exact pask_trap p S cb co n cp w h hh HD hn hF.ok.pc hL f hC hF.ok _ _ _ _ rfl rfl q1 q2 _ rfl (by decide)
      · obtain ⟨g1, g2, g3, g4, g5⟩ := hg hok
        have hl' := hl hok
        generalize hd : S.fetchD D n f = d at *
        by_cases hz : szI d.op = 0
        · have ha : S.askQ d = zeroQ := by
            unfold HS.askQ HS.asks
            rw [hz]
            simp
          rw [ha]
          by_cases hc : S.lookC D n f = -1
          · exact pask_none p S cb co n cp w h hh HD hn hF.ok.pc hL f hC hF.ok d _ _ _ hd rfl hc rfl _ hz (by decide) (by decide)
          · exact pask_trap p S cb co n cp w h hh HD hn hF.ok.pc hL f hC hF.ok d _ _ _ hd rfl rfl rfl _ rfl (by simp; exact hc)
        · obtain ⟨i, hi'⟩ : ∃ i, d.op = i + 1 := ⟨d.op - 1, by omega⟩
          have hi : i < 67 := by omega
          have e0 : ((d.op : Nat) : Int) = (i : Int) + 1 := by omega
          have hz' : szI ((i : Int) + 1) ≠ 0 := by rw [← e0]; exact hz
          obtain ⟨_, l1, l2⟩ := mem_facts i hi hz'
          have hf : fbB d.op d.rs1 d.imm = false := (fb_low _ _ _ (by omega)).1
          obtain ⟨q1, q2⟩ := look_ok S n f d hd hok hk hf
          have hx := whereI_u32 hF.ok d.op d.imm d.rs1 g4
          have hpa := pfa_eq S d.op (S.whereI d.op d.rs1 d.imm) hz hx hF.ok.size h16
          have a9 : ¬ ((d.op : Nat) : Int) = 59 := by omega
          have a8 : ¬ ((d.op : Nat) : Int) = 58 := by omega
          have hpc : S.lookC D n f = S.faultI d.op (S.whereI d.op d.rs1 d.imm) := by
            rw [q1]
            unfold HS.pfc
            rw [if_neg a9, if_neg a8, if_pos hz, hpa]
          have hz2 : (szI d.op != 0) = true := by simp; exact hz
          by_cases hff : S.faultI d.op (S.whereI d.op d.rs1 d.imm) = -1
          · have ha : S.askQ d = .agg #[.int .i64 d.op, .int .u32 (S.whereI d.op d.rs1 d.imm), .int .i64 (szI d.op), .int .u32 (S.askV d)] := by
              unfold HS.askQ HS.asks
              rw [hok, hh, hz2, hff]
              rfl
            have hzc : szI d.op = 1 ∨ szI d.op = 2 ∨ szI d.op = 4 := by rcases sz_cases d.op with q | q | q | q <;> simp_all
            have hy : cutI (szI d.op) (S.regs d.rs2) = S.askV d := by
              unfold HS.askV
              by_cases h4 : clR d.op = 4
              · rw [if_pos h4, hl' h4, hF.zero, cut_zero]
              · rw [if_neg h4]
                rfl
            rw [ha]
            exact pask_some p S cb co n cp w h hh HD hn hF.ok.pc hL f hC hF.ok d _ _ _ hd rfl (hpc.trans hff) rfl _ rfl (by decide) (by simp; exact hz) hzc g4 g5 _ rfl _ hy
          · have ha : S.askQ d = zeroQ := by
              unfold HS.askQ HS.asks
              have : (S.faultI d.op (S.whereI d.op d.rs1 d.imm) == -1) = false := by simp; exact hff
              rw [this]
              simp
            rw [ha]
            exact pask_trap p S cb co n cp w h hh HD hn hF.ok.pc hL f hC hF.ok d _ _ _ hd rfl rfl rfl _ rfl (by rw [hpc]; simp; exact hff)
    · have e1 : S.fetchD D n f = noDec := if_neg hk
      have q1 : S.lookC D n f = 1 := if_neg hk
      have ha : S.askQ (S.fetchD D n f) = zeroQ := by
        rw [e1]
        unfold HS.askQ HS.asks
        rfl
      rw [ha]
      exact pask_trap p S cb co n cp w h hh HD hn hF.ok.pc hL f hC hF.ok _ _ _ _ rfl rfl q1 rfl _ rfl (by decide)
  · have ha : S.askQ (S.fetchD D n f) = zeroQ := by
      unfold HS.askQ HS.asks
      rw [hh]
      simp
    rw [ha]
    exact pask_halted p S cb co n cp w h hh
/-- what a word is decoded to -/
def decK (x : Nat) : Option Nat := (List.range 67).find? fun i => matchB (i + 1) x
def decD (x : Int) : Dec := match decK x.toNat with
  | some i => ⟨i + 1, (rdI (fmtAt (i + 1)) x.toNat).toNat, (rs1I (fmtAt (i + 1)) x.toNat).toNat, (rs2I (fmtAt (i + 1)) x.toNat).toNat, immI (fmtAt (i + 1)) x.toNat, true⟩
  | none => noDec
theorem regZ_in (b : Bool) (y : Int) : 0 ≤ regZ b y ∧ regZ b y < 32 := by
  unfold regZ
  cases b <;> simp <;> omega
theorem decK_some (x i : Nat) (h : decK x = some i) : i < 67 ∧ matchB (i + 1) x = true := by
  unfold decK at h
  have h1 := List.find?_some h
  have h2 := List.mem_of_find?_eq_some h
  exact ⟨List.mem_range.1 h2, h1⟩
theorem decK_none (x : Nat) (h : decK x = none) : ∀ k, 1 ≤ k → k ≤ 67 → matchB k x = false := by
  intro k h1 h2
  unfold decK at h
  have := List.find?_eq_none.1 h (k - 1) (List.mem_range.2 (by omega))
  rw [show k - 1 + 1 = k by omega] at this
  simpa using this
theorem decD_good (x : Int) (h : (decD x).ok = true) : 1 ≤ (decD x).op ∧ (decD x).op ≤ 67 ∧ (decD x).rd < 32 ∧ (decD x).rs1 < 32 ∧ (decD x).rs2 < 32 := by
  unfold decD at h ⊢
  split
  · rename_i i hi
    obtain ⟨l, _⟩ := decK_some _ _ hi
    have a := regZ_in (lyRd (fmtAt (i + 1))) ((x.toNat : Int) / 128)
    have b := regZ_in (lyRs1 (fmtAt (i + 1))) ((x.toNat : Int) / 32768)
    have c := regZ_in (lyRs2 (fmtAt (i + 1))) ((x.toNat : Int) / 1048576)
    unfold rdI rs1I rs2I
    refine ⟨by simp, by simp; omega, ?_, ?_, ?_⟩
    · show (regZ _ _).toNat < 32
      omega
    · show (regZ _ _).toNat < 32
      omega
    · show (regZ _ _).toNat < 32
      omega
  · rename_i hi
    rw [hi] at h
    have h2 : noDec.ok = true := h
    exact absurd h2 (by decide)
theorem decD_val (x : Int) (i : Nat) (h : decK x.toNat = some i) : (decD x).val = .agg #[.int .i64 (i + 1 : Nat), .int .i64 (rdI (fmtAt (i + 1)) x.toNat), .int .i64 (rs1I (fmtAt (i + 1)) x.toNat), .int .i64 (rs2I (fmtAt (i + 1)) x.toNat), .int .i64 (immI (fmtAt (i + 1)) x.toNat)] ∧ (decD x).ok = true := by
  have a := regZ_in (lyRd (fmtAt (i + 1))) ((x.toNat : Int) / 128)
  have b := regZ_in (lyRs1 (fmtAt (i + 1))) ((x.toNat : Int) / 32768)
  have c := regZ_in (lyRs2 (fmtAt (i + 1))) ((x.toNat : Int) / 1048576)
  have e : decD x = ⟨i + 1, (rdI (fmtAt (i + 1)) x.toNat).toNat, (rs1I (fmtAt (i + 1)) x.toNat).toNat, (rs2I (fmtAt (i + 1)) x.toNat).toNat, immI (fmtAt (i + 1)) x.toNat, true⟩ := by unfold decD; rw [h]
  rw [e]
  unfold Dec.val
  have e1 : (((rdI (fmtAt (i + 1)) x.toNat).toNat : Nat) : Int) = rdI (fmtAt (i + 1)) x.toNat := by unfold rdI; omega
  have e2 : (((rs1I (fmtAt (i + 1)) x.toNat).toNat : Nat) : Int) = rs1I (fmtAt (i + 1)) x.toNat := by unfold rs1I; omega
  have e3 : (((rs2I (fmtAt (i + 1)) x.toNat).toNat : Nat) : Int) = rs2I (fmtAt (i + 1)) x.toNat := by unfold rs2I; omega
  exact ⟨by simp only [e1, e2, e3], rfl⟩
theorem decD_none (x : Int) (h : decK x.toNat = none) : (decD x).val = .agg #[.int .i64 0, .int .i64 0, .int .i64 0, .int .i64 0, .int .i64 0] ∧ (decD x).ok = false := by
  have e : decD x = noDec := by unfold decD; rw [h]
  rw [e]
  exact ⟨rfl, rfl⟩
theorem decOk : DecOk decD := by
  refine ⟨fun x w hx => ?_, fun x _ h => decD_good x h⟩
  have ex : x = ((x.toNat : Nat) : Int) := by have := hx.1; omega
  have hx2 : x.toNat < 4294967296 := by have := hx.1; have := hx.2; omega
  cases hk : decK x.toNat with
  | some i =>
    obtain ⟨l, m⟩ := decK_some _ _ hk
    obtain ⟨v1, v2⟩ := decD_val x i hk
    rw [v1, v2]
    have q := decodeR_some x.toNat i hx2 l m w
    rw [← ex] at q
    exact q
  | none =>
    obtain ⟨v1, v2⟩ := decD_none x hk
    rw [v1, v2]
    have q := decodeR_none x.toNat hx2 (decK_none _ hk) w
    rw [← ex] at q
    exact q
theorem pdecOk : PDecOk decD := by
  refine ⟨fun x w hL hx => ?_, fun x _ h => decD_good x h⟩
  have ex : x = ((x.toNat : Nat) : Int) := by have := hx.1; omega
  have hx2 : x.toNat < 4294967296 := by have := hx.1; have := hx.2; omega
  cases hk : decK x.toNat with
  | some i =>
    obtain ⟨l, m⟩ := decK_some _ _ hk
    obtain ⟨v1, v2⟩ := decD_val x i hk
    rw [v1, v2]
    have q := decode_some x.toNat (i + 1) hx2 (by omega) (by omega) m w hL
    rw [← ex] at q
    exact q
  | none =>
    obtain ⟨v1, v2⟩ := decD_none x hk
    rw [v1, v2]
    have q := decode_none x.toNat hx2 (decK_none _ hk) w hL
    rw [← ex] at q
    exact q
theorem tab_load : ((List.range 67).all fun i => !(classR (letAt i) (codeRAt i) (gRAt i) == 4) || !lyRs2 (fmtAt (i + 1))) = true := by kernel_rfl
theorem dec_load (x : Int) (h : (decD x).ok = true) (hc : clR (decD x).op = 4) : (decD x).rs2 = 0 := by
  cases hk : decK x.toNat with
  | some i =>
    obtain ⟨l, _⟩ := decK_some _ _ hk
    have e : decD x = ⟨i + 1, (rdI (fmtAt (i + 1)) x.toNat).toNat, (rs1I (fmtAt (i + 1)) x.toNat).toNat, (rs2I (fmtAt (i + 1)) x.toNat).toNat, immI (fmtAt (i + 1)) x.toNat, true⟩ := by unfold decD; rw [hk]
    rw [e] at hc ⊢
    have e0 : ((i + 1 : Nat) : Int) = (i : Int) + 1 := by omega
    simp only [e0] at hc
    rw [clR_at i l] at hc
    have t := List.all_eq_true.1 tab_load i (List.mem_range.2 l)
    rw [hc] at t
    have t2 : lyRs2 (fmtAt (i + 1)) = false := by simpa using t
    show (rs2I (fmtAt (i + 1)) x.toNat).toNat = 0
    unfold rs2I
    rw [t2]
    rfl
  | none =>
    obtain ⟨_, v2⟩ := decD_none x hk
    rw [v2] at h
    exact absurd h (by decide)
end Go.Proofs.YtengofkjlgajlaaGreatDoor
/-
  THE PROGRAM's HART: how it is made.
-/
namespace Go.Proofs.YtengofkjlgajlaaGreatDoor
open Go Go.RowKit
set_option maxHeartbeats 1000000 in
theorem pnew_bad1 (p : Option Addr) (n cp : Nat) (d num : Int) (w : World) (h : imageB n d = false) : Calls Tryz.prog 18 #[.slice p n cp, .int .i64 d, .int .i64 num] w fun e w' => e = .returned (.tuple #[.pointer none, .iface 34 (.int .i64 1)]) ∧ w' = w := by
  by_cases a1 : 1 ≤ n ∧ n ≤ 4096 ∧ 0 ≤ d ∧ d ≤ 4096
  · have e : imageB n d = (d % 16 == 0) := by unfold imageB; simp [a1]
    rw [e] at h
    obtain ⟨b1, b2, b3, b4⟩ := a1
    have b5 : d.tmod 16 = d % 16 := Int.tmod_eq_emod_of_nonneg b3
    have h2 : (d % 16 != 0) = true := by simpa using h
    clear h e
    go_enter Tryz.func18, Tryz.ntmps18
    go_wp2
    all_goals first
      | (exfalso; omega)
      | exact bodyPost_ret (by simp [results, Tryz.results18, go_sem]) rfl ⟨rfl, rfl⟩
  · clear h
    go_enter Tryz.func18, Tryz.ntmps18
    go_wp2
    all_goals first
      | (exfalso; omega)
      | exact bodyPost_ret (by simp [results, Tryz.results18, go_sem]) rfl ⟨rfl, rfl⟩
theorem image_true (n : Nat) (d : Int) (h : imageB n d = true) : 1 ≤ n ∧ n ≤ 4096 ∧ 0 ≤ d ∧ d ≤ 4096 ∧ d % 16 = 0 := by
  unfold imageB at h
  simp only [Bool.and_eq_true, decide_eq_true_eq, beq_iff_eq] at h
  omega
theorem own_cells {w : World} {base : Nat} {e : TypeId} {v : Value} {n : Nat} {f : Nat → Int} (hn : 0 < n) (h : w.ownsRow base e 1 v n ((List.range n).map fun i => .int .u32 (f i))) (hf : ∀ i, i < n → U32 (f i)) : ∃ g cap, v = .slice (some ⟨g, 0, none⟩) n cap ∧ base ≤ g ∧ CodeAt w g 0 n f := by
  obtain ⟨_, h2⟩ := h
  rcases h2 with ⟨_, h3⟩ | ⟨g, cap, cur, h3, h4, h5, h6, _, h8, h9⟩
  · omega
  · refine ⟨g, cap, h3, h4, ?_, fun i hi => ?_, hf⟩
    · rcases Nat.lt_or_ge g w.heap.size with q | q
      · exact q
      · rw [Array.getElem?_eq_none q] at h5
        exact absurd h5 (by simp)
    · have c : cur[i]? = some (.int .u32 (f i)) := by
        have q := congrArg (·[i]?) h9
        simp only [List.getElem?_take, Nat.mul_one, hi, if_true, List.getElem?_map, List.getElem?_range hi, Option.map_some] at q
        rw [← Array.getElem?_toList]
        exact q
      rw [Nat.zero_add]
      simpa [World.cell?, h5] using c
theorem pnew_cells0 (g n cap : Nat) (d : Int) : ∀ i, i < 45 → (#[.int .u32 0, .int .u32 0, .int .u32 0, .int .u32 0, .int .u32 0, .int .u32 0, .int .u32 0, .int .u32 0, .int .u32 0, .slice (some ⟨g, 0, none⟩) n cap, .int .u32 d, .int .u32 0, .int .u32 0, .int .u32 0, .int .u32 0, .int .u32 0, .int .u32 0, .int .u32 0, .int .u32 0, .int .u32 0, .int .u32 0, .int .u32 0, .int .u32 0, .int .u32 0, .int .u32 0, .int .u32 0, .int .u32 0, .int .u32 0, .int .u32 0, .int .u32 0, .int .u32 0, .int .u32 0, .int .u32 0, .int .u32 0, .int .u32 0, .int .u32 0, .int .u32 0, .int .u32 0, .int .u32 0, .int .u32 0, .int .u32 0, .int .u32 0, .int .u32 0, .int .u32 0, .bool false] : Array Value)[i]? = some ((newH (.slice (some ⟨g, 0, none⟩) n cap) d 0).encP (.slice (some ⟨g, 0, none⟩) n cap) i) := fun i hi =>
  range_of 45 (fun i => (#[.int .u32 0, .int .u32 0, .int .u32 0, .int .u32 0, .int .u32 0, .int .u32 0, .int .u32 0, .int .u32 0, .int .u32 0, .slice (some ⟨g, 0, none⟩) n cap, .int .u32 d, .int .u32 0, .int .u32 0, .int .u32 0, .int .u32 0, .int .u32 0, .int .u32 0, .int .u32 0, .int .u32 0, .int .u32 0, .int .u32 0, .int .u32 0, .int .u32 0, .int .u32 0, .int .u32 0, .int .u32 0, .int .u32 0, .int .u32 0, .int .u32 0, .int .u32 0, .int .u32 0, .int .u32 0, .int .u32 0, .int .u32 0, .int .u32 0, .int .u32 0, .int .u32 0, .int .u32 0, .int .u32 0, .int .u32 0, .int .u32 0, .int .u32 0, .int .u32 0, .int .u32 0, .bool false] : Array Value)[i]?) (fun i => some ((newH (.slice (some ⟨g, 0, none⟩) n cap) d 0).encP (.slice (some ⟨g, 0, none⟩) n cap) i)) (by kernel_rfl) i hi
theorem pnew_cells1 (g n cap : Nat) (d : Int) : ∀ i, i < 45 → (#[.int .u32 0, .int .u32 0, .int .u32 0, .int .u32 0, .int .u32 0, .int .u32 0, .int .u32 0, .int .u32 0, .int .u32 1, .slice (some ⟨g, 0, none⟩) n cap, .int .u32 d, .int .u32 0, .int .u32 0, .int .u32 0, .int .u32 0, .int .u32 0, .int .u32 0, .int .u32 0, .int .u32 0, .int .u32 0, .int .u32 0, .int .u32 0, .int .u32 0, .int .u32 0, .int .u32 0, .int .u32 0, .int .u32 0, .int .u32 0, .int .u32 0, .int .u32 0, .int .u32 0, .int .u32 0, .int .u32 0, .int .u32 0, .int .u32 0, .int .u32 0, .int .u32 0, .int .u32 0, .int .u32 0, .int .u32 0, .int .u32 0, .int .u32 0, .int .u32 0, .int .u32 0, .bool false] : Array Value)[i]? = some ((newH (.slice (some ⟨g, 0, none⟩) n cap) d 1).encP (.slice (some ⟨g, 0, none⟩) n cap) i) := fun i hi =>
  range_of 45 (fun i => (#[.int .u32 0, .int .u32 0, .int .u32 0, .int .u32 0, .int .u32 0, .int .u32 0, .int .u32 0, .int .u32 0, .int .u32 1, .slice (some ⟨g, 0, none⟩) n cap, .int .u32 d, .int .u32 0, .int .u32 0, .int .u32 0, .int .u32 0, .int .u32 0, .int .u32 0, .int .u32 0, .int .u32 0, .int .u32 0, .int .u32 0, .int .u32 0, .int .u32 0, .int .u32 0, .int .u32 0, .int .u32 0, .int .u32 0, .int .u32 0, .int .u32 0, .int .u32 0, .int .u32 0, .int .u32 0, .int .u32 0, .int .u32 0, .int .u32 0, .int .u32 0, .int .u32 0, .int .u32 0, .int .u32 0, .int .u32 0, .int .u32 0, .int .u32 0, .int .u32 0, .int .u32 0, .bool false] : Array Value)[i]?) (fun i => some ((newH (.slice (some ⟨g, 0, none⟩) n cap) d 1).encP (.slice (some ⟨g, 0, none⟩) n cap) i)) (by kernel_rfl) i hi
set_option maxRecDepth 100000 in
set_option maxHeartbeats 2000000 in
theorem pnew_good (cb co n cp : Nat) (d num : Int) (w : World) (h : imageB n d = true) (hn : 0 ≤ num ∧ num < 2) (f : Nat → Int) (hC : CodeAt w cb co n f) : Calls Tryz.prog 18 #[.slice (some ⟨cb, co, none⟩) n cp, .int .i64 d, .int .i64 num] w fun e w' => ∃ q g cap, e = .returned (.tuple #[.pointer (some ⟨q, 0, none⟩), .nilIface]) ∧ PH w' q (.slice (some ⟨g, 0, none⟩) n cap) (newH (.slice (some ⟨g, 0, none⟩) n cap) d num) ∧ CodeAt w' g 0 n f ∧ w.heap.size ≤ q ∧ w.heap.size ≤ g ∧ q ≠ g ∧ Below w.heap.size w w' := by
  obtain ⟨b1, b2, b3, b4, b6⟩ := image_true n d h
  have b5 : d.tmod 16 = 0 := (Int.tmod_eq_emod_of_nonneg b3).trans b6
  have HC : Hid (CodeAt w cb co n f) := hC
  have hnews : ∀ j u, ((List.range n).map fun i => Value.int .u32 (f i))[j]? = some u → w.cell? ((⟨cb, co, none⟩ : Addr).add j) = some u := by
    intro j u hj
    have hjn : j < n := by
      have := (List.getElem?_eq_some_iff.1 hj).1
      simpa using this
    rw [List.getElem?_map, List.getElem?_range hjn] at hj
    rw [Addr.add_lit]
    exact (hC.cell j hjn).trans hj
  have hone : ∀ u ∈ ((List.range n).map fun i => Value.int .u32 (f i)), u.oneCell' = true := by
    intro u hu
    obtain ⟨i, _, rfl⟩ := List.mem_map.1 hu
    rfl
  obtain ⟨i0, hi, hz0, hz1, hz2⟩ := info_parts (show (Tryz.prog.info? 33).map (fun i => (i.zero, i.size, i.bytes)) = some (some (.int .u32 0), 1, 4) by kernel_rfl)
  have HN := Hid.in hnews
  have HO := Hid.in hone
  have HF := Hid.in hC.word
  clear h hC hnews hone
  have t1 : decide ((n : Int) < 1) = false := decide_eq_false (by omega)
  have t2 : decide (4096 < (n : Int)) = false := decide_eq_false (by omega)
  have t3 : decide (d < 0) = false := decide_eq_false (by omega)
  have t4 : decide (4096 < d) = false := decide_eq_false (by omega)
  have : num = 0 ∨ num = 1 := by omega
  rcases this with rfl | rfl
  all_goals
    go_enter Tryz.func18, Tryz.ntmps18
    go_wp2_with (at_builtin; refine wpList_append_grows _ rfl (.const (.slice none 0 0)) (.tmp 40) 22 rfl 33 i0 (.int .u32 0) 1 4 Tryz.underlying22 hi hz0 hz1 hz2 rfl (by decide) none 0 0 [] rfl (fun _ => ⟨rfl, rfl⟩) rfl (fun _ q => by cases q) ⟨cb, co, none⟩ n cp ((List.range n).map fun i => .int .u32 (f i)) rfl (by simp) HN.out HO.out (by omega) (by unfold maxLen; omega) (by omega) ?_; intro v' w1 hown hgrow; rw [Nat.zero_add, List.nil_append] at hown; obtain ⟨g, cap, hv, hg, hCg⟩ := own_cells (by omega) hown HF.out; subst hv; have bg : Below w.heap.size w w1 := (Below.refl _ _).grown hgrow (Nat.le_refl _) (fun _ q => by cases q))
    refine bodyPost_ret (v := .tuple #[.pointer (some ⟨w1.heap.size, 0, none⟩), .nilIface]) (by simp [results, Tryz.results18, go_sem]) rfl ⟨w1.heap.size, g, cap, rfl, cells_new _ (by first | exact pnew_cells0 g n cap d | exact pnew_cells1 g n cap d), hCg.below ((Below.refl _ _).alloc (Nat.le_refl _) _), bg.size, hg, ?_, bg.alloc bg.size _⟩
    have := hCg.here
    omega
end Go.Proofs.YtengofkjlgajlaaGreatDoor
