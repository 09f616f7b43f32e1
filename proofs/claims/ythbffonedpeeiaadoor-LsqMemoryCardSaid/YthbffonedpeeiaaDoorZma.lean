import Derived.Test.YthbffonedpeeiaaDoorMy
import Derived.Test.YthbffonedpeeiaaDoorKc
/-
  LSQ's LAW LsqMemory: pick, where, bytes.
-/
namespace Go.Proofs.YthbffonedpeeiaaDoor
open Go Go.RowKit
def I64 (c : Int) : Prop := -9223372036854775808 ≤ c ∧ c ≤ 9223372036854775807
/-- the law's choice -/
def pk (c : Int) (n : Nat) : Nat := (if c < 0 then -(c + 1) else c).toNat % n
theorem pk_lt (c : Int) (n : Nat) (h : 0 < n) : pk c n < n := Nat.mod_lt _ h
theorem pk_is (c : Int) (n : Nat) (h : 0 ≤ c) : c.tmod n = ((c.toNat % n : Nat) : Int) := by
  rw [Int.tmod_eq_emod_of_nonneg h]
  have : c = (c.toNat : Int) := by omega
  rw [this]
  simp
set_option maxHeartbeats 1000000 in
theorem pick_any (c : Int) (n : Nat) (w : World) (hc : I64 c) (hn : 0 < n) : Calls Tryd.prog 30 #[.int .i64 c, .int .i64 n] w fun e w' => e = .returned (.int .i64 (pk c n : Nat)) ∧ w' = w := by
  obtain ⟨hc1, hc2⟩ := hc
  have hz : ((n : Int) == 0) = false := by simp; omega
  have hz2 : ¬ (n : Int) = 0 := by omega
  have hz3 : ¬ (n : Int) = -1 := by omega
  by_cases h0 : c < 0
  · have he := pk_is (-(c + 1)) n (by omega)
    have hp : pk c n = (-(c + 1)).toNat % n := by simp [pk, h0]
    rw [hp]
    obtain ⟨k, hk⟩ : ∃ k, (-(c + 1)).toNat % n = k := ⟨_, rfl⟩
    rw [hk] at he ⊢
    clear hk hp
    go_enter Tryd.func30, Tryd.ntmps30
    go_wp2
    go_ret
    exact ⟨rfl, rfl⟩
  · have he := pk_is c n (by omega)
    have hp : pk c n = c.toNat % n := by simp [pk, h0]
    rw [hp]
    obtain ⟨k, hk⟩ : ∃ k, c.toNat % n = k := ⟨_, rfl⟩
    rw [hk] at he ⊢
    clear hk hp
    go_enter Tryd.func30, Tryd.ntmps30
    go_wp2
    go_ret
    exact ⟨rfl, rfl⟩
/-- what is handed in: an access, raw -/
structure Acc where
  st : Bool
  ad : Int
  sz : Int
  da : Nat
structure Acc.Fit (e : Acc) : Prop where
  a : I64 e.ad
  z : I64 e.sz
  d : e.da < 4294967296
def Acc.vs (e : Acc) : Array Value := #[.bool e.st, .int .i64 e.ad, .int .i64 e.sz, .int .u32 e.da]
/-- its size, its address -/
def Acc.z (e : Acc) : Nat := 2 ^ pk e.sz 3
def Acc.a (e : Acc) : Nat := 64 + pk e.ad (16 / e.z) * e.z
theorem Acc.z_is (e : Acc) : e.z = 1 ∨ e.z = 2 ∨ e.z = 4 := by
  unfold Acc.z
  have := pk_lt e.sz 3 (by decide)
  generalize pk e.sz 3 = k at this
  match k, this with
  | 0, _ => exact Or.inl rfl
  | 1, _ => exact Or.inr (Or.inl rfl)
  | 2, _ => exact Or.inr (Or.inr rfl)
theorem Acc.a_is (e : Acc) : 64 ≤ e.a ∧ e.a + e.z ≤ 80 ∧ e.a % e.z = 0 := by
  have h := e.z_is
  unfold Acc.a
  generalize e.z = z at h
  rcases h with rfl | rfl | rfl
  · have := pk_lt e.ad 16 (by decide)
    have e1 : 16 / 1 = 16 := rfl
    rw [e1]
    omega
  · have := pk_lt e.ad 8 (by decide)
    have e1 : 16 / 2 = 8 := rfl
    rw [e1]
    omega
  · have := pk_lt e.ad 4 (by decide)
    have e1 : 16 / 4 = 4 := rfl
    rw [e1]
    omega
set_option maxRecDepth 100000 in
set_option maxHeartbeats 1000000 in
theorem where_any (e : Acc) (w : World) (hf : e.Fit) : Calls Tryd.prog 35 #[.agg e.vs] w fun r w' => r = .returned (.tuple #[.int .u32 e.a, .int .i64 e.z]) ∧ Below w.heap.size w w' := by
  have HP1 : Hid (∀ x, Calls Tryd.prog 30 #[.int .i64 e.sz, .int .i64 3] x fun r w' => r = .returned (.int .i64 (pk e.sz 3 : Nat)) ∧ w' = x) := fun x => pick_any e.sz 3 x hf.z (by decide)
  have HP2 : Hid (∀ (n : Nat) x, 0 < n → Calls Tryd.prog 30 #[.int .i64 e.ad, .int .i64 n] x fun r w' => r = .returned (.int .i64 (pk e.ad n : Nat)) ∧ w' = x) := fun n x h => pick_any e.ad n x hf.a h
  have hl1 := pk_lt e.sz 3 (by decide)
  obtain ⟨k, hk⟩ : ∃ k, pk e.sz 3 = k := ⟨_, rfl⟩
  have hz : e.z = 2 ^ k := by unfold Acc.z; rw [hk]
  have ha : e.a = 64 + pk e.ad (16 / 2 ^ k) * 2 ^ k := by unfold Acc.a; rw [hz]
  rw [hk] at hl1 HP1
  rw [hz, ha]
  unfold Acc.vs
  clear hf hk hz ha
  match k, hl1 with
  | 0, _ =>
    have hq : (16 : Nat) / 2 ^ 0 = 16 := rfl
    rw [hq]
    have hl := pk_lt e.ad 16 (by decide)
    have HP3 := Hid.in fun x => HP2.out 16 x (by decide)
    obtain ⟨j, hj⟩ : ∃ j, pk e.ad 16 = j := ⟨_, rfl⟩
    rw [hj] at hl HP3 ⊢
    clear hj HP2
    go_enter Tryd.func35, Tryd.ntmps35
    go_upto_region 2 with (first | (go_at_call 30; refine (HP1.out _).mono ?_; rintro r x ⟨rfl, rfl⟩))
    go_quiet (first | (go_at_call 30; refine Calls.quiet_of_same (HP3.out _)))
    go_wp2
    refine bodyPost_ret (results_tmp2 Tryd.results35 _ _ _) rfl ?_
    have e1 : ((64 + j * 2 ^ 0 : Nat) : Int) = 64 + (j : Int) := by omega
    rw [e1]
    exact ⟨rfl, below2 (((Below.refl _ _).alloc (Nat.le_refl _) _).alloc (by simp) _) (below_drewN _ _)⟩
  | 1, _ =>
    have hq : (16 : Nat) / 2 ^ 1 = 8 := rfl
    rw [hq]
    have hl := pk_lt e.ad 8 (by decide)
    have HP3 := Hid.in fun x => HP2.out 8 x (by decide)
    obtain ⟨j, hj⟩ : ∃ j, pk e.ad 8 = j := ⟨_, rfl⟩
    rw [hj] at hl HP3 ⊢
    clear hj HP2
    go_enter Tryd.func35, Tryd.ntmps35
    go_upto_region 2 with (first | (go_at_call 30; refine (HP1.out _).mono ?_; rintro r x ⟨rfl, rfl⟩))
    go_quiet (first | (go_at_call 30; refine Calls.quiet_of_same (HP3.out _)))
    go_wp2
    refine bodyPost_ret (results_tmp2 Tryd.results35 _ _ _) rfl ?_
    have e1 : ((64 + j * 2 ^ 1 : Nat) : Int) = 64 + (j : Int) * 2 := by omega
    rw [e1]
    exact ⟨rfl, below2 (((Below.refl _ _).alloc (Nat.le_refl _) _).alloc (by simp) _) (below_drewN _ _)⟩
  | 2, _ =>
    have hq : (16 : Nat) / 2 ^ 2 = 4 := rfl
    rw [hq]
    have hl := pk_lt e.ad 4 (by decide)
    have HP3 := Hid.in fun x => HP2.out 4 x (by decide)
    obtain ⟨j, hj⟩ : ∃ j, pk e.ad 4 = j := ⟨_, rfl⟩
    rw [hj] at hl HP3 ⊢
    clear hj HP2
    go_enter Tryd.func35, Tryd.ntmps35
    go_upto_region 2 with (first | (go_at_call 30; refine (HP1.out _).mono ?_; rintro r x ⟨rfl, rfl⟩))
    go_quiet (first | (go_at_call 30; refine Calls.quiet_of_same (HP3.out _)))
    go_wp2
    refine bodyPost_ret (results_tmp2 Tryd.results35 _ _ _) rfl ?_
    have e1 : ((64 + j * 2 ^ 2 : Nat) : Int) = 64 + (j : Int) * 4 := by omega
    rw [e1]
    exact ⟨rfl, below2 (((Below.refl _ _).alloc (Nat.le_refl _) _).alloc (by simp) _) (below_drewN _ _)⟩
def leN (b : Nat → Nat) : Nat → Nat
  | 0 => 0
  | k + 1 => leN b k + b k * 256 ^ k
theorem leN_lt (b : Nat → Nat) : ∀ k, (∀ t, t < k → b t < 256) → leN b k < 256 ^ k
  | 0, _ => by simp [leN]
  | k + 1, h => by
    have h1 := leN_lt b k (fun t ht => h t (by omega))
    have h2 : b k * 256 ^ k ≤ 255 * 256 ^ k := Nat.mul_le_mul_right _ (by have := h k (by omega); omega)
    have h3 : 256 ^ (k + 1) = 256 * 256 ^ k := by rw [Nat.pow_succ, Nat.mul_comm]
    show leN b k + b k * 256 ^ k < _
    omega
theorem leN_congr (b c : Nat → Nat) : ∀ k, (∀ t, t < k → b t = c t) → leN b k = leN c k
  | 0, _ => rfl
  | k + 1, h => by simp only [leN, leN_congr b c k (fun t ht => h t (by omega)), h k (by omega)]
theorem leN_shift (g : Nat → Nat) : ∀ k, leN g (k + 1) = g 0 + 256 * leN (fun t => g (t + 1)) k
  | 0 => by simp [leN]
  | k + 1 => by
    rw [leN, leN_shift g k]
    show _ = g 0 + 256 * (leN (fun t => g (t + 1)) k + g (k + 1) * 256 ^ k)
    rw [Nat.pow_succ, Nat.mul_add, Nat.add_assoc]
    congr 2
    rw [Nat.mul_comm (256 ^ k) 256, ← Nat.mul_assoc, ← Nat.mul_assoc, Nat.mul_comm (g (k + 1)) 256]
theorem shl_or (x y : Nat) (hx : x < 16777216) (hy : y < 256) : bits .or .u32 ((x : Int) * 256 % 4294967296) (y : Int) = ((y + 256 * x : Nat) : Int) := by
  have e1 : (x : Int) * 256 % 4294967296 = ((x * 256 : Nat) : Int) := by omega
  rw [e1, u32_or_nat _ _ (by omega) (by omega), nat_join 8 _ _ (by omega) (by omega)]
  omega
set_option maxRecDepth 100000 in
set_option maxHeartbeats 400000 in
theorem bytes_any (M a z : Nat) (mm : Nat → Nat) (w : World) (hM : CellsAt 16 w M (fun o => .int .u8 (mm o))) (hmm : ∀ o, mm o < 256) (ha : 64 ≤ a) (haz : a + z ≤ 80) (hz : z ≤ 4) : Calls Tryd.prog 36 #[.slice (some ⟨M, 0, none⟩) 16 16, .int .u32 a, .int .i64 z] w fun r w' => r = .returned (.int .u32 (leN (fun t => mm (a - 64 + t)) z : Nat)) ∧ w' = w := by
  obtain ⟨o, rfl⟩ : ∃ o, a = 64 + o := ⟨a - 64, by omega⟩
  have e0 : 64 + o - 64 = o := by omega
  rw [e0]
  have HM := Hid.in hM
  have HMM := Hid.in hmm
  obtain ⟨ai, hai⟩ : ∃ ai : Int, ((64 + o : Nat) : Int) = ai := ⟨_, rfl⟩
  obtain ⟨oi, hoi⟩ : ∃ oi : Int, (o : Int) = oi := ⟨_, rfl⟩
  have ho : IntKind.i64.wrap (ai - 64) = oi := by
    simp only [IntKind.wrap_i64]
    omega
  have ho2 : wrap64 (ai - 64) = oi := by
    unfold wrap64
    omega
  have HOI := Hid.in hoi
  have ha0 : 0 ≤ ai := by omega
  have ha1 : ai < 4294967296 := by omega
  rw [hai]
  clear hM hmm e0 hai ha hoi
  go_enter Tryd.func36, Tryd.ntmps36
  go_wp2
  go_loopw [7, 8] (fun u kv wr => ∃ j : Nat, j ≤ z ∧ kv = .int .i64 ((j : Int) - 1) ∧ u = .int .u32 (leN (fun t => mm (o + j + t)) (z - j) : Nat) ∧ w = wr) (fun _ kv _ => (intOf kv + 1).toNat)
  case atStart => exact ⟨z, Nat.le_refl _, rfl, by rw [Nat.sub_self]; rfl, rfl⟩
  case round =>
    obtain ⟨j, hj, rfl, rfl, rfl⟩ := hrel
    by_cases h0 : 0 < j
    · obtain ⟨j, rfl⟩ : ∃ j', j = j' + 1 := ⟨j - 1, by omega⟩
      have hj1 : ((j + 1 : Nat) : Int) - 1 = j := by omega
      rw [hj1]
      have c1 := HM.out.cell (o + j) (by omega)
      have hM := HM.out.here
      have hy := HMM.out (o + j)
      have hx := leN_lt (fun t => mm (o + (j + 1) + t)) (z - (j + 1)) (fun t _ => HMM.out _)
      have hx2 : 256 ^ (z - (j + 1)) ≤ 16777216 := by
        have : 256 ^ (z - (j + 1)) ≤ 256 ^ 3 := Nat.pow_le_pow_right (by omega) (by omega)
        omega
      have HNX : Hid (leN (fun t => mm (o + j + t)) (z - j) = mm (o + j) + 256 * leN (fun t => mm (o + (j + 1) + t)) (z - (j + 1))) := by
        show _ = _
        have e1 : z - j = (z - (j + 1)) + 1 := by omega
        rw [e1, leN_shift]
        congr 2
        exact leN_congr _ _ _ (fun t _ => by show mm (o + j + (t + 1)) = mm (o + (j + 1) + t); congr 1; omega)
      obtain ⟨x, hxx⟩ : ∃ x, leN (fun t => mm (o + (j + 1) + t)) (z - (j + 1)) = x := ⟨_, rfl⟩
      obtain ⟨y, hyy⟩ : ∃ y, mm (o + j) = y := ⟨_, rfl⟩
      rw [hxx] at hx HNX ⊢
      rw [hyy] at hy c1 HNX
      have hor := shl_or x y (by omega) hy
      obtain ⟨oj, hoj⟩ : ∃ oj, o + j = oj := ⟨_, rfl⟩
      have hoi := HOI.out
      have hws : IntKind.i64.wrap (oi + (j : Int)) = (oj : Int) := by
        simp only [IntKind.wrap_i64]
        omega
      have hws2 : wrap64 (oi + (j : Int)) = (oj : Int) := by
        unfold wrap64
        omega
      obtain ⟨xy, hxy⟩ : ∃ xy : Nat, y + 256 * x = xy := ⟨_, rfl⟩
      rw [hxy] at hor HNX
      have hojl : oj < 16 := by omega
      rw [hoj] at c1
      clear hxx hyy hx hx2 hoj hoi hxy
      go_wp2
      go_roundw
      case rel => exact ⟨j, by omega, rfl, by rw [HNX.out], trivial⟩
      case measure => simp [intOf]
    · obtain rfl : j = 0 := by omega
      go_wp2
      go_ret
      exact ⟨rfl, rfl⟩
end Go.Proofs.YthbffonedpeeiaaDoor
/-
  LSQ's LAW LsqMemory: what it keeps, plainly.
-/
namespace Go.Proofs.YthbffonedpeeiaaDoor
open Go Go.RowKit
/-- memory behind the first k accesses, in the program's order -/
def seqM (g : Nat → Acc) : Nat → Nat → Nat
  | 0, _ => 0
  | k + 1, y => if (g k).st = true ∧ (g k).a ≤ y ∧ y < (g k).a + (g k).z then (g k).da / 256 ^ (y - (g k).a) % 256 else seqM g k y
theorem seqM_lt (g : Nat → Acc) : ∀ k y, seqM g k y < 256
  | 0, _ => by simp [seqM]
  | k + 1, y => by
    unfold seqM
    split
    · exact Nat.mod_lt _ (by decide)
    · exact seqM_lt g k y
/-- what a load in the program's order gets -/
def right (g : Nat → Acc) (k : Nat) : Nat := leN (fun b => seqM g k ((g k).a + b)) (g k).z
/-- the store that a byte of entry j comes of -/
def QS.cv (S : QS) (y : Nat) (j : Nat) : Bool := (S.at j).st && (S.at j).cov y
def QS.from' (S : QS) (j y : Nat) : Int := lastI (S.cv y) j
/-- what entry j would read at y -/
def QS.val (S : QS) (mem : Nat → Nat) (j y : Nat) : Nat := if S.from' j y = -1 then mem y else (S.at (S.from' j y).toNat).d / 256 ^ (y - (S.at (S.from' j y).toNat).a) % 256
/-- memory with the first j entries written over it -/
def QS.ov (S : QS) (mem : Nat → Nat) : Nat → Nat → Nat
  | 0, y => mem y
  | j + 1, y => if S.cv y j then (S.at j).d / 256 ^ (y - (S.at j).a) % 256 else QS.ov S mem j y
theorem QS.val_ov (S : QS) (mem : Nat → Nat) (y : Nat) : ∀ j, S.val mem j y = S.ov mem j y
  | 0 => by simp [QS.val, QS.from', lastI, QS.ov]
  | j + 1 => by
    have ih := QS.val_ov S mem y j
    unfold QS.ov
    unfold QS.val QS.from' at ih ⊢
    have e : lastI (S.cv y) (j + 1) = if S.cv y j then (j : Int) else lastI (S.cv y) j := rfl
    rw [e]
    cases h : S.cv y j
    · simpa using ih
    · simp
/-- all that the law holds, plainly -/
structure Ms where
  S : QS
  inn : Nat
  out : Nat
  got : Nat → Nat
  given : Nat → Bool
  known : Nat → Bool
  done : Nat → Bool
  mem : Nat → Nat
/-- a load that is done reads what stands now -/
structure Seen (S : QS) (mem : Nat → Nat) (got j : Nat) : Prop where
  fr : (S.at j).fr = (List.range (S.at j).z).map fun b => S.num (S.from' j ((S.at j).a + b))
  hv : ∀ b, b < (S.at j).z → S.from' j ((S.at j).a + b) ≠ -1 → (S.at (S.from' j ((S.at j).a + b)).toNat).hv = true
  got : got = leN (fun b => S.val mem j ((S.at j).a + b)) (S.at j).z
theorem seen_move {S S' : QS} {mem mem' : Nat → Nat} {got j j' : Nat} (h : Seen S mem got j) (ha : (S'.at j').a = (S.at j).a) (hz : (S'.at j').z = (S.at j).z) (hfr : ∀ b, b < (S.at j).z → (S'.at j').fr.getD b 0 = S'.num (S'.from' j' ((S.at j).a + b))) (hl : (S'.at j').fr.length = (S.at j).z) (hv : ∀ b, b < (S.at j).z → S'.from' j' ((S.at j).a + b) ≠ -1 → (S'.at (S'.from' j' ((S.at j).a + b)).toNat).hv = true) (hval : ∀ b, b < (S.at j).z → S'.val mem' j' ((S.at j).a + b) = S.val mem j ((S.at j).a + b)) : Seen S' mem' got j' := by
  refine ⟨?_, fun b hb => ?_, ?_⟩
  · rw [ha, hz]
    apply List.ext_getElem
    · simp [hl]
    · intro b h1 h2
      have hb : b < (S.at j).z := by rw [← hl]; exact h1
      have := hfr b hb
      rw [List.getD_eq_getElem?_getD, List.getElem?_eq_getElem h1] at this
      simpa using this
  · rw [hz] at hb
    rw [ha]
    exact hv b hb
  · rw [h.got, ha, hz]
    exact leN_congr _ _ _ (fun b hb => (hval b hb).symm)
/-- what it reads stays where its sources stay -/
theorem Seen.keep {S S' : QS} {mem : Nat → Nat} {got j : Nat} (h : Seen S mem got j) (hj : S'.at j = S.at j) (hf : ∀ b, b < (S.at j).z → S'.from' j ((S.at j).a + b) = S.from' j ((S.at j).a + b)) (hs : ∀ b, b < (S.at j).z → S.from' j ((S.at j).a + b) ≠ -1 → (S'.at (S.from' j ((S.at j).a + b)).toNat).n = (S.at (S.from' j ((S.at j).a + b)).toNat).n ∧ (S'.at (S.from' j ((S.at j).a + b)).toNat).a = (S.at (S.from' j ((S.at j).a + b)).toNat).a ∧ ((S.at (S.from' j ((S.at j).a + b)).toNat).hv = true → (S'.at (S.from' j ((S.at j).a + b)).toNat).hv = true ∧ (S'.at (S.from' j ((S.at j).a + b)).toNat).d = (S.at (S.from' j ((S.at j).a + b)).toNat).d)) : Seen S' mem got j := by
  have hl : (S.at j).fr.length = (S.at j).z := by rw [h.fr]; simp
  refine seen_move h (by rw [hj]) (by rw [hj]) (fun b hb => ?_) (by rw [hj]; exact hl) (fun b hb hne => ?_) (fun b hb => ?_)
  · rw [hj, h.fr, hf b hb]
    have e : ((List.range (S.at j).z).map fun b => S.num (S.from' j ((S.at j).a + b))).getD b 0 = S.num (S.from' j ((S.at j).a + b)) := by
      simp [List.getD_eq_getElem?_getD, hb]
    rw [e]
    unfold QS.num
    by_cases q : S.from' j ((S.at j).a + b) = -1
    · rw [if_pos q, if_pos q]
    · rw [if_neg q, if_neg q, (hs b hb q).1]
  · rw [hf b hb] at hne ⊢
    exact ((hs b hb hne).2.2 (h.hv b hb hne)).1
  · unfold QS.val
    rw [hf b hb]
    by_cases q : S.from' j ((S.at j).a + b) = -1
    · rw [if_pos q, if_pos q]
    · rw [if_neg q, if_neg q, (hs b hb q).2.1, ((hs b hb q).2.2 (h.hv b hb q)).2]
theorem lastI_same {f h : Nat → Bool} : ∀ (n : Nat), (∀ k, k < n → f k = h k) → lastI f n = lastI h n
  | 0, _ => rfl
  | n + 1, e => by
    unfold lastI
    rw [e n (by omega), lastI_same n (fun k hk => e k (by omega))]
theorem from_lt (S : QS) (j y : Nat) : S.from' j y = -1 ∨ (0 ≤ S.from' j y ∧ S.from' j y < j) := by
  unfold QS.from'
  have := lastI_ge (S.cv y) j
  omega
theorem from_cv (S : QS) (j y : Nat) (h : S.from' j y ≠ -1) : S.cv y (S.from' j y).toNat = true := by
  unfold QS.from' at h ⊢
  rcases lastI_t (S.cv y) j with q | ⟨k, q, -, q2⟩
  · exact absurd q h
  · rw [q, Int.toNat_natCast]
    exact q2
/-- all below are the same -/
theorem Seen.low {S S' : QS} {mem : Nat → Nat} {got j : Nat} (h : Seen S mem got j) (e : ∀ t, t ≤ j → S'.at t = S.at t) : Seen S' mem got j := by
  have hc : ∀ y, S'.from' j y = S.from' j y := fun y => lastI_same j (fun k hk => by unfold QS.cv; rw [e k (by omega)])
  refine h.keep (e j (Nat.le_refl _)) (fun b _ => hc _) (fun b _ hne => ?_)
  have := from_lt S j ((S.at j).a + b)
  rw [e _ (by omega)]
  exact ⟨rfl, rfl, fun q => ⟨q, rfl⟩⟩
/-- one that is no source is turned -/
theorem Seen.load {S : QS} {mem : Nat → Nat} {got j i : Nat} {y : Ac} (h : Seen S mem got j) (hi : i < S.on.length) (hji : j ≠ i) (h1 : (S.at i).st = false) (h2 : y.st = false) : Seen (S.set i y) mem got j := by
  have hat : ∀ t, t ≠ i → (S.set i y).at t = S.at t := fun t ht => S.at_set' i t y ht
  have hcv : ∀ u t, (S.set i y).cv u t = S.cv u t := fun u t => by
    unfold QS.cv
    by_cases e : t = i
    · subst e
      rw [S.at_set t y hi, h1, h2]
      rfl
    · rw [hat t e]
  have hc : ∀ u, (S.set i y).from' j u = S.from' j u := fun u => lastI_same j (fun k _ => hcv u k)
  refine h.keep (hat j hji) (fun b _ => hc _) (fun b _ hne => ?_)
  have hcs := from_cv S j _ hne
  have hni : (S.from' j ((S.at j).a + b)).toNat ≠ i := fun e => by
    rw [e] at hcs
    unfold QS.cv at hcs
    rw [h1] at hcs
    simp at hcs
  rw [hat _ hni]
  exact ⟨rfl, rfl, fun q => ⟨q, rfl⟩⟩
/-- a store that has no value gets one, or a store retires -/
theorem Seen.store {S : QS} {mem : Nat → Nat} {got j i : Nat} {y : Ac} (h : Seen S mem got j) (hi : i < S.on.length) (hji : j ≠ i) (hst : y.st = (S.at i).st) (hn : y.n = (S.at i).n) (ha : y.a = (S.at i).a) (hz : y.z = (S.at i).z) (hv : (S.at i).hv = true → y.hv = true ∧ y.d = (S.at i).d) : Seen (S.set i y) mem got j := by
  have hat : ∀ t, t ≠ i → (S.set i y).at t = S.at t := fun t ht => S.at_set' i t y ht
  have hcv : ∀ u t, (S.set i y).cv u t = S.cv u t := fun u t => by
    unfold QS.cv Ac.cov
    by_cases e : t = i
    · subst e
      rw [S.at_set t y hi, hst, ha, hz]
    · rw [hat t e]
  have hc : ∀ u, (S.set i y).from' j u = S.from' j u := fun u => lastI_same j (fun k _ => hcv u k)
  refine h.keep (hat j hji) (fun b _ => hc _) (fun b _ hne => ?_)
  by_cases e : (S.from' j ((S.at j).a + b)).toNat = i
  · rw [e, S.at_set i y hi]
    exact ⟨hn, ha, hv⟩
  · rw [hat _ e]
    exact ⟨rfl, rfl, fun q => ⟨q, rfl⟩⟩
theorem lastI_up {f h : Nat → Bool} {i : Nat} : ∀ (n : Nat), (∀ k, k ≠ i → h k = f k) → (i : Int) < lastI f n → lastI h n = lastI f n
  | 0, _, q => by simp [lastI] at q; omega
  | n + 1, e, q => by
    have e1 : lastI f (n + 1) = if f n then (n : Int) else lastI f n := rfl
    have e2 : lastI h (n + 1) = if h n then (n : Int) else lastI h n := rfl
    rw [e1] at q ⊢
    rw [e2]
    by_cases hn : n = i
    · subst hn
      exfalso
      split at q
      · omega
      · have := (lastI_ge f n).2
        omega
    · rw [e n hn]
      cases hf : f n
      · rw [hf] at q
        simp only [Bool.false_eq_true, if_false] at q ⊢
        exact lastI_up n e q
      · rfl
/-- a store is placed, and the load has not read too early -/
theorem Seen.place {S : QS} {mem : Nat → Nat} {got j i : Nat} {y : Ac} (h : Seen S mem got j) (asc : ∀ a b, a < b → b < S.on.length → (S.at a).n < (S.at b).n) (pos : ∀ a, a < S.on.length → 0 ≤ (S.at a).n) (hj : j < S.on.length) (hij : i < j) (hz : (S.at i).z = 0) (hn : y.n = (S.at i).n) (he : (S.at j).early y = false) : Seen (S.set i y) mem got j := by
  have hi : i < S.on.length := by omega
  have hat : ∀ t, t ≠ i → (S.set i y).at t = S.at t := fun t ht => S.at_set' i t y ht
  have hcn : ∀ u t, t ≠ i → (S.set i y).cv u t = S.cv u t := fun u t ht => by
    unfold QS.cv
    rw [hat t ht]
  have hci : ∀ u, S.cv u i = false := fun u => by
    unfold QS.cv Ac.cov
    rw [hz, decide_eq_false (by omega)]
    simp
  have hl : (S.at j).fr.length = (S.at j).z := by rw [h.fr]; simp
  have hfr : ∀ b, b < (S.at j).z → (S.at j).fr.getD b 0 = S.num (S.from' j ((S.at j).a + b)) := fun b hb => by
    rw [h.fr]
    simp [List.getD_eq_getElem?_getD, hb]
  have hc : ∀ b, b < (S.at j).z → (S.set i y).from' j ((S.at j).a + b) = S.from' j ((S.at j).a + b) := fun b hb => by
    by_cases hcov : y.cov ((S.at j).a + b) = true
    · have h1 : ¬ (S.at j).fr.getD b 0 < y.n := fun q => by
        have := Ac.early_t (e := S.at j) (s := y) (i := b) (by rw [hl]; exact hb) (by unfold Ac.early1; rw [decide_eq_true q, hcov]; rfl)
        rw [he] at this
        cases this
      rw [hfr b hb] at h1
      refine lastI_up j (fun k hk => hcn _ k hk) ?_
      show (i : Int) < S.from' j ((S.at j).a + b)
      unfold QS.num at h1
      have hr := from_lt S j ((S.at j).a + b)
      by_cases q : S.from' j ((S.at j).a + b) = -1
      · rw [if_pos q, hn] at h1
        have := pos i hi
        omega
      · rw [if_neg q, hn] at h1
        have hcs := from_cv S j _ q
        rcases Nat.lt_trichotomy (S.from' j ((S.at j).a + b)).toNat i with r | r | r
        · have := asc _ i r hi
          omega
        · rw [r, hci] at hcs
          cases hcs
        · omega
    · have hcf : y.cov ((S.at j).a + b) = false := by simpa using hcov
      refine lastI_same j (fun k _ => ?_)
      by_cases e : k = i
      · subst e
        rw [hci]
        unfold QS.cv
        rw [S.at_set k y hi, hcf]
        simp
      · exact hcn _ k e
  refine h.keep (hat j (by omega)) hc (fun b hb hne => ?_)
  have hcs := from_cv S j _ hne
  have hni : (S.from' j ((S.at j).a + b)).toNat ≠ i := fun e => by rw [e, hci] at hcs; cases hcs
  rw [hat _ hni]
  exact ⟨rfl, rfl, fun q => ⟨q, rfl⟩⟩
/-- an entry that covers nothing goes -/
theorem lastI_del {f : Nat → Bool} {r : Nat} (hr : f r = false) : ∀ n, r ≤ n → (lastI f (n + 1) = -1 ∧ lastI (fun k => f (skip r k)) n = -1) ∨ (∃ t : Nat, lastI f (n + 1) = (skip r t : Nat) ∧ lastI (fun k => f (skip r k)) n = t ∧ t < n) := by
  intro n
  induction n with
  | zero =>
    intro h
    obtain rfl : r = 0 := by omega
    exact Or.inl ⟨by simp [lastI, hr], rfl⟩
  | succ n ih =>
    intro h
    have e1 : lastI f (n + 1 + 1) = if f (n + 1) then ((n + 1 : Nat) : Int) else lastI f (n + 1) := rfl
    have e2 : lastI (fun k => f (skip r k)) (n + 1) = if f (skip r n) then (n : Int) else lastI (fun k => f (skip r k)) n := rfl
    by_cases hn : r ≤ n
    · have hs : skip r n = n + 1 := by unfold skip; rw [if_neg (by omega)]
      rw [e1, e2, hs]
      cases hf : f (n + 1)
      · simp only [Bool.false_eq_true, if_false]
        rcases ih hn with q | ⟨t, q1, q2, q3⟩
        · exact Or.inl q
        · exact Or.inr ⟨t, q1, q2, by omega⟩
      · simp only [if_true]
        exact Or.inr ⟨n, by rw [hs], rfl, by omega⟩
    · obtain rfl : r = n + 1 := by omega
      rw [e1, hr]
      simp only [Bool.false_eq_true, if_false]
      have e3 : lastI (fun k => f (skip (n + 1) k)) (n + 1) = lastI f (n + 1) := lastI_same _ (fun k hk => by unfold skip; rw [if_pos hk])
      rw [e3]
      rcases lastI_t f (n + 1) with q | ⟨t, q, q2, -⟩
      · exact Or.inl ⟨q, q⟩
      · refine Or.inr ⟨t, ?_, q, q2⟩
        rw [q]
        unfold skip
        rw [if_pos q2]
theorem Seen.del {S : QS} {mem : Nat → Nat} {got j r : Nat} (h : Seen S mem got (j + 1)) (hrj : r ≤ j) (hst : (S.at r).st = false) : Seen (S.del r) mem got j := by
  have hat : ∀ t, (S.del r).at t = S.at (skip r t) := fun t => S.at_del r t
  have hsj : skip r j = j + 1 := by unfold skip; rw [if_neg (by omega)]
  have hcv : ∀ y, S.cv y r = false := fun y => by unfold QS.cv; rw [hst]; rfl
  have hfrom : ∀ y, (S.from' (j + 1) y = -1 ∧ (S.del r).from' j y = -1) ∨ ∃ t : Nat, S.from' (j + 1) y = (skip r t : Nat) ∧ (S.del r).from' j y = t := fun y => by
    have e : (S.del r).from' j y = lastI (fun k => S.cv y (skip r k)) j := lastI_same j (fun k _ => by unfold QS.cv; rw [hat])
    rw [e]
    rcases lastI_del (hcv y) j hrj with q | ⟨t, q1, q2, -⟩
    · exact Or.inl q
    · exact Or.inr ⟨t, q1, q2⟩
  have hl : (S.at (j + 1)).fr.length = (S.at (j + 1)).z := by rw [h.fr]; simp
  refine seen_move h (by rw [hat, hsj]) (by rw [hat, hsj]) (fun b hb => ?_) (by rw [hat, hsj]; exact hl) (fun b hb hne => ?_) (fun b hb => ?_)
  · rw [hat, hsj, h.fr]
    have e : ((List.range (S.at (j + 1)).z).map fun b => S.num (S.from' (j + 1) ((S.at (j + 1)).a + b))).getD b 0 = S.num (S.from' (j + 1) ((S.at (j + 1)).a + b)) := by
      simp [List.getD_eq_getElem?_getD, hb]
    rw [e]
    rcases hfrom ((S.at (j + 1)).a + b) with ⟨q1, q2⟩ | ⟨t, q1, q2⟩
    · rw [q1, q2]; rfl
    · rw [q1, q2]
      unfold QS.num
      rw [if_neg (by omega), if_neg (by omega), Int.toNat_natCast, Int.toNat_natCast, hat]
  · rcases hfrom ((S.at (j + 1)).a + b) with ⟨q1, q2⟩ | ⟨t, q1, q2⟩
    · exact absurd q2 hne
    · have := h.hv b hb (by rw [q1]; omega)
      rw [q1, Int.toNat_natCast] at this
      rw [q2, Int.toNat_natCast, hat]
      exact this
  · unfold QS.val
    rcases hfrom ((S.at (j + 1)).a + b) with ⟨q1, q2⟩ | ⟨t, q1, q2⟩
    · rw [q1, q2, if_pos rfl, if_pos rfl]
    · rw [q1, q2, if_neg (by omega), if_neg (by omega), Int.toNat_natCast, Int.toNat_natCast, hat]
structure Kept (g : Nat → Acc) (n : Nat) (M : Ms) (r : Nat) : Prop where
  len : M.S.on.length = r + (M.inn - M.out)
  io : M.out ≤ M.inn ∧ M.inn ≤ n
  size : M.S.on.length ≤ M.S.size ∧ 0 < M.S.size
  old : ∀ j, j < r → (M.S.at j).rt = true ∧ (M.S.at j).st = true ∧ 0 < (M.S.at j).z ∧ (M.S.at j).hv = true ∧ (M.S.at j).n < M.out ∧ 64 ≤ (M.S.at j).a ∧ (M.S.at j).a + (M.S.at j).z ≤ 80
  num : ∀ i, i < M.inn - M.out → (M.S.at (r + i)).n = ((M.out + i : Nat) : Int)
  asc : ∀ i j, i < j → j < M.S.on.length → (M.S.at i).n < (M.S.at j).n
  new : ∀ i, i < M.inn - M.out → (M.S.at (r + i)).rt = false ∧ (M.S.at (r + i)).st = (g (M.out + i)).st
  giv : ∀ i, i < M.inn - M.out → if M.given (M.out + i) then (M.S.at (r + i)).a = (g (M.out + i)).a ∧ (M.S.at (r + i)).z = (g (M.out + i)).z else (M.S.at (r + i)).z = 0
  kno : ∀ i, i < M.inn - M.out → (g (M.out + i)).st = true → (M.S.at (r + i)).hv = M.known (M.out + i) ∧ (M.known (M.out + i) = true → (M.S.at (r + i)).d = (g (M.out + i)).da)
  don : ∀ i, i < M.inn - M.out → if M.done (M.out + i) then (g (M.out + i)).st = false ∧ M.given (M.out + i) = true ∧ Seen M.S M.mem (M.got (M.out + i)) (r + i) else (M.S.at (r + i)).fr = []
  fresh : ∀ k, M.inn ≤ k → M.given k = false ∧ M.known k = false ∧ M.done k = false
  mem : ∀ y, 64 ≤ y → y < 80 → M.S.ov M.mem r y = seqM g M.out y
  gots : ∀ k, k < M.out → (g k).st = false → M.got k = right g k
  bytes : ∀ y, M.mem y < 256
end Go.Proofs.YthbffonedpeeiaaDoor
/-
  LSQ's LAW LsqMemory: each step keeps it, plainly.
-/
namespace Go.Proofs.YthbffonedpeeiaaDoor
open Go Go.RowKit
theorem QS.memT_at' (S : QS) (n : Int) (j : Nat) (h : j < S.on.length) : (S.memT n S.on.length).at j = (S.at j).wr n := by
  unfold QS.memT QS.at
  simp [List.getD_eq_getElem?_getD, h]
theorem QS.dr_len (S : QS) (h : 0 < S.on.length) : S.drained.on.length = S.on.length - 1 := by
  have hl := S.del_len 0 h
  unfold QS.drained
  rw [QS.memT_len _ _ _ (by omega), hl]
theorem QS.dr_at (S : QS) (h : 0 < S.on.length) (j : Nat) (hj : j < S.on.length - 1) : S.drained.at j = (S.at (j + 1)).wr (S.at 0).n := by
  have hl := S.del_len 0 h
  unfold QS.drained
  have e := QS.memT_at' (S.del 0) (S.at 0).n j (by omega)
  rw [hl] at e
  rw [e, S.at_del]
  rfl
def QS.mem1 (S : QS) (mem : Nat → Nat) (y : Nat) : Nat := if (S.at 0).cov y then (S.at 0).d / 256 ^ (y - (S.at 0).a) % 256 else mem y
theorem lastI_tail {f : Nat → Bool} : ∀ n, (lastI f (n + 1) = -1 ∧ lastI (fun k => f (k + 1)) n = -1 ∧ f 0 = false) ∨ (lastI f (n + 1) = 0 ∧ lastI (fun k => f (k + 1)) n = -1 ∧ f 0 = true) ∨ ∃ t : Nat, lastI f (n + 1) = ((t + 1 : Nat) : Int) ∧ lastI (fun k => f (k + 1)) n = t ∧ t < n := by
  intro n
  induction n with
  | zero =>
    cases h : f 0
    · exact Or.inl ⟨by simp [lastI, h], rfl, rfl⟩
    · exact Or.inr (Or.inl ⟨by simp [lastI, h], rfl, rfl⟩)
  | succ n ih =>
    have e1 : lastI f (n + 1 + 1) = if f (n + 1) then ((n + 1 : Nat) : Int) else lastI f (n + 1) := rfl
    have e2 : lastI (fun k => f (k + 1)) (n + 1) = if f (n + 1) then (n : Int) else lastI (fun k => f (k + 1)) n := rfl
    rw [e1, e2]
    cases hf : f (n + 1)
    · simp only [Bool.false_eq_true, if_false]
      rcases ih with q | q | ⟨t, q1, q2, q3⟩
      · exact Or.inl q
      · exact Or.inr (Or.inl q)
      · exact Or.inr (Or.inr ⟨t, q1, q2, by omega⟩)
    · simp only [if_true]
      exact Or.inr (Or.inr ⟨n, rfl, rfl, by omega⟩)
theorem Seen.drain {S : QS} {mem : Nat → Nat} {got j : Nat} (h : Seen S mem got (j + 1)) (hj : j + 1 < S.on.length) (hst : (S.at 0).st = true) (asc : ∀ a b, a < b → b < S.on.length → (S.at a).n < (S.at b).n) (pos : ∀ a, a < S.on.length → 0 ≤ (S.at a).n) : Seen S.drained (S.mem1 mem) got j := by
  have h0 : 0 < S.on.length := by omega
  have hat : ∀ t, t < S.on.length - 1 → S.drained.at t = (S.at (t + 1)).wr (S.at 0).n := fun t ht => S.dr_at h0 t ht
  have hc0 : ∀ y, S.cv y 0 = (S.at 0).cov y := fun y => by unfold QS.cv; rw [hst]; rfl
  have hfrom : ∀ y, (S.from' (j + 1) y = -1 ∧ S.drained.from' j y = -1 ∧ (S.at 0).cov y = false) ∨ (S.from' (j + 1) y = 0 ∧ S.drained.from' j y = -1 ∧ (S.at 0).cov y = true) ∨ ∃ t : Nat, S.from' (j + 1) y = ((t + 1 : Nat) : Int) ∧ S.drained.from' j y = t ∧ t < j := fun y => by
    have e : S.drained.from' j y = lastI (fun k => S.cv y (k + 1)) j := lastI_same j (fun k hk => by unfold QS.cv; rw [hat k (by omega)]; rfl)
    rw [e, ← hc0]
    exact lastI_tail j
  have hl : (S.at (j + 1)).fr.length = (S.at (j + 1)).z := by rw [h.fr]; simp
  have hfr : ∀ b, b < (S.at (j + 1)).z → (S.at (j + 1)).fr.getD b 0 = S.num (S.from' (j + 1) ((S.at (j + 1)).a + b)) := fun b hb => by
    rw [h.fr]
    simp [List.getD_eq_getElem?_getD, hb]
  refine seen_move h (by rw [hat j (by omega)]; rfl) (by rw [hat j (by omega)]; rfl) (fun b hb => ?_) (by rw [hat j (by omega)]; show ((S.at (j + 1)).fr.map _).length = _; rw [List.length_map]; exact hl) (fun b hb hne => ?_) (fun b hb => ?_)
  · rw [hat j (by omega)]
    have e : ((S.at (j + 1)).wr (S.at 0).n).fr.getD b 0 = toMem (S.at 0).n ((S.at (j + 1)).fr.getD b 0) := by
      show ((S.at (j + 1)).fr.map (toMem (S.at 0).n)).getD b 0 = _
      have hb' : b < (S.at (j + 1)).fr.length := by omega
      simp [List.getD_eq_getElem?_getD, hb']
    rw [e, hfr b hb]
    rcases hfrom ((S.at (j + 1)).a + b) with ⟨q1, q2, -⟩ | ⟨q1, q2, -⟩ | ⟨t, q1, q2, q3⟩
    · rw [q1, q2]
      have e1 : S.num (-1) = -1 := rfl
      have e2 : S.drained.num (-1) = -1 := rfl
      rw [e1, e2]
      unfold toMem
      have := pos 0 h0
      rw [if_neg (by omega)]
    · rw [q1, q2]
      have e1 : S.num 0 = (S.at 0).n := rfl
      have e2 : S.drained.num (-1) = -1 := rfl
      rw [e1, e2]
      unfold toMem
      rw [if_pos rfl]
    · rw [q1, q2]
      have e1 : S.num ((t + 1 : Nat) : Int) = (S.at (t + 1)).n := by unfold QS.num; rw [if_neg (by omega), Int.toNat_natCast]
      have e2 : S.drained.num (t : Int) = (S.at (t + 1)).n := by unfold QS.num; rw [if_neg (by omega), Int.toNat_natCast, hat t (by omega)]; rfl
      rw [e1, e2]
      unfold toMem
      have := asc 0 (t + 1) (by omega) (by omega)
      rw [if_neg (by omega)]
  · rcases hfrom ((S.at (j + 1)).a + b) with ⟨q1, q2, -⟩ | ⟨q1, q2, -⟩ | ⟨t, q1, q2, q3⟩
    · exact absurd q2 hne
    · exact absurd q2 hne
    · have := h.hv b hb (by rw [q1]; omega)
      rw [q1, Int.toNat_natCast] at this
      rw [q2, Int.toNat_natCast, hat t (by omega)]
      exact this
  · unfold QS.val
    rcases hfrom ((S.at (j + 1)).a + b) with ⟨q1, q2, q3⟩ | ⟨q1, q2, q3⟩ | ⟨t, q1, q2, q3⟩
    · rw [q1, q2, if_pos rfl, if_pos rfl]
      unfold QS.mem1
      rw [q3]
      rfl
    · rw [q1, q2, if_pos rfl, if_neg (by omega)]
      unfold QS.mem1
      rw [q3]
      rfl
    · rw [q1, q2, if_neg (by omega), if_neg (by omega), Int.toNat_natCast, Int.toNat_natCast, hat t (by omega)]
      rfl
theorem QS.ov_dr (S : QS) (mem : Nat → Nat) (h0 : 0 < S.on.length) (hst : (S.at 0).st = true) (y : Nat) : ∀ j, j < S.on.length → S.drained.ov (S.mem1 mem) j y = S.ov mem (j + 1) y
  | 0, _ => by
    unfold QS.ov QS.mem1 QS.cv
    rw [hst]
    rfl
  | j + 1, hj => by
    have ih := QS.ov_dr S mem h0 hst y j (by omega)
    have e1 : S.drained.ov (S.mem1 mem) (j + 1) y = if S.drained.cv y j then (S.drained.at j).d / 256 ^ (y - (S.drained.at j).a) % 256 else S.drained.ov (S.mem1 mem) j y := rfl
    have e2 : S.ov mem (j + 1 + 1) y = if S.cv y (j + 1) then (S.at (j + 1)).d / 256 ^ (y - (S.at (j + 1)).a) % 256 else S.ov mem (j + 1) y := rfl
    have e3 : S.drained.cv y j = S.cv y (j + 1) := by unfold QS.cv; rw [S.dr_at h0 j (by omega)]; rfl
    rw [e1, e2, e3, ih, S.dr_at h0 j (by omega)]
    rfl
theorem QS.ov_same {S S' : QS} {mem : Nat → Nat} (y : Nat) : ∀ j, (∀ t, t < j → S'.at t = S.at t) → S'.ov mem j y = S.ov mem j y
  | 0, _ => rfl
  | j + 1, h => by
    have ih := QS.ov_same (S := S) (S' := S') (mem := mem) y j (fun t ht => h t (by omega))
    unfold QS.ov QS.cv
    rw [h j (by omega), ih]
section
variable {g : Nat → Acc} {n : Nat} {M : Ms} {r : Nat}
theorem Kept.enter (K : Kept g n M r) (h : M.inn < n) (hs : M.S.on.length < M.S.size) : Kept g n { M with S := ⟨M.S.size, M.S.on ++ [newA M.inn (g M.inn).st]⟩, inn := M.inn + 1 } r := by
  have hl : (M.S.on ++ [newA M.inn (g M.inn).st]).length = M.S.on.length + 1 := by simp
  have hlen := K.len
  have hio := K.io
  have at1 : ∀ j, j < M.S.on.length → QS.at ⟨M.S.size, M.S.on ++ [newA M.inn (g M.inn).st]⟩ j = M.S.at j := fun j hj => M.S.at_push _ j hj
  have at2 : QS.at ⟨M.S.size, M.S.on ++ [newA M.inn (g M.inn).st]⟩ M.S.on.length = newA M.inn (g M.inn).st := M.S.at_last _
  have hlast : r + (M.inn - M.out) = M.S.on.length := hlen.symm
  have split : ∀ i, i < M.inn + 1 - M.out → i < M.inn - M.out ∨ i = M.inn - M.out := fun i hi => by omega
  have hnum : M.out + (M.inn - M.out) = M.inn := by omega
  have hfr := K.fresh M.inn (Nat.le_refl _)
  refine ⟨?_, ⟨by show M.out ≤ M.inn + 1; omega, h⟩, ⟨?_, K.size.2⟩, fun j hj => ?_, fun i hi => ?_, fun a b hab hb => ?_, fun i hi => ?_, fun i hi => ?_, fun i hi => ?_, fun i hi => ?_, fun k hk => K.fresh k (by have hk : M.inn + 1 ≤ k := hk; omega), fun y h1 h2 => ?_, K.gots, K.bytes⟩
  · show (M.S.on ++ [newA M.inn (g M.inn).st]).length = r + (M.inn + 1 - M.out)
    omega
  · show (M.S.on ++ [newA M.inn (g M.inn).st]).length ≤ M.S.size
    omega
  · rw [at1 j (by omega)]
    exact K.old j hj
  · rcases split i hi with q | q
    · rw [at1 _ (by omega)]
      exact K.num i q
    · subst q
      rw [hlast, at2, hnum]
      rfl
  · have hb2 : b < (M.S.on ++ [newA M.inn (g M.inn).st]).length := hb
    rw [hl] at hb2
    rw [at1 a (by omega)]
    by_cases e : b = M.S.on.length
    · rw [e, at2]
      show (M.S.at a).n < (M.inn : Int)
      rcases Nat.lt_or_ge a r with q | q
      · have := (K.old a q).2.2.2.2
        omega
      · have := K.num (a - r) (by omega)
        rw [show r + (a - r) = a by omega] at this
        omega
    · rw [at1 b (by omega)]
      exact K.asc a b hab (by omega)
  · rcases split i hi with q | q
    · rw [at1 _ (by omega)]
      exact K.new i q
    · subst q
      rw [hlast, at2, hnum]
      exact ⟨rfl, rfl⟩
  · rcases split i hi with q | q
    · rw [at1 _ (by omega)]
      exact K.giv i q
    · subst q
      rw [hlast, at2, hnum, hfr.1]
      rfl
  · rcases split i hi with q | q
    · rw [at1 _ (by omega)]
      exact K.kno i q
    · subst q
      rw [hlast, at2, hnum, hfr.2.1]
      exact fun _ => ⟨rfl, fun q => by cases q⟩
  · rcases split i hi with q | q
    · have := K.don i q
      rw [at1 _ (by omega)]
      split
      · rename_i hd
        rw [if_pos hd] at this
        exact ⟨this.1, this.2.1, this.2.2.low (fun t ht => at1 t (by omega))⟩
      · rename_i hd
        rw [if_neg hd] at this
        exact this
    · subst q
      rw [hlast, at2, hnum, hfr.2.2]
      rfl
  · show QS.ov ⟨M.S.size, M.S.on ++ [newA M.inn (g M.inn).st]⟩ M.mem r y = seqM g M.out y
    rw [QS.ov_same y r (fun t ht => at1 t (by omega))]
    exact K.mem y h1 h2
/-- an entry that has not retired is turned -/
theorem Kept.turn (K : Kept g n M r) (i : Nat) (hi : i < M.inn - M.out) (y : Ac) (got : Nat → Nat) (given known done : Nat → Bool) (hn : y.n = (M.S.at (r + i)).n) (hrt : y.rt = false) (hst : y.st = (M.S.at (r + i)).st)
    (o1 : ∀ k, k ≠ M.out + i → got k = M.got k ∧ given k = M.given k ∧ known k = M.known k ∧ done k = M.done k)
    (hgiv : if given (M.out + i) then y.a = (g (M.out + i)).a ∧ y.z = (g (M.out + i)).z else y.z = 0)
    (hkno : (g (M.out + i)).st = true → y.hv = known (M.out + i) ∧ (known (M.out + i) = true → y.d = (g (M.out + i)).da))
    (hdon : if done (M.out + i) then (g (M.out + i)).st = false ∧ given (M.out + i) = true ∧ Seen (M.S.set (r + i) y) M.mem (got (M.out + i)) (r + i) else y.fr = [])
    (hseen : ∀ j, j < M.S.on.length → j ≠ r + i → ∀ v, Seen M.S M.mem v j → Seen (M.S.set (r + i) y) M.mem v j) : Kept g n { M with S := M.S.set (r + i) y, got := got, given := given, known := known, done := done } r := by
  have hlen := K.len
  have hri : r + i < M.S.on.length := by omega
  have hl := M.S.set_len (r + i) y
  have ats : (M.S.set (r + i) y).at (r + i) = y := M.S.at_set _ y hri
  have atn : ∀ j, j ≠ r + i → (M.S.set (r + i) y).at j = M.S.at j := fun j hj => M.S.at_set' _ j y hj
  have hN : ∀ j, ((M.S.set (r + i) y).at j).n = (M.S.at j).n := fun j => by
    by_cases e : j = r + i
    · rw [e, ats, hn]
    · rw [atn j e]
  refine ⟨by show (M.S.set (r + i) y).on.length = _; rw [hl]; exact hlen, K.io, ⟨by show (M.S.set (r + i) y).on.length ≤ _; rw [hl]; exact K.size.1, K.size.2⟩, fun j hj => ?_, fun t ht => ?_, fun a b hab hb => ?_, fun t ht => ?_, fun t ht => ?_, fun t ht => ?_, fun t ht => ?_, fun k hk => ?_, fun u h1 h2 => ?_, fun k hk hs => ?_, K.bytes⟩
  · show ((M.S.set (r + i) y).at j).rt = true ∧ _
    rw [atn j (by omega)]
    exact K.old j hj
  all_goals try (have ht : t < M.inn - M.out := ht)
  · show ((M.S.set (r + i) y).at (r + t)).n = _
    rw [hN]
    exact K.num t ht
  · show ((M.S.set (r + i) y).at a).n < ((M.S.set (r + i) y).at b).n
    have hb' : b < (M.S.set (r + i) y).on.length := hb
    rw [hN, hN]
    exact K.asc a b hab (by rw [hl] at hb'; exact hb')
  · show ((M.S.set (r + i) y).at (r + t)).rt = false ∧ _
    by_cases e : t = i
    · subst e
      rw [ats]
      exact ⟨hrt, by rw [hst]; exact (K.new t ht).2⟩
    · rw [atn _ (by omega)]
      exact K.new t ht
  · show if given (M.out + t) = true then ((M.S.set (r + i) y).at (r + t)).a = _ ∧ _ else _
    by_cases e : t = i
    · subst e
      rw [ats]
      exact hgiv
    · rw [atn _ (by omega), (o1 (M.out + t) (by omega)).2.1]
      exact K.giv t ht
  · show (g (M.out + t)).st = true → ((M.S.set (r + i) y).at (r + t)).hv = known (M.out + t) ∧ (known (M.out + t) = true → ((M.S.set (r + i) y).at (r + t)).d = (g (M.out + t)).da)
    by_cases e : t = i
    · subst e
      rw [ats]
      exact hkno
    · rw [atn _ (by omega), (o1 (M.out + t) (by omega)).2.2.1]
      exact K.kno t ht
  · show if done (M.out + t) = true then _ ∧ given (M.out + t) = true ∧ Seen (M.S.set (r + i) y) M.mem (got (M.out + t)) (r + t) else ((M.S.set (r + i) y).at (r + t)).fr = []
    by_cases e : t = i
    · subst e
      rw [ats]
      exact hdon
    · obtain ⟨q1, q2, -, q4⟩ := o1 (M.out + t) (by omega)
      rw [atn _ (by omega), q1, q2, q4]
      have := K.don t ht
      split
      · rename_i hd
        rw [if_pos hd] at this
        exact ⟨this.1, this.2.1, hseen _ (by omega) (by omega) _ this.2.2⟩
      · rename_i hd
        rw [if_neg hd] at this
        exact this
  · have hk' : M.inn ≤ k := hk
    obtain ⟨-, q2, q3, q4⟩ := o1 k (by omega)
    show given k = false ∧ known k = false ∧ done k = false
    rw [q2, q3, q4]
    exact K.fresh k hk'
  · show (M.S.set (r + i) y).ov M.mem r u = _
    rw [QS.ov_same u r (fun t ht => atn t (by omega))]
    exact K.mem u h1 h2
  · have hk' : k < M.out := hk
    show got k = _
    rw [(o1 k (by omega)).1]
    exact K.gots k hk' hs
/-- all from one on is thrown away -/
theorem Kept.back (K : Kept g n M r) (i : Nat) (hi : i ≤ M.inn - M.out) (given known done : Nat → Bool) (o1 : ∀ k, k < M.out + i → given k = M.given k ∧ known k = M.known k ∧ done k = M.done k) (o2 : ∀ k, M.out + i ≤ k → given k = false ∧ known k = false ∧ done k = false) : Kept g n { M with S := M.S.cut (r + i), inn := M.out + i, given := given, known := known, done := done } r := by
  have hlen := K.len
  have hio := K.io
  have hl := M.S.cut_len (r + i) (by omega)
  have atc : ∀ j, j < r + i → (M.S.cut (r + i)).at j = M.S.at j := fun j hj => M.S.at_cut _ j hj
  refine ⟨by show (M.S.cut (r + i)).on.length = _; rw [hl]; show r + i = r + (M.out + i - M.out); omega, ⟨by show M.out ≤ M.out + i; omega, by show M.out + i ≤ n; omega⟩, ⟨by show (M.S.cut (r + i)).on.length ≤ M.S.size; have := K.size.1; omega, K.size.2⟩, fun j hj => ?_, fun t ht => ?_, fun a b hab hb => ?_, fun t ht => ?_, fun t ht => ?_, fun t ht => ?_, fun t ht => ?_, fun k hk => o2 k hk, fun u h1 h2 => ?_, K.gots, K.bytes⟩
  · show ((M.S.cut (r + i)).at j).rt = true ∧ _
    rw [atc j (by omega)]
    exact K.old j hj
  all_goals try (have ht : t < M.out + i - M.out := ht)
  · show ((M.S.cut (r + i)).at (r + t)).n = _
    rw [atc _ (by omega)]
    exact K.num t (by omega)
  · have hb' : b < (M.S.cut (r + i)).on.length := hb
    rw [hl] at hb'
    show ((M.S.cut (r + i)).at a).n < ((M.S.cut (r + i)).at b).n
    rw [atc _ (by omega), atc _ hb']
    exact K.asc a b hab (by omega)
  · show ((M.S.cut (r + i)).at (r + t)).rt = false ∧ _
    rw [atc _ (by omega)]
    exact K.new t (by omega)
  · show if given (M.out + t) = true then ((M.S.cut (r + i)).at (r + t)).a = _ ∧ _ else _
    rw [atc _ (by omega), (o1 (M.out + t) (by omega)).1]
    exact K.giv t (by omega)
  · show (g (M.out + t)).st = true → ((M.S.cut (r + i)).at (r + t)).hv = known (M.out + t) ∧ (known (M.out + t) = true → ((M.S.cut (r + i)).at (r + t)).d = (g (M.out + t)).da)
    rw [atc _ (by omega), (o1 (M.out + t) (by omega)).2.1]
    exact K.kno t (by omega)
  · show if done (M.out + t) = true then _ ∧ given (M.out + t) = true ∧ Seen (M.S.cut (r + i)) M.mem (M.got (M.out + t)) (r + t) else ((M.S.cut (r + i)).at (r + t)).fr = []
    obtain ⟨q1, -, q3⟩ := o1 (M.out + t) (by omega)
    rw [atc _ (by omega), q1, q3]
    have := K.don t (by omega)
    split
    · rename_i hd
      rw [if_pos hd] at this
      exact ⟨this.1, this.2.1, this.2.2.low (fun s hs => atc s (by omega))⟩
    · rename_i hd
      rw [if_neg hd] at this
      exact this
  · show (M.S.cut (r + i)).ov M.mem r u = _
    rw [QS.ov_same u r (fun t ht => atc t (by omega))]
    exact K.mem u h1 h2
end
end Go.Proofs.YthbffonedpeeiaaDoor
/-
  LSQ's LAW LsqMemory: what retires, what is written, keeps it.
-/
namespace Go.Proofs.YthbffonedpeeiaaDoor
open Go Go.RowKit
section
variable {g : Nat → Acc} {n : Nat} {M : Ms} {r : Nat}
theorem Kept.retS (K : Kept g n M r) (h : M.out < M.inn) (hst : (g M.out).st = true) (hg : M.given M.out = true) (hk : M.known M.out = true) : Kept g n { M with S := M.S.set r { M.S.at r with rt := true }, out := M.out + 1 } (r + 1) := by
  have hlen := K.len
  have hio := K.io
  have hr : r < M.S.on.length := by omega
  have e0 : r + 0 = r := rfl
  have hl := M.S.set_len r { M.S.at r with rt := true }
  have ats : (M.S.set r { M.S.at r with rt := true }).at r = { M.S.at r with rt := true } := M.S.at_set _ _ hr
  have atn : ∀ j, j ≠ r → (M.S.set r { M.S.at r with rt := true }).at j = M.S.at j := fun j hj => M.S.at_set' _ j _ hj
  have hN : ∀ j, ((M.S.set r { M.S.at r with rt := true }).at j).n = (M.S.at j).n := fun j => by
    by_cases e : j = r
    · rw [e, ats]
    · rw [atn j e]
  have hgiv := K.giv 0 (by omega)
  have hkno := K.kno 0 (by omega)
  have hnum := K.num 0 (by omega)
  have hnew := K.new 0 (by omega)
  simp only [Nat.add_zero] at hgiv hkno hnum hnew
  rw [if_pos hg] at hgiv
  have hkn := hkno hst
  have hzz := (g M.out).z_is
  refine ⟨by show (M.S.set r _).on.length = r + 1 + (M.inn - (M.out + 1)); rw [hl]; omega, ⟨h, K.io.2⟩, ⟨by show (M.S.set r _).on.length ≤ M.S.size; rw [hl]; exact K.size.1, K.size.2⟩, fun j hj => ?_, fun t ht => ?_, fun a b hab hb => ?_, fun t ht => ?_, fun t ht => ?_, fun t ht => ?_, fun t ht => ?_, K.fresh, fun u h1 h2 => ?_, fun k hk' hs => ?_, K.bytes⟩
  · show ((M.S.set r { M.S.at r with rt := true }).at j).rt = true ∧ ((M.S.set r { M.S.at r with rt := true }).at j).st = true ∧ 0 < ((M.S.set r { M.S.at r with rt := true }).at j).z ∧ ((M.S.set r { M.S.at r with rt := true }).at j).hv = true ∧ ((M.S.set r { M.S.at r with rt := true }).at j).n < ((M.out + 1 : Nat) : Int) ∧ 64 ≤ ((M.S.set r { M.S.at r with rt := true }).at j).a ∧ ((M.S.set r { M.S.at r with rt := true }).at j).a + ((M.S.set r { M.S.at r with rt := true }).at j).z ≤ 80
    by_cases e : j = r
    · rw [e, ats]
      refine ⟨rfl, by rw [show ({ M.S.at r with rt := true } : Ac).st = (M.S.at r).st from rfl, hnew.2]; exact hst, ?_, ?_, ?_⟩
      · show 0 < (M.S.at r).z
        omega
      · show (M.S.at r).hv = true
        rw [hkn.1]; exact hk
      · show (M.S.at r).n < _ ∧ 64 ≤ (M.S.at r).a ∧ (M.S.at r).a + (M.S.at r).z ≤ 80
        have := (g M.out).a_is
        omega
    · rw [atn j e]
      obtain ⟨q1, q2, q3, q4, q5⟩ := K.old j (by omega)
      exact ⟨q1, q2, q3, q4, by omega⟩
  all_goals try (have ht : t + 1 < M.inn - M.out := by have : t < M.inn - (M.out + 1) := ht; omega)
  all_goals try (have ei : r + 1 + t = r + (t + 1) := by omega)
  all_goals try (have eo : M.out + 1 + t = M.out + (t + 1) := by omega)
  · show ((M.S.set r { M.S.at r with rt := true }).at (r + 1 + t)).n = ((M.out + 1 + t : Nat) : Int)
    rw [hN, ei, eo]
    exact K.num (t + 1) ht
  · have hb' : b < (M.S.set r { M.S.at r with rt := true }).on.length := hb
    rw [hl] at hb'
    show ((M.S.set r { M.S.at r with rt := true }).at a).n < ((M.S.set r { M.S.at r with rt := true }).at b).n
    rw [hN, hN]
    exact K.asc a b hab hb'
  · show ((M.S.set r { M.S.at r with rt := true }).at (r + 1 + t)).rt = false ∧ ((M.S.set r { M.S.at r with rt := true }).at (r + 1 + t)).st = (g (M.out + 1 + t)).st
    rw [atn _ (by omega), ei, eo]
    exact K.new (t + 1) ht
  · show if M.given (M.out + 1 + t) = true then ((M.S.set r { M.S.at r with rt := true }).at (r + 1 + t)).a = (g (M.out + 1 + t)).a ∧ ((M.S.set r { M.S.at r with rt := true }).at (r + 1 + t)).z = (g (M.out + 1 + t)).z else ((M.S.set r { M.S.at r with rt := true }).at (r + 1 + t)).z = 0
    rw [atn _ (by omega), ei, eo]
    exact K.giv (t + 1) ht
  · show (g (M.out + 1 + t)).st = true → ((M.S.set r { M.S.at r with rt := true }).at (r + 1 + t)).hv = M.known (M.out + 1 + t) ∧ (M.known (M.out + 1 + t) = true → ((M.S.set r { M.S.at r with rt := true }).at (r + 1 + t)).d = (g (M.out + 1 + t)).da)
    rw [atn _ (by omega), ei, eo]
    exact K.kno (t + 1) ht
  · show if M.done (M.out + 1 + t) = true then (g (M.out + 1 + t)).st = false ∧ M.given (M.out + 1 + t) = true ∧ Seen (M.S.set r { M.S.at r with rt := true }) M.mem (M.got (M.out + 1 + t)) (r + 1 + t) else ((M.S.set r { M.S.at r with rt := true }).at (r + 1 + t)).fr = []
    rw [atn _ (by omega), ei, eo]
    have := K.don (t + 1) ht
    split
    · rename_i hd
      rw [if_pos hd] at this
      exact ⟨this.1, this.2.1, this.2.2.store hr (by omega) rfl rfl rfl rfl (fun q => ⟨q, rfl⟩)⟩
    · rename_i hd
      rw [if_neg hd] at this
      exact this
  · show (M.S.set r { M.S.at r with rt := true }).ov M.mem (r + 1) u = seqM g (M.out + 1) u
    have e1 : (M.S.set r { M.S.at r with rt := true }).ov M.mem (r + 1) u = if (M.S.set r { M.S.at r with rt := true }).cv u r then ((M.S.set r { M.S.at r with rt := true }).at r).d / 256 ^ (u - ((M.S.set r { M.S.at r with rt := true }).at r).a) % 256 else (M.S.set r { M.S.at r with rt := true }).ov M.mem r u := rfl
    rw [e1, QS.ov_same u r (fun t ht => atn t (by omega)), K.mem u h1 h2]
    unfold QS.cv
    rw [ats]
    show (if ((M.S.at r).st && (M.S.at r).cov u) = true then (M.S.at r).d / 256 ^ (u - (M.S.at r).a) % 256 else seqM g M.out u) = _
    have e2 : seqM g (M.out + 1) u = if (g M.out).st = true ∧ (g M.out).a ≤ u ∧ u < (g M.out).a + (g M.out).z then (g M.out).da / 256 ^ (u - (g M.out).a) % 256 else seqM g M.out u := rfl
    rw [e2]
    unfold Ac.cov
    rw [hnew.2, hst, hgiv.1, hgiv.2, hkn.2 hk, Bool.true_and]
    by_cases c : (g M.out).a ≤ u ∧ u < (g M.out).a + (g M.out).z
    · rw [decide_eq_true c, if_pos rfl, if_pos ⟨rfl, c⟩]
    · rw [decide_eq_false c, if_neg (by simp), if_neg (fun q => c q.2)]
  · have hk2 : k < M.out + 1 := hk'
    by_cases e : k = M.out
    · rw [e, hst] at hs
      cases hs
    · exact K.gots k (by omega) hs
theorem Kept.retL (K : Kept g n M r) (h : M.out < M.inn) (hst : (g M.out).st = false) (hd : M.done M.out = true) : Kept g n { M with S := M.S.del r, out := M.out + 1 } r := by
  have hlen := K.len
  have hio := K.io
  have hr : r < M.S.on.length := by omega
  have hl := M.S.del_len r hr
  have atl : ∀ j, j < r → (M.S.del r).at j = M.S.at j := fun j hj => by rw [M.S.at_del]; unfold skip; rw [if_pos hj]
  have ath : ∀ j, r ≤ j → (M.S.del r).at j = M.S.at (j + 1) := fun j hj => by rw [M.S.at_del]; unfold skip; rw [if_neg (by omega)]
  have hdon := K.don 0 (by omega)
  have hgiv := K.giv 0 (by omega)
  have hnew := K.new 0 (by omega)
  simp only [Nat.add_zero] at hdon hgiv hnew
  rw [if_pos hd] at hdon
  rw [if_pos hdon.2.1] at hgiv
  have hstr : (M.S.at r).st = false := by rw [hnew.2]; exact hst
  refine ⟨by show (M.S.del r).on.length = r + (M.inn - (M.out + 1)); omega, ⟨h, K.io.2⟩, ⟨by show (M.S.del r).on.length ≤ M.S.size; have := K.size.1; omega, K.size.2⟩, fun j hj => ?_, fun t ht => ?_, fun a b hab hb => ?_, fun t ht => ?_, fun t ht => ?_, fun t ht => ?_, fun t ht => ?_, K.fresh, fun u h1 h2 => ?_, fun k hk' hs => ?_, K.bytes⟩
  · show ((M.S.del r).at j).rt = true ∧ ((M.S.del r).at j).st = true ∧ 0 < ((M.S.del r).at j).z ∧ ((M.S.del r).at j).hv = true ∧ ((M.S.del r).at j).n < ((M.out + 1 : Nat) : Int) ∧ 64 ≤ ((M.S.del r).at j).a ∧ ((M.S.del r).at j).a + ((M.S.del r).at j).z ≤ 80
    rw [atl j hj]
    obtain ⟨q1, q2, q3, q4, q5⟩ := K.old j hj
    exact ⟨q1, q2, q3, q4, by omega⟩
  all_goals try (have ht : t + 1 < M.inn - M.out := by have : t < M.inn - (M.out + 1) := ht; omega)
  all_goals try (have ei : r + t + 1 = r + (t + 1) := by omega)
  all_goals try (have eo : M.out + 1 + t = M.out + (t + 1) := by omega)
  · show ((M.S.del r).at (r + t)).n = ((M.out + 1 + t : Nat) : Int)
    rw [ath _ (by omega), ei, eo]
    exact K.num (t + 1) ht
  · have hb' : b < (M.S.del r).on.length := hb
    rw [hl] at hb'
    show ((M.S.del r).at a).n < ((M.S.del r).at b).n
    rw [M.S.at_del, M.S.at_del]
    refine K.asc _ _ ?_ (skip_lt hb')
    unfold skip
    split <;> split <;> omega
  · show ((M.S.del r).at (r + t)).rt = false ∧ ((M.S.del r).at (r + t)).st = (g (M.out + 1 + t)).st
    rw [ath _ (by omega), ei, eo]
    exact K.new (t + 1) ht
  · show if M.given (M.out + 1 + t) = true then ((M.S.del r).at (r + t)).a = (g (M.out + 1 + t)).a ∧ ((M.S.del r).at (r + t)).z = (g (M.out + 1 + t)).z else ((M.S.del r).at (r + t)).z = 0
    rw [ath _ (by omega), ei, eo]
    exact K.giv (t + 1) ht
  · show (g (M.out + 1 + t)).st = true → ((M.S.del r).at (r + t)).hv = M.known (M.out + 1 + t) ∧ (M.known (M.out + 1 + t) = true → ((M.S.del r).at (r + t)).d = (g (M.out + 1 + t)).da)
    rw [ath _ (by omega), ei, eo]
    exact K.kno (t + 1) ht
  · show if M.done (M.out + 1 + t) = true then (g (M.out + 1 + t)).st = false ∧ M.given (M.out + 1 + t) = true ∧ Seen (M.S.del r) M.mem (M.got (M.out + 1 + t)) (r + t) else ((M.S.del r).at (r + t)).fr = []
    rw [ath _ (by omega), ei, eo]
    have := K.don (t + 1) ht
    split
    · rename_i hd
      rw [if_pos hd] at this
      exact ⟨this.1, this.2.1, Seen.del (by rw [ei]; exact this.2.2) (by omega) hstr⟩
    · rename_i hd
      rw [if_neg hd] at this
      exact this
  · show (M.S.del r).ov M.mem r u = seqM g (M.out + 1) u
    rw [QS.ov_same u r (fun t ht => atl t ht), K.mem u h1 h2]
    have e1 : seqM g (M.out + 1) u = if (g M.out).st = true ∧ (g M.out).a ≤ u ∧ u < (g M.out).a + (g M.out).z then (g M.out).da / 256 ^ (u - (g M.out).a) % 256 else seqM g M.out u := rfl
    rw [e1, hst, if_neg (fun q => by cases q.1)]
  · have hk2 : k < M.out + 1 := hk'
    by_cases e : k = M.out
    · subst e
      have ha := (g M.out).a_is
      rw [hdon.2.2.got, hgiv.1, hgiv.2]
      refine leN_congr _ _ _ (fun b hb => ?_)
      rw [QS.val_ov]
      exact K.mem _ (by omega) (by omega)
    · exact K.gots k (by omega) hs
theorem Kept.drn (K : Kept g n M (r + 1)) (pos : ∀ a, a < M.S.on.length → 0 ≤ (M.S.at a).n) : Kept g n { M with S := M.S.drained, mem := M.S.mem1 M.mem } r := by
  have hlen := K.len
  have h0 : 0 < M.S.on.length := by omega
  have hl := M.S.dr_len h0
  have ath : ∀ j, j < M.S.on.length - 1 → M.S.drained.at j = (M.S.at (j + 1)).wr (M.S.at 0).n := fun j hj => M.S.dr_at h0 j hj
  have hold := K.old 0 (by omega)
  refine ⟨by show M.S.drained.on.length = r + (M.inn - M.out); omega, K.io, ⟨by show M.S.drained.on.length ≤ M.S.size; have := K.size.1; omega, K.size.2⟩, fun j hj => ?_, fun t ht => ?_, fun a b hab hb => ?_, fun t ht => ?_, fun t ht => ?_, fun t ht => ?_, fun t ht => ?_, K.fresh, fun u h1 h2 => ?_, K.gots, fun y => ?_⟩
  · show (M.S.drained.at j).rt = true ∧ (M.S.drained.at j).st = true ∧ 0 < (M.S.drained.at j).z ∧ (M.S.drained.at j).hv = true ∧ (M.S.drained.at j).n < (M.out : Int) ∧ 64 ≤ (M.S.drained.at j).a ∧ (M.S.drained.at j).a + (M.S.drained.at j).z ≤ 80
    rw [ath j (by omega)]
    exact K.old (j + 1) (by omega)
  all_goals try (have ht : t < M.inn - M.out := ht)
  all_goals try (have ei : r + t + 1 = r + 1 + t := by omega)
  · show (M.S.drained.at (r + t)).n = ((M.out + t : Nat) : Int)
    rw [ath _ (by omega), ei]
    exact K.num t ht
  · have hb' : b < M.S.drained.on.length := hb
    show (M.S.drained.at a).n < (M.S.drained.at b).n
    rw [ath a (by omega), ath b (by omega)]
    exact K.asc (a + 1) (b + 1) (by omega) (by omega)
  · show (M.S.drained.at (r + t)).rt = false ∧ (M.S.drained.at (r + t)).st = (g (M.out + t)).st
    rw [ath _ (by omega), ei]
    exact K.new t ht
  · show if M.given (M.out + t) = true then (M.S.drained.at (r + t)).a = (g (M.out + t)).a ∧ (M.S.drained.at (r + t)).z = (g (M.out + t)).z else (M.S.drained.at (r + t)).z = 0
    rw [ath _ (by omega), ei]
    exact K.giv t ht
  · show (g (M.out + t)).st = true → (M.S.drained.at (r + t)).hv = M.known (M.out + t) ∧ (M.known (M.out + t) = true → (M.S.drained.at (r + t)).d = (g (M.out + t)).da)
    rw [ath _ (by omega), ei]
    exact K.kno t ht
  · show if M.done (M.out + t) = true then (g (M.out + t)).st = false ∧ M.given (M.out + t) = true ∧ Seen M.S.drained (M.S.mem1 M.mem) (M.got (M.out + t)) (r + t) else (M.S.drained.at (r + t)).fr = []
    have := K.don t ht
    split
    · rename_i hd
      rw [if_pos hd] at this
      exact ⟨this.1, this.2.1, Seen.drain (by rw [ei]; exact this.2.2) (by omega) hold.2.1 K.asc pos⟩
    · rename_i hd
      rw [if_neg hd] at this
      rw [ath _ (by omega), ei]
      show (M.S.at (r + 1 + t)).fr.map _ = []
      rw [this]
      rfl
  · show M.S.drained.ov (M.S.mem1 M.mem) r u = seqM g M.out u
    rw [QS.ov_dr M.S M.mem h0 hold.2.1 u r (by omega)]
    exact K.mem u h1 h2
  · show M.S.mem1 M.mem y < 256
    unfold QS.mem1
    split
    · exact Nat.mod_lt _ (by decide)
    · exact K.bytes y
end
end Go.Proofs.YthbffonedpeeiaaDoor
