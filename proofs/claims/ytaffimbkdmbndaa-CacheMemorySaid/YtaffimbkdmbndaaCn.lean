/-
  CACHE's LAW CacheMemory: the walk.
-/
import Derived.Test.YtaffimbkdmbndaaCo
namespace Go.Proofs.Ytaffimbkdmbndaa
open Go Go.RowKit
theorem pow_is (k : Nat) (h : k < 5) (m : Nat) (hm : m = 2 ^ k) : IntKind.i64.wrap ((2 : Int) ^ k) = (m : Int) := by
  subst hm
  have : k = 0 ∨ k = 1 ∨ k = 2 ∨ k = 3 ∨ k = 4 := by omega
  rcases this with rfl | rfl | rfl | rfl | rfl <;> decide +kernel
theorem w64 (x : Nat) (h : x ≤ 1024) : wrap64 (x : Int) = x := by unfold wrap64; omega
theorem pick_i (c : Int) (n : Nat) (ni : Int) (hni : ni = n) (w : World) (hc : I64 c) (hn : 0 < n) : Calls Try.prog 5 #[.int .i64 c, .int .i64 ni] w fun e w' => e = .returned (.int .i64 (pk c n : Nat)) ∧ w' = w := by
  subst hni
  exact pick_any c n w hc hn
theorem wA1 (x A : Nat) (h : x * 1 = A) (hA : A ≤ 1024) : wrap64 (x : Int) = A := by
  unfold wrap64
  omega
theorem wA2 (x A : Nat) (h : x * 2 = A) (hA : A ≤ 1024) : wrap64 ((x : Int) * 2) = A := by
  unfold wrap64
  omega
theorem wA4 (x A : Nat) (h : x * 4 = A) (hA : A ≤ 1024) : wrap64 ((x : Int) * 4) = A := by
  unfold wrap64
  omega
theorem w64s (z : Nat) (h : z ≤ 4) : wrap64 ((z : Int) - 1) = (z : Int) - 1 := by unfold wrap64; omega
theorem pow_of (k : Nat) (h : k < 5) : 2 ^ k = 1 ∨ 2 ^ k = 2 ∨ 2 ^ k = 4 ∨ 2 ^ k = 8 ∨ 2 ^ k = 16 := by
  have : k = 0 ∨ k = 1 ∨ k = 2 ∨ k = 3 ∨ k = 4 := by omega
  rcases this with rfl | rfl | rfl | rfl | rfl <;> decide
set_option maxRecDepth 100000 in
set_option maxHeartbeats 4000000 in
theorem mem_good (c1 c2 : Int) (wp : Option Addr) (m cw : Nat) (g : Nat → Acc) (w : World) (hc1 : I64 c1) (hc2 : I64 c2) (_hm : m ≤ 9223372036854775807) (hw : Accs w wp m g) : Calls Try.prog 3 #[.int .i64 c1, .int .i64 c2, .slice wp m cw] w fun e w' => e = .returned (.bool true) ∧ Below w.heap.size w w' := by
  have HW := Hid.in hw
  have HC1 := Hid.in hc1
  have HC2 := Hid.in hc2
  obtain ⟨j, hj⟩ : ∃ j, pk c1 5 = j := ⟨_, rfl⟩
  obtain ⟨i, hi⟩ : ∃ i, pk c2 4 = i := ⟨_, rfl⟩
  have hj5 : j < 5 := by rw [← hj]; exact pk_lt _ _ (by decide)
  have hi4 : i < 4 := by rw [← hi]; exact pk_lt _ _ (by decide)
  obtain ⟨n, hn⟩ : ∃ n, n = 2 ^ j := ⟨_, rfl⟩
  have hsh := pow_is j hj5 n hn
  have HP : Hid (n = 1 ∨ n = 2 ∨ n = 4 ∨ n = 8 ∨ n = 16) := by
    have := pow_of j hj5
    show n = 1 ∨ n = 2 ∨ n = 4 ∨ n = 8 ∨ n = 16
    rw [hn]
    exact this
  obtain ⟨kw, hkw⟩ : ∃ kw, 1 + i = kw := ⟨_, rfl⟩
  have hkw2 : (1 : Int) + i = kw := by omega
  have hkw3 : IntKind.i64.wrap (kw : Int) = kw := by simp [IntKind.wrap, IntKind.bits, IntKind.signed]; omega
  have HKW : Hid (1 ≤ kw ∧ kw ≤ 4) := by show 1 ≤ kw ∧ kw ≤ 4; omega
  have HJ := Hid.in hj
  have HI := Hid.in hi
  clear hw hc1 hc2 hj hi hn hkw
  go_enter Try.func3, Try.ntmps3
  go_upto_region 1 with fail
  go_cut [7, 8] (fun cv ev wc => ∃ p h, cv = .pointer (some ⟨p, 0, none⟩) ∧ ev = .nilIface ∧ Ch wc w.heap.size p h n (fun _ => .slice none 0 0) ⟨kw, n, fun _ => []⟩ ∧ Below w.heap.size w wc ∧ w.heap.size ≤ p ∧ w.heap.size ≤ h)
  case first =>
    go_region_with (first
      | (go_at_call 4
         refine (new_good w.heap.size n kw w.drew (by exact Nat.le_refl _) HP.out HKW.out).mono ?_
         rintro e w1 ⟨p, h, rfl, hk, hb, hp, hh⟩
         have HKN := Hid.in hk
         have HBN := Hid.in hb
         clear hk hb)
      | (go_at_call_of 5 (Value.int .i64 c1)
         refine (pick_any c1 5 _ HC1.out (by decide)).mono ?_
         rintro e w1 ⟨rfl, rfl⟩
         rw [HJ.out])
      | (go_at_call_of 5 (Value.int .i64 c2)
         refine (pick_any c2 4 _ HC2.out (by decide)).mono ?_
         rintro e w1 ⟨rfl, rfl⟩
         rw [HI.out]))
    go_wp2
    go_meet
    exact ⟨p, h, rfl, rfl, HKN.out, belowU HBN.out, hp, hh⟩
  case rest =>
    obtain ⟨p, h, rfl, rfl, hk, hb, hp, hh⟩ := hcut
    have hmk : ∀ u : World, (Instr.makeSlice 31 (.int .i64 1024) (.int .i64 1024)).run Try.prog u = .ok (.slice (some ⟨u.heap.size, 0, none⟩) 1024 1024) (u.alloc (.cells (madeCells #[.int .u8 0] 1024) 5)) := make_run (P := Try.prog) 31 5 (.int .u8 0) 1 Try.underlying31 (by kernel_rfl) rfl 1024 (by omega) (by omega)
    have HKN := Hid.in hk
    have HBN := Hid.in hb
    have hpc := hk.c.here
    clear hk hb hsh hkw2 hkw3 hi4 hj5 HJ HI
    go_wp2_with fail
    obtain ⟨X, hX⟩ : ∃ X, (wc.alloc (.cells (madeCells #[.int .u8 0] 1024) 5)).alloc (.cells (madeCells #[.int .u8 0] 1024) 5) = X := ⟨_, rfl⟩
    obtain ⟨F, hF⟩ : ∃ F, wc.heap.size = F := ⟨_, rfl⟩
    have K0 : Lw w X p h n F (F + 1) (fun _ => .slice none 0 0) ⟨kw, n, fun _ => []⟩ (fun _ => 0) (fun _ => 0) := by
      have k := HKN.out
      have hbX : Below wc.heap.size wc X := by rw [← hX]; exact ((Below.refl _ _).alloc (Nat.le_refl _) _).alloc (by simp) _
      have q1 := cells_new (t := 5) wc (made_cell (.int .u8 0) 1024)
      have q2 := cells_new (t := 5) (wc.alloc (.cells (madeCells #[.int .u8 0] 1024) 5)) (made_cell (.int .u8 0) 1024)
      rw [World.size_alloc] at q2
      have q3 := q1.alloc (.cells (madeCells #[.int .u8 0] 1024) 5)
      rw [hX, hF] at q3 q2
      have hsz := HBN.out.size
      have h1 := k.c.here
      have h2 := k.v.here
      have nb : ∀ q, mine p h n (fun _ => Value.slice none 0 0) q → q < F := by
        rintro q (rfl | rfl | ⟨_, _, hb⟩)
        · omega
        · omega
        · simp [Value.ownBlock] at hb
      exact ⟨k.below hbX, q3, q2, fun q => by have := nb _ q; omega, fun q => by have := nb _ q; omega, by omega, HBN.out.trans (hbX.mono hsz), by omega⟩
    have HK0 := Hid.in K0
    have HI0 := Hid.in (inv_start n kw (by have := HP.out; omega) HKW.out.1)
    rw [hX, hF]
    clear K0 hX hF HKN HBN hpc hmk hp hh HKW HP
    go_loopw [11] (fun kv wr => ∃ (k : Nat) (V : Nat → Value) (S : CS) (f mm : Nat → Nat), kv = .int .i64 k ∧ k ≤ 2000 ∧ Lw w wr p h n F (F + 1) V S f mm ∧ Inv S f mm) (fun kv _ => 2001 - (intOf kv).toNat)
    case atStart => exact ⟨0, _, _, _, _, rfl, Nat.zero_le _, HK0.out, HI0.out⟩
    case round =>
      obtain ⟨k, V, S, f, mm, rfl, hk, K, hI⟩ := hrel
      have HK := Hid.in K
      have HI := Hid.in hI
      clear K hI HK0 HI0
      by_cases hkm : k < m
      · by_cases hk2 : k < 2000
        · obtain ⟨ab, ao, hwp, hab, e0, e1, e2, e3, i1, i2, d32⟩ := HW.out k hkm
          subst hwp
          have lw := HK.out.low
          have e0' := (lw.cell (p := ⟨ab, ao + k * 4, none⟩) hab).trans e0
          have e1' := (lw.cell (p := ⟨ab, ao + k * 4 + 1, none⟩) hab).trans e1
          have e2' := (lw.cell (p := ⟨ab, ao + k * 4 + 2, none⟩) hab).trans e2
          have e3' := (lw.cell (p := ⟨ab, ao + k * 4 + 3, none⟩) hab).trans e3
          have hab' : ab < wr.heap.size := Nat.lt_of_lt_of_le hab lw.size
          have HI1 := Hid.in i1
          have HI2 := Hid.in i2
          have HD := Hid.in d32
          have HE03 := Hid.in (And.intro hab (And.intro e0 e3))
          clear lw e0 e1 e2 e3 i1 i2 d32
          generalize (g k).st = gs at e0' HE03
          generalize (g k).ad = ga at e1' HI1
          generalize (g k).sz = gz at e2' HI2
          generalize (g k).da = gd at e3' HD HE03
          obtain ⟨jz, hjz⟩ : ∃ jz, pk gz 3 = jz := ⟨_, rfl⟩
          have hj3 : jz < 3 := by rw [← hjz]; exact pk_lt _ _ (by decide)
          have HJZ := Hid.in hjz
          obtain ⟨z, hz124, hzc⟩ : ∃ z : Nat, (z = 1 ∨ z = 2 ∨ z = 4) ∧ (wr.alloc (.cells #[.int .i64 1, .int .i64 2, .int .i64 4] 3)).cell? ⟨wr.heap.size, jz, none⟩ = some (.int .i64 z) := by
            have : jz = 0 ∨ jz = 1 ∨ jz = 2 := by omega
            rcases this with rfl | rfl | rfl
            · exact ⟨1, Or.inl rfl, World.cell?_alloc_new _ _ _ _⟩
            · exact ⟨2, Or.inr (Or.inl rfl), World.cell?_alloc_new _ _ _ _⟩
            · exact ⟨4, Or.inr (Or.inr rfl), World.cell?_alloc_new _ _ _ _⟩
          clear hjz
          go_upto_region 10 with (first
            | (go_at_call 5
               refine (pick_i gz 3 3 rfl _ HI2.out (by decide)).mono ?_
               rintro e w1 ⟨rfl, hww⟩
               rw [HJZ.out, hww]
               clear hww))
          obtain ⟨X1, hX1⟩ : ∃ X1, wr.alloc (.cells #[.int .i64 1, .int .i64 2, .int .i64 4] 3) = X1 := ⟨_, rfl⟩
          have K1 := HK.out.below ((Below.refl _ wr).alloc (Nat.le_refl _) (.cells #[.int .i64 1, .int .i64 2, .int .i64 4] 3))
          have b1 : Below wr.heap.size wr X1 := by rw [← hX1]; exact (Below.refl _ wr).alloc (Nat.le_refl _) _
          rw [hX1] at K1
          rw [hX1]
          have f0 := (b1.cell (p := ⟨ab, ao + k * 4, none⟩) hab').trans e0'
          have f1 := (b1.cell (p := ⟨ab, ao + k * 4 + 1, none⟩) hab').trans e1'
          have f3 := (b1.cell (p := ⟨ab, ao + k * 4 + 3, none⟩) hab').trans e3'
          have hab1 : ab < X1.heap.size := Nat.lt_of_lt_of_le hab' b1.size
          have HK1 := Hid.in K1
          clear K1 b1 hX1 e0' e1' e2' e3' hab' hzc HJZ hj3 HI2
          obtain ⟨q, hq⟩ : ∃ q, 1024 / z = q := ⟨_, rfl⟩
          obtain ⟨A, hA⟩ : ∃ A, pk ga q * z = A := ⟨_, rfl⟩
          have hAz : A % z = 0 ∧ A + z ≤ 1024 := by
            have hq0 : 0 < q := by rw [← hq]; rcases hz124 with rfl | rfl | rfl <;> decide
            have h1 := pk_lt ga q hq0
            rw [← hA]
            rcases hz124 with rfl | rfl | rfl
            all_goals
              have h2 : q = _ := hq.symm
              simp only [Nat.reduceDiv] at h2
              omega
          have HAZ := Hid.in hAz
          have HQ := Hid.in hq
          have HA := Hid.in hA
          have HZ := Hid.in hz124
          clear hq hA hAz hz124
          go_cut [13] (fun av wc => av = .int .i64 A ∧ Below X1.heap.size X1 wc)
          case first =>
            rcases HZ.out with rfl | rfl | rfl
            · obtain rfl : q = 1024 := by have := HQ.out; omega
              go_quiet (first | (go_at_call 5; refine Calls.quiet_of_same (pick_i ga 1024 1024 rfl _ HI1.out (by decide))))
              go_wp2
              go_meet
              exact ⟨congrArg (Value.int .i64) (wA1 _ _ HA.out (Nat.le_trans (Nat.le_add_right _ _) HAZ.out.2)), below_drewN _ _⟩
            · obtain rfl : q = 512 := by have := HQ.out; omega
              go_quiet (first | (go_at_call 5; refine Calls.quiet_of_same (pick_i ga 512 512 rfl _ HI1.out (by decide))))
              go_wp2
              go_meet
              exact ⟨congrArg (Value.int .i64) (wA2 _ _ HA.out (Nat.le_trans (Nat.le_add_right _ _) HAZ.out.2)), below_drewN _ _⟩
            · obtain rfl : q = 256 := by have := HQ.out; omega
              go_quiet (first | (go_at_call 5; refine Calls.quiet_of_same (pick_i ga 256 256 rfl _ HI1.out (by decide))))
              go_wp2
              go_meet
              exact ⟨congrArg (Value.int .i64) (wA4 _ _ HA.out (Nat.le_trans (Nat.le_add_right _ _) HAZ.out.2)), below_drewN _ _⟩
          case rest =>
            obtain ⟨rfl, hbl⟩ := hcut
            have K2 := HK1.out.below hbl
            have HK2 := Hid.in K2
            have hA1024 : A < 1024 := by
              have h1 := HAZ.out.2
              have h2 := HZ.out
              omega
            have hA32 : (A : Int) % 4294967296 = A := by omega
            have HN := Hid.in (S.of_lt A HI.out.n)
            clear K2 hbl f0 f1 f3 hab1 HK1 HK HI1
            obtain ⟨sv, hsv⟩ : ∃ sv, (∃ i, At (S.set (S.of A)) A i ∧ ((S.set (S.of A)).getD i l0).s = sv) ∨ (No (S.set (S.of A)) A ∧ sv = 0) := by
              rcases at_or_no (S.set (S.of A)) A with ⟨ix, hat⟩ | hno
              · exact ⟨_, Or.inl ⟨ix, hat, rfl⟩⟩
              · exact ⟨0, Or.inr ⟨hno, rfl⟩⟩
            have HSV := Hid.in hsv
            clear hsv
            go_upto_if 78 with (first
              | (go_at_call 6
                 refine (state_sv w.heap.size p h n V S A sv _ HK2.out.ch (by omega) HSV.out).mono ?_
                 rintro e w3 ⟨rfl, hb3⟩
                 have HB3 := Hid.in hb3
                 clear hb3))
            have HK3 := Hid.in (HK2.out.below HB3.out)
            clear HK2 HB3
            go_cut [14] (fun _ wd => ∃ (V' : Nat → Value) (S' : CS) (m' : Nat → Nat) (ix : Nat), Lw w wd p h n F (F + 1) V' S' f m' ∧ Inv S' f m' ∧ At (S'.set (S'.of A)) A ix)
            case first =>
              rcases HSV.out with ⟨ix, hat, hs⟩ | ⟨hno, rfl⟩
              · have hs23 : sv = 2 ∨ sv = 3 := by rw [← hs]; exact (HI.out.line _ HN.out _ (at_mem hat).1).2.2.2.1
                have hs0 : ((sv : Int) == 0) = false := by simp; omega
                have HAT := Hid.in hat
                clear hat hs
                go_wp2
                go_meet
                exact ⟨V, S, mm, ix, HK3.out, HI.out, HAT.out⟩
              · have HNO := Hid.in hno
                obtain ⟨a16, ha16⟩ : ∃ a16, A / 16 = a16 := ⟨_, rfl⟩
                obtain ⟨L, hL⟩ : ∃ L, a16 * 16 = L := ⟨_, rfl⟩
                have hq1 : (A : Int).tdiv 16 = a16 := by rw [Int.tdiv_eq_ediv_of_nonneg (by omega), ← ha16]; omega
                have hq2 : (A : Int) / 16 = a16 := by rw [← ha16]; omega
                have hq3 : (a16 : Int) * 16 = L := by rw [← hL]; simp
                have HLF : Hid (L = lineOf A ∧ L % 16 = 0 ∧ L + 16 ≤ 1024) := by
                  show L = lineOf A ∧ L % 16 = 0 ∧ L + 16 ≤ 1024
                  unfold lineOf
                  omega
                have hL32 : (L : Int) % 4294967296 = L := by have := HLF.out; omega
                have hL1008 : L ≤ 1008 := by have := HLF.out; omega
                clear hno ha16 hL
                go_upto_region 14 with fail
                obtain ⟨X2, hX2⟩ : ∃ X2, w3.alloc (.cells #[.int .u8 0, .int .u8 0, .int .u8 0, .int .u8 0, .int .u8 0, .int .u8 0, .int .u8 0, .int .u8 0, .int .u8 0, .int .u8 0, .int .u8 0, .int .u8 0, .int .u8 0, .int .u8 0, .int .u8 0, .int .u8 0] 38) = X2 := ⟨_, rfl⟩
                obtain ⟨bx, hbx⟩ : ∃ bx, w3.heap.size = bx := ⟨_, rfl⟩
                have b2 : Below w3.heap.size w3 X2 := by rw [← hX2]; exact (Below.refl _ _).alloc (Nat.le_refl _) _
                have t2 : X2.there bx 0 16 := by rw [← hX2, ← hbx]; exact there_arr w3 _
                have s2 : X2.heap.size = bx + 1 := by rw [← hX2, ← hbx]; simp
                have K4 := HK3.out.below b2
                have nbx : ∀ q, (mine p h S.n V q ∨ q = F ∨ q = F + 1) → q ≠ bx := by
                  intro q hq e
                  have hl : q < w3.heap.size := by
                    rcases hq with hq | hq | hq
                    · exact (HK3.out.mineLo q hq).2
                    · rw [hq]; exact HK3.out.cf.here
                    · rw [hq]; exact HK3.out.cm.here
                  omega
                have rM := range_mem K4.cm (L := L) HLF.out.2.2
                have hcp := copy16 X2.drew 3 bx 0 (F + 1) L (1024 - L) 16 (fun t => mm (L + t)) 16 (1024 - L) (Nat.min_eq_right (by omega)) ((World.rangeAt_drew _ _ _ _).2 rM) ((World.there_drew _ _ _ _).2 t2)
                obtain ⟨X3, hX3⟩ : ∃ X3, X2.drew.setCells bx 0 (bvs (fun t => mm (L + t))) = X3 := ⟨_, rfl⟩
                have r3 : X3.rangeAt bx 0 (bvs (fun t => mm (L + t))) := by
                  rw [← hX3]
                  exact World.rangeAt_setCells_same _ _ _ _ (by rw [bvs_len]; exact (World.there_drew _ _ _ _).2 t2)
                have t3 : Turned (fun q => q = bx) X2 X3 := by rw [← hX3]; exact ((Turned.refl _ X2).drew).trans (turned_setCells _ _ _)
                have K5 : Lw w X3 p h n F (F + 1) V S f mm := ⟨K4.ch.turned t3 (nbx p (Or.inl (Or.inl rfl))) (nbx h (Or.inl (Or.inr (Or.inl rfl)))) (fun i j hi hj => nbx j (Or.inl (Or.inr (Or.inr ⟨i, hi, hj⟩)))), t3.cells K4.cf (nbx F (Or.inr (Or.inl rfl))), t3.cells K4.cm (nbx (F + 1) (Or.inr (Or.inr rfl))), K4.nf, K4.nm, K4.ne, K4.low.trans (t3.below K4.low.size (fun q e => by rw [e, ← hbx]; exact HK3.out.low.size)), K4.lo⟩
                have HK5 := Hid.in K5
                have hb3 : Below w3.heap.size w3 X3 := ⟨t3.os.trans b2.os, t3.tape.trans b2.tape, t3.output.trans b2.output, Nat.le_trans b2.size t3.size, fun q hq => (t3.block q (Nat.lt_of_lt_of_le hq b2.size) (by omega)).trans (b2.block q hq)⟩
                have HB5 := Hid.in hb3
                have HR3 := Hid.in r3
                rw [hX3] at hcp
                rw [hX2, hbx]
                clear K4 K5 hb3 r3 t3 hX3 rM nbx s2 t2 b2 hX2 hbx
                go_region
                have R3 := HR3.out
                have hnoL : No (S.set (S.of L)) L := by
                  have e1 : lineOf L = lineOf A := by rw [HLF.out.1]; unfold lineOf; omega
                  rw [of_line S L A e1]
                  exact fun j hj => by rw [e1]; exact HNO.out j hj
                obtain ⟨hInv, hfull, hroom⟩ := HI.out.fill L HLF.out.2.1 (by omega) hnoL
                have HNL := Hid.in hnoL
                obtain ⟨E, hE⟩ : ∃ E, S.left L = E := ⟨_, rfl⟩
                obtain ⟨fl, hfl⟩ : ∃ fl, S.full L = fl := ⟨_, rfl⟩
                have HEE := Hid.in hE
                have HFL := Hid.in hfl
                have HOL := Hid.in (S.of_lt L HI.out.n)
                rw [hE] at hInv hfull hroom
                rw [hfl] at hfull hroom
                have HIN := Hid.in hInv
                have HFU := Hid.in hfull
                have HRO := Hid.in hroom
                clear hnoL hInv hfull hroom hE hfl
                go_upto_region 16 with (first
                  | (refine ld_arr bx 0 (fun t => mm (L + t)) R3 rfl _ rfl rfl ?_)
                  | (go_at_call 7
                     refine (fill_any w.heap.size p h n V S L 2 (fun t => mm (L + t)) _ HK5.out.ch (by omega) HLF.out.2.1 (by omega) HNL.out).mono ?_
                     rintro e w6 ⟨rfl, v', hch, hv', ht⟩
                     rw [HEE.out, HFL.out]
                     have HK6 := Hid.in (HK5.out.fillC L 2 _ v' HOL.out hch hv' ht)
                     clear hch hv' ht)
                  | (refine st_new w6 E zl rfl w6.heap.size rfl rfl rfl _ _ rfl rfl rfl ?_))
                obtain ⟨X7, hX7⟩ : ∃ X7, w6.alloc (.cells E.vs.toArray 40) = X7 := ⟨_, rfl⟩
                obtain ⟨gb, hgb⟩ : ∃ gb, w6.heap.size = gb := ⟨_, rfl⟩
                have K7 : Lw w X7 p h n F (F + 1) (upd V (S.of L) v') (S.fill L 2 (fun t => mm (L + t))) f mm := by rw [← hX7]; exact HK6.out.below ((Below.refl _ _).alloc (Nat.le_refl _) _)
                have r7 : X7.rangeAt gb 0 E.vs := by rw [← hX7, ← hgb]; exact range_new w6 E _
                have hg7 : gb < X7.heap.size := by rw [← hX7, ← hgb]; simp
                have g0 : X7.cell? ⟨gb, 0, none⟩ = some (.int .u32 E.a) := r7 0 _ rfl
                have g1 : X7.cell? ⟨gb, 1, none⟩ = some (.int .i64 E.s) := r7 1 _ rfl
                have HK7 := Hid.in K7
                have HR7 := Hid.in r7
                rw [hX7, hgb]
                clear K7 r7 hX7 hgb HK6 R3 HR3 hcp
                have hAT := filled_at S L A 2 (fun t => mm (L + t)) HLF.out.1.symm HNL.out HLF.out.2.1
                have HAT := Hid.in hAT
                clear hAT
                cases fl
                · have hEl := HRO.out rfl
                  have hbk : back mm E = mm := by
                    rw [hEl]
                    funext x
                    exact if_neg (fun q => absurd q.1 (by decide))
                  have HBK := Hid.in hbk
                  have ga0 : E.a = 0 := by rw [hEl]; rfl
                  have gs0 : E.s = 0 := by rw [hEl]; rfl
                  rw [ga0] at g0
                  rw [gs0] at g1
                  clear hEl hbk ga0 gs0
                  go_wp2
                  go_meet
                  exact ⟨_, _, mm, _, HK7.out, by have := HIN.out; rw [HBK.out] at this; exact this, HAT.out⟩
                · have hEm := HFU.out rfl
                  obtain ⟨b1, b2, b3, b4, b5, b6⟩ := HI.out.line _ HOL.out E hEm
                  have hne : E.a ≠ L := by
                    have := no_mem HNL.out E hEm
                    rwa [show lineOf L = L by unfold lineOf; have := HLF.out.2.1; omega] at this
                  have hnei : ((E.a : Int) == (L : Int)) = false := by simp; omega
                  clear hEm b3 b5 b6
                  rcases b4 with gs2 | gs3
                  · have hbk : back mm E = mm := by
                      funext x
                      exact if_neg (fun q => by rw [gs2] at q; omega)
                    have HBK := Hid.in hbk
                    rw [gs2] at g1
                    clear hbk gs2
                    go_wp2
                    go_meet
                    exact ⟨_, _, mm, _, HK7.out, by have := HIN.out; rw [HBK.out] at this; exact this, HAT.out⟩
                  · have HGS := Hid.in gs3
                    have hE16 : E.a + 16 ≤ 1024 := by omega
                    have hE32 : ((E.a : Int) + 16) % 4294967296 = ((E.a + 16 : Nat) : Int) := by omega
                    have hcp2 := copy16 X7.drew 3 (F + 1) E.a gb 2 16 16 E.b (1024 - E.a) 16 rfl ((World.rangeAt_drew _ _ _ _).2 (bytes_range HR7.out)) ((World.there_drew _ _ _ _).2 (there_mem HK7.out.cm hE16))
                    have HK8 := Hid.in ((HK7.out.below (Below.refl _ _).drew).wb E hE16 gs3)
                    rw [gs3] at g1
                    clear gs3
                    go_upto_region 19 with fail
                    go_region
                    go_wp2
                    go_meet
                    exact ⟨_, _, _, _, HK8.out, HIN.out, HAT.out⟩
            case rest =>
              obtain ⟨V', S', m', ix, K8, hI8, hAT⟩ := hcut
              have lw := K8.low
              have c0 := (lw.cell (p := ⟨ab, ao + k * 4, none⟩) HE03.out.1).trans HE03.out.2.1
              have c3 := (lw.cell (p := ⟨ab, ao + k * 4 + 3, none⟩) HE03.out.1).trans HE03.out.2.2
              have hab8 := Nat.lt_of_lt_of_le HE03.out.1 lw.size
              have HK8 := Hid.in K8
              have HI8 := Hid.in hI8
              have HAT := Hid.in hAT
              have HFT := Hid.in (fits_of A z HZ.out HAZ.out.1)
              have hz16 := (fits_le A z HFT.out)
              have HZ16 := Hid.in hz16
              have hE8 := hI8.line _ (S'.of_lt A hI8.n) _ (at_mem hAT).1
              have HE8 := Hid.in hE8
              clear lw K8 hI8 hAT hE8 hz16 HSV HK3 HI HN
              cases gs
              · go_wp2_with (first
                  | (go_at_call 9
                     refine (read_at w.heap.size p h n V' S' A z ix _ HK8.out.ch (by omega) HAT.out HFT.out (fun j hj => by rw [HE8.out.2.2.2.2.1 j hj]; exact HI8.out.fb _)).mono ?_
                     rintro e w9 ⟨rfl, hch, ht⟩
                     rw [read_is HI8.out A z ix HZ16.out.2.2 HAT.out]
                     have HK9 := Hid.in (HK8.out.onC hch ht (fun q hq => Or.inl hq))
                     have HI9 := Hid.in (HI8.out.used (S'.of A) ix (S'.of_lt A HI8.out.n) HAT.out.1)
                     clear hch ht))
                obtain ⟨rv, hrv⟩ : ∃ rv, leN (fun t => f (A + t)) z = rv := ⟨_, rfl⟩
                have HRV := Hid.in hrv
                rw [hrv]
                clear hrv c0 c3 hab8
                have z4 := HZ16.out.2.1
                have zle := HAZ.out.2
                go_loopw [23, 24] (fun vv bv wr' => ∃ (jn : Nat) (zz : Int), bv = .int .i64 zz ∧ zz = (jn : Int) - 1 ∧ jn ≤ z ∧ vv = .int .u32 (leN (fun t => f (A + jn + t)) (z - jn) : Nat) ∧ w9 = wr') (fun _ bv _ => (intOf bv + 1).toNat)
                case atStart => exact ⟨z, _, rfl, w64s z z4, Nat.le_refl _, by rw [Nat.sub_self]; rfl, rfl⟩
                case round =>
                  obtain ⟨jn, zz, rfl, hzz, hjn, rfl, rfl⟩ := hrel
                  rcases Nat.eq_zero_or_pos jn with q0 | q0
                  · subst q0
                    have hz1 : zz = -1 := by omega
                    subst hz1
                    have hlast : leN (fun t => f (A + 0 + t)) (z - 0) = rv := HRV.out
                    rw [hlast]
                    clear hlast hzz
                    go_wp2
                    go_roundw
                    case rel => exact ⟨k + 1, V', _, f, m', by simp, by omega, HK9.out, HI9.out⟩
                    case measure => simp [intOf]; omega
                  · obtain ⟨j1, rfl⟩ : ∃ j1, jn = j1 + 1 := ⟨jn - 1, by omega⟩
                    obtain rfl : zz = (j1 : Int) := by omega
                    have cc := HK9.out.cf.cell (A + j1) (by omega)
                    have ch9 := HK9.out.cf.here
                    have hy := HI8.out.fb (A + j1)
                    have hx := leN_lt (fun t => f (A + (j1 + 1) + t)) (z - (j1 + 1)) (fun t _ => HI8.out.fb _)
                    have hx2 : 256 ^ (z - (j1 + 1)) ≤ 256 ^ 3 := Nat.pow_le_pow_right (by decide) (by omega)
                    have hnext : leN (fun t => f (A + j1 + t)) (z - j1) = f (A + j1) + 256 * leN (fun t => f (A + (j1 + 1) + t)) (z - (j1 + 1)) := by
                      rw [show z - j1 = (z - (j1 + 1)) + 1 by omega, leN_shift]
                      show f (A + j1 + 0) + _ = _
                      rw [Nat.add_zero]
                      congr 2
                      refine leN_congr _ _ _ (fun t _ => ?_)
                      show f (A + j1 + (t + 1)) = f (A + (j1 + 1) + t)
                      congr 1
                      omega
                    have HNX := Hid.in hnext
                    obtain ⟨x, hxe⟩ : ∃ x, leN (fun t => f (A + (j1 + 1) + t)) (z - (j1 + 1)) = x := ⟨_, rfl⟩
                    obtain ⟨y, hye⟩ : ∃ y, f (A + j1) = y := ⟨_, rfl⟩
                    have HXE := Hid.in hxe
                    have HYE := Hid.in hye
                    rw [hxe] at hx
                    rw [hye] at hy cc
                    rw [hxe]
                    have HSO := Hid.in (shl_or x y (by omega) hy)
                    have hi1024 : A + j1 < 1024 := by omega
                    clear hnext hx hx2 hxe hye hzz
                    go_wp2
                    go_roundw
                    case rel =>
                      refine ⟨j1, _, rfl, by simp, by omega, ?_, trivial⟩
                      rw [HSO.out, HNX.out, HYE.out, HXE.out]
                    case measure => simp [intOf]
              · go_wp2_with (first
                  | (go_at_call 8
                     refine (write_at w.heap.size p h n V' S' A z gd ix _ HK8.out.ch (by omega) HD.out HAT.out HFT.out (by have := HE8.out.2.2.2.1; omega)).mono ?_
                     rintro e w9 ⟨rfl, hch, ht⟩
                     have HK9 := Hid.in (HK8.out.onC hch ht (fun q hq => Or.inl hq))
                     have HI9 := Hid.in (HI8.out.wrote A z gd ix HZ16.out.2.2 HAT.out)
                     clear hch ht))
                clear c0 c3 hab8
                have z4 := HZ16.out.2.1
                have zle := HAZ.out.2
                have HK9' : Hid (Lw w w9 p h n F (F + 1) V' (S'.wrote (S'.of A) ix (A % 16) gd z) (written f A 0 gd) m') := by
                  have e1 : written f A 0 gd = f := by
                    funext x
                    exact if_neg (by omega)
                  show Lw w w9 p h n F (F + 1) V' _ (written f A 0 gd) m'
                  rw [e1]
                  exact HK9.out
                clear HK9
                go_loopw [20] (fun bv wr' => ∃ jn : Nat, bv = .int .i64 jn ∧ jn ≤ z ∧ Lw w wr' p h n F (F + 1) V' (S'.wrote (S'.of A) ix (A % 16) gd z) (written f A jn gd) m') (fun bv _ => 5 - (intOf bv).toNat)
                case atStart => exact ⟨0, rfl, Nat.zero_le _, HK9'.out⟩
                case round =>
                  obtain ⟨jn, rfl, hjn, Kj⟩ := hrel
                  have HKJ := Hid.in Kj
                  by_cases hlt : jn < z
                  · have lw := Kj.low
                    have c3 := (lw.cell (p := ⟨ab, ao + k * 4 + 3, none⟩) HE03.out.1).trans HE03.out.2.2
                    have hab9 := Nat.lt_of_lt_of_le HE03.out.1 lw.size
                    have cc := Kj.cf.cell (A + jn) (by omega)
                    have cfr := Kj.cf.free (A + jn)
                    have ch9 := Kj.cf.here
                    obtain ⟨y, hye⟩ : ∃ y, written f A jn gd (A + jn) = y := ⟨_, rfl⟩
                    rw [hye] at cc
                    have hi1024 : A + jn < 1024 := by omega
                    clear lw Kj hye HK9'
                    go_wp2
                    go_roundw
                    case rel =>
                      refine ⟨jn + 1, by simp, by omega, ?_⟩
                      have ev : (gd : Int) / 2 ^ (8 * jn) % 256 = ((gd / 256 ^ jn % 256 : Nat) : Int) := by
                        have e : (2 : Nat) ^ (8 * jn) = 256 ^ jn := by rw [Nat.pow_mul]
                        rw [← e]
                        simp
                      rw [ev]
                      refine HKJ.out.onF ((Turned.refl (fun q => q = F) _).set rfl _ _) ((HKJ.out.cf.set (A + jn) hi1024 _).ext fun o ho => ?_)
                      unfold upd written
                      by_cases e : o = A + jn
                      · subst e
                        rw [if_pos rfl, if_pos (by omega), Nat.add_sub_cancel_left]
                      · rw [if_neg e]
                        dsimp only
                        by_cases e2 : A ≤ o ∧ o < A + jn
                        · rw [if_pos e2, if_pos (by omega)]
                        · rw [if_neg e2, if_neg (by omega)]
                    case measure => simp [intOf]; omega
                  · obtain rfl : jn = z := by omega
                    clear Kj HK9'
                    go_wp2
                    go_roundw
                    case rel => exact ⟨k + 1, V', _, _, m', by simp, by omega, HKJ.out, HI9.out⟩
                    case measure => simp [intOf]; omega
        · have hkd : decide ((k : Int) < 2000) = false := by simp; omega
          go_wp2
          go_ret
          exact ⟨rfl, HK.out.low⟩
      · have hkd : decide ((k : Int) < (m : Int)) = false := by simp; omega
        go_wp2
        go_ret
        exact ⟨rfl, HK.out.low⟩
end Go.Proofs.Ytaffimbkdmbndaa
