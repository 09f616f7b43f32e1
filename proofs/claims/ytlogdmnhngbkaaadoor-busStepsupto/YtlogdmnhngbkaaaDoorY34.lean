import Derived.Test.YtlogdmnhngbkaaaDoorY31
import Derived.Test.YtlogdmnhngbkaaaDoorY33
/-
  BUS: what the answer's Data come to, plainly.
-/
namespace Go.Proofs.YtlogdmnhngbkaaaDoor
open Go Go.RowKit
def ovL (m : Nat → Nat) (l : List Ln) : Nat → Nat := l.foldl wbm' m
def ovN (R : Nat → List Ln) (m : Nat → Nat) : Nat → Nat → Nat
  | 0 => m
  | i + 1 => ovL (ovN R m i) (R i)
theorem ovL_snoc (m : Nat → Nat) (l : List Ln) (e : Ln) : ovL m (l ++ [e]) = wbm' (ovL m l) e := by
  unfold ovL
  rw [List.foldl_append]
  rfl
theorem ovL_take (m : Nat → Nat) (l : List Ln) (i : Nat) (hi : i < l.length) : ovL m (l.take (i + 1)) = wbm' (ovL m (l.take i)) (l.getD i l0) := by
  have e : l.take (i + 1) = l.take i ++ [l.getD i l0] := by
    rw [List.take_add_one, List.getD_eq_getElem?_getD, List.getElem?_eq_getElem hi]
    rfl
  rw [e, ovL_snoc]
theorem Same.L {T : CS} {L : List Ln} (h : Same T L) (e : Ln) : e ∈ L ↔ T.L e := by
  constructor
  · intro he
    have hq : e.a / 16 % T.n < T.n := Nat.mod_lt _ h.n.1
    refine ⟨e.a / 16 % T.n, hq, ?_⟩
    rw [h.set _ hq]
    exact List.mem_filter.2 ⟨he, decide_eq_true rfl⟩
  · rintro ⟨q, hq, he⟩
    rw [h.set q hq] at he
    exact (List.mem_filter.1 he).1
/-- what is laid over memory so far -/
def OvP (S : BS) (f m : Nat → Nat) (P : Ln → Prop) : Prop := ∀ o, o < S.len → m o = f o ∨ (m o = S.mem o ∧ ∀ e, P e → e.s = 3 → e.a ≠ 65536 + lineOf o)
theorem ovp_step {S : BS} {f m : Nat → Nat} {P : Ln → Prop} (co : Cg S f) (h : OvP S f m P) (i : Nat) (hi : i < S.nc) (e : Ln) (he : (S.c i).L e) : OvP S f (wbm' m e) (fun y => P y ∨ y = e) := by
  intro o ho
  obtain ⟨-, a16, alo, ahi, s1, s3, hb, h8⟩ := co.se.line i e ⟨hi, he⟩
  unfold wbm'
  by_cases c : e.s = 3
  · rw [if_pos c]
    unfold wbm
    by_cases q : e.a - 65536 ≤ o ∧ o < e.a - 65536 + 16
    · left
      have e2 : e.a - 65536 + (o - (e.a - 65536)) = o := by omega
      rw [if_pos q, hb _ (by omega), e2]
    · rw [if_neg q]
      rcases h o ho with z | ⟨z1, z2⟩
      · exact Or.inl z
      · right
        refine ⟨z1, fun y hy hs => ?_⟩
        rcases hy with hy | rfl
        · exact z2 y hy hs
        · intro e2
          apply q
          rw [e2]
          unfold lineOf
          omega
  · rw [if_neg c]
    rcases h o ho with z | ⟨z1, z2⟩
    · exact Or.inl z
    · right
      refine ⟨z1, fun y hy hs => ?_⟩
      rcases hy with hy | rfl
      · exact z2 y hy hs
      · exact absurd hs c
theorem ovp_list {S : BS} {f : Nat → Nat} (co : Cg S f) (i : Nat) (hi : i < S.nc) : ∀ (l : List Ln) (m : Nat → Nat) (P : Ln → Prop), OvP S f m P → (∀ e ∈ l, (S.c i).L e) → OvP S f (ovL m l) (fun y => P y ∨ y ∈ l)
  | [], m, P, h, _ => fun o ho => (h o ho).imp id (fun q => ⟨q.1, fun e he => q.2 e (he.elim id (fun z => by simp at z))⟩)
  | e :: l, m, P, h, hl => by
    have h1 := ovp_list co i hi l (wbm' m e) _ (ovp_step co h i hi e (hl e (by simp))) (fun y hy => hl y (by simp [hy]))
    intro o ho
    have := h1 o ho
    refine this.imp id (fun q => ⟨q.1, fun y hy => q.2 y ?_⟩)
    rcases hy with hy | hy
    · exact Or.inl (Or.inl hy)
    · rcases List.mem_cons.1 hy with rfl | hy
      · exact Or.inl (Or.inr rfl)
      · exact Or.inr hy
theorem ovp_all {S : BS} {f : Nat → Nat} {R : Nat → List Ln} (co : Cg S f) (hs : ∀ i, i < S.nc → Same (S.c i) (R i)) : ∀ n, n ≤ S.nc → OvP S f (ovN R S.mem n) (fun y => ∃ i, i < n ∧ y ∈ R i)
  | 0, _ => fun o _ => Or.inr ⟨rfl, fun e he => by obtain ⟨i, hi, -⟩ := he; omega⟩
  | n + 1, hn => by
    have h1 := ovp_list co n (by omega) (R n) _ _ (ovp_all co hs n (by omega)) (fun e he => ((hs n (by omega)).L e).1 he)
    intro o ho
    refine (h1 o ho).imp id (fun q => ⟨q.1, fun y hy => q.2 y ?_⟩)
    obtain ⟨i, hi, hy⟩ := hy
    by_cases e : i = n
    · subst e
      exact Or.inr hy
    · exact Or.inl ⟨i, by omega, hy⟩
theorem ov_is {S : BS} {f : Nat → Nat} {R : Nat → List Ln} (co : Cg S f) (hs : ∀ i, i < S.nc → Same (S.c i) (R i)) (o : Nat) (ho : o < S.len) : ovN R S.mem S.nc o = f o := by
  rcases ovp_all co hs S.nc (Nat.le_refl _) o ho with q | ⟨q1, q2⟩
  · exact q
  · rw [q1]
    rcases co.se.out o ho with z | ⟨i, e, ⟨hi, he⟩, z1, z2⟩
    · exact z
    · exact absurd z2 (q2 e ⟨i, hi, ((hs i hi).L e).2 he⟩ z1)
end Go.Proofs.YtlogdmnhngbkaaaDoor
/-
  BUS: the answer's Data.
-/
namespace Go.Proofs.YtlogdmnhngbkaaaDoor
open Go Go.RowKit
set_option maxRecDepth 100000 in
set_option maxHeartbeats 4000000 in
theorem vblk4 {u0 u1 u2 u4 u5 u8 u9 u10 u11 u12 u13 u14 u15 u16 u17 u18 u19 u20 u21 u22 u23 u24 u25 u26 u27 u28 u29 u30 u31 u32 u33 u34 u35 u36 u37 u38 u39 u40 u41 u42 u43 u44 u45 u46 u47 u48 u49 u50 u51 u52 u53 u54 u55 u56 u57 u58 u59 u60 u61 u62 u63 u64 u65 u66 u67 u68 u69 u70 u71 : Value} {ds : List Deferred} {W : World} {db len cap xb : Nat} {dd : Nat → Nat} {e : Ln} (hd : CellsAt len W db (fun o => .int .u8 (dd o))) (hx : W.rangeAt xb 0 e.rv) (hxl : xb < W.heap.size) (hne : xb ≠ db) (_hc : len ≤ cap ∧ cap ≤ 9223372036854775807) (h4 : len ≤ 4096) (he : e.s = 3 → 65536 ≤ e.a ∧ e.a - 65536 + 16 ≤ len) {K : Act → World → Prop} (hk : ∀ (t7 t51 t52 t53 t54 t55 t56 t57 t58 t59 t60 t61 t62 t63 t64 t65 t66 t67 t68 t69 t70 : Value) (y : World), CellsAt len y db (fun o => .int .u8 (wbm' dd e o)) → Turned (fun j => j = db) W y → K ⟨#[u0, u1, u2, .slice (some ⟨db, 0, none⟩) len cap, u4, u5, .pointer (some ⟨xb, 0, none⟩), t7, u8, u9, u10, u11, u12, u13, u14, u15, u16, u17, u18, u19, u20, u21, u22, u23, u24, u25, u26, u27, u28, u29, u30, u31, u32, u33, u34, u35, u36, u37, u38, u39, u40, u41, u42, u43, u44, u45, u46, u47, u48, u49, u50, t51, t52, t53, t54, t55, t56, t57, t58, t59, t60, t61, t62, t63, t64, t65, t66, t67, t68, t69, t70, u71], ds⟩ y) : (blkIn Tryd.f20.body 4).wp Tryd.prog (Exit.then K NoX) ⟨#[u0, u1, u2, .slice (some ⟨db, 0, none⟩) len cap, u4, u5, .pointer (some ⟨xb, 0, none⟩), .int .i64 0, u8, u9, u10, u11, u12, u13, u14, u15, u16, u17, u18, u19, u20, u21, u22, u23, u24, u25, u26, u27, u28, u29, u30, u31, u32, u33, u34, u35, u36, u37, u38, u39, u40, u41, u42, u43, u44, u45, u46, u47, u48, u49, u50, u51, u52, u53, u54, u55, u56, u57, u58, u59, u60, u61, u62, u63, u64, u65, u66, u67, u68, u69, u70, u71], ds⟩ W := by
  have HQ := Hid.in hk
  have HD := Hid.in hd
  show Code.wp _ (Code.block 4 (Code.loop _)) _ _ _
  by_cases hs : e.s = 3
  · obtain ⟨alo, ahi⟩ := he hs
    have HW : Hid (wbm' dd e = wbm dd e) := if_pos hs
    have HC : Hid (∀ wr, Turned (fun j => j = db) W wr → wr.cell? ⟨xb, 0, none⟩ = some (.int .i64 e.a) ∧ wr.cell? ⟨xb, 1, none⟩ = some (.int .i64 3) ∧ (∀ j, j < 16 → wr.cell? ⟨xb, 2 + j, none⟩ = some (.int .u8 (e.b j : Nat))) ∧ xb < wr.heap.size) := by
      intro wr t
      refine ⟨t.to_cell hxl hne (hx 0 _ rfl), ?_, fun j hj => t.to_cell hxl hne ?_, Nat.lt_of_lt_of_le hxl t.size⟩
      · have h1 : W.cell? ⟨xb, 1, none⟩ = some (.int .i64 e.s) := hx 1 _ rfl
        rw [hs] at h1
        exact t.to_cell hxl hne h1
      · have := hx (2 + j) _ (e.rat2 j hj)
        rwa [Nat.zero_add] at this
    have HST : Hid (∀ wr i, i < 16 → Kp W wr db len dd e i → Kp W (wr.setCell ⟨db, e.a - 65536 + i, none⟩ (.int .u8 (e.b i : Nat))).drew db len dd e (i + 1)) := by
      intro wr i hi kp
      have c1 := ((kp.m).set (e.a - 65536 + i) (by omega) (.int .u8 (e.b i : Nat))).ext fun o _ => kpm_s dd e i o
      exact ⟨c1.drew, (kp.t.set rfl _ _).drew⟩
    have HK0 : Hid (Kp W W db len dd e 0) := ⟨by rw [kpm_0]; exact hd, Turned.refl _ _⟩
    obtain ⟨b, hbb⟩ : ∃ b : Nat, e.a - 65536 = b := ⟨_, rfl⟩
    have hab : (e.a : Int) - 65536 = (b : Int) := by omega
    rw [hbb] at HST
    have hbl : b + 16 ≤ len := by omega
    generalize e.a = ea at HC hab
    clear hk hd hx he hs alo ahi hbb
    go_wp2_with fail
    go_loopw [7] (fun u wr => ∃ i : Nat, u = .int .i64 i ∧ i ≤ 16 ∧ Hid (Kp W wr db len dd e i)) (fun v _ => 17 - (intOf v).toNat)
    case atStart => exact ⟨0, rfl, by omega, HK0⟩
    case round =>
      obtain ⟨i, rfl, hi, HKP⟩ := hrel
      obtain ⟨e0, e1, e2, e4⟩ := HC.out wr HKP.out.t
      by_cases hlt : i < 16
      · have eb := e2 i hlt
        have hmm := HKP.out.m.cell (b + i) (by omega)
        have hmf := HKP.out.m.free (b + i)
        have hmh := HKP.out.m.here
        have hi4 : (b : Int) + (i : Int) < (len : Int) := by omega
        have hi5 : (i : Int) < 16 := by omega
        have hi6 : (b : Int) ≤ 4096 := by omega
        have hlt' : decide ((i : Int) < 16) = true := decide_eq_true (by omega)
        clear e2
        go_upto_region 13 with fail
        go_region
        all_goals (try go_wp2)
        all_goals exact ⟨⟨i + 1, by simp, by omega, HST.out wr i hlt HKP.out⟩, by simp only [intOf]; omega⟩
      · have hlt' : decide ((i : Int) < 16) = false := decide_eq_false (by omega)
        obtain rfl : i = 16 := by omega
        go_wp2
        exact HQ.out _ _ _ _ _ _ _ _ _ _ _ _ _ _ _ _ _ _ _ _ _ _ (by rw [HW.out]; exact HKP.out.m) HKP.out.t
  · have hs' : ((e.s : Int) == 3) = false := by simp; omega
    have hs2 : ¬ (e.s : Int) = 3 := by omega
    have hs3 : decide ((e.s : Int) = 3) = false := by simp; omega
    have HW : Hid (wbm' dd e = dd) := if_neg hs
    have c1 : W.cell? ⟨xb, 1, none⟩ = some (.int .i64 e.s) := hx 1 _ rfl
    clear hk hd hx he hs
    go_wp2_with fail
    go_loopw [7] (fun u wr => u = .int .i64 0 ∧ W = wr) (fun _ _ => 0)
    case atStart => exact ⟨rfl, rfl⟩
    case round =>
      obtain ⟨rfl, rfl⟩ := hrel
      go_wp2
      exact HQ.out _ _ _ _ _ _ _ _ _ _ _ _ _ _ _ _ _ _ _ _ _ _ (by rw [HW.out]; exact HD.out) (Turned.refl _ _)
set_option maxRecDepth 100000 in
set_option maxHeartbeats 4000000 in
theorem vblk2 {u1 u2 u6 u7 u8 u9 u10 u11 u12 u13 u14 u15 u16 u17 u18 u19 u20 u21 u22 u23 u24 u25 u26 u27 u28 u29 u30 u31 u32 u33 u34 u35 u36 u37 u38 u39 u40 u41 u42 u43 u44 u45 u46 u47 u48 u49 u50 u51 u52 u53 u54 u55 u56 u57 u58 u59 u60 u61 u62 u63 u64 u65 u66 u67 u68 u69 u70 u71 : Value} {ds : List Deferred} {W : World} {g : Rn} {rv : Nat → Value} {R : Nat → List Ln} {last left : Int} {S : BS} {f : Nat → Nat} {db len cap k : Nat} {dd : Nat → Nat} (kb : Rb W g rv R last left S) (co : Cg S f) (hk1 : k < S.nc) (hlen : S.len = len) (hdb : ¬ g.its rv S db) (hd : CellsAt len W db (fun o => .int .u8 (dd o))) (hc : len ≤ cap ∧ cap ≤ 9223372036854775807) {K : Act → World → Prop} (hk : ∀ (t5 t6 t7 t23 t24 t25 t26 t27 t28 t29 t30 t31 t32 t33 t34 t35 t36 t37 t38 t39 t40 t41 t42 t43 t44 t45 t46 t47 t48 t49 t50 t51 t52 t53 t54 t55 t56 t57 t58 t59 t60 t61 t62 t63 t64 t65 t66 t67 t68 t69 t70 : Value) (y : World), CellsAt len y db (fun o => .int .u8 (ovL dd (R k) o)) → Turned (fun j => j = db) W y → K ⟨#[.pointer (some ⟨g.p, 0, none⟩), u1, u2, .slice (some ⟨db, 0, none⟩) len cap, .int .i64 (k : Nat), t5, t6, t7, u8, u9, u10, u11, u12, u13, u14, u15, u16, u17, u18, u19, u20, u21, u22, t23, t24, t25, t26, t27, t28, t29, t30, t31, t32, t33, t34, t35, t36, t37, t38, t39, t40, t41, t42, t43, t44, t45, t46, t47, t48, t49, t50, t51, t52, t53, t54, t55, t56, t57, t58, t59, t60, t61, t62, t63, t64, t65, t66, t67, t68, t69, t70, u71], ds⟩ y) : (blkIn Tryd.f20.body 2).wp Tryd.prog (Exit.then K NoX) ⟨#[.pointer (some ⟨g.p, 0, none⟩), u1, u2, .slice (some ⟨db, 0, none⟩) len cap, .int .i64 (k : Nat), .int .i64 0, u6, u7, u8, u9, u10, u11, u12, u13, u14, u15, u16, u17, u18, u19, u20, u21, u22, u23, u24, u25, u26, u27, u28, u29, u30, u31, u32, u33, u34, u35, u36, u37, u38, u39, u40, u41, u42, u43, u44, u45, u46, u47, u48, u49, u50, u51, u52, u53, u54, u55, u56, u57, u58, u59, u60, u61, u62, u63, u64, u65, u66, u67, u68, u69, u70, u71], ds⟩ W := by
  have HQ := Hid.in hk
  have HD := Hid.in hd
  have h4 : len ≤ 4096 := by rw [← hlen]; exact kb.sz.2.2.2.1
  obtain ⟨m, hm⟩ : ∃ m, (R k).length = m := ⟨_, rfl⟩
  have hm64 : m ≤ 64 := by rw [← hm]; exact (kb.rc k hk1).small.1
  have HM := Hid.in hm
  have HLN : Hid (∀ i, i < m → ((R k).getD i l0).s = 3 → 65536 ≤ ((R k).getD i l0).a ∧ ((R k).getD i l0).a - 65536 + 16 ≤ len) := by
    intro i hi _
    have hmem := getD_mem (R k) i (by omega)
    obtain ⟨-, a16, alo, ahi, -⟩ := co.se.line k _ ⟨hk1, ((kb.sm k hk1).L _).1 hmem⟩
    have := co.len.2
    omega
  have HR : Hid (∀ wr, Turned (fun j => j = db) W wr → ∃ qa c2, wr.cell? ⟨g.p, 0, none⟩ = some (.slice (some ⟨g.cb, 0, none⟩) S.nc g.cc) ∧ wr.cell? ⟨g.cb, k, none⟩ = some (.pointer (some ⟨g.q k, 0, none⟩)) ∧ wr.cell? ⟨g.q k, 2, none⟩ = some (.slice qa m c2) ∧ g.p < wr.heap.size ∧ g.cb < wr.heap.size ∧ g.q k < wr.heap.size ∧ (∀ i, i < m → ∃ gb, qa = some ⟨gb, 0, none⟩ ∧ gb < wr.heap.size ∧ wr.rangeAt gb (i * 18) ((R k).getD i l0).rv) ∧ m ≤ c2 ∧ c2 ≤ 9223372036854775807) := by
    intro wr t
    have kw := kb.turn t (fun z hz hi => hdb (by rw [← hz]; exact hi))
    obtain ⟨q1, -, -, q4, -⟩ := (kw.rc k hk1).cells
    obtain ⟨qa, c2, hv, hcap, hel⟩ := own_rlines (kw.rc k hk1).l
    rw [hm] at hv hcap hel
    rw [hv] at q4
    refine ⟨qa, c2, kw.c.cell 0 (by decide), kw.row.cell k hk1, q4, kw.c.here, kw.row.here, q1, fun i hi => ?_, hcap.1, by have := hcap.2; unfold maxLen at this; omega⟩
    obtain ⟨gb, r1, -, r3, r4, -⟩ := hel i hi
    exact ⟨gb, r1, r3, r4⟩
  have HT0 : Hid (ovL dd ((R k).take 0) = dd) := by show ovL dd ((R k).take 0) = dd; rw [List.take_zero]; rfl
  have HTM : Hid (ovL dd ((R k).take m) = ovL dd (R k)) := by show ovL dd ((R k).take m) = _; rw [← hm, List.take_length]
  have HTS : Hid (∀ i, i < m → ovL dd ((R k).take (i + 1)) = wbm' (ovL dd ((R k).take i)) ((R k).getD i l0)) := fun i hi => ovL_take dd (R k) i (by omega)
  have hk1' : (k : Int) < (S.nc : Int) := by omega
  have HDL : Hid (∀ wr, Turned (fun j => j = db) W wr → db < wr.heap.size) := fun wr t => Nat.lt_of_lt_of_le hd.here t.size
  clear hk hd kb co hm hlen hdb
  show Code.wp _ (Code.block 2 (Code.loop _)) _ _ _
  go_wp2_with fail
  go_loopw [5] (fun iv wr => ∃ i : Nat, iv = .int .i64 i ∧ i ≤ m ∧ Hid (CellsAt len wr db (fun o => .int .u8 (ovL dd ((R k).take i) o))) ∧ Hid (Turned (fun j => j = db) W wr)) (fun iv _ => 65 - (intOf iv).toNat)
  case atStart => exact ⟨0, rfl, by omega, by rw [HT0.out]; exact HD, Turned.refl _ _⟩
  case round =>
    obtain ⟨i, rfl, hi, HC, HT⟩ := hrel
    obtain ⟨qa, c2, e0, e1, e2, e3, e4, e5, e6, e7, e8⟩ := HR.out wr HT.out
    by_cases hlt : i < m
    · obtain ⟨gb, rfl, hgb, hrg⟩ := e6 i hlt
      have hlt' : (i : Int) < (m : Int) := by omega
      obtain ⟨e, he⟩ : ∃ e, (R k).getD i l0 = e := ⟨_, rfl⟩
      rw [he] at hrg
      have HE := Hid.in he
      have HRG := Hid.in hrg
      clear e6 he
      go_upto_block 4 with (first
        | (refine rld gb (i * 18) e (World.rangeAt_alloc HRG.out _) rfl _ rfl rfl ?_)
        | (refine rld gb (i * 18) e HRG.out rfl _ rfl rfl ?_)
        | (refine rstn wr e zr rfl wr.heap.size rfl rfl rfl _ _ rfl rfl rfl ?_))
      obtain ⟨X, hX⟩ : ∃ X, wr.alloc (.cells e.rv.toArray 104) = X := ⟨_, rfl⟩
      obtain ⟨xb, hxb⟩ : ∃ xb, wr.heap.size = xb := ⟨_, rfl⟩
      have bX : Below wr.heap.size wr X := by rw [← hX]; exact (Below.refl _ _).alloc (Nat.le_refl _) _
      have rX : X.rangeAt xb 0 e.rv := by rw [← hX, ← hxb]; exact rrange_new wr e _
      have sX : X.heap.size = xb + 1 := by rw [← hX, ← hxb]; simp
      have hne : xb ≠ db := by have := HDL.out wr HT.out; omega
      have cX := HC.out.below bX
      have tX : Turned (fun j => j = db) W X := HT.out.trans (Turned.of_below bX)
      have HTX := Hid.in tX
      rw [hX, hxb]
      clear hX hxb e0 e1 e2 e3 e4 e5 hgb hrg
      refine wp_then (wp_any (vblk4 cX rX (by omega) hne hc h4 (by have := HLN.out i hlt; rw [HE.out] at this; exact this) ?_))
      intro t7 t51 t52 t53 t54 t55 t56 t57 t58 t59 t60 t61 t62 t63 t64 t65 t66 t67 t68 t69 t70 y hcy hty
      have HCY := Hid.in hcy
      have HTY : Hid (Turned (fun j => j = db) W y) := HTX.out.trans hty
      clear hcy hty cX rX tX bX
      go_wp2
      go_roundw
      case rel => exact ⟨i + 1, by simp, by omega, by rw [HTS.out i hlt, HE.out]; exact HCY, HTY⟩
      case measure => simp [intOf]; omega
    · obtain rfl : i = m := by omega
      have hlt' : ¬ (i : Int) < (i : Int) := by omega
      clear e6
      go_wp2
      exact HQ.out _ _ _ _ _ _ _ _ _ _ _ _ _ _ _ _ _ _ _ _ _ _ _ _ _ _ _ _ _ _ _ _ _ _ _ _ _ _ _ _ _ _ _ _ _ _ _ _ _ _ _ _ (by rw [← HTM.out]; exact HC.out) HT.out
end Go.Proofs.YtlogdmnhngbkaaaDoor
/-
  BUS: the answer's Data, whole.
-/
namespace Go.Proofs.YtlogdmnhngbkaaaDoor
open Go Go.RowKit
/-- a row of bytes -/
def byteL (m : Nat → Nat) (n : Nat) : List Value := (List.range n).map (fun o => Value.int .u8 (m o : Nat))
theorem byteL_len (m : Nat → Nat) (n : Nat) : (byteL m n).length = n := by simp [byteL]
theorem byteL_at (m : Nat → Nat) (n j : Nat) (h : j < n) : (byteL m n)[j]? = some (.int .u8 (m j : Nat)) := by
  unfold byteL
  rw [List.getElem?_map, List.getElem?_range h]
  rfl
theorem byteL_one (m : Nat → Nat) (n : Nat) : ∀ u ∈ byteL m n, u.oneCell' = true := by
  intro u hu
  obtain ⟨i, _, rfl⟩ := List.mem_map.1 hu
  rfl
theorem own_bytes {w : World} {B b n cap : Nat} {m : Nat → Nat} (h : w.ownsRow B 5 1 (.slice (some ⟨b, 0, none⟩) n cap) n (byteL m n)) : CellsAt n w b (fun o => .int .u8 (m o : Nat)) ∧ n ≤ cap ∧ cap ≤ 9223372036854775807 := by
  have h0 := h
  obtain ⟨-, h2⟩ := h
  rcases h2 with ⟨hv, -⟩ | ⟨g, c2, cur, hv, b2, b3, b4, b5, -⟩
  · simp at hv
  · cases hv
    refine ⟨⟨(own_base h0 b rfl).2, fun o ho => ?_, fun o => by simp [World.frozen?, b3]⟩, b4, by unfold maxLen at b5; omega⟩
    have := World.ownsRow.cells h0 rfl o _ (byteL_at m n o ho)
    rwa [Addr.add_lit, Nat.zero_add] at this
theorem app_bytes {B : Nat} (x : World) (v : Value) (k : Nat) (xs : List Value) (a : Addr) (n c : Nat) (m : Nat → Nat) (hr : x.ownsRow B 5 1 v k xs) (hs : ∀ j, j < n → x.cell? (a.add j) = some (.int .u8 (m j : Nat))) (hk : k + n ≤ 100000000) (hB : B ≤ x.heap.size) : ∃ v' y, (Builtin.append_ #[23, 23] 23 #[v, .slice (some a) n c]).run Tryd.prog x = .ok v' y ∧ y.ownsRow B 5 1 v' (k + n) (xs ++ byteL m n) ∧ Turned (fun j => v.ownBlock = some j) x y ∧ (v'.ownBlock = v.ownBlock ∨ v'.ownBlock = some x.heap.size) ∧ (v' = .slice none 0 0 ↔ v = .slice none 0 0 ∧ n = 0) := by
  obtain ⟨i0, hi0, hz0, hz1, hz2⟩ := info_parts (show (Tryd.prog.info? 5).map (fun i => (i.zero, i.size, i.bytes)) = some (some (.int .u8 0), 1, 1) by kernel_rfl)
  obtain ⟨v', w1, hrun, r1, r2, r3, r4⟩ := run_append_own_at (P := Tryd.prog) (w := x) B 23 23 5 i0 (.int .u8 0) 1 1 Tryd.underlying23 hi0 hz0 hz1 hz2 rfl (by decide) v k xs hr a n c (byteL m n) (by rw [byteL_len, Nat.mul_one]) (fun j u hj => by
    have hjn : j < n := by
      have := (List.getElem?_eq_some_iff.1 hj).1
      rwa [byteL_len] at this
    rw [byteL_at m n j hjn] at hj
    rw [hs j hjn]
    exact hj) (byteL_one m n) (by unfold maxLen; omega) (by omega) hB
  exact ⟨v', w1, hrun, r1, turned_grown r2, r4, r3⟩
def DatR (x : World) (n : Nat) (f : Nat → Nat) (e : Ending) (w' : World) : Prop := ∃ q cap, e = .returned (.slice q n cap) ∧ HandB w' q n f ∧ Below x.heap.size x w' ∧ ∀ c o, q = some ⟨c, o, none⟩ → x.heap.size ≤ c
section
variable {x : World} {g : Rn} {F : Nat → Prop} {S : BS} {f : Nat → Nat}
set_option maxRecDepth 100000 in
set_option maxHeartbeats 4000000 in
theorem rudata (h : Ru x g F S) (co : Cg S f) (hm0 : S.len = 0 → g.mq = none ∧ g.mc = 0) : Calls Tryd.prog 20 #[.pointer (some ⟨g.p, 0, none⟩)] x (DatR x S.len f) := by
  obtain ⟨rv, R, last, left, k, -⟩ := h
  have p0 : x.cell? ⟨g.p, 0, none⟩ = some (.slice (some ⟨g.cb, 0, none⟩) S.nc g.cc) := k.c.cell 0 (by decide)
  have p2 : x.cell? ⟨g.p, 2, none⟩ = some (.slice g.mq S.len g.mc) := k.c.cell 2 (by decide)
  have hp := k.c.here
  have hnc : S.nc ≤ 2 := k.sz.2.1
  by_cases hl : S.len = 0
  · obtain ⟨h1, h2⟩ := hm0 hl
    rw [h1, h2, hl] at p2
    have hnil : ∀ i, i < S.nc → R i = [] := fun i hi => by
      rcases hR : R i with _ | ⟨e, t⟩
      · rfl
      · have hL : (S.c i).L e := ((k.sm i hi).L e).1 (by rw [hR]; simp)
        obtain ⟨-, -, alo, ahi, -⟩ := co.se.line i e ⟨hi, hL⟩
        omega
    have HC : Hid (∀ i, i < S.nc → x.cell? ⟨g.cb, i, none⟩ = some (.pointer (some ⟨g.q i, 0, none⟩)) ∧ g.cb < x.heap.size ∧ g.q i < x.heap.size ∧ ∃ qa c2, x.cell? ⟨g.q i, 2, none⟩ = some (.slice qa 0 c2)) := fun i hi => by
      obtain ⟨q1, -, -, q4, -⟩ := (k.rc i hi).cells
      obtain ⟨qa, c2, hv, -, -⟩ := own_rlines (k.rc i hi).l
      rw [hnil i hi] at hv
      rw [hv] at q4
      exact ⟨k.row.cell i hi, k.row.here, q1, qa, c2, q4⟩
    rw [hl]
    clear k co hm0 hnil hl h1 h2
    go_enter Tryd.func20, Tryd.ntmps20
    go_wp2
    go_loopw [4] (fun iv wr => ∃ i : Nat, iv = .int .i64 i ∧ i ≤ S.nc ∧ x = wr) (fun iv _ => 3 - (intOf iv).toNat)
    case atStart => exact ⟨0, rfl, by omega, rfl⟩
    case round =>
      obtain ⟨i, rfl, hi, rfl⟩ := hrel
      by_cases hlt : i < S.nc
      · obtain ⟨e0, e1, e2, qa, c2, e3⟩ := HC.out i hlt
        have hlt' : (i : Int) < (S.nc : Int) := by omega
        go_wp2
        go_loopw [5] (fun jv wr => jv = .int .i64 0 ∧ x = wr) (fun _ _ => 0)
        case atStart => exact ⟨rfl, rfl⟩
        case round =>
          obtain ⟨rfl, rfl⟩ := hrel
          go_wp2
          go_roundw
          case rel => exact ⟨i + 1, by simp, by omega, trivial⟩
          case measure => simp [intOf]; omega
      · obtain rfl : i = S.nc := by omega
        have hlt' : ¬ (S.nc : Int) < (S.nc : Int) := by omega
        go_wp2
        go_ret
        exact ⟨none, 0, rfl, fun i hi => absurd hi (by omega), Below.refl _ _, fun c o e => by cases e⟩
  · obtain ⟨hmq, hm⟩ := k.m (by omega)
    have hsz := k.sz
    obtain ⟨len, hlen⟩ : ∃ len, S.len = len := ⟨_, rfl⟩
    rw [hmq] at p2
    rw [hlen] at p2 hm hl hsz ⊢
    obtain ⟨v', Y, hrun, hrow, hT, hown, -⟩ := app_bytes (B := x.heap.size) x (.slice none 0 0) 0 [] ⟨g.mb, 0, none⟩ len g.mc S.mem (World.ownsRow_nil _ _ _ _) (fun j hj => by rw [Addr.add_lit, Nat.zero_add]; exact hm.cell j hj) (by omega) (Nat.le_refl _)
    rw [Nat.zero_add, List.nil_append] at hrow
    obtain ⟨n', hn'⟩ : ∃ n', len = n' + 1 := ⟨len - 1, by omega⟩
    obtain ⟨db, cap, hv⟩ := own_succ (n := n') (by rw [← hn']; exact hrow)
    rw [← hn'] at hv
    subst hv
    have hdb : db = x.heap.size := by
      rcases hown with q | q
      · simp [Value.ownBlock] at q
      · simpa [Value.ownBlock] using q
    have bY : Below x.heap.size x Y := hT.below (Nat.le_refl _) (fun j q => by simp [Value.ownBlock] at q)
    obtain ⟨cY, hcap⟩ := own_bytes hrow
    have kY := k.below bY
    have hdbi : ¬ g.its rv S db := fun q => by have := rits_lt k q; omega
    have HOV : Hid (∀ o, o < len → ovN R S.mem S.nc o = f o) := fun o ho => ov_is co k.sm o (by omega)
    have HKY : Hid (∀ wr, Turned (fun j => j = db) Y wr → Rb wr g rv R last left S) := fun wr t => kY.turn t (fun z hz hi => hdbi (by rw [← hz]; exact hi))
    have HCO := Hid.in co
    have HCY := Hid.in cY
    have HBY := Hid.in bY
    have HDB := Hid.in hdb
    have HDI := Hid.in hdbi
    have HLEN := Hid.in hlen
    have hl4 : len ≤ 4096 := hsz.2.2.2.1
    clear k co hm0 hm hmq hsz hrow hT hown hn' bY cY kY hdbi hdb hlen
    go_enter Tryd.func20, Tryd.ntmps20
    go_upto_block 0 with (at_builtin; refine wpList_append_run rfl rfl rfl rfl hrun ?_)
    clear hrun p0 p2 hp
    go_wp2_with fail
    go_loopw [4] (fun iv wr => ∃ i : Nat, iv = .int .i64 i ∧ i ≤ S.nc ∧ Hid (CellsAt len wr db (fun o => .int .u8 (ovN R S.mem i o))) ∧ Hid (Turned (fun j => j = db) Y wr)) (fun iv _ => 3 - (intOf iv).toNat)
    case atStart => exact ⟨0, rfl, by omega, HCY, Turned.refl _ _⟩
    case round =>
      obtain ⟨i, rfl, hi, HC, HT⟩ := hrel
      have kw := HKY.out wr HT.out
      have p0 : wr.cell? ⟨g.p, 0, none⟩ = some (.slice (some ⟨g.cb, 0, none⟩) S.nc g.cc) := kw.c.cell 0 (by decide)
      have hp := kw.c.here
      have HKW := Hid.in kw
      clear kw
      by_cases hlt : i < S.nc
      · have hlt' : (i : Int) < (S.nc : Int) := by omega
        go_upto_block 2 with fail
        refine wp_then (wp_any (vblk2 (k := i) (f := f) (dd := ovN R S.mem i) HKW.out HCO.out hlt HLEN.out HDI.out HC.out hcap ?_))
        intro t5 t6 t7 t23 t24 t25 t26 t27 t28 t29 t30 t31 t32 t33 t34 t35 t36 t37 t38 t39 t40 t41 t42 t43 t44 t45 t46 t47 t48 t49 t50 t51 t52 t53 t54 t55 t56 t57 t58 t59 t60 t61 t62 t63 t64 t65 t66 t67 t68 t69 t70 y hcy hty
        have HCY2 := Hid.in hcy
        have HTY : Hid (Turned (fun j => j = db) Y y) := HT.out.trans hty
        clear hcy hty p0 hp
        go_wp2
        go_roundw
        case rel => exact ⟨i + 1, by simp, by omega, HCY2, HTY⟩
        case measure => simp [intOf]; omega
      · obtain rfl : i = S.nc := by omega
        have hlt' : ¬ (S.nc : Int) < (S.nc : Int) := by omega
        go_wp2
        go_ret
        refine ⟨_, _, rfl, fun o ho => ⟨db, 0, rfl, HC.out.here, ?_⟩, HBY.out.trans (HT.out.below HBY.out.size (fun j q => by have := HDB.out; omega)), fun c o e => by cases e; exact Nat.le_of_eq HDB.out.symm⟩
        rw [Nat.zero_add, HC.out.cell o ho, HOV.out o ho]
end
end Go.Proofs.YtlogdmnhngbkaaaDoor
