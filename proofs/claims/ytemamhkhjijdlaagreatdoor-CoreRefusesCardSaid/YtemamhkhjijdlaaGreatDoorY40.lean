import Derived.Test.YtemamhkhjijdlaaGreatDoorY39
import Derived.Test.YtemamhkhjijdlaaGreatDoorY35
/-
  CORE: what the run tells, in all.
-/
namespace Go.Proofs.YtemamhkhjijdlaaGreatDoor
open Go Go.RowKit
section
variable {x y : World} {S : FS}
set_option maxRecDepth 100000 in
set_option maxHeartbeats 4000000 in
theorem freport (h : St x S) {mp mr cap : Nat} (m : Mach S mp mr cap) (ht : S.qs.top = false) (hR : RecOk S.R) {f : Nat → Nat} (co : Cg S.bs f) : Calls Tryz.prog 15 #[.pointer (some ⟨mp, 0, none⟩)] x fun e y => (∃ cy e1 e2 e3 q c d1 d2 d3, e = .returned (.agg #[.bool S.hl, .int .i64 cy, .slice e1 e2 e3, .string ByteArray.empty, .slice q 1 c, .slice d1 d2 d3])) ∧ Below S.w0.heap.size S.w0 y := by
  have H0 := Hid.in h
  have HM0 := Hid.in m
  clear h m
  go_enter Tryz.func15, Tryz.ntmps15
  go_upto_region 1 with fail
  have h1 := H0.out.newExt (n := 6) (c := #[.bool false, .int .i64 0, .slice none 0 0, .string ⟨#[]⟩, .slice none 0 0, .slice none 0 0]) (t := 38) 8 z6 rfl z6_at
  have m1 := HM0.out.exts 8 (CelC x.heap.size 6 z6) (by decide) (by decide)
  obtain ⟨X, hX⟩ : ∃ X, x.alloc (.cells #[.bool false, .int .i64 0, .slice none 0 0, .string ⟨#[]⟩, .slice none 0 0, .slice none 0 0] 38) = X := ⟨_, rfl⟩
  obtain ⟨rb, hrb⟩ : ∃ rb, x.heap.size = rb := ⟨_, rfl⟩
  obtain ⟨T, hT⟩ : ∃ T, ({ S with ext := upd S.ext 8 (CelC x.heap.size 6 z6) } : FS) = T := ⟨_, rfl⟩
  have tb : T.b = S.b := by rw [← hT]
  have tp : T.p = S.p := by rw [← hT]
  have tR : T.R = S.R := by rw [← hT]
  have ths : T.hl = S.hl := by rw [← hT]
  have tw : T.w0 = S.w0 := by rw [← hT]
  have tq : T.qs.top = false := by rw [← hT]; exact ht
  have tbs : T.bs = S.bs := by rw [← hT]
  have te8 : T.ext 8 = CelC rb 6 z6 := by rw [← hT, ← hrb]; exact (show upd S.ext 8 (CelC x.heap.size 6 z6) 8 = _ from upd_same _ _ _)
  rw [hX, hT] at h1
  rw [hT] at m1
  rw [hX, hrb]
  have HTH := Hid.in ths
  have HRB : Hid (T.w0.heap.size ≤ rb) := Hid.in (by rw [tw, ← hrb]; exact H0.out.old.size)
  have HTW := Hid.in tw
  have HTQ := Hid.in tq
  rw [← tR] at hR
  rw [← tbs] at co
  have HX := Hid.in h1
  have HM := Hid.in m1
  have HE := Hid.in (fmended h1.drew m1 tq)
  obtain ⟨evl, whl, kb⟩ := h1.brd
  have a0 : X.cell? ⟨mp, 0, none⟩ = some (.pointer (some ⟨T.b, 0, none⟩)) := (h1.extc m1.m).cell 0 (by decide)
  have a1 : X.cell? ⟨T.b, 0, none⟩ = some (.pointer (some ⟨T.g.p, 0, none⟩)) := kb.cell 0 (by decide)
  have a2 : X.cell? ⟨T.b, 6, none⟩ = some (.int .i64 T.R.cyc) := kb.cell 6 (by decide)
  have a3 : X.cell? ⟨T.b, 7, none⟩ = some (.slice none 0 0) := kb.cell 7 (by decide)
  have ah := (h1.extc m1.m).here
  have bh := kb.here
  have HRE := Hid.in hR
  have HCO := Hid.in co
  clear kb h1 m1 hR co hT hX hrb tb tp tR ths tw tq tbs H0 HM0 ht
  have hcv := cv_nil
  have HE2 := Hid.in (fmended (show St (X.drew.alloc (.cells #[.bool false, .int .i64 0, .slice none 0 0, .string ⟨#[]⟩, .slice none 0 0, .slice none 0 0] 38)) { T with ext := upd T.ext 9 (CelC X.heap.size 6 z6) } from rep_new HX.out.drew) (HM.out.exts 9 _ (by decide) (by decide)) HTQ.out)
  rename_i Q1 K1 hK1
  have HTE := Hid.in te8
  obtain ⟨ie32, he1, he2, he3, he4⟩ := info_parts_lsq info32
  clear te8
  go_region_held3 (fun w' => w'.cell? ⟨mp, 0, none⟩ = some (.pointer (some ⟨T.b, 0, none⟩)) ∧ w'.cell? ⟨T.b, 0, none⟩ = some (.pointer (some ⟨T.g.p, 0, none⟩)) ∧ w'.cell? ⟨T.b, 6, none⟩ = some (.int .i64 T.R.cyc) ∧ w'.cell? ⟨T.b, 7, none⟩ = some (.slice none 0 0)) (go_keep) (first
    | (go_at_call 13; refine (HE.out).mono ?_; rintro e y ⟨rfl, hs⟩; have HY := Hid.in (hs); obtain ⟨⟨y0, y1, y2, y3⟩, y4, y5⟩ := rep_cells HM.out HY.out; clear hs)
    | (go_at_call 13; refine (HE2.out).mono ?_; rintro e y ⟨rfl, hs⟩; have HY := Hid.in (hs); obtain ⟨⟨⟨y0, y1, y2, y3⟩, y4, y5⟩, ⟨y6, y7, y8, y9, y10, y11, y12, y13⟩, y14, y15, y16, y17⟩ := rep_all HM.out HY.out; clear hs)
    | (go_at_call 26; refine (fwhole HY.out HRE.out).mono ?_; rintro e z ⟨⟨q1, n1, cn1, rfl⟩, hs⟩; have HZ := Hid.in (HY.out.below hs); obtain ⟨⟨z0, z1, z2, z3⟩, z4, z5⟩ := rep_cells HM.out HZ.out; clear hs)
    | (go_at_call 26; refine (fwhole HY.out HRE.out).mono ?_; rintro e z ⟨⟨q1, n1, cn1, rfl⟩, hs⟩; have HZ := Hid.in (HY.out.below hs); obtain ⟨⟨⟨z0, z1, z2, z3⟩, z4, z5⟩, ⟨z6, z7, z8, z9, z10, z11, z12, z13⟩, z14, z15, z16, z17⟩ := rep_all HM.out HZ.out; clear hs)
    | (go_at_call 26; refine (fwhole (rep_new HY.out) HRE.out).mono ?_; rintro e z ⟨⟨q1, n1, cn1, rfl⟩, hs⟩; have HZ := Hid.in ((rep_new HY.out).below hs); obtain ⟨⟨⟨z0, z1, z2, z3⟩, z4, z5⟩, ⟨z6, z7, z8, z9, z10, z11, z12, z13⟩, z14, z15, z16, z17⟩ := rep_all HM.out HZ.out; clear hs)
    | (go_at_call 27; refine (fdata HZ.out HCO.out).mono ?_; rintro e u ⟨⟨q2, n2, cn2, rfl⟩, hs⟩; have HU := Hid.in (HZ.out.below hs); obtain ⟨⟨u0, u1, u2, u3⟩, u4, u5⟩ := rep_cells HM.out HU.out; clear hs)
    | (go_at_call 27; refine (fdata HZ.out HCO.out).mono ?_; rintro e u ⟨⟨q2, n2, cn2, rfl⟩, hs⟩; have HU := Hid.in (HZ.out.below hs); obtain ⟨⟨⟨u0, u1, u2, u3⟩, u4, u5⟩, ⟨u6, u7, u8, u9, u10, u11, u12, u13⟩, u14, u15, u16, u17⟩ := rep_all HM.out HU.out; clear hs)
    | (go_at_call 27; refine (fdata (rep_new HZ.out) HCO.out).mono ?_; rintro e u ⟨⟨q2, n2, cn2, rfl⟩, hs⟩; have HU := Hid.in ((rep_new HZ.out).below hs); obtain ⟨⟨⟨u0, u1, u2, u3⟩, u4, u5⟩, ⟨u6, u7, u8, u9, u10, u11, u12, u13⟩, u14, u15, u16, u17⟩ := rep_all HM.out HU.out; clear hs))
  · exact hK1 _ _ (frep_rest z32.toArray ie32 (.agg z32.toArray) he1 he2 he3 fill32 (Hid.in app32) (Hid.in (fun _ _ h => fregs h)) HM HTE.out HTH HTW HRB _ _ _ _ _ _ _ _ (rep_fresh HU.out T.hl T.R.cyc (.slice q1 n1 cn1) (.slice q2 n2 cn2)))
  · exact hK1 _ _ (frep_rest z32.toArray ie32 (.agg z32.toArray) he1 he2 he3 fill32 (Hid.in app32) (Hid.in (fun _ _ h => fregs h)) HM HTE.out HTH HTW HRB _ _ _ _ _ _ _ _ (rep_put HU.out T.hl T.R.cyc (.slice q1 n1 cn1) (.slice q2 n2 cn2)))
  · exact hK1 _ _ (frep_rest z32.toArray ie32 (.agg z32.toArray) he1 he2 he3 fill32 (Hid.in app32) (Hid.in (fun _ _ h => fregs h)) HM HTE.out HTH HTW HRB _ _ _ _ _ _ _ _ (rep_put HU.out T.hl T.R.cyc (.slice q1 n1 cn1) (.slice q2 n2 cn2)))
  · exact hK1 _ _ (frep_rest z32.toArray ie32 (.agg z32.toArray) he1 he2 he3 fill32 (Hid.in app32) (Hid.in (fun _ _ h => fregs h)) HM HTE.out HTH HTW HRB _ _ _ _ _ _ _ _ (rep_put HU.out T.hl T.R.cyc (.slice q1 n1 cn1) (.slice q2 n2 cn2)))

end
end Go.Proofs.YtemamhkhjijdlaaGreatDoor
/-
  CORE: what a run passes through.
-/
namespace Go.Proofs.YtemamhkhjijdlaaGreatDoor
open Go Go.RowKit
theorem kinds1 (a b c : Int) (r : Nat) (hr : 1 ≤ r) : ∀ (k : Nat) (q : Int × Int × Int × Int), ([(a, b, c, 1)] : List (Int × Int × Int × Int))[k]? = some q → 0 ≤ q.2.2.2 ∧ q.2.2.2 ≤ 5 ∧ (q.2.2.2 = 4 ↔ k = r)
  | 0, q, h => by simp at h; subst h; simp; omega
  | k + 1, q, h => by simp at h
theorem kinds2 (a b c a' b' c' : Int) (r : Nat) (hr : 2 ≤ r) : ∀ (k : Nat) (q : Int × Int × Int × Int), ([(a, b, c, 1), (a', b', c', 1)] : List (Int × Int × Int × Int))[k]? = some q → 0 ≤ q.2.2.2 ∧ q.2.2.2 ≤ 5 ∧ (q.2.2.2 = 4 ↔ k = r)
  | 0, q, h => by simp at h; subst h; simp; omega
  | 1, q, h => by simp at h; subst h; simp; omega
  | k + 2, q, h => by simp at h
theorem rec_nil (n : Nat) : RecOk ⟨[], [], n⟩ := ⟨[], 0, rfl, by decide, fun k q h => by simp at h, fun h => absurd h (by simp)⟩
theorem took_ext (S : FS) (j fb : Nat) (pc : Int) (code : Bool) (op : Int) (v : Value) (n : Nat) (l : List Value) {k : Nat} (h0 : k ≠ 0) (hj : k ≠ j) : (S.took j fb pc code op v n l).ext k = S.ext k := by
  show upd (upd S.ext j (CelC fb 27 (fly S.ws.next pc code op S.ps).at)) 0 (RowC S.w0.heap.size 221 1 v n l) k = S.ext k
  rw [upd_other _ _ _ _ h0, upd_other _ _ _ _ hj]
/-- how far a run has come: behind no cycle, one, two -/
def Stg (S : FS) : Nat → FS → Prop
  | 0, T => T = S
  | 1, T => ∃ T', Mid S T' ∧ T = T'.tick
  | _, T => ∃ T', Fin S T' ∧ T = T'.tick
section
variable {x y : World} {S : FS} {mp mr cap : Nat}
theorem mid_all {T : FS} (i : Ini S) (M : Mach S mp mr cap) (m : Mid S T) : Mach T mp mr cap ∧ T.b = S.b ∧ T.bs = S.bs ∧ T.R.cyc = 0 ∧ RecOk T.R ∧ T.w0 = S.w0 := by
  have hR := i.rec0
  rcases m with ⟨_, b0, wb, cp, rfl⟩ | ⟨_, b0, b1, wb', cap', wb, cp, E, hE, rfl⟩
  · refine ⟨M.to rfl rfl rfl (took_ext S _ _ _ _ _ _ _ _ (by decide) (by decide)) (took_ext S _ _ _ _ _ _ _ _ (by decide) (by decide)), rfl, rfl, ?_, ?_, rfl⟩
    · show S.R.cyc = 0
      rw [hR]
    · refine ⟨[((S.R.cyc : Int), S.ws.next, 0, 1)], 5, ?_, by simp, kinds1 _ _ _ 5 (by decide), fun h => absurd h (by simp)⟩
      show S.R.evs ++ [evC S.R.cyc S.ws.next 0 0 1] = _
      rw [hR]
      rfl
  · refine ⟨M.to rfl rfl rfl ((hE 6 (by decide)).trans ((took_ext _ _ _ _ _ _ _ _ _ (by decide) (by decide)).trans (took_ext S _ _ _ _ _ _ _ _ (by decide) (by decide)))) ((hE 7 (by decide)).trans ((took_ext _ _ _ _ _ _ _ _ _ (by decide) (by decide)).trans (took_ext S _ _ _ _ _ _ _ _ (by decide) (by decide)))), rfl, rfl, ?_, ?_, rfl⟩
    · show S.R.cyc = 0
      rw [hR]
    · refine ⟨[((S.R.cyc : Int), S.ws.next, 0, 1), ((S.R.cyc : Int), ((S.ws.next + 1 : Nat) : Int), 4, 1)], 5, ?_, by simp, kinds2 _ _ _ _ _ _ 5 (by decide), fun h => absurd h (by simp)⟩
      show (S.R.evs ++ [evC S.R.cyc S.ws.next 0 0 1]) ++ [evC S.R.cyc ((S.ws.next + 1 : Nat) : Int) 4 0 1] = _
      rw [hR]
      rfl
theorem stg_facts {j : Nat} {T : FS} (i : Ini S) (M : Mach S mp mr cap) (hj : j ≤ 2) (s : Stg S j T) : Mach T mp mr cap ∧ T.R.cyc = j ∧ T.qs.top = false ∧ RecOk T.R ∧ T.bs = S.bs ∧ T.w0 = S.w0 ∧ T.hl = decide (j = 2) ∧ T.b = S.b := by
  obtain ⟨n, hn⟩ := i.qs
  have ht : S.qs.top = false := by rw [hn]; exact top_none n
  rcases (by omega : j = 0 ∨ j = 1 ∨ j = 2) with rfl | rfl | rfl
  · have s' : T = S := s
    clear s
    subst s'
    refine ⟨M, by rw [i.rec0], ht, by rw [i.rec0]; exact rec_nil 0, rfl, rfl, by rw [i.hl]; rfl, rfl⟩
  · have s' : ∃ T', Mid S T' ∧ T = T'.tick := s
    clear s
    obtain ⟨T', m, rfl⟩ := s'
    obtain ⟨a1, a2, a3, a4, a5, a6⟩ := mid_all i M m
    obtain ⟨q1, q2, q3⟩ := mid_qs m
    refine ⟨a1.to rfl rfl rfl rfl rfl, ?_, ?_, a5, a3, a6, ?_, a2⟩
    · show T'.R.cyc + 1 = 1
      omega
    · show T'.qs.top = false
      rw [q1]; exact ht
    · show T'.hl = _
      rw [q3, i.hl]; rfl
  · have s' : ∃ T', Fin S T' ∧ T = T'.tick := s
    clear s
    obtain ⟨T', f, rfl⟩ := s'
    have F := f.fix
    refine ⟨(M.to F.b F.p F.bs F.e6 F.e7).to rfl rfl rfl rfl rfl, ?_, ?_, f.rec1, F.bs, F.w0, f.hl, F.b⟩
    · show T'.R.cyc + 1 = 2
      have := f.cyc
      omega
    · show T'.qs.top = false
      rw [F.qs]; exact ht
theorem stg_step {j : Nat} {T : FS} (i : Ini S) (M : Mach S mp mr cap) (hj : j < 2) (s : Stg S j T) (h : St x T) : Calls Tryz.prog 14 #[.pointer (some ⟨mp, 0, none⟩)] x fun e y => e = .returned (.tuple #[]) ∧ ∃ T2, Stg S (j + 1) T2 ∧ St y T2 := by
  rcases (by omega : j = 0 ∨ j = 1) with rfl | rfl
  · have s' : T = S := s
    clear s
    subst s'
    refine (fmstep h M (U := Mid T) (fun y k => fstep0 k i) (fun T2 m => ?_)).mono ?_
    · obtain ⟨a1, a2, a3, a4, a5, a6⟩ := mid_all i M m
      exact ⟨a1, a2, by omega⟩
    · rintro e z ⟨rfl, T2, m, k⟩
      exact ⟨rfl, T2.tick, ⟨T2, m, rfl⟩, k⟩
  · have s' : ∃ T', Mid S T' ∧ T = T'.tick := s
    clear s
    obtain ⟨T', m, rfl⟩ := s'
    obtain ⟨a1, a2, a3, a4, a5, a6⟩ := mid_all i M m
    obtain ⟨q1, q2, q3⟩ := mid_qs m
    refine (fmstep h (a1.to rfl rfl rfl rfl rfl : Mach T'.tick mp mr cap) (U := Fin S) (fun y k => ?_) (fun T2 f => ?_)).mono ?_
    · have e : T'.tick.p = S.p := q2
      rw [e]
      exact fstep1 i m k
    · have F := f.fix
      exact ⟨M.to F.b F.p F.bs F.e6 F.e7, F.b.trans a2.symm, by have := f.cyc; omega⟩
    · rintro e z ⟨rfl, T2, f, k⟩
      exact ⟨rfl, T2.tick, ⟨T2, f, rfl⟩, k⟩
end
end Go.Proofs.YtemamhkhjijdlaaGreatDoor
