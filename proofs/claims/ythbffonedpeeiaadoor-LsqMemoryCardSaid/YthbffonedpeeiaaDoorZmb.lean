import Derived.Test.YthbffonedpeeiaaDoorZma
import Derived.Deep.CutBlock
import Derived.Deep.DeepCutAuto
/-
  LSQ's LAW LsqMemory: its memory; enter.
-/
namespace Go.Proofs.YthbffonedpeeiaaDoor
open Go Go.RowKit
def xsz (n : Nat) : Nat → Nat
  | 0 => 9
  | 1 => n
  | 2 => n
  | 3 => n
  | 4 => n
  | _ => 16
def xst (q : Nat) (lv : Value) (b : Nat → Nat) (n i o : Nat) : Nat → Value
  | 0 => .pointer (some ⟨q, 0, none⟩)
  | 1 => lv
  | 2 => .int .i64 i
  | 3 => .int .i64 o
  | 4 => .slice (some ⟨b 1, 0, none⟩) n n
  | 5 => .slice (some ⟨b 2, 0, none⟩) n n
  | 6 => .slice (some ⟨b 3, 0, none⟩) n n
  | 7 => .slice (some ⟨b 4, 0, none⟩) n n
  | _ => .slice (some ⟨b 5, 0, none⟩) 16 16
def xct (q : Nat) (lv : Value) (b : Nat → Nat) (n : Nat) (M : Ms) : Nat → Nat → Value
  | 0, k => xst q lv b n M.inn M.out k
  | 1, k => .int .u32 (M.got k)
  | 2, k => .bool (M.given k)
  | 3, k => .bool (M.known k)
  | 4, k => .bool (M.done k)
  | _, o => .int .u8 (M.mem (64 + o))
/-- all its memory: the queue, its own block, five rows -/
structure Xm (w0 x : World) (q : Nat) (v lv : Value) (b : Nat → Nat) (n : Nat) (M : Ms) : Prop where
  c : ∀ i, i < 6 → CellsAt (xsz n i) x (b i) (xct q lv b n M i)
  qm : Qm x w0.heap.size q v M.S
  ne : ∀ i j, i < 6 → j < 6 → b i = b j → i = j
  ap : ∀ i, i < 6 → ¬ qmine q v M.S (b i)
  lo : ∀ i, i < 6 → w0.heap.size ≤ b i
  low : Below w0.heap.size w0 x
section
variable {w0 x y : World} {q n : Nat} {v v' lv : Value} {b : Nat → Nat} {M M' : Ms}
theorem Xm.below (k : Xm w0 x q v lv b n M) (t : Below x.heap.size x y) : Xm w0 y q v lv b n M :=
  ⟨fun i hi => (k.c i hi).below t, k.qm.below t, k.ne, k.ap, k.lo, k.low.trans (t.mono k.low.size)⟩
theorem xct_eq (h1 : M'.inn = M.inn) (h2 : M'.out = M.out) (h3 : M'.got = M.got) (h4 : M'.given = M.given) (h5 : M'.known = M.known) (h6 : M'.done = M.done) (h7 : M'.mem = M.mem) (i : Nat) : xct q lv b n M' i = xct q lv b n M i := by
  obtain ⟨S', i', o', g', gi', kn', dn', me'⟩ := M'
  simp only at h1 h2 h3 h4 h5 h6 h7
  subst h1 h2 h3 h4 h5 h6 h7
  unfold xct
  funext k
  match i with
  | 0 => rfl
  | 1 => rfl
  | 2 => rfl
  | 3 => rfl
  | 4 => rfl
  | _ + 5 => rfl
theorem Xm.onQ (k : Xm w0 x q v lv b n M) (h1 : M'.inn = M.inn) (h2 : M'.out = M.out) (h3 : M'.got = M.got) (h4 : M'.given = M.given) (h5 : M'.known = M.known) (h6 : M'.done = M.done) (h7 : M'.mem = M.mem) (st : Step x y w0.heap.size q v M.S v' M'.S) : Xm w0 y q v' lv b n M' :=
  ⟨fun i hi => by rw [xct_eq h1 h2 h3 h4 h5 h6 h7]; exact st.t.cells (k.c i hi) (k.ap i hi), st.q, k.ne, fun i hi e => (st.o _ e).elim (k.ap i hi) (fun h => by have := (k.c i hi).here; omega), k.lo, k.low.trans (st.t.below k.low.size (fun j hj => (k.qm.low j hj).1))⟩
theorem Xm.set (k : Xm w0 x q v lv b n M) (i o : Nat) (hi : i < 6) (ho : o < xsz n i) (u : Value) (hS : M'.S = M.S) (h : ∀ i' o', i' < 6 → o' < xsz n i' → xct q lv b n M' i' o' = if i' = i ∧ o' = o then u else xct q lv b n M i' o') : Xm w0 (x.setCell ⟨b i, o, none⟩ u) q v lv b n M' := by
  have t : Turned (fun j => j = b i) x (x.setCell ⟨b i, o, none⟩ u) := (Turned.refl (fun j => j = b i) x).set (b := b i) rfl o u
  refine ⟨fun i' hi' => ?_, ?_, k.ne, fun i' hi' => by rw [hS]; exact k.ap i' hi', k.lo, k.low.trans (t.below k.low.size (fun j hj => by rw [hj]; exact k.lo i hi))⟩
  · by_cases e : i' = i
    · subst e
      refine ((k.c i' hi').set o ho u).ext (fun o' ho' => ?_)
      rw [h i' o' hi' ho']
      unfold upd
      by_cases e2 : o' = o
      · rw [if_pos e2, if_pos ⟨rfl, e2⟩]
      · rw [if_neg e2, if_neg (fun q => e2 q.2)]
    · refine ((k.c i' hi').setOther o u (fun e2 => e (k.ne i' i hi' hi e2))).ext (fun o' ho' => ?_)
      rw [h i' o' hi' ho', if_neg (fun q => e q.1)]
  · rw [hS]
    exact k.qm.turned t (fun j hj e => k.ap i hi (by rw [← e]; exact hj))
theorem Xm.cells (k : Xm w0 x q v lv b n M) : b 0 < x.heap.size ∧ x.cell? ⟨b 0, 0, none⟩ = some (.pointer (some ⟨q, 0, none⟩)) ∧ x.cell? ⟨b 0, 1, none⟩ = some lv ∧ x.cell? ⟨b 0, 2, none⟩ = some (.int .i64 M.inn) ∧ x.cell? ⟨b 0, 3, none⟩ = some (.int .i64 M.out) ∧ x.cell? ⟨b 0, 4, none⟩ = some (.slice (some ⟨b 1, 0, none⟩) n n) ∧ x.cell? ⟨b 0, 5, none⟩ = some (.slice (some ⟨b 2, 0, none⟩) n n) ∧ x.cell? ⟨b 0, 6, none⟩ = some (.slice (some ⟨b 3, 0, none⟩) n n) ∧ x.cell? ⟨b 0, 7, none⟩ = some (.slice (some ⟨b 4, 0, none⟩) n n) ∧ x.cell? ⟨b 0, 8, none⟩ = some (.slice (some ⟨b 5, 0, none⟩) 16 16) := by
  have h := k.c 0 (by decide)
  exact ⟨h.here, h.cell 0 (show 0 < 9 by decide), h.cell 1 (show 1 < 9 by decide), h.cell 2 (show 2 < 9 by decide), h.cell 3 (show 3 < 9 by decide), h.cell 4 (show 4 < 9 by decide), h.cell 5 (show 5 < 9 by decide), h.cell 6 (show 6 < 9 by decide), h.cell 7 (show 7 < 9 by decide), h.cell 8 (show 8 < 9 by decide)⟩
end
/-- what is handed in: a row of accesses -/
def Accs (w : World) (p : Option Addr) (m : Nat) (g : Nat → Acc) : Prop := ∀ i, i < m → ∃ c o, p = some ⟨c, o, none⟩ ∧ c < w.heap.size ∧ w.cell? ⟨c, o + i * 4, none⟩ = some (.bool (g i).st) ∧ w.cell? ⟨c, o + i * 4 + 1, none⟩ = some (.int .i64 (g i).ad) ∧ w.cell? ⟨c, o + i * 4 + 2, none⟩ = some (.int .i64 (g i).sz) ∧ w.cell? ⟨c, o + i * 4 + 3, none⟩ = some (.int .u32 (g i).da) ∧ (g i).Fit
/-- whose other things are the same -/
structure Ms.Alike (M M' : Ms) : Prop where
  out : M'.out = M.out
  got : M'.got = M.got
  given : M'.given = M.given
  known : M'.known = M.known
  done : M'.done = M.done
  mem : M'.mem = M.mem
def inAt (w : World) (b : Nat) : Nat := match w.cell? ⟨b, 2, none⟩ with
  | some (.int _ n) => n.toNat
  | _ => 0
theorem Kept.young {g : Nat → Acc} {n : Nat} {M : Ms} {r : Nat} (K : Kept g n M r) : ¬ ((M.inn : Int) < 0 ∨ (M.inn : Int) ≤ M.S.young) := by
  have hlen := K.len
  have hio := K.io
  unfold QS.young QS.num
  rintro (h | h)
  · omega
  · split at h
    · omega
    · have e : ((M.S.on.length : Int) - 1).toNat = M.S.on.length - 1 := by omega
      rw [e] at h
      rcases Nat.lt_or_ge (M.S.on.length - 1) r with q | q
      · have := (K.old _ q).2.2.2.2
        omega
      · have := K.num (M.S.on.length - 1 - r) (by omega)
        rw [show r + (M.S.on.length - 1 - r) = M.S.on.length - 1 by omega] at this
        omega
def handleAt (w : World) : Prop := w.cell? ⟨0, 0, none⟩ = some (.iface 129 (.agg #[.pointer (some ⟨1, 25, none⟩)]))
set_option maxRecDepth 100000 in
set_option maxHeartbeats 1000000 in
theorem xenter_any (g : Nat → Acc) (n r : Nat) (w0 w : World) (q cl : Nat) (v : Value) (lp : Option Addr) (b : Nat → Nat) (M : Ms) (hl : Accs w0 lp n g) (hn : n ≤ 60) (k : Xm w0 w q v (.slice lp n cl) b n M) (K : Kept g n M r) (hG : ∀ y, Below w0.heap.size w0 y → handleAt y) : Calls Tryd.prog 32 #[.pointer (some ⟨b 0, 0, none⟩)] w fun e y => e = .returned (.bool true) ∧ ∃ M' v', Xm w0 y q v' (.slice lp n cl) b n M' ∧ Kept g n M' r ∧ M.Alike M' ∧ M.inn ≤ M'.inn ∧ (M'.inn = n ∨ M'.S.on.length = M'.S.size) := by
  have HL := Hid.in hl
  have HX := Hid.in k
  have HKK := Hid.in K
  have HG := Hid.in hG
  clear hl k K hG
  go_enter Tryd.func32, Tryd.ntmps32
  go_wp2
  go_loopw [] (fun wr => ∃ (M' : Ms) (v' : Value), Xm w0 wr q v' (.slice lp n cl) b n M' ∧ Kept g n M' r ∧ M.Alike M' ∧ M.inn ≤ M'.inn) (fun wr => 61 - inAt wr (b 0))
  case atStart => exact ⟨M, v, HX.out, HKK.out, ⟨rfl, rfl, rfl, rfl, rfl, rfl⟩, Nat.le_refl _⟩
  case round =>
    obtain ⟨N, u, hX, hK, hA, hle⟩ := hrel
    have HXN := Hid.in hX
    have HKN := Hid.in hK
    have HA := Hid.in hA
    have HLE := Hid.in hle
    obtain ⟨hb0, c0, c1, c2, -⟩ := hX.cells
    have hio := hK.io
    have HIN : Hid (inAt wr (b 0) = N.inn) := by
      show inAt wr (b 0) = N.inn
      unfold inAt
      rw [c2]
      rfl
    obtain ⟨i, hi⟩ : ∃ i, N.inn = i := ⟨_, rfl⟩
    have HI := Hid.in hi
    rw [hi] at c2 hio
    clear hX hK hA hle hi
    by_cases hin : i < n
    · obtain ⟨sb, so, rfl, hsb, s0, -, -, -, -⟩ := HL.out i hin
      have e0 := (HXN.out.low.cell (p := ⟨sb, so + i * 4, none⟩) hsb).trans s0
      have hsb' : sb < wr.heap.size := Nat.lt_of_lt_of_le hsb HXN.out.low.size
      have hin' : (i : Int) < (n : Int) := by omega
      have hmul : (i : Int) * 4 = ((i * 4 : Nat) : Int) := by omega
      obtain ⟨st, hst⟩ : ∃ st, (g i).st = st := ⟨_, rfl⟩
      rw [hst] at e0 s0
      have HST := Hid.in s0
      have HSS := Hid.in hst
      clear s0 hst
      go_wp2
      go_quiet (fail)
      go_wp2
      generalize hW : wr.drewN nq = W
      have hbW : Below wr.heap.size wr W := by rw [← hW]; exact below_drewN wr nq
      have kW := HXN.out.below hbW
      clear c0 c1 c2 e0 hb0 hsb' hW
      obtain ⟨hb0, c0, c1, c2, -⟩ := kW.cells
      rw [HI.out] at c2
      have e0 := (kW.low.cell (p := ⟨sb, so + i * 4, none⟩) hsb).trans HST.out
      have hsb' : sb < W.heap.size := Nat.lt_of_lt_of_le hsb kW.low.size
      have HSB : Hid (sb < w0.heap.size ∧ w0.cell? ⟨sb, so + i * 4, none⟩ = some (.bool st)) := ⟨hsb, HST.out⟩
      by_cases hf : N.S.on.length < N.S.size
      · have HEN : Hid (∀ y, Below W.heap.size W y → Calls Tryd.prog 8 #[.pointer (some ⟨q, 0, none⟩), .int .i64 i, .bool st] y fun e z => e = .returned .nilIface ∧ ∃ v', Xm w0 z q v' (.slice (some ⟨sb, so, none⟩) n cl) b n { N with S := ⟨N.S.size, N.S.on ++ [newA i st]⟩ } ∧ z.cell? ⟨b 0, 0, none⟩ = some (.pointer (some ⟨q, 0, none⟩)) ∧ z.cell? ⟨b 0, 1, none⟩ = some (.slice (some ⟨sb, so, none⟩) n cl) ∧ z.cell? ⟨b 0, 2, none⟩ = some (.int .i64 i) ∧ z.cell? ⟨sb, so + i * 4, none⟩ = some (.bool st)) := fun y hy => by
          have ky := kW.below hy
          have hyo := HKN.out.young
          rw [HI.out] at hyo
          refine (enter_good _ q u N.S i st y ky.qm hyo (by omega) hf).mono fun e z h => ?_
          obtain ⟨h1, v', h2⟩ := h
          have kz : Xm w0 z q v' (.slice (some ⟨sb, so, none⟩) n cl) b n { N with S := ⟨N.S.size, N.S.on ++ [newA i st]⟩ } := ky.onQ rfl rfl rfl rfl rfl rfl rfl h2
          obtain ⟨-, d0, d1, d2, -⟩ := kz.cells
          have d2 : z.cell? ⟨b 0, 2, none⟩ = some (.int .i64 N.inn) := d2
          rw [HI.out] at d2
          exact ⟨h1, v', kz, d0, d1, d2, (kz.low.cell (p := ⟨sb, so + i * 4, none⟩) hsb).trans HST.out⟩
        clear kW hbW
        go_region_held3 (fun w' => w'.cell? ⟨b 0, 0, none⟩ = some (.pointer (some ⟨q, 0, none⟩)) ∧ w'.cell? ⟨b 0, 1, none⟩ = some (.slice (some ⟨sb, so, none⟩) n cl) ∧ w'.cell? ⟨b 0, 2, none⟩ = some (.int .i64 i) ∧ w'.cell? ⟨sb, so + i * 4, none⟩ = some (.bool st)) (go_keep) ((go_at_call 8; refine (HEN.out _ (by repeat (with_reducible first | exact Below.refl _ _ | refine Below.drew ?_))).mono ?_; rintro e y1 ⟨rfl, v1, hx1, k1, k2, k3, k4⟩; have HX1 := Hid.in hx1; clear hx1))
        clear k1 k2 k3 k4
        go_wp2_with (go_at_call 24; refine (told_nil _).mono ?_; rintro e z1 ⟨rfl, hb⟩; have HZ1 := Hid.in (HX1.out.below hb); have f0 := HZ1.out.cells.1; have f2 : z1.cell? ⟨b 0, 2, none⟩ = some (.int .i64 i) := (by rw [← HI.out]; exact HZ1.out.cells.2.2.2.1); have f3 := (HZ1.out.c 0 (by decide)).free 2; clear hb)
        have HFIN : Hid (Xm w0 (z1.setCell ⟨b 0, 2, none⟩ (.int .i64 ((i : Int) + 1))) q v1 (.slice (some ⟨sb, so, none⟩) n cl) b n { N with S := ⟨N.S.size, N.S.on ++ [newA i st]⟩, inn := i + 1 }) := by
          refine HZ1.out.set 0 2 (by decide) (show 2 < 9 by decide) _ rfl (fun i' o' hi' ho' => ?_)
          match i', hi' with
          | 0, _ =>
            have ho' : o' < 9 := ho'
            match o', ho' with
            | 0, _ => rfl
            | 1, _ => rfl
            | 2, _ => rfl
            | 3, _ => rfl
            | 4, _ => rfl
            | 5, _ => rfl
            | 6, _ => rfl
            | 7, _ => rfl
            | 8, _ => rfl
          | 1, _ => rfl
          | 2, _ => rfl
          | 3, _ => rfl
          | 4, _ => rfl
          | 5, _ => rfl
        go_roundw
        case rel =>
          refine ⟨_, v1, HFIN.out, ?_, ⟨HA.out.out, HA.out.got, HA.out.given, HA.out.known, HA.out.done, HA.out.mem⟩, ?_⟩
          · have := HKN.out.enter (by rw [HI.out]; exact hin) hf
            rw [HI.out, HSS.out] at this
            exact this
          · have := HLE.out
            have := HI.out
            show M.inn ≤ i + 1
            omega
        case measure =>
          rw [HIN.out, HI.out]
          have e : inAt (z1.setCell ⟨b 0, 2, none⟩ (.int .i64 ((i : Int) + 1))) (b 0) = i + 1 := by
            unfold inAt
            have := HFIN.out.cells.2.2.2.1
            rw [this]
            show ((i + 1 : Nat) : Int).toNat = i + 1
            omega
          rw [e]
          omega
      · have HEN : Hid (∀ y, Below W.heap.size W y → Calls Tryd.prog 8 #[.pointer (some ⟨q, 0, none⟩), .int .i64 i, .bool st] y fun e z => e = .returned (errV 4) ∧ Xm w0 z q u (.slice (some ⟨sb, so, none⟩) n cl) b n N ∧ z.cell? ⟨b 0, 0, none⟩ = some (.pointer (some ⟨q, 0, none⟩)) ∧ z.cell? ⟨b 0, 1, none⟩ = some (.slice (some ⟨sb, so, none⟩) n cl) ∧ z.cell? ⟨b 0, 2, none⟩ = some (.int .i64 i) ∧ z.cell? ⟨sb, so + i * 4, none⟩ = some (.bool st)) := fun y hy => by
          have ky := kW.below hy
          have hyo := HKN.out.young
          rw [HI.out] at hyo
          refine (enter_full _ q u N.S i st y ky.qm hyo (by omega)).mono fun e z h => ?_
          obtain ⟨h1, h2⟩ := h
          have kz := ky.below h2
          obtain ⟨-, d0, d1, d2, -⟩ := kz.cells
          rw [HI.out] at d2
          exact ⟨h1, kz, d0, d1, d2, (kz.low.cell (p := ⟨sb, so + i * 4, none⟩) hsb).trans HST.out⟩
        clear kW hbW
        unfold errV at HEN
        go_region_held3 (fun w' => w'.cell? ⟨b 0, 0, none⟩ = some (.pointer (some ⟨q, 0, none⟩)) ∧ w'.cell? ⟨b 0, 1, none⟩ = some (.slice (some ⟨sb, so, none⟩) n cl) ∧ w'.cell? ⟨b 0, 2, none⟩ = some (.int .i64 i) ∧ w'.cell? ⟨sb, so + i * 4, none⟩ = some (.bool st)) (go_keep) ((go_at_call 8; refine (HEN.out _ (by repeat (with_reducible first | exact Below.refl _ _ | refine Below.drew ?_))).mono ?_; rintro e y1 ⟨rfl, hx1, k1, k2, k3, k4⟩; have HX1 := Hid.in hx1; clear hx1))
        clear k1 k2 k3 k4
        go_wp2_with (go_at_call 24; refine (told_err 4 _ (HG.out _ HX1.out.low)).mono ?_; rintro e z1 ⟨rfl, hb⟩; have HZ1 := Hid.in (HX1.out.below hb); clear hb)
        go_ret
        exact ⟨rfl, N, u, HZ1.out, HKN.out, HA.out, HLE.out, Or.inr (by have := HKN.out.size.1; omega)⟩
    · obtain rfl : i = n := by omega
      have hin' : ¬ (i : Int) < (i : Int) := by omega
      go_wp2
      go_quiet (fail)
      go_wp2
      go_ret
      exact ⟨rfl, N, u, HXN.out.below (below_drewN _ _), HKN.out, HA.out, HLE.out, Or.inl HI.out⟩
end Go.Proofs.YthbffonedpeeiaaDoor
/-
  LSQ's LAW LsqMemory: one cell written; back.
-/
namespace Go.Proofs.YthbffonedpeeiaaDoor
open Go Go.RowKit
section
variable {w0 x : World} {q n : Nat} {v lv : Value} {b : Nat → Nat} {M : Ms}
theorem Xm.setIn (k : Xm w0 x q v lv b n M) (z : Nat) : Xm w0 (x.setCell ⟨b 0, 2, none⟩ (.int .i64 z)) q v lv b n { M with inn := z } := by
  refine k.set 0 2 (by decide) (show 2 < 9 by decide) _ rfl (fun i' o' hi' ho' => ?_)
  match i', hi' with
  | 0, _ =>
    have ho' : o' < 9 := ho'
    match o', ho' with
    | 0, _ => rfl
    | 1, _ => rfl
    | 2, _ => rfl
    | 3, _ => rfl
    | 4, _ => rfl
    | 5, _ => rfl
    | 6, _ => rfl
    | 7, _ => rfl
    | 8, _ => rfl
  | 1, _ => rfl
  | 2, _ => rfl
  | 3, _ => rfl
  | 4, _ => rfl
  | 5, _ => rfl
theorem Xm.setOut (k : Xm w0 x q v lv b n M) (z : Nat) : Xm w0 (x.setCell ⟨b 0, 3, none⟩ (.int .i64 z)) q v lv b n { M with out := z } := by
  refine k.set 0 3 (by decide) (show 3 < 9 by decide) _ rfl (fun i' o' hi' ho' => ?_)
  match i', hi' with
  | 0, _ =>
    have ho' : o' < 9 := ho'
    match o', ho' with
    | 0, _ => rfl
    | 1, _ => rfl
    | 2, _ => rfl
    | 3, _ => rfl
    | 4, _ => rfl
    | 5, _ => rfl
    | 6, _ => rfl
    | 7, _ => rfl
    | 8, _ => rfl
  | 1, _ => rfl
  | 2, _ => rfl
  | 3, _ => rfl
  | 4, _ => rfl
  | 5, _ => rfl
theorem Xm.setGot (k : Xm w0 x q v lv b n M) (j z : Nat) (hj : j < n) : Xm w0 (x.setCell ⟨b 1, j, none⟩ (.int .u32 z)) q v lv b n { M with got := upd M.got j z } := by
  refine k.set 1 j (by decide) hj _ rfl (fun i' o' hi' ho' => ?_)
  match i', hi' with
  | 0, _ => rfl
  | 1, _ =>
    by_cases e : o' = j
    · subst e
      rw [if_pos ⟨rfl, rfl⟩]
      simp [xct, upd]
    · rw [if_neg (fun q => e q.2)]
      simp [xct, upd, e]
  | 2, _ => rfl
  | 3, _ => rfl
  | 4, _ => rfl
  | 5, _ => rfl
theorem Xm.setGiven (k : Xm w0 x q v lv b n M) (j : Nat) (z : Bool) (hj : j < n) : Xm w0 (x.setCell ⟨b 2, j, none⟩ (.bool z)) q v lv b n { M with given := upd M.given j z } := by
  refine k.set 2 j (by decide) hj _ rfl (fun i' o' hi' ho' => ?_)
  match i', hi' with
  | 0, _ => rfl
  | 1, _ => rfl
  | 2, _ =>
    by_cases e : o' = j
    · subst e
      rw [if_pos ⟨rfl, rfl⟩]
      simp [xct, upd]
    · rw [if_neg (fun q => e q.2)]
      simp [xct, upd, e]
  | 3, _ => rfl
  | 4, _ => rfl
  | 5, _ => rfl
theorem Xm.setKnown (k : Xm w0 x q v lv b n M) (j : Nat) (z : Bool) (hj : j < n) : Xm w0 (x.setCell ⟨b 3, j, none⟩ (.bool z)) q v lv b n { M with known := upd M.known j z } := by
  refine k.set 3 j (by decide) hj _ rfl (fun i' o' hi' ho' => ?_)
  match i', hi' with
  | 0, _ => rfl
  | 1, _ => rfl
  | 2, _ => rfl
  | 3, _ =>
    by_cases e : o' = j
    · subst e
      rw [if_pos ⟨rfl, rfl⟩]
      simp [xct, upd]
    · rw [if_neg (fun q => e q.2)]
      simp [xct, upd, e]
  | 4, _ => rfl
  | 5, _ => rfl
theorem Xm.setDone (k : Xm w0 x q v lv b n M) (j : Nat) (z : Bool) (hj : j < n) : Xm w0 (x.setCell ⟨b 4, j, none⟩ (.bool z)) q v lv b n { M with done := upd M.done j z } := by
  refine k.set 4 j (by decide) hj _ rfl (fun i' o' hi' ho' => ?_)
  match i', hi' with
  | 0, _ => rfl
  | 1, _ => rfl
  | 2, _ => rfl
  | 3, _ => rfl
  | 4, _ =>
    by_cases e : o' = j
    · subst e
      rw [if_pos ⟨rfl, rfl⟩]
      simp [xct, upd]
    · rw [if_neg (fun q => e q.2)]
      simp [xct, upd, e]
  | 5, _ => rfl
theorem Xm.setMem (k : Xm w0 x q v lv b n M) (o z : Nat) (ho : o < 16) : Xm w0 (x.setCell ⟨b 5, o, none⟩ (.int .u8 z)) q v lv b n { M with mem := upd M.mem (64 + o) z } := by
  refine k.set 5 o (by decide) ho _ rfl (fun i' o' hi' ho' => ?_)
  match i', hi' with
  | 0, _ => rfl
  | 1, _ => rfl
  | 2, _ => rfl
  | 3, _ => rfl
  | 4, _ => rfl
  | 5, _ =>
    by_cases e : o' = o
    · subst e
      rw [if_pos ⟨rfl, rfl⟩]
      simp [xct, upd]
    · rw [if_neg (fun q => e q.2)]
      have e2 : ¬ 64 + o' = 64 + o := by omega
      simp [xct, upd, e]
theorem Xm.row2 (k : Xm w0 x q v lv b n M) (j : Nat) (hj : j < n) : x.cell? ⟨b 2, j, none⟩ = some (.bool (M.given j)) ∧ x.frozen? ⟨b 2, j, none⟩ = false ∧ b 2 < x.heap.size := ⟨(k.c 2 (by decide)).cell j hj, (k.c 2 (by decide)).free j, (k.c 2 (by decide)).here⟩
theorem Xm.row3 (k : Xm w0 x q v lv b n M) (j : Nat) (hj : j < n) : x.cell? ⟨b 3, j, none⟩ = some (.bool (M.known j)) ∧ x.frozen? ⟨b 3, j, none⟩ = false ∧ b 3 < x.heap.size := ⟨(k.c 3 (by decide)).cell j hj, (k.c 3 (by decide)).free j, (k.c 3 (by decide)).here⟩
theorem Xm.row4 (k : Xm w0 x q v lv b n M) (j : Nat) (hj : j < n) : x.cell? ⟨b 4, j, none⟩ = some (.bool (M.done j)) ∧ x.frozen? ⟨b 4, j, none⟩ = false ∧ b 4 < x.heap.size := ⟨(k.c 4 (by decide)).cell j hj, (k.c 4 (by decide)).free j, (k.c 4 (by decide)).here⟩
theorem Xm.row1 (k : Xm w0 x q v lv b n M) (j : Nat) (hj : j < n) : x.cell? ⟨b 1, j, none⟩ = some (.int .u32 (M.got j)) ∧ x.frozen? ⟨b 1, j, none⟩ = false ∧ b 1 < x.heap.size := ⟨(k.c 1 (by decide)).cell j hj, (k.c 1 (by decide)).free j, (k.c 1 (by decide)).here⟩
theorem Xm.row5 (k : Xm w0 x q v lv b n M) (o : Nat) (ho : o < 16) : x.cell? ⟨b 5, o, none⟩ = some (.int .u8 (M.mem (64 + o))) ∧ x.frozen? ⟨b 5, o, none⟩ = false ∧ b 5 < x.heap.size := ⟨(k.c 5 (by decide)).cell o ho, (k.c 5 (by decide)).free o, (k.c 5 (by decide)).here⟩
end
def bk (f : Nat → Bool) (bd j : Nat) : Nat → Bool := fun k => if bd ≤ k ∧ k < j then false else f k
theorem bk_start (f : Nat → Bool) (bd : Nat) : bk f bd bd = f := by
  funext k
  unfold bk
  rw [if_neg (by omega)]
theorem bk_next (f : Nat → Bool) (bd j : Nat) (h : bd ≤ j) : bk f bd (j + 1) = upd (bk f bd j) j false := by
  funext k
  unfold bk upd
  by_cases e : k = j
  · rw [if_pos e, if_pos (by omega)]
  · rw [if_neg e]
    show (if bd ≤ k ∧ k < j + 1 then false else f k) = if bd ≤ k ∧ k < j then false else f k
    by_cases c : bd ≤ k ∧ k < j
    · rw [if_pos c, if_pos (by omega)]
    · rw [if_neg c, if_neg (by omega)]
def Ms.bk (M : Ms) (S : QS) (bd j : Nat) : Ms := { M with S := S, given := _root_.Go.Proofs.YthbffonedpeeiaaDoor.bk M.given bd j, known := _root_.Go.Proofs.YthbffonedpeeiaaDoor.bk M.known bd j, done := _root_.Go.Proofs.YthbffonedpeeiaaDoor.bk M.done bd j }
/-- what a squash asks of a queue -/
structure Kept0 (n : Nat) (M : Ms) (r : Nat) : Prop where
  len : M.S.on.length = r + (M.inn - M.out)
  io : M.out ≤ M.inn ∧ M.inn ≤ n
  old : ∀ j, j < r → (M.S.at j).rt = true
  num : ∀ i, i < M.inn - M.out → (M.S.at (r + i)).n = ((M.out + i : Nat) : Int)
  new : ∀ i, i < M.inn - M.out → (M.S.at (r + i)).rt = false
set_option maxRecDepth 100000 in
set_option maxHeartbeats 1000000 in
theorem xback_any (n r i bd : Nat) (w0 w : World) (q cl : Nat) (v : Value) (lp : Option Addr) (b : Nat → Nat) (M : Ms) (hn : n ≤ 60) (k : Xm w0 w q v (.slice lp n cl) b n M) (K : Kept0 n M r) (hi : i ≤ M.inn - M.out) (hbd : bd = M.out + i) : Calls Tryd.prog 64 #[.pointer (some ⟨b 0, 0, none⟩), .int .i64 bd] w fun e y => e = .returned (.tuple #[]) ∧ ∃ v', Xm w0 y q v' (.slice lp n cl) b n { M.bk (M.S.cut (r + i)) bd n with inn := bd } := by
  have hlen := K.len
  have hio := K.io
  have HSQ : Hid (∀ y, Xm w0 y q v (.slice lp n cl) b n M → Calls Tryd.prog 27 #[.pointer (some ⟨q, 0, none⟩), .int .i64 ((bd : Int) - 1)] y fun e z => e = .returned (.tuple #[]) ∧ ∃ v', Xm w0 z q v' (.slice lp n cl) b n (M.bk (M.S.cut (r + i)) bd bd)) := fun y ky => by
    refine (squash_any _ q v M.S ((bd : Int) - 1) (r + i) y ky.qm (by omega) (fun j hj => ?_) (fun j h1 h2 => ?_)).mono fun e z h => ?_
    · unfold QS.squ
      rcases Nat.lt_or_ge j r with c | c
      · rw [K.old j c]
        simp
      · have e1 := K.num (j - r) (by omega)
        rw [show r + (j - r) = j by omega] at e1
        rw [decide_eq_false (by omega)]
        rfl
    · unfold QS.squ
      have e1 := K.num (j - r) (by omega)
      have e2 := K.new (j - r) (by omega)
      rw [show r + (j - r) = j by omega] at e1 e2
      rw [e2, decide_eq_true (by omega)]
      rfl
    · obtain ⟨h1, v', h2⟩ := h
      exact ⟨h1, v', ky.onQ (M' := M.bk (M.S.cut (r + i)) bd bd) rfl rfl rfl (bk_start _ _) (bk_start _ _) (bk_start _ _) rfl h2⟩
  have HX := Hid.in k
  have hbn : bd ≤ n := by omega
  have hws : IntKind.i64.wrap ((bd : Int) - 1) = (bd : Int) - 1 := by
    simp only [IntKind.wrap_i64]
    omega
  have hws2 : wrap64 ((bd : Int) - 1) = (bd : Int) - 1 := by
    unfold wrap64
    omega
  obtain ⟨hb0, c0, c1, c2, c3, c4, c5, c6, c7, -⟩ := k.cells
  clear k K hlen hi hbd hio
  go_enter Tryd.func64, Tryd.ntmps64
  go_wp2_with (go_at_call 27; refine (HSQ.out _ HX.out).mono ?_; rintro e y1 ⟨rfl, v1, hx1⟩; have HX1 := Hid.in hx1; clear hx1)
  clear c0 c1 c2 c3 c4 c5 c6 c7 hb0 hws hws2
  go_loopw [4] (fun u wr => ∃ j : Nat, u = .int .i64 j ∧ bd ≤ j ∧ j ≤ n ∧ Xm w0 wr q v1 (.slice lp n cl) b n (M.bk (M.S.cut (r + i)) bd j)) (fun u _ => 61 - (intOf u).toNat)
  case atStart => exact ⟨bd, rfl, Nat.le_refl _, hbn, HX1.out⟩
  case round =>
    obtain ⟨j, rfl, hj1, hj2, hX⟩ := hrel
    have HXJ := Hid.in hX
    obtain ⟨hb0, c0, c1, c2, c3, c4, c5, c6, c7, -⟩ := hX.cells
    by_cases hjn : j < n
    · have hjn' : (j : Int) < (n : Int) := by omega
      obtain ⟨d2, f2, h2⟩ := hX.row2 j hjn
      obtain ⟨d3, f3, h3⟩ := hX.row3 j hjn
      obtain ⟨d4, f4, h4⟩ := hX.row4 j hjn
      have n02 : b 0 ≠ b 2 := fun e => by have := hX.ne 0 2 (by decide) (by decide) e; omega
      have n03 : b 0 ≠ b 3 := fun e => by have := hX.ne 0 3 (by decide) (by decide) e; omega
      have n04 : b 0 ≠ b 4 := fun e => by have := hX.ne 0 4 (by decide) (by decide) e; omega
      have n23 : b 2 ≠ b 3 := fun e => by have := hX.ne 2 3 (by decide) (by decide) e; omega
      have n24 : b 2 ≠ b 4 := fun e => by have := hX.ne 2 4 (by decide) (by decide) e; omega
      have n34 : b 3 ≠ b 4 := fun e => by have := hX.ne 3 4 (by decide) (by decide) e; omega
      have m02 := n02.symm
      have m03 := n03.symm
      have m04 := n04.symm
      have m23 := n23.symm
      have m24 := n24.symm
      have m34 := n34.symm
      have HNX : Hid (Xm w0 (((wr.setCell ⟨b 2, j, none⟩ (.bool false)).setCell ⟨b 3, j, none⟩ (.bool false)).setCell ⟨b 4, j, none⟩ (.bool false)) q v1 (.slice lp n cl) b n (M.bk (M.S.cut (r + i)) bd (j + 1))) := by
        have := ((hX.setGiven j false hjn).setKnown j false hjn).setDone j false hjn
        unfold Ms.bk at this ⊢
        rw [bk_next _ _ _ hj1, bk_next _ _ _ hj1, bk_next _ _ _ hj1]
        exact this
      clear hX
      go_wp2
      go_roundw
      case rel => exact ⟨j + 1, by simp, by omega, by omega, HNX.out⟩
      case measure =>
        simp [intOf]
        omega
    · obtain rfl : j = n := by omega
      have f2 := (hX.c 0 (by decide)).free 2
      have HNX := Hid.in (hX.setIn bd)
      clear hX
      go_wp2
      refine bodyPost_end (results_none Tryd.results64 _ _ _) rfl ⟨rfl, v1, HNX.out⟩
end Go.Proofs.YthbffonedpeeiaaDoor
/-
  LSQ's LAW LsqMemory: drain.
-/
namespace Go.Proofs.YthbffonedpeeiaaDoor
open Go Go.RowKit
theorem boxW3 (w : World) (x y z : Value) (t : TypeId) : ∃ X, w.alloc (.cells #[x, y, z] t) = X ∧ Below w.heap.size w X ∧ X.cell? ⟨w.heap.size, 0, none⟩ = some x ∧ X.cell? ⟨w.heap.size, 1, none⟩ = some y ∧ X.cell? ⟨w.heap.size, 2, none⟩ = some z ∧ w.heap.size < X.heap.size :=
  ⟨_, rfl, (Below.refl _ _).alloc (Nat.le_refl _) _, by rw [World.cell?_alloc_new]; rfl, by rw [World.cell?_alloc_new]; rfl, by rw [World.cell?_alloc_new]; rfl, by simp⟩
def memT (mem : Nat → Nat) (a d t : Nat) : Nat → Nat := fun y => if a ≤ y ∧ y < a + t then d / 256 ^ (y - a) % 256 else mem y
theorem memT_next (mem : Nat → Nat) (a d t : Nat) : memT mem a d (t + 1) = upd (memT mem a d t) (a + t) (d / 256 ^ t % 256) := by
  funext y
  unfold memT upd
  by_cases e : y = a + t
  · rw [if_pos e, if_pos (by omega), e, Nat.add_sub_cancel_left]
  · rw [if_neg e]
    show _ = if a ≤ y ∧ y < a + t then d / 256 ^ (y - a) % 256 else mem y
    by_cases c : a ≤ y ∧ y < a + t
    · rw [if_pos c, if_pos (by omega)]
    · rw [if_neg c, if_neg (by omega)]
theorem memT_zero (mem : Nat → Nat) (a d : Nat) : memT mem a d 0 = mem := by
  funext y
  unfold memT
  rw [if_neg (by omega)]
theorem mod_byte (d z t : Nat) (ht : t < z) : d % 256 ^ z / 256 ^ t % 256 = d / 256 ^ t % 256 := by
  obtain ⟨u, rfl⟩ : ∃ u, z = t + (u + 1) := ⟨z - t - 1, by omega⟩
  rw [Nat.pow_add, Nat.mod_mul_right_div_self, Nat.pow_succ, Nat.mul_comm (256 ^ u) 256, Nat.mod_mul_right_mod]
theorem memT_mem1 (S : QS) (mem : Nat → Nat) : memT mem (S.at 0).a ((S.at 0).d % 256 ^ (S.at 0).z) (S.at 0).z = S.mem1 mem := by
  funext y
  unfold memT QS.mem1 Ac.cov
  by_cases c : (S.at 0).a ≤ y ∧ y < (S.at 0).a + (S.at 0).z
  · rw [if_pos c, decide_eq_true c, if_pos rfl]
    exact mod_byte _ _ _ (by omega)
  · rw [if_neg c, decide_eq_false c]
    rfl
set_option maxRecDepth 100000 in
set_option maxHeartbeats 1000000 in
theorem xdrain_no (g : Nat → Acc) (n : Nat) (w0 w : World) (q cl : Nat) (v : Value) (lp : Option Addr) (b : Nat → Nat) (M : Ms) (k : Xm w0 w q v (.slice lp n cl) b n M) (K : Kept g n M 0) : Calls Tryd.prog 34 #[.pointer (some ⟨b 0, 0, none⟩)] w fun e y => e = .returned (.bool true) ∧ Below w.heap.size w y := by
  have ht : M.S.top = false := by
    unfold QS.top
    by_cases c : 0 < M.S.on.length
    · have := (K.new 0 (by have := K.len; omega)).1
      rw [Nat.add_zero] at this
      rw [this]
      simp
    · rw [decide_eq_false c]
      rfl
  have HO := Hid.in (oldest_no _ q v M.S w k.qm ht)
  obtain ⟨hb0, c0, -⟩ := k.cells
  clear k K ht
  go_enter Tryd.func34, Tryd.ntmps34
  go_wp2_with (go_at_call 56; refine HO.out.mono ?_; rintro e y1 ⟨rfl, hb⟩; have HB := Hid.in hb; clear hb)
  go_ret
  exact ⟨rfl, below2 HB.out ((Below.refl _ _).alloc (Nat.le_refl _) _)⟩
set_option maxRecDepth 100000 in
set_option maxHeartbeats 1000000 in
theorem xdrain_yes (g : Nat → Acc) (n r : Nat) (w0 w : World) (q cl : Nat) (v : Value) (lp : Option Addr) (b : Nat → Nat) (M : Ms) (k : Xm w0 w q v (.slice lp n cl) b n M) (K : Kept g n M (r + 1)) : Calls Tryd.prog 34 #[.pointer (some ⟨b 0, 0, none⟩)] w fun e y => e = .returned (.bool true) ∧ ∃ v', Xm w0 y q v' (.slice lp n cl) b n { M with S := M.S.drained, mem := M.S.mem1 M.mem } := by
  have hl := K.len
  obtain ⟨o1, o2, o3, o4, o5, o6, o7⟩ := K.old 0 (by omega)
  have ht : M.S.top = true := by
    unfold QS.top
    rw [o1, decide_eq_true (by omega)]
    rfl
  have hz4 : (M.S.at 0).z ≤ 4 := by have := (k.qm.fit 0 (by omega)).z; omega
  have hO := oldest_yes _ q v M.S w k.qm ht o3
  have HDR : Hid (∀ y, Qm y w0.heap.size q v M.S → Calls Tryd.prog 22 #[.pointer (some ⟨q, 0, none⟩)] y fun e z => e = .returned .nilIface ∧ ∃ v', Step y z w0.heap.size q v M.S v' M.S.drained) := fun y ky => drain_good _ q v M.S y ky ht o3
  have HM1 := Hid.in (memT_mem1 M.S M.mem)
  obtain ⟨hb0, c0, -⟩ := k.cells
  have HX := Hid.in k
  have hd1 : (M.S.at 0).d % 256 ^ (M.S.at 0).z < 4294967296 := Nat.lt_of_le_of_lt (Nat.mod_le _ _) (k.qm.fit 0 (by omega)).d
  obtain ⟨a, ha⟩ : ∃ a, (M.S.at 0).a = a := ⟨_, rfl⟩
  obtain ⟨z, hz⟩ : ∃ z, (M.S.at 0).z = z := ⟨_, rfl⟩
  rw [hz] at hd1
  obtain ⟨dd, hd⟩ : ∃ dd, (M.S.at 0).d % 256 ^ z = dd := ⟨_, rfl⟩
  rw [ha, hz, hd] at hO HM1
  rw [hd] at hd1
  rw [hz] at hz4 o7
  rw [ha] at o6 o7
  have HO := Hid.in hO
  clear k K hO ht o1 o2 o3 o4 o5 ha hz hd hl
  go_enter Tryd.func34, Tryd.ntmps34
  go_upto_region 2 with (go_at_call 56; refine HO.out.mono ?_; rintro e y1 ⟨rfl, hb⟩; have HB := Hid.in hb; clear hb)
  obtain ⟨X, hX, bX, x0, x1, x2, sX⟩ := boxW3 y1 (.int .u32 a) (.int .i64 z) (.int .u32 dd) 99
  rw [hX]
  have HX1 := Hid.in (HX.out.below (below2 HB.out bX))
  have HNB : Hid (∀ i, i < 6 → b i ≠ y1.heap.size) := fun i hi e => by have := ((HX.out.below HB.out).c i hi).here; omega
  have HC0 := Hid.in x0
  have HC1 := Hid.in x1
  have HC2 := Hid.in x2
  have HS := Hid.in sX
  clear hX bX c0 hb0 x0 x1 x2 sX
  generalize y1.heap.size = zb at HNB HC0 HC1 HC2 HS ⊢
  go_wp2
  go_loopw [5] (fun u wr => ∃ t : Nat, u = .int .i64 t ∧ t ≤ z ∧ Xm w0 wr q v (.slice lp n cl) b n { M with mem := memT M.mem a dd t } ∧ wr.cell? ⟨zb, 0, none⟩ = some (.int .u32 a) ∧ wr.cell? ⟨zb, 1, none⟩ = some (.int .i64 z) ∧ wr.cell? ⟨zb, 2, none⟩ = some (.int .u32 dd) ∧ zb < wr.heap.size) (fun u _ => 5 - (intOf u).toNat)
  case atStart => exact ⟨0, rfl, Nat.zero_le _, by rw [memT_zero]; exact HX1.out, HC0.out, HC1.out, HC2.out, HS.out⟩
  case round =>
    obtain ⟨t, rfl, htz, hX, x0, x1, x2, hzb⟩ := hrel
    have HXT := Hid.in hX
    by_cases hlt : t < z
    · have hlt' : (t : Int) < (z : Int) := by omega
      obtain ⟨hb0, -, -, -, -, -, -, -, -, c8⟩ := hX.cells
      obtain ⟨o, ho⟩ : ∃ o, a = 64 + o := ⟨a - 64, by omega⟩
      obtain ⟨oj, hoj⟩ : ∃ oj, o + t = oj := ⟨_, rfl⟩
      have hojl : oj < 16 := by omega
      obtain ⟨d5, f5, h5⟩ := hX.row5 oj hojl
      have n05 : b 0 ≠ b 5 := fun e => by have := hX.ne 0 5 (by decide) (by decide) e; omega
      have nz5 : zb ≠ b 5 := fun e => HNB.out 5 (by decide) e.symm
      have m05 := n05.symm
      have mz5 := nz5.symm
      obtain ⟨ai, hai⟩ : ∃ ai : Int, (a : Int) = ai := ⟨_, rfl⟩
      obtain ⟨oi, hoi⟩ : ∃ oi : Int, (o : Int) = oi := ⟨_, rfl⟩
      rw [hai] at x0
      have ha0 : 0 ≤ ai := by omega
      have ha1 : ai < 4294967296 := by omega
      have hw1 : IntKind.i64.wrap (ai - 64) = oi := by
        simp only [IntKind.wrap_i64]
        omega
      have hw2 : wrap64 (ai - 64) = oi := by
        unfold wrap64
        omega
      have hw3 : IntKind.i64.wrap (oi + (t : Int)) = (oj : Int) := by
        simp only [IntKind.wrap_i64]
        omega
      have hw4 : wrap64 (oi + (t : Int)) = (oj : Int) := by
        unfold wrap64
        omega
      have ht4 : t < 4 := by omega
      have HNX : Hid (Xm w0 (wr.setCell ⟨b 5, oj, none⟩ (.int .u8 (dd / 256 ^ t % 256 : Nat))) q v (.slice lp n cl) b n { M with mem := memT M.mem a dd (t + 1) }) := by
        have := hX.setMem oj (dd / 256 ^ t % 256) hojl
        have e : 64 + oj = a + t := by omega
        rw [e] at this
        show Xm _ _ _ _ _ _ _ _
        rw [memT_next]
        exact this
      rw [← byte_is dd t] at HNX
      have HT : Hid (∀ u, Turned (fun j => j = b 5) wr (wr.setCell ⟨b 5, oj, none⟩ u).drew) := fun u => ((Turned.refl (fun j => j = b 5) wr).set (b := b 5) rfl oj u).drew
      have HX0 := Hid.in x0
      have HX1' := Hid.in x1
      have HX2 := Hid.in x2
      have HAI := Hid.in hai
      clear hX ho hoj hai hoi o6 o7
      go_wp2
      go_region
      go_wp2
      go_roundw
      case rel =>
        refine ⟨t + 1, by simp, by omega, HNX.out.below (Below.refl _ _).drew, ?_, (HT.out _).to_cell hzb nz5 HX1'.out, (HT.out _).to_cell hzb nz5 HX2.out, Nat.lt_of_lt_of_le hzb (HT.out _).size⟩
        rw [HAI.out]
        exact (HT.out _).to_cell hzb nz5 HX0.out
      case measure =>
        simp [intOf]
        omega
    · obtain rfl : t = z := by omega
      obtain ⟨hb0, c0, -⟩ := hX.cells
      have hlt' : ¬ (t : Int) < (t : Int) := by omega
      have hdd : decide ((t : Int) < (t : Int)) = false := decide_eq_false hlt'
      clear hX
      go_wp2_with (go_at_call 22; refine (HDR.out _ HXT.out.qm).mono ?_; rintro e y2 ⟨rfl, v2, st2⟩; have HST := Hid.in st2; clear st2)
      go_ret
      refine ⟨rfl, v2, ?_⟩
      have := HXT.out.onQ (M' := { M with S := M.S.drained, mem := memT M.mem a dd t }) rfl rfl rfl rfl rfl rfl rfl HST.out
      rw [HM1.out] at this
      exact this
end Go.Proofs.YthbffonedpeeiaaDoor
