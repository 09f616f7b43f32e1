/-
  CACHE's LAW CacheMemory: a line that is not there is filled in.
-/
import Derived.Test.YtaffimbkdmbndaaCm
namespace Go.Proofs.Ytaffimbkdmbndaa
open Go Go.RowKit
theorem fill_any (B p h c : Nat) (V : Nat → Value) (S : CS) (a s : Nat) (b : Nat → Nat) (w : World) (k : Ch w B p h c V S) (ha : a < 4294967296) (h16 : a % 16 = 0) (hs : 1 ≤ s ∧ s ≤ 3) (hN : No (S.set (S.of a)) a) : Calls Try.prog 7 #[.pointer (some ⟨p, 0, none⟩), .int .u32 a, .agg (bvs b).toArray, .int .i64 s] w fun e w' => e = .returned (.tuple #[.agg (S.left a).vs.toArray, .bool (S.full a), .nilIface]) ∧ ∃ v', Ch w' B p h c (upd V (S.of a) v') (S.fill a s b) ∧ (∀ j, v'.ownBlock = some j → (V (S.of a)).ownBlock = some j ∨ w.heap.size ≤ j) ∧ Turned (mine p h S.n V) w w' := by
  by_cases q : S.full a = true
  · exact fill_full B p h c V S a s b w k ha h16 hs hN q
  · exact fill_room B p h c V S a s b w k ha h16 hs hN (by simpa using q)
theorem state_sv (B p h c : Nat) (V : Nat → Value) (S : CS) (a sv : Nat) (w : World) (k : Ch w B p h c V S) (ha : a < 4294967296) (hsv : (∃ i, At (S.set (S.of a)) a i ∧ ((S.set (S.of a)).getD i l0).s = sv) ∨ (No (S.set (S.of a)) a ∧ sv = 0)) : Calls Try.prog 6 #[.pointer (some ⟨p, 0, none⟩), .int .u32 a] w fun e w' => e = .returned (.int .i64 sv) ∧ Below w.heap.size w w' := by
  rcases hsv with ⟨i, h1, rfl⟩ | ⟨h1, rfl⟩
  · exact state_at B p h c V S a i w k ha h1
  · exact state_no B p h c V S a w k ha h1
theorem Lw.fillC {w0 x y : World} {p h c F M : Nat} {V : Nat → Value} {S : CS} {f m : Nat → Nat} (k : Lw w0 x p h c F M V S f m) (a s : Nat) (b : Nat → Nat) (v' : Value) (hO : S.of a < S.n) (ch : Ch y w0.heap.size p h c (upd V (S.of a) v') (S.fill a s b)) (hv : ∀ j, v'.ownBlock = some j → (V (S.of a)).ownBlock = some j ∨ x.heap.size ≤ j) (t : Turned (mine p h S.n V) x y) : Lw w0 y p h c F M (upd V (S.of a) v') (S.fill a s b) f m := by
  refine k.onC ch t (fun q hq => ?_)
  rcases hq with q1 | q1 | ⟨i, hi, hb⟩
  · exact Or.inl (Or.inl q1)
  · exact Or.inl (Or.inr (Or.inl q1))
  · by_cases e : i = S.of a
    · rw [e, upd_same] at hb
      exact (hv q hb).imp (fun q1 => Or.inr (Or.inr ⟨_, hO, q1⟩)) id
    · rw [upd_other _ _ _ _ e] at hb
      exact Or.inl (Or.inr (Or.inr ⟨i, hi, hb⟩))
theorem cells_setCells {n : Nat} {b : Nat} : ∀ (vs : List Value) (o : Nat) (w : World) (c : Nat → Value), CellsAt n w b c → o + vs.length ≤ n → CellsAt n (w.setCells b o vs) b (fun i => if o ≤ i ∧ i < o + vs.length then vs.getD (i - o) (c i) else c i)
  | [], o, w, c, h, _ => h.ext fun i _ => by rw [if_neg (by simp)]
  | v :: r, o, w, c, h, hl => by
    have hl' : o + (r.length + 1) ≤ n := by simpa using hl
    refine (cells_setCells r (o + 1) _ _ (h.set o (by omega) v) (by omega)).ext fun i hi => ?_
    rw [List.length_cons]
    by_cases e : i = o
    · subst e
      rw [if_neg (by omega), if_pos (by omega), upd_same, Nat.sub_self]
      rfl
    · by_cases q : o + 1 ≤ i ∧ i < o + 1 + r.length
      · rw [if_pos q, if_pos (by omega), show i - o = (i - (o + 1)) + 1 by omega, List.getD_cons_succ, upd_other _ _ _ _ e]
      · rw [if_neg q, if_neg (by omega), upd_other _ _ _ _ e]
theorem Lw.wb {w0 x : World} {p h c F M : Nat} {V : Nat → Value} {S : CS} {f m : Nat → Nat} (k : Lw w0 x p h c F M V S f m) (e : Ln) (he : e.a + 16 ≤ 1024) (hs : e.s = 3) : Lw w0 (x.setCells M e.a (bvs e.b)) p h c F M V S f (back m e) := by
  refine k.onM (turned_setCells _ _ _) ((cells_setCells (bvs e.b) e.a x _ k.cm (by rw [bvs_len]; exact he)).ext fun i hi => ?_)
  rw [bvs_len]
  unfold back
  by_cases q : e.a ≤ i ∧ i < e.a + 16
  · rw [if_pos q, if_pos ⟨hs, q⟩]
    rw [List.getD_eq_getElem?_getD, bvs_at _ _ (by omega)]
    rfl
  · rw [if_neg q, if_neg (fun q2 => q q2.2)]
theorem ld_arr {ops : Array Oper} {rest : List Oper} {op : Oper} {a : Act} {w : World} {Q : Exit → Act → World → Prop} (g o : Nat) (b : Nat → Nat) (hc : w.rangeAt g o (bvs b)) (hgd : op.guard = none) (x : Operand) (ho : op.op = .load 38 x) (hx : a.eval x = .pointer (some ⟨g, o, none⟩)) (h : wpList Try.prog ops Q rest (a.put op.dst (.agg (bvs b).toArray)) w) : wpList Try.prog ops Q (op :: rest) a w :=
  wpList_load_mid hgd _ x ho g o hx (bvs b) _ hc Try.underlying38 rfl (by rw [arr_info, bvs_len]) h
theorem byte_info : (Try.prog.info? 5).map (·.size) = some 1 := by kernel_rfl
/-- sixteen bytes are copied -/
theorem copy16 (w : World) (ty : TypeId) (g o M a n n2 : Nat) (b : Nat → Nat) (k1 k2 : Nat) (hn : Nat.min n n2 = 16) (hr : w.rangeAt M a (bvs b)) (ht : w.there g o 16) : (Builtin.copy_ #[31, 31] ty #[.slice (some ⟨g, o, none⟩) n2 k1, .slice (some ⟨M, a, none⟩) n k2]).run Try.prog w = .ok (goInt 16) (w.setCells g o (bvs b)) := by
  have := run_copy_cells (P := Try.prog) w 31 31 ty 5 g o n2 k1 ⟨M, a, none⟩ n k2 (bvs b) Try.underlying31 byte_info (by rw [bvs_len]; exact hn.symm) (fun j v hj => by rw [Addr.add_mid]; exact hr j v hj) (fun j hj => (ht j (by rw [bvs_len] at hj; exact hj)).1) (fun j hj => (ht j (by rw [bvs_len] at hj; exact hj)).2) (bvs_one b)
  rw [bvs_len] at this
  exact this
theorem range_mem {w : World} {M L : Nat} {m : Nat → Nat} (k : CellsAt 1024 w M (fun o => .int .u8 (m o))) (h : L + 16 ≤ 1024) : w.rangeAt M L (bvs (fun t => m (L + t))) := by
  intro j v hv
  have hj : j < 16 := by
    have := (List.getElem?_eq_some_iff.1 hv).1
    rwa [bvs_len] at this
  rw [bvs_at _ _ hj] at hv
  rw [k.cell (L + j) (by omega)]
  exact hv
theorem there_mem {w : World} {M L : Nat} {c : Nat → Value} (k : CellsAt 1024 w M c) (h : L + 16 ≤ 1024) : w.there M L 16 := fun j hj => ⟨by rw [k.cell (L + j) (by omega)]; rfl, k.free _⟩
def z16 : Array Value := #[.int .u8 0, .int .u8 0, .int .u8 0, .int .u8 0, .int .u8 0, .int .u8 0, .int .u8 0, .int .u8 0, .int .u8 0, .int .u8 0, .int .u8 0, .int .u8 0, .int .u8 0, .int .u8 0, .int .u8 0, .int .u8 0]
theorem there_arr (w : World) (t : TypeId) : (w.alloc (.cells z16 t)).there w.heap.size 0 16 := by
  intro j hj
  refine ⟨?_, World.frozen?_alloc_at _ _ _ _ rfl⟩
  rw [World.cell?_alloc_new, Nat.zero_add, Array.getElem?_eq_getElem (by show j < 16; exact hj)]
  rfl
theorem bytes_range {w : World} {g : Nat} {e : Ln} (h : w.rangeAt g 0 e.vs) : w.rangeAt g 2 (bvs e.b) := by
  intro j v hv
  have := h (2 + j) v (by rw [Nat.add_comm]; exact hv)
  rwa [Nat.zero_add] at this
theorem fits_of (A z : Nat) (hz : z = 1 ∨ z = 2 ∨ z = 4) (h : A % z = 0) : fits A z = true := by
  unfold fits
  rcases hz with rfl | rfl | rfl
  · rfl
  · simp
    omega
  · simp
    omega
end Go.Proofs.Ytaffimbkdmbndaa
