/-
  A MAP OF THE PROGRAM's OWN, as a plain function of its keys.
-/
import Derived.Test.YtbbaopldebdoiaaNa
import Derived.Maps.OwnSet
import Derived.Maps.RangeWalk
namespace Go.Proofs.Ytbbaopldebdoiaa
open Go Go.RowKit
/-- how an element reads: as itself -/
def rdV (v : Value) : Option (DataW Value × List MemPlace) := some (.held v, [])
/-- the datum D has f's values -/
def Has (q : IntKind) (D : DataW Value) (f : Int → Option Value) : Prop := ∀ a, (Lit.int q a).wf = true → Maps.has D (.int q a) = (f a).isSome ∧ ∀ v z, f a = some v → D.atKey (.int q a) z = .held v
/-- block b is a map of at most n entries that has f's values -/
def MapAt (w : World) (k : TypeId) (q : IntKind) (b n : Nat) (f : Int → Option Value) : Prop := ∃ D, w.ownsMap Try.prog k rdV b n D ∧ Has q D f
def updF (f : Int → Option Value) (a : Int) (v : Option Value) : Int → Option Value := fun x => if x = a then v else f x
theorem MapAt.here {w : World} {k : TypeId} {q : IntKind} {b n : Nat} {f : Int → Option Value} (h : MapAt w k q b n f) : b < w.heap.size := by
  obtain ⟨D, h, -⟩ := h
  exact h.lt
theorem MapAt.turned {Q : Nat → Prop} {w w' : World} {k : TypeId} {q : IntKind} {b n : Nat} {f : Int → Option Value} (h : MapAt w k q b n f) (t : Turned Q w w') (hb : ¬ Q b) : MapAt w' k q b n f := by
  have hl := h.here
  obtain ⟨D, ⟨es, clock, h1, h2⟩, h3⟩ := h
  exact ⟨D, ⟨es, clock, by rw [t.block b hl hb]; exact h1, h2⟩, h3⟩
theorem MapAt.below {w w' : World} {k : TypeId} {q : IntKind} {b n : Nat} {f : Int → Option Value} (h : MapAt w k q b n f) (t : Below w.heap.size w w') : MapAt w' k q b n f := h.turned (Q := fun _ => False) (Turned.of_below t) (fun e => e)
theorem MapAt.mono {w : World} {k : TypeId} {q : IntKind} {b n m : Nat} {f : Int → Option Value} (h : MapAt w k q b n f) (hm : n ≤ m) : MapAt w k q b m f := by
  obtain ⟨D, h1, h2⟩ := h
  exact ⟨D, h1.mono hm, h2⟩
theorem map_made (w : World) (k : TypeId) (q : IntKind) : MapAt (w.alloc (.map #[] 0)) k q w.heap.size 0 (fun _ => none) :=
  ⟨.map [], World.ownsMap_made w _ k rdV, fun a _ => ⟨rfl, fun v z h => by cases h⟩⟩
section
variable {w : World} {t k e : TypeId} {q : IntKind} {b n : Nat} {f : Int → Option Value}
theorem MapAt.look (h : MapAt w k q b n f) (hk : Try.prog.underlying k = some (.int q)) (ht : Try.prog.underlying t = some (.map k e)) {z : Value} (hz : (zeroValue e).run Try.prog w = .ok z w) {a : Int} (ha : (Lit.int q a).wf = true) : (Instr.lookup t (.map (some b)) (.int q a) true).run Try.prog w = .ok (.tuple #[(f a).getD z, .bool (f a).isSome]) w := by
  obtain ⟨D, h1, h2⟩ := h
  obtain ⟨v, ps, hr, hv⟩ := h1.look_ok (Maps.int_keyed hk) ht hz (zd := .held z) (zp := []) rfl (Maps.keyOf_int_mk hk ha)
  obtain ⟨e1, e2⟩ := h2 a ha
  rw [hr, e1]
  have hv' : DataW.held v = D.atKey (.int q a) (.held z) := (Prod.mk.inj (Option.some.inj hv)).1
  cases hf : f a with
  | none =>
    rw [hf] at e1
    rw [Maps.atKey_of_not_has e1] at hv'
    rw [DataW.held.inj hv']
    rfl
  | some u =>
    rw [e2 u _ hf] at hv'
    rw [DataW.held.inj hv']
    rfl
theorem MapAt.look1 (h : MapAt w k q b n f) (hk : Try.prog.underlying k = some (.int q)) (ht : Try.prog.underlying t = some (.map k e)) {z : Value} (hz : (zeroValue e).run Try.prog w = .ok z w) {a : Int} (ha : (Lit.int q a).wf = true) : (Instr.lookup t (.map (some b)) (.int q a) false).run Try.prog w = .ok ((f a).getD z) w := by
  obtain ⟨D, h1, h2⟩ := h
  obtain ⟨v, ps, hr, hv⟩ := h1.lookup (Maps.int_keyed hk) ht hz (zd := .held z) (zp := []) rfl (Maps.keyOf_int_mk hk ha)
  obtain ⟨e1, e2⟩ := h2 a ha
  rw [hr]
  have hv' : DataW.held v = D.atKey (.int q a) (.held z) := (Prod.mk.inj (Option.some.inj hv)).1
  cases hf : f a with
  | none =>
    rw [hf] at e1
    rw [Maps.atKey_of_not_has e1] at hv'
    rw [DataW.held.inj hv']
    rfl
  | some u =>
    rw [e2 u _ hf] at hv'
    rw [DataW.held.inj hv']
    rfl
theorem int_key (q : IntKind) (a : Int) : WideAt.IsKeyLit (.int q a) := by simp [WideAt.IsKeyLit]
theorem map_turned {w' : World} (h : w.mapTurned w' b) : Turned (fun j => j = b) w w' := by
  have g := h.grown
  exact ⟨g.os, g.tape, g.output, g.size, fun i hi hn => g.block i hi (fun e => hn (Option.some.inj e))⟩
theorem MapAt.put (h : MapAt w k q b n f) (hk : Try.prog.underlying k = some (.int q)) (ht : Try.prog.underlying t = some (.map k e)) (hn : n < maxLen) {a : Int} (ha : (Lit.int q a).wf = true) (v : Value) : ∃ w', (Instr.mapUpdate t (.map (some b)) (.int q a) v).run Try.prog w = .ok () w' ∧ MapAt w' k q b (n + 1) (updF f a (some v)) ∧ Turned (fun j => j = b) w w' := by
  obtain ⟨D, h1, h2⟩ := h
  obtain ⟨w', hr, ho, hm⟩ := h1.store (Maps.int_keyed hk) ht hn (Maps.keyOf_int_mk hk ha) (val := v) (d := .held v) (ps := []) rfl
  refine ⟨w', hr, ⟨_, ho, fun x hx => ?_⟩, map_turned hm⟩
  unfold updF
  by_cases hxa : x = a
  · subst hxa
    rw [if_pos rfl]
    exact ⟨Maps.has_put_same h1.isMap (int_key q x) _, fun u z hu => by rw [Maps.atKey_put_same h1.isMap (int_key q x), Option.some.inj hu]⟩
  · rw [if_neg hxa]
    have hne : (Lit.int q x) ≠ .int q a := fun e => hxa (by cases e; rfl)
    rw [Maps.has_put_other hne]
    exact ⟨(h2 x hx).1, fun u z hu => by rw [Maps.atKey_put_other hne]; exact (h2 x hx).2 u z hu⟩
theorem MapAt.del (h : MapAt w k q b n f) (hk : Try.prog.underlying k = some (.int q)) (ht : Try.prog.underlying t = some (.map k e)) {a : Int} (ha : (Lit.int q a).wf = true) (ty : TypeId) : ∃ w', (Builtin.delete_ #[t, k] ty #[.map (some b), .int q a]).run Try.prog w = .ok (.tuple #[]) w' ∧ MapAt w' k q b n (updF f a none) ∧ Turned (fun j => j = b) w w' := by
  obtain ⟨D, h1, h2⟩ := h
  obtain ⟨w', hr, ho, hm⟩ := h1.drop (Maps.int_keyed hk) ht (Maps.keyOf_int_mk hk ha) ty
  refine ⟨w', hr, ⟨_, ho, fun x hx => ?_⟩, map_turned hm⟩
  unfold updF
  by_cases hxa : x = a
  · subst hxa
    rw [if_pos rfl]
    exact ⟨Maps.has_del_same, fun u z hu => by cases hu⟩
  · rw [if_neg hxa]
    have hne : (Lit.int q x) ≠ .int q a := fun e => hxa (by cases e; rfl)
    rw [Maps.has_del_other hne]
    exact ⟨(h2 x hx).1, fun u z hu => by rw [Maps.atKey_del_other hne]; exact (h2 x hx).2 u z hu⟩
end
end Go.Proofs.Ytbbaopldebdoiaa
