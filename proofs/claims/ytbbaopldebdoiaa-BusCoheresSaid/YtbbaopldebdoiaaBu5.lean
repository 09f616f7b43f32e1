/-
  BUS: Busy, Read.
-/
import Derived.Test.YtbbaopldebdoiaaBu4
namespace Go.Proofs.Ytbbaopldebdoiaa
open Go Go.RowKit
theorem zero_ask (w : World) : (zeroValue 65).run Try.prog w = .ok (.agg #[.int .u32 0, .bool false]) w := by kernel_rfl
theorem wf_i64 {a : Int} (h : -9223372036854775808 ≤ a ∧ a ≤ 9223372036854775807) : (Lit.int .i64 a).wf = true := by
  simp [Lit.wf, IntKind.min, IntKind.max, IntKind.signed, IntKind.bits]
  omega
theorem wf_u32 {a : Nat} (h : a < 4294967296) : (Lit.int .u32 (a : Int)).wf = true := by
  simp [Lit.wf, IntKind.min, IntKind.max, IntKind.signed, IntKind.bits]
  omega
def i64 (a : Int) : Prop := -9223372036854775808 ≤ a ∧ a ≤ 9223372036854775807
section
variable {x : World} {B p rb rc mb mc nb ab kn ka : Nat} {P H C : Nat → Nat} {V : Nat → Nat → Value} {S : BS}
theorem ask_look (k : Bm x B p rb rc mb mc nb ab kn ka P H C V S) (core : Int) (hc : i64 core) : ∃ (l : Nat) (b : Bool), (Instr.lookup 52 (.map (some ab)) (.int .i64 core) true).run Try.prog x = .ok (.tuple #[.agg #[.int .u32 l, .bool b], .bool (S.ak core).isSome]) x ∧ (Instr.lookup 52 (.map (some ab)) (.int .i64 core) false).run Try.prog x = .ok (.agg #[.int .u32 l, .bool b]) x ∧ ∀ q, S.ak core = some q → q = (l, b) := by
  have h1 := k.ak.look Try.underlying3 Try.underlying52 (zero_ask x) (wf_i64 hc)
  have h2 := k.ak.look1 Try.underlying3 Try.underlying52 (zero_ask x) (wf_i64 hc)
  unfold encA at h1 h2
  cases ha : S.ak core with
  | none =>
    rw [ha] at h1 h2
    exact ⟨0, false, h1, h2, fun q hq => by cases hq⟩
  | some u =>
    rw [ha] at h1 h2
    exact ⟨u.1, u.2, h1, h2, fun q hq => by cases hq; rfl⟩
set_option maxRecDepth 100000 in
theorem bbusy_any (k : Bm x B p rb rc mb mc nb ab kn ka P H C V S) (core : Int) (hc : i64 core) : Calls Try.prog 7 #[.pointer (some ⟨p, 0, none⟩), .int .i64 core] x fun e w' => e = .returned (.bool (S.ak core).isSome) ∧ Below x.heap.size x w' := by
  obtain ⟨l, b, hr, -, -⟩ := ask_look k core hc
  have c4 : x.cell? ⟨p, 4, none⟩ = some (.map (some ab)) := k.c.cell 4 (by decide)
  have hp := k.c.here
  generalize (S.ak core).isSome = is at hr ⊢
  clear k hc
  go_enter Try.func7, Try.ntmps7
  go_wp2
  go_ret
  exact ⟨rfl, (Below.refl _ _).alloc (Nat.le_refl _) _⟩
end
end Go.Proofs.Ytbbaopldebdoiaa
