import Derived.Test.YtemamhkhjijdlaaGreatDoorY09
import Derived.Test.YtemamhkhjijdlaaGreatDoorY14
import Derived.Test.YtemamhkhjijdlaaGreatDoorY15
import Derived.Test.YtemamhkhjijdlaaGreatDoorY10
import Derived.LoopN
/-
  CORE: its predictor, among others.
-/
namespace Go.Proofs.YtemamhkhjijdlaaGreatDoor
open Go Go.RowKit
/-- the predictor; F: blocks that are not its own -/
def PrdC (G : PG) (S : PS) (x : World) (F : Nat → Prop) : Prop := Pr x G S ∧ ∀ z, F z → z < x.heap.size ∧ z ≠ G.p ∧ z ≠ G.gt ∧ z ≠ G.gs ∧ z ≠ G.gc
theorem prdC_comp (G : PG) (S : PS) : Comp (PrdC G S) := by
  refine ⟨fun x y F Q h t hq => ?_, fun x F H h hG => ⟨h.1, fun z hz => h.2 z (hG z hz)⟩⟩
  obtain ⟨k, hF⟩ := h
  have b1 := k.cells.here
  have b2 := k.tgt.here
  have b3 := k.stk.here
  have b4 := k.ctr.here
  refine ⟨k.turned t (fun q => (hF _ (hq _ q b1)).2.1 rfl) (fun q => (hF _ (hq _ q b2)).2.2.1 rfl) (fun q => (hF _ (hq _ q b3)).2.2.2.1 rfl) (fun q => (hF _ (hq _ q b4)).2.2.2.2 rfl), fun z hz => ?_⟩
  rcases hz with hz | hz
  · obtain ⟨a, b⟩ := hF z hz
    exact ⟨Nat.lt_of_lt_of_le a t.size, b⟩
  · exact ⟨hz.2, by omega, by omega, by omega, by omega⟩
section
variable {x : World} {G : PG} {S : PS} {F : Nat → Prop}
theorem PrdC.to (hF : ∀ z, F z → z < x.heap.size ∧ z ≠ G.p ∧ z ≠ G.gt ∧ z ≠ G.gs ∧ z ≠ G.gc) {S' : PS} {y : World} (k : Pr y G S') (t : Turned (fun k => k = G.p ∨ k = G.gs) x y) : PrdC G S' y F ∧ Turned (fun z => ¬ F z) x y := by
  refine ⟨⟨k, fun z hz => ⟨Nat.lt_of_lt_of_le (hF z hz).1 t.size, (hF z hz).2⟩⟩, t.mono (fun z q f => ?_)⟩
  rcases q with q | q
  · exact (hF z f).2.1 q
  · exact (hF z f).2.2.2.1 q
theorem pguess (h : PrdC G S x F) (op rd rs1 rs2 imm pc : Int) (hL : Laid x) (hpc : 0 ≤ pc ∧ pc < 4294967296) (hb : brB op = false) : Calls Tryz.prog 164 #[.pointer (some ⟨G.p, 0, none⟩), .int .u32 pc, .agg #[.int .i64 op, .int .i64 rd, .int .i64 rs1, .int .i64 rs2, .int .i64 imm]] x fun e w' => e = .returned (.tuple #[.int .u32 (nextV G S op rd rs1 imm pc false), .agg #[.int .i64 S.hist, .int .i64 S.top, .int .u32 (S.stack S.top)]]) ∧ PrdC G (goS G S op rd rs1 pc false) w' F ∧ Turned (fun z => ¬ F z) x w' := by
  obtain ⟨k, hF⟩ := h
  refine (guess_no G S op rd rs1 rs2 imm pc x k hL hpc hb).mono ?_
  rintro e w' ⟨rfl, k', t⟩
  exact ⟨rfl, PrdC.to hF k' t⟩
theorem prestore (h : PrdC G S x F) (hh t : Nat) (mv op rd rs1 rs2 imm pc : Int) (taken : Bool) (hL : Laid x) (hoff : Off G) (hpc : 0 ≤ pc ∧ pc < 4294967296) (h1 : hh ≤ G.mask) (h2 : t < G.ns) : Calls Tryz.prog 130 #[.pointer (some ⟨G.p, 0, none⟩), .agg #[.int .i64 hh, .int .i64 t, .int .u32 mv], .int .u32 pc, .agg #[.int .i64 op, .int .i64 rd, .int .i64 rs1, .int .i64 rs2, .int .i64 imm], .bool taken] x fun e w' => e = .returned (.tuple #[]) ∧ PrdC G (goS G { S with hist := hh, top := t, stack := upd S.stack t mv } op rd rs1 pc taken) w' F ∧ Turned (fun z => ¬ F z) x w' := by
  obtain ⟨k, hF⟩ := h
  refine (restore_yes G S hh t mv op rd rs1 rs2 imm pc taken x k hL hoff hpc h1 h2).mono ?_
  rintro e w' ⟨rfl, k', t'⟩
  exact ⟨rfl, PrdC.to hF k' t'⟩
end
end Go.Proofs.YtemamhkhjijdlaaGreatDoor
/-
  CORE: all of it, plainly, and in memory.
-/
namespace Go.Proofs.YtemamhkhjijdlaaGreatDoor
open Go Go.RowKit
/-- a configuration -/
structure Cf where
  width : Int
  window : Int
  queue : Int
  regs : Int
  units : Int
  mul : Int
  bold : Bool
  kind : Int
  bits : Int
  hist : Int
  tg : Int
  ret : Int
  sets : Int
  ways : Int
  bus : Int
def Cf.at (c : Cf) : Nat → Value
  | 0 => .int .i64 c.width
  | 1 => .int .i64 c.window
  | 2 => .int .i64 c.queue
  | 3 => .int .i64 c.regs
  | 4 => .int .i64 c.units
  | 5 => .int .i64 c.mul
  | 6 => .bool c.bold
  | 7 => .int .i64 c.kind
  | 8 => .int .i64 c.bits
  | 9 => .int .i64 c.hist
  | 10 => .int .i64 c.tg
  | 11 => .int .i64 c.ret
  | 12 => .int .i64 c.sets
  | 13 => .int .i64 c.ways
  | _ => .int .i64 c.bus
/-- an instruction on its way -/
structure Flt where
  seq : Int
  pc : Int
  code : Bool
  op : Int
  rd : Int
  rs1 : Int
  rs2 : Int
  imm : Int
  cls : Int
  guess : Int
  mh : Nat
  mt : Nat
  mv : Int
  s1 : Int
  s2 : Int
  d : Int
  old : Int
  stage : Int
  due : Int
def Flt.at (f : Flt) : Nat → Value
  | 0 => .int .i64 f.seq
  | 1 => .int .u32 f.pc
  | 2 => .bool f.code
  | 3 => .int .i64 f.op
  | 4 => .int .i64 f.rd
  | 5 => .int .i64 f.rs1
  | 6 => .int .i64 f.rs2
  | 7 => .int .i64 f.imm
  | 8 => .int .i64 f.cls
  | 9 => .int .u32 f.guess
  | 10 => .int .i64 f.mh
  | 11 => .int .i64 f.mt
  | 12 => .int .u32 f.mv
  | 13 => .int .i64 f.s1
  | 14 => .int .i64 f.s2
  | 15 => .int .i64 f.d
  | 16 => .int .i64 f.old
  | 17 => .int .i64 f.stage
  | 18 => .int .i64 f.due
  | 19 => .int .u32 0
  | 20 => .bool false
  | 21 => .int .u32 0
  | 22 => .int .u32 0
  | 23 => .bool false
  | 24 => .int .u32 0
  | 25 => .bool false
  | _ => .bool false
structure FS where
  w0 : World
  wp : Nat
  ws : WS
  G : PG
  ps : PS
  qp : Nat
  qs : QS
  g : Bn
  bs : BS
  hp : Nat
  hc : Nat
  hcap : Nat
  hl : Bool
  p : Nat
  b : Nat
  tp : Nat
  cb : Nat
  cf : Cf
  way : Value
  nx : Int
  R : Rec
  ext : Nat → World → (Nat → Prop) → Prop
def hartF (hc hcap : Nat) (hl : Bool) (o : Nat) : Value := if o = 9 then .slice (some ⟨hc, 0, none⟩) 1 hcap else if o = 44 then .bool hl else .int .u32 0
def headF (S : FS) : Nat → Value
  | 0 => .pointer (some ⟨S.hp, 0, none⟩)
  | 1 => .pointer (some ⟨S.G.p, 0, none⟩)
  | 2 => .pointer (some ⟨S.tp, 0, none⟩)
  | 3 => .pointer (some ⟨S.wp, 0, none⟩)
  | 4 => .pointer (some ⟨S.qp, 0, none⟩)
  | 5 => .pointer (some ⟨S.b, 0, none⟩)
  | _ => .int .i64 0
def FS.coreF (S : FS) (o : Nat) : Value := if o < 7 then headF S o else if o < 22 then S.cf.at (o - 7) else if o = 22 then .slice (some ⟨S.cb, 0, none⟩) 1 1 else if o < 151 then .int .u32 0 else if o = 151 then S.way else if o = 152 then .int .u32 S.nx else if o = 153 then .slice none 0 0 else .bool false
/-- the one instruction -/
def ebk : Nat → Value
  | 0 => .int .i64 59
  | _ => .int .i64 0
def FS.C (S : FS) : Nat → World → (Nat → Prop) → Prop
  | 0 => OldC S.w0
  | 1 => WinC S.wp S.ws
  | 2 => PrdC S.G S.ps
  | 3 => QueC S.qp S.qs
  | 4 => BusC S.g 0 S.bs
  | 5 => CelC S.hp 45 (hartF S.hc S.hcap S.hl)
  | 6 => CelC S.hc 1 (fun _ => .int .u32 1048691)
  | 7 => CelC S.p 156 S.coreF
  | 8 => BrdC S.b S.g.p S.R
  | 9 => CelC S.cb 5 ebk
  | k + 10 => S.ext k
structure St (x : World) (S : FS) : Prop where
  side : Side S.C x
  ext : ∀ k, Comp (S.ext k)
  laid : Laid S.w0
theorem FS.comp (S : FS) (h : ∀ k, Comp (S.ext k)) : ∀ k, Comp (S.C k)
  | 0 => oldC_comp _
  | 1 => winC_comp _ _
  | 2 => prdC_comp _ _
  | 3 => queC_comp _ _
  | 4 => busC_comp _ _ _
  | 5 => celC_comp _ _ _
  | 6 => celC_comp _ _ _
  | 7 => celC_comp _ _ _
  | 8 => brdC_comp _ _ _
  | 9 => celC_comp _ _ _
  | k + 10 => h k
theorem only1 (S : FS) (v : WS) : ∀ k, k ≠ 1 → ({ S with ws := v } : FS).C k = S.C k
  | 0, _ => rfl
  | 1, h => absurd rfl h
  | 2, _ => rfl
  | 3, _ => rfl
  | 4, _ => rfl
  | 5, _ => rfl
  | 6, _ => rfl
  | 7, _ => rfl
  | 8, _ => rfl
  | 9, _ => rfl
  | _ + 10, _ => rfl
theorem only2 (S : FS) (v : PS) : ∀ k, k ≠ 2 → ({ S with ps := v } : FS).C k = S.C k
  | 0, _ => rfl
  | 1, _ => rfl
  | 2, h => absurd rfl h
  | 3, _ => rfl
  | 4, _ => rfl
  | 5, _ => rfl
  | 6, _ => rfl
  | 7, _ => rfl
  | 8, _ => rfl
  | 9, _ => rfl
  | _ + 10, _ => rfl
theorem only3 (S : FS) (v : QS) : ∀ k, k ≠ 3 → ({ S with qs := v } : FS).C k = S.C k
  | 0, _ => rfl
  | 1, _ => rfl
  | 2, _ => rfl
  | 3, h => absurd rfl h
  | 4, _ => rfl
  | 5, _ => rfl
  | 6, _ => rfl
  | 7, _ => rfl
  | 8, _ => rfl
  | 9, _ => rfl
  | _ + 10, _ => rfl
theorem only5 (S : FS) (v : Bool) : ∀ k, k ≠ 5 → ({ S with hl := v } : FS).C k = S.C k
  | 0, _ => rfl
  | 1, _ => rfl
  | 2, _ => rfl
  | 3, _ => rfl
  | 4, _ => rfl
  | 5, h => absurd rfl h
  | 6, _ => rfl
  | 7, _ => rfl
  | 8, _ => rfl
  | 9, _ => rfl
  | _ + 10, _ => rfl
theorem only7 (S : FS) (v : Value) (n : Int) : ∀ k, k ≠ 7 → ({ S with way := v, nx := n } : FS).C k = S.C k
  | 0, _ => rfl
  | 1, _ => rfl
  | 2, _ => rfl
  | 3, _ => rfl
  | 4, _ => rfl
  | 5, _ => rfl
  | 6, _ => rfl
  | 7, h => absurd rfl h
  | 8, _ => rfl
  | 9, _ => rfl
  | _ + 10, _ => rfl
theorem only8 (S : FS) (v : Rec) : ∀ k, k ≠ 8 → ({ S with R := v } : FS).C k = S.C k
  | 0, _ => rfl
  | 1, _ => rfl
  | 2, _ => rfl
  | 3, _ => rfl
  | 4, _ => rfl
  | 5, _ => rfl
  | 6, _ => rfl
  | 7, _ => rfl
  | 8, h => absurd rfl h
  | 9, _ => rfl
  | _ + 10, _ => rfl
theorem onlyE (S : FS) (j : Nat) (v : World → (Nat → Prop) → Prop) : ∀ k, k ≠ j + 10 → ({ S with ext := upd S.ext j v } : FS).C k = S.C k
  | 0, _ => rfl
  | 1, _ => rfl
  | 2, _ => rfl
  | 3, _ => rfl
  | 4, _ => rfl
  | 5, _ => rfl
  | 6, _ => rfl
  | 7, _ => rfl
  | 8, _ => rfl
  | 9, _ => rfl
  | k + 10, h => upd_other _ _ _ _ (fun e => h (by omega))
section
variable {x y : World} {S : FS}
theorem St.comp (h : St x S) : ∀ k, Comp (S.C k) := S.comp h.ext
theorem St.below (h : St x S) (b : Below x.heap.size x y) : St y S := ⟨Side.below 0 h.comp h.side b, h.ext, h.laid⟩
theorem St.drew (h : St x S) : St x.drew S := h.below (Below.refl _ _).drew
theorem St.old (h : St x S) : Below S.w0.heap.size S.w0 x := h.side.old 0 rfl
theorem St.tabs (h : St x S) : Laid x := h.laid.below h.old
theorem St.core (h : St x S) : CellsAt 156 x S.p S.coreF := h.side.cells 7 rfl
theorem St.hart (h : St x S) : CellsAt 45 x S.hp (hartF S.hc S.hcap S.hl) := h.side.cells 5 rfl
theorem St.word (h : St x S) : CellsAt 1 x S.hc (fun _ => .int .u32 1048691) := h.side.cells 6 rfl
theorem St.code (h : St x S) : CellsAt 5 x S.cb ebk := h.side.cells 9 rfl
theorem St.extc (h : St x S) {k b n : Nat} {f : Nat → Value} (e : S.ext k = CelC b n f) : CellsAt n x b f := h.side.cells (k + 10) e
theorem St.brd (h : St x S) : ∃ evl whl, CellsAt 10 x S.b (brdF S.g.p evl S.R.evs.length whl S.R.whs.length S.R.cyc) := by
  obtain ⟨o, k⟩ := h.side
  obtain ⟨C, evl, whl, -, a, h0, -, -⟩ := k 8
  exact ⟨evl, whl, a.cells 0 h0⟩
variable {fn : FuncId} {args : Array Value} {P : Ending → World → Prop}
theorem St.onWin (h : St x S) {v : WS} (hs : ∀ F, WinC S.wp S.ws x F → Calls Tryz.prog fn args x fun e y => P e y ∧ WinC S.wp v y F ∧ Turned (fun z => ¬ F z) x y) : Calls Tryz.prog fn args x fun e y => P e y ∧ St y { S with ws := v } := by
  refine (Side.step (C := S.C) (D := ({ S with ws := v } : FS).C) (P := P) 1 h.comp (winC_comp _ _) (only1 S v) h.side hs).mono ?_
  rintro e y ⟨hp, hd⟩
  exact ⟨hp, hd, h.ext, h.laid⟩
theorem St.onPrd (h : St x S) {v : PS} (hs : ∀ F, PrdC S.G S.ps x F → Calls Tryz.prog fn args x fun e y => P e y ∧ PrdC S.G v y F ∧ Turned (fun z => ¬ F z) x y) : Calls Tryz.prog fn args x fun e y => P e y ∧ St y { S with ps := v } := by
  refine (Side.step (C := S.C) (D := ({ S with ps := v } : FS).C) (P := P) 2 h.comp (prdC_comp _ _) (only2 S v) h.side hs).mono ?_
  rintro e y ⟨hp, hd⟩
  exact ⟨hp, hd, h.ext, h.laid⟩
theorem St.onQue (h : St x S) {v : QS} (hs : ∀ F, QueC S.qp S.qs x F → Calls Tryz.prog fn args x fun e y => P e y ∧ QueC S.qp v y F ∧ Turned (fun z => ¬ F z) x y) : Calls Tryz.prog fn args x fun e y => P e y ∧ St y { S with qs := v } := by
  refine (Side.step (C := S.C) (D := ({ S with qs := v } : FS).C) (P := P) 3 h.comp (queC_comp _ _) (only3 S v) h.side hs).mono ?_
  rintro e y ⟨hp, hd⟩
  exact ⟨hp, hd, h.ext, h.laid⟩
theorem St.onBus (h : St x S) (hs : ∀ F, Bu x S.g F 0 S.bs → Calls Tryz.prog fn args x fun e y => P e y ∧ Bu y S.g F 0 S.bs ∧ Turned (fun z => ¬ F z) x y) : Calls Tryz.prog fn args x fun e y => P e y ∧ St y S := by
  refine (Side.step (C := S.C) (D := S.C) (P := P) 4 h.comp (busC_comp _ _ _) (fun _ _ => rfl) h.side hs).mono ?_
  rintro e y ⟨hp, hd⟩
  exact ⟨hp, hd, h.ext, h.laid⟩
theorem St.onBrd (h : St x S) {v : Rec} (hs : ∀ F, BrdC S.b S.g.p S.R x F → Calls Tryz.prog fn args x fun e y => P e y ∧ BrdC S.b S.g.p v y F ∧ Turned (fun z => ¬ F z) x y) : Calls Tryz.prog fn args x fun e y => P e y ∧ St y { S with R := v } := by
  refine (Side.step (C := S.C) (D := ({ S with R := v } : FS).C) (P := P) 8 h.comp (brdC_comp _ _ _) (only8 S v) h.side hs).mono ?_
  rintro e y ⟨hp, hd⟩
  exact ⟨hp, hd, h.ext, h.laid⟩
theorem core_way (S : FS) (v : Value) : ∀ i, i < 156 → upd S.coreF 151 v i = ({ S with way := v } : FS).coreF i := fun i _ => by
  unfold upd FS.coreF
  by_cases q : i = 151
  · subst q; rfl
  · rw [if_neg q]
    simp only [if_neg q]
    rfl
theorem core_next (S : FS) (v : Int) : ∀ i, i < 156 → upd S.coreF 152 (.int .u32 v) i = ({ S with nx := v } : FS).coreF i := fun i _ => by
  unfold upd FS.coreF
  by_cases q : i = 152
  · subst q; rfl
  · rw [if_neg q]
    simp only [if_neg q]
    rfl
theorem St.setWay (h : St x S) (v : Value) : St (x.setCell ⟨S.p, 151, none⟩ v) { S with way := v } :=
  ⟨h.side.put 7 h.comp (f := S.coreF) (f' := ({ S with way := v } : FS).coreF) rfl rfl (only7 S v S.nx) (by decide) (core_way S v), h.ext, h.laid⟩
theorem St.setNext (h : St x S) (v : Int) : St (x.setCell ⟨S.p, 152, none⟩ (.int .u32 v)) { S with nx := v } :=
  ⟨h.side.put 7 h.comp (f := S.coreF) (f' := ({ S with nx := v } : FS).coreF) rfl rfl (only7 S S.way v) (by decide) (core_next S v), h.ext, h.laid⟩
theorem ext_comp {E : Nat → World → (Nat → Prop) → Prop} (h : ∀ k, Comp (E k)) (j b n : Nat) (f : Nat → Value) : ∀ k, Comp (upd E j (CelC b n f) k) := fun k => by
  by_cases q : k = j
  · subst q; rw [upd_same]; exact celC_comp _ _ _
  · rw [upd_other _ _ _ _ q]; exact h k
theorem St.setExt (h : St x S) {k b n o : Nat} {v : Value} {f : Nat → Value} (f' : Nat → Value) (e : S.ext k = CelC b n f) (ho : o < n) (hf : ∀ i, i < n → upd f o v i = f' i) : St (x.setCell ⟨b, o, none⟩ v) { S with ext := upd S.ext k (CelC b n f') } :=
  ⟨h.side.put (k + 10) h.comp (f := f) (f' := f') e (upd_same _ _ _) (onlyE S k _) ho hf, ext_comp h.ext _ _ _ _, h.laid⟩
theorem St.newExt (h : St x S) {n b : Nat} {c : Array Value} {t : TypeId} (k : Nat) (f : Nat → Value) (hb : x.heap.size = b) (hf : ∀ i, i < n → c[i]? = some (f i)) : St (x.alloc (.cells c t)) { S with ext := upd S.ext k (CelC b n f) } :=
  ⟨h.side.new (k + 10) h.comp (f := f) hb (upd_same _ _ _) (onlyE S k _) hf, ext_comp h.ext _ _ _ _, h.laid⟩
theorem St.ne (h : St x S) {k b n : Nat} {f : Nat → Value} (e : S.ext k = CelC b n f) : S.p ≠ b := h.side.ne 7 (k + 10) (by omega) rfl e
end
end Go.Proofs.YtemamhkhjijdlaaGreatDoor
/-
  CORE: one thing more in a row; a row among others.
-/
namespace Go.Proofs.YtemamhkhjijdlaaGreatDoor
open Go Go.RowKit
theorem app_row {w : World} (base : Nat) (t ty e : TypeId) (z : Value) (size bytes : Nat) (ht : Tryz.prog.underlying t = some (.slice e)) (hi : (Tryz.prog.info? e).map (fun i => (i.zero, i.size, i.bytes)) = some (some z, size, bytes)) (hzs : z.cells.size = size) (hsz : 0 < size) (v : Value) (n : Nat) (xs : List Value) (hown : w.ownsRow base e size v n xs) (c : Array Value) (tt : TypeId) (hc : c.toList.length = size) (h1 : ∀ u ∈ c.toList, u.oneCell' = true) (hn : n ≤ 4096) (hb : bytes ≤ 4096) (hbase : base ≤ w.heap.size) :
    ∃ v' w', (Builtin.append_ #[t, t] ty #[v, .slice (some ⟨w.heap.size, 0, none⟩) 1 1]).run Tryz.prog (w.alloc (.cells c tt)) = .ok v' w' ∧ w'.ownsRow base e size v' (n + 1) (xs ++ c.toList) ∧ Turned (fun k => v.ownBlock = some k) w w' ∧ (v'.ownBlock = v.ownBlock ∨ v'.ownBlock = some (w.heap.size + 1)) := by
  obtain ⟨i0, hi0, hz0, hz1, hz2⟩ := info_parts_lsq hi
  obtain ⟨v', w1, hrun, r1, r2, r3, r4⟩ := run_append_own_at (P := Tryz.prog) (w := w.alloc (.cells c tt)) base t ty e i0 z size bytes ht hi0 hz0 hz1 hz2 hzs hsz v n xs (World.ownsRow.alloc (w := w) hown _) ⟨w.heap.size, 0, none⟩ 1 1 c.toList (by omega) (fun j u hj => by
      rw [Addr.add_lit, Nat.zero_add]
      refine (World.cell?_alloc_new w c tt j).trans ?_
      rw [← hj]
      simp) h1 (by unfold maxLen; omega) (by
      have : (n + 1) * bytes ≤ 4097 * 4096 := Nat.mul_le_mul (by omega) hb
      omega) (by simp; omega)
  refine ⟨v', w1, hrun, r1, ((Turned.refl _ w).alloc _).trans (turned_grown_win r2), ?_⟩
  rcases r4 with e | e
  · exact Or.inl e
  · refine Or.inr (e.trans ?_)
    rw [World.size_alloc]
/-- a row; F: blocks that are not its own -/
def RowC (B : Nat) (e : TypeId) (size : Nat) (v : Value) (n : Nat) (l : List Value) (x : World) (F : Nat → Prop) : Prop := x.ownsRow B e size v n l ∧ ∀ z, F z → z < x.heap.size ∧ v.ownBlock ≠ some z
theorem rowC_comp (B : Nat) (e : TypeId) (size : Nat) (v : Value) (n : Nat) (l : List Value) : Comp (RowC B e size v n l) := by
  refine ⟨fun x y F Q h t hq => ?_, fun x F H h hG => ⟨h.1, fun z hz => h.2 z (hG z hz)⟩⟩
  obtain ⟨k, hF⟩ := h
  have hv : ∀ j, v.ownBlock = some j → j < x.heap.size := fun j hj => (own_base_win k j hj).2
  refine ⟨own_turned_win k t (fun j hj q => (hF _ (hq _ q (hv j hj))).2 hj), fun z hz => ?_⟩
  rcases hz with hz | hz
  · exact ⟨Nat.lt_of_lt_of_le (hF z hz).1 t.size, (hF z hz).2⟩
  · refine ⟨hz.2, fun e => ?_⟩
    have := hv z e
    omega
end Go.Proofs.YtemamhkhjijdlaaGreatDoor
/-
  CORE: lists of which nothing is to be sorted.
-/
namespace Go.Proofs.YtemamhkhjijdlaaGreatDoor
open Go Go.RowKit
set_option maxRecDepth 100000 in
theorem fclone (w : World) : Calls Tryz.prog 38 #[.slice none 0 0] w fun e w' => e = .returned (.slice none 0 0) ∧ w' = w := by
  have heq : ∀ w : World, (binOp BinOp.eql 48 (.slice none 0 0) (.slice none 0 0)).run Tryz.prog w = .ok (.bool true) w := fun w => by rfl
  go_enter Tryz.func38, Tryz.ntmps38
  go_wp2_with fail
  go_ret
  exact ⟨rfl, rfl⟩
set_option maxRecDepth 100000 in
theorem finsert (q : Option Addr) (c : Nat) (w : World) : Calls Tryz.prog 100 #[.slice q 0 c, .int .i64 0, .int .i64 0] w fun e w' => e = .returned (.tuple #[]) ∧ w' = w := by
  go_enter Tryz.func100, Tryz.ntmps100
  go_wp2_with fail
  refine wp_loop_rounds 1 ?_
  rw [rounds_succ]
  go_wp2_with fail
  exact bodyPost_end (results_none Tryz.results100 _ _ _) rfl ⟨rfl, rfl⟩
set_option maxRecDepth 100000 in
theorem fpdq (q : Option Addr) (c : Nat) (k : Int) (w : World) : Calls Tryz.prog 62 #[.slice q 0 c, .int .i64 0, .int .i64 0, .int .i64 k] w fun e w' => e = .returned (.tuple #[]) ∧ w' = w := by
  go_enter Tryz.func62, Tryz.ntmps62
  go_wp2_with fail
  refine wp_loop_rounds 1 ?_
  rw [rounds_succ]
  go_wp2_with (go_at_call 100; refine (finsert q c _).mono ?_; rintro e y ⟨rfl, rfl⟩)
  exact bodyPost_ret (results_none Tryz.results62 _ _ _) rfl ⟨rfl, rfl⟩
set_option maxRecDepth 100000 in
theorem fbits64 (w : World) : Calls Tryz.prog 110 #[.int .u64 0] w fun e w' => (∃ k : Int, e = .returned (.int .i64 k)) ∧ w' = w := by
  go_enter Tryz.func110, Tryz.ntmps110
  go_wp2_with fail
  go_ret
  exact ⟨⟨_, rfl⟩, rfl⟩
set_option maxRecDepth 100000 in
theorem fbits (w : World) : Calls Tryz.prog 63 #[.int .u64 0] w fun e w' => (∃ k : Int, e = .returned (.int .i64 k)) ∧ w' = w := by
  go_enter Tryz.func63, Tryz.ntmps63
  go_wp2_with (go_at_call 110; refine (fbits64 _).mono ?_; rintro e y ⟨⟨k, rfl⟩, rfl⟩)
  go_ret
  exact ⟨⟨k, rfl⟩, rfl⟩
set_option maxRecDepth 100000 in
theorem fsort (q : Option Addr) (c : Nat) (w : World) : Calls Tryz.prog 39 #[.slice q 0 c] w fun e w' => e = .returned (.tuple #[]) ∧ w' = w := by
  go_enter Tryz.func39, Tryz.ntmps39
  go_wp2_with (first
    | (go_at_call 63; refine (fbits _).mono ?_; rintro e y ⟨⟨k, rfl⟩, rfl⟩)
    | (go_at_call 62; refine (fpdq q c _ _).mono ?_; rintro e y ⟨rfl, rfl⟩))
  exact bodyPost_end (results_none Tryz.results39 _ _ _) rfl ⟨rfl, rfl⟩
end Go.Proofs.YtemamhkhjijdlaaGreatDoor
