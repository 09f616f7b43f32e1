/-
  NARROWER THAN 'FOR EVERY INPUT', by the rows' own cells (each row's printed sentence says how): PredictGuesses: laid · PredictLearns: laid · PredictReturns: laid.
  DERIVED. THE GIVEN ROWS OF THIS SEAT. 3 by the template 'for every input the law returns true; each argument reads behind the call as it read before'; 0 by the template 'total and deterministic' (their statements: YtaioaakaffafoaaDoorTotals.lean).
  GIVEN WITH THE SEED: the statements are not yours to turn. If you find one false, say at which input.
  Laid BY PROGRAM, IN A SANDBOX (cutbox-rows.mjs): the forced cells as the released guide's own fill.sh prints them over the translation 04350cb5d91d7071… (all of the seat's roots in one cut). By AI agents, Wed Nov 11 2026. No macro, syntax, notation, axiom, sorry.
-/
import Derived.Test.YtaioaakaffafoaaDoorChecked
import GoSem.Claim
import GoSem.ClaimJoined
import GoSem.ClaimMapViews
import Derived.JoinedTies
import Derived.KernelRfl
namespace Go.Proofs.YtaioaakaffafoaaDoor
/- THE CELL 'sum', in the pinned program and in every row, IS THE sha256 OF THE DUMP (.gsa) THAT YtaioaakaffafoaaDoorProg.lean LOADS. Nothing in Lean hashes anything: it is a label: what it is worth is what the hold of that sum in a sandbox is worth. -/
noncomputable def Tryd.pinned : Pinned := { name := "ytaioaakaffafoaadoor", sum := "04350cb5d91d70716fc830e492c80069d807b0918f0206ce0a4cf02ee363c595", checked := Tryd.checked }
namespace Rows
def none {H : Type} : Left H := { results := [], args := [] }

/- WHAT THE LISTED PACKAGE-LEVEL VARIABLES READ AS WHEN THE CALL BEGINS. Each datum BY PROGRAM (the guide's laid-datum.mjs) off the statement by which the dump's own 'gosem.cut.vars' lays the variable. In a bare row this is a premise. The card (YtaioaakaffafoaaDoorCards.lean) ties it to the program's text. -/
def laid_errors_errorType {H : Type} : DataW H := .iface "internal/reflectlite.rtype" (.agg [.ptr (.lit (.string [101, 114, 114, 111, 114]))])
def laid_oocore_isa_layouts {H : Type} : DataW H := .agg [.agg [.lit (.int .u32 0), .lit (.int .u8 0), .lit (.bool false), .lit (.bool false), .lit (.bool false), .lit (.int .i64 0), .lit (.int .i64 0), .lit (.bool false), .lit (.int .i64 7)], .agg [.lit (.int .u32 127), .lit (.int .u8 0), .lit (.bool true), .lit (.bool false), .lit (.bool false), .lit (.int .i64 0), .lit (.int .i64 1048575), .lit (.bool false), .lit (.int .i64 0)], .agg [.lit (.int .u32 127), .lit (.int .u8 0), .lit (.bool true), .lit (.bool false), .lit (.bool false), .lit (.int .i64 (-1048576)), .lit (.int .i64 1048574), .lit (.bool true), .lit (.int .i64 3)], .agg [.lit (.int .u32 28799), .lit (.int .u8 0), .lit (.bool true), .lit (.bool true), .lit (.bool false), .lit (.int .i64 (-2048)), .lit (.int .i64 2047), .lit (.bool false), .lit (.int .i64 0)], .agg [.lit (.int .u32 28799), .lit (.int .u8 0), .lit (.bool true), .lit (.bool true), .lit (.bool false), .lit (.int .i64 (-2048)), .lit (.int .i64 2047), .lit (.bool false), .lit (.int .i64 4)], .agg [.lit (.int .u32 28799), .lit (.int .u8 0), .lit (.bool false), .lit (.bool true), .lit (.bool true), .lit (.int .i64 (-4096)), .lit (.int .i64 4094), .lit (.bool true), .lit (.int .i64 2)], .agg [.lit (.int .u32 28799), .lit (.int .u8 0), .lit (.bool false), .lit (.bool true), .lit (.bool true), .lit (.int .i64 (-2048)), .lit (.int .i64 2047), .lit (.bool false), .lit (.int .i64 5)], .agg [.lit (.int .u32 4261441663), .lit (.int .u8 25), .lit (.bool true), .lit (.bool true), .lit (.bool false), .lit (.int .i64 0), .lit (.int .i64 31), .lit (.bool false), .lit (.int .i64 0)], .agg [.lit (.int .u32 4261441663), .lit (.int .u8 25), .lit (.bool true), .lit (.bool true), .lit (.bool true), .lit (.int .i64 0), .lit (.int .i64 0), .lit (.bool false), .lit (.int .i64 0)], .agg [.lit (.int .u32 4160778367), .lit (.int .u8 27), .lit (.bool true), .lit (.bool true), .lit (.bool true), .lit (.int .i64 0), .lit (.int .i64 3), .lit (.bool false), .lit (.int .i64 6)], .agg [.lit (.int .u32 4193284223), .lit (.int .u8 27), .lit (.bool true), .lit (.bool true), .lit (.bool false), .lit (.int .i64 0), .lit (.int .i64 3), .lit (.bool false), .lit (.int .i64 6)], .agg [.lit (.int .u32 4027580415), .lit (.int .u8 0), .lit (.bool false), .lit (.bool false), .lit (.bool false), .lit (.int .i64 0), .lit (.int .i64 255), .lit (.bool false), .lit (.int .i64 7)], .agg [.lit (.int .u32 4294967295), .lit (.int .u8 20), .lit (.bool false), .lit (.bool false), .lit (.bool false), .lit (.int .i64 0), .lit (.int .i64 0), .lit (.bool false), .lit (.int .i64 7)], .agg [.lit (.int .u32 28799), .lit (.int .u8 0), .lit (.bool true), .lit (.bool true), .lit (.bool false), .lit (.int .i64 0), .lit (.int .i64 4095), .lit (.bool false), .lit (.int .i64 7)], .agg [.lit (.int .u32 28799), .lit (.int .u8 0), .lit (.bool true), .lit (.bool true), .lit (.bool false), .lit (.int .i64 0), .lit (.int .i64 4095), .lit (.bool false), .lit (.int .i64 7)]]
def laid_oocore_isa_baseShapes {H : Type} : DataW H := .agg [.agg [.lit (.int .i64 0), .lit (.int .u32 0), .lit (.int .u32 0), .lit (.int .u32 0)], .agg [.lit (.int .i64 1), .lit (.int .u32 55), .lit (.int .u32 0), .lit (.int .u32 0)], .agg [.lit (.int .i64 1), .lit (.int .u32 23), .lit (.int .u32 0), .lit (.int .u32 0)], .agg [.lit (.int .i64 2), .lit (.int .u32 111), .lit (.int .u32 0), .lit (.int .u32 0)], .agg [.lit (.int .i64 4), .lit (.int .u32 103), .lit (.int .u32 0), .lit (.int .u32 0)], .agg [.lit (.int .i64 5), .lit (.int .u32 99), .lit (.int .u32 0), .lit (.int .u32 0)], .agg [.lit (.int .i64 5), .lit (.int .u32 99), .lit (.int .u32 1), .lit (.int .u32 0)], .agg [.lit (.int .i64 5), .lit (.int .u32 99), .lit (.int .u32 4), .lit (.int .u32 0)], .agg [.lit (.int .i64 5), .lit (.int .u32 99), .lit (.int .u32 5), .lit (.int .u32 0)], .agg [.lit (.int .i64 5), .lit (.int .u32 99), .lit (.int .u32 6), .lit (.int .u32 0)], .agg [.lit (.int .i64 5), .lit (.int .u32 99), .lit (.int .u32 7), .lit (.int .u32 0)], .agg [.lit (.int .i64 4), .lit (.int .u32 3), .lit (.int .u32 0), .lit (.int .u32 0)], .agg [.lit (.int .i64 4), .lit (.int .u32 3), .lit (.int .u32 1), .lit (.int .u32 0)], .agg [.lit (.int .i64 4), .lit (.int .u32 3), .lit (.int .u32 2), .lit (.int .u32 0)], .agg [.lit (.int .i64 4), .lit (.int .u32 3), .lit (.int .u32 4), .lit (.int .u32 0)], .agg [.lit (.int .i64 4), .lit (.int .u32 3), .lit (.int .u32 5), .lit (.int .u32 0)], .agg [.lit (.int .i64 6), .lit (.int .u32 35), .lit (.int .u32 0), .lit (.int .u32 0)], .agg [.lit (.int .i64 6), .lit (.int .u32 35), .lit (.int .u32 1), .lit (.int .u32 0)], .agg [.lit (.int .i64 6), .lit (.int .u32 35), .lit (.int .u32 2), .lit (.int .u32 0)], .agg [.lit (.int .i64 3), .lit (.int .u32 19), .lit (.int .u32 0), .lit (.int .u32 0)], .agg [.lit (.int .i64 3), .lit (.int .u32 19), .lit (.int .u32 2), .lit (.int .u32 0)], .agg [.lit (.int .i64 3), .lit (.int .u32 19), .lit (.int .u32 3), .lit (.int .u32 0)], .agg [.lit (.int .i64 3), .lit (.int .u32 19), .lit (.int .u32 4), .lit (.int .u32 0)], .agg [.lit (.int .i64 3), .lit (.int .u32 19), .lit (.int .u32 6), .lit (.int .u32 0)], .agg [.lit (.int .i64 3), .lit (.int .u32 19), .lit (.int .u32 7), .lit (.int .u32 0)], .agg [.lit (.int .i64 7), .lit (.int .u32 19), .lit (.int .u32 1), .lit (.int .u32 0)], .agg [.lit (.int .i64 7), .lit (.int .u32 19), .lit (.int .u32 5), .lit (.int .u32 0)], .agg [.lit (.int .i64 7), .lit (.int .u32 19), .lit (.int .u32 5), .lit (.int .u32 32)], .agg [.lit (.int .i64 8), .lit (.int .u32 51), .lit (.int .u32 0), .lit (.int .u32 0)], .agg [.lit (.int .i64 8), .lit (.int .u32 51), .lit (.int .u32 0), .lit (.int .u32 32)], .agg [.lit (.int .i64 8), .lit (.int .u32 51), .lit (.int .u32 1), .lit (.int .u32 0)], .agg [.lit (.int .i64 8), .lit (.int .u32 51), .lit (.int .u32 2), .lit (.int .u32 0)], .agg [.lit (.int .i64 8), .lit (.int .u32 51), .lit (.int .u32 3), .lit (.int .u32 0)], .agg [.lit (.int .i64 8), .lit (.int .u32 51), .lit (.int .u32 4), .lit (.int .u32 0)], .agg [.lit (.int .i64 8), .lit (.int .u32 51), .lit (.int .u32 5), .lit (.int .u32 0)], .agg [.lit (.int .i64 8), .lit (.int .u32 51), .lit (.int .u32 5), .lit (.int .u32 32)], .agg [.lit (.int .i64 8), .lit (.int .u32 51), .lit (.int .u32 6), .lit (.int .u32 0)], .agg [.lit (.int .i64 8), .lit (.int .u32 51), .lit (.int .u32 7), .lit (.int .u32 0)], .agg [.lit (.int .i64 8), .lit (.int .u32 51), .lit (.int .u32 0), .lit (.int .u32 1)], .agg [.lit (.int .i64 8), .lit (.int .u32 51), .lit (.int .u32 1), .lit (.int .u32 1)], .agg [.lit (.int .i64 8), .lit (.int .u32 51), .lit (.int .u32 2), .lit (.int .u32 1)], .agg [.lit (.int .i64 8), .lit (.int .u32 51), .lit (.int .u32 3), .lit (.int .u32 1)], .agg [.lit (.int .i64 8), .lit (.int .u32 51), .lit (.int .u32 4), .lit (.int .u32 1)], .agg [.lit (.int .i64 8), .lit (.int .u32 51), .lit (.int .u32 5), .lit (.int .u32 1)], .agg [.lit (.int .i64 8), .lit (.int .u32 51), .lit (.int .u32 6), .lit (.int .u32 1)], .agg [.lit (.int .i64 8), .lit (.int .u32 51), .lit (.int .u32 7), .lit (.int .u32 1)]]
def laid_oocore_isa_otherShapes {H : Type} : DataW H := .agg [.agg [.lit (.int .i64 10), .lit (.int .u32 47), .lit (.int .u32 2), .lit (.int .u32 2)], .agg [.lit (.int .i64 9), .lit (.int .u32 47), .lit (.int .u32 2), .lit (.int .u32 3)], .agg [.lit (.int .i64 9), .lit (.int .u32 47), .lit (.int .u32 2), .lit (.int .u32 1)], .agg [.lit (.int .i64 9), .lit (.int .u32 47), .lit (.int .u32 2), .lit (.int .u32 0)], .agg [.lit (.int .i64 9), .lit (.int .u32 47), .lit (.int .u32 2), .lit (.int .u32 4)], .agg [.lit (.int .i64 9), .lit (.int .u32 47), .lit (.int .u32 2), .lit (.int .u32 12)], .agg [.lit (.int .i64 9), .lit (.int .u32 47), .lit (.int .u32 2), .lit (.int .u32 8)], .agg [.lit (.int .i64 9), .lit (.int .u32 47), .lit (.int .u32 2), .lit (.int .u32 16)], .agg [.lit (.int .i64 9), .lit (.int .u32 47), .lit (.int .u32 2), .lit (.int .u32 20)], .agg [.lit (.int .i64 9), .lit (.int .u32 47), .lit (.int .u32 2), .lit (.int .u32 24)], .agg [.lit (.int .i64 9), .lit (.int .u32 47), .lit (.int .u32 2), .lit (.int .u32 28)], .agg [.lit (.int .i64 11), .lit (.int .u32 15), .lit (.int .u32 0), .lit (.int .u32 0)], .agg [.lit (.int .i64 12), .lit (.int .u32 115), .lit (.int .u32 0), .lit (.int .u32 0)], .agg [.lit (.int .i64 12), .lit (.int .u32 115), .lit (.int .u32 0), .lit (.int .u32 1)], .agg [.lit (.int .i64 12), .lit (.int .u32 115), .lit (.int .u32 0), .lit (.int .u32 770)], .agg [.lit (.int .i64 12), .lit (.int .u32 115), .lit (.int .u32 0), .lit (.int .u32 261)], .agg [.lit (.int .i64 13), .lit (.int .u32 115), .lit (.int .u32 1), .lit (.int .u32 0)], .agg [.lit (.int .i64 13), .lit (.int .u32 115), .lit (.int .u32 2), .lit (.int .u32 0)], .agg [.lit (.int .i64 13), .lit (.int .u32 115), .lit (.int .u32 3), .lit (.int .u32 0)], .agg [.lit (.int .i64 14), .lit (.int .u32 115), .lit (.int .u32 5), .lit (.int .u32 0)], .agg [.lit (.int .i64 14), .lit (.int .u32 115), .lit (.int .u32 6), .lit (.int .u32 0)], .agg [.lit (.int .i64 14), .lit (.int .u32 115), .lit (.int .u32 7), .lit (.int .u32 0)]]

/-- 'oocorelaw5.PredictGuesses': WHATEVER THE INPUT: true; the input reads as it did. -/
def predictGuessesSpec : ChangeSpec := { name := "predictGuesses", fn := fun _ => fun
  | [d1, d2, d3, d4, d5, d6] => { results := [.lit (.bool true)], args := [d1, d2, d3, d4, d5, d6] }
  | _ => none }
def predictGuessesRow : OpenClaim := { program := "ytaioaakaffafoaadoor", sum := "04350cb5d91d70716fc830e492c80069d807b0918f0206ce0a4cf02ee363c595", func := "oocore/oocorelaw5.PredictGuesses", spec := "predictGuesses", inPlace := ["internal/reflectlite.ValueOf", "(internal/reflectlite.Value).Type", "(internal/reflectlite.Value).IsNil", "internal/reflectlite.TypeOf", "(internal/reflectlite.Value).Elem", "(internal/reflectlite.Value).Set"], unfollowed := true, recurses := true, named := ["errors.errorType", "oocore/isa.baseShapes", "oocore/isa.otherShapes", "oocore/isa.layouts"], apart := false, laid := [("errors.errorType", laid_errors_errorType), ("oocore/isa.layouts", laid_oocore_isa_layouts), ("oocore/isa.baseShapes", laid_oocore_isa_baseShapes), ("oocore/isa.otherShapes", laid_oocore_isa_otherShapes)] }
def PredictGuessesSaid : Prop := predictGuessesRow.holds Tryd.pinned (OpenSpec.ofChange predictGuessesSpec)

/-- ITS FALSE NEIGHBOUR: 'it returns false'. Refute it at one input. -/
def predictGuessesWrong : ChangeSpec := { name := "predictGuesses", fn := fun _ => fun
  | [d1, d2, d3, d4, d5, d6] => { results := [.lit (.bool false)], args := [d1, d2, d3, d4, d5, d6] }
  | _ => none }
def PredictGuessesWrongFalsely : Prop := predictGuessesRow.holds Tryd.pinned (OpenSpec.ofChange predictGuessesWrong)

/-- 'oocorelaw5.PredictLearns': WHATEVER THE INPUT: true; the input reads as it did. -/
def predictLearnsSpec : ChangeSpec := { name := "predictLearns", fn := fun _ => fun
  | [d1, d2, d3, d4, d5] => { results := [.lit (.bool true)], args := [d1, d2, d3, d4, d5] }
  | _ => none }
def predictLearnsRow : OpenClaim := { program := "ytaioaakaffafoaadoor", sum := "04350cb5d91d70716fc830e492c80069d807b0918f0206ce0a4cf02ee363c595", func := "oocore/oocorelaw5.PredictLearns", spec := "predictLearns", unfollowed := true, recurses := true, named := ["oocore/isa.baseShapes", "oocore/isa.otherShapes", "oocore/isa.layouts"], apart := false, laid := [("oocore/isa.layouts", laid_oocore_isa_layouts), ("oocore/isa.baseShapes", laid_oocore_isa_baseShapes), ("oocore/isa.otherShapes", laid_oocore_isa_otherShapes)] }
def PredictLearnsSaid : Prop := predictLearnsRow.holds Tryd.pinned (OpenSpec.ofChange predictLearnsSpec)

/-- ITS FALSE NEIGHBOUR: 'it returns false'. Refute it at one input. -/
def predictLearnsWrong : ChangeSpec := { name := "predictLearns", fn := fun _ => fun
  | [d1, d2, d3, d4, d5] => { results := [.lit (.bool false)], args := [d1, d2, d3, d4, d5] }
  | _ => none }
def PredictLearnsWrongFalsely : Prop := predictLearnsRow.holds Tryd.pinned (OpenSpec.ofChange predictLearnsWrong)

/-- 'oocorelaw5.PredictReturns': WHATEVER THE INPUT: true; the input reads as it did. -/
def predictReturnsSpec : ChangeSpec := { name := "predictReturns", fn := fun _ => fun
  | [d1, d2, d3] => { results := [.lit (.bool true)], args := [d1, d2, d3] }
  | _ => none }
def predictReturnsRow : OpenClaim := { program := "ytaioaakaffafoaadoor", sum := "04350cb5d91d70716fc830e492c80069d807b0918f0206ce0a4cf02ee363c595", func := "oocore/oocorelaw5.PredictReturns", spec := "predictReturns", unfollowed := true, recurses := true, named := ["oocore/isa.baseShapes", "oocore/isa.otherShapes", "oocore/isa.layouts"], apart := false, laid := [("oocore/isa.layouts", laid_oocore_isa_layouts), ("oocore/isa.baseShapes", laid_oocore_isa_baseShapes), ("oocore/isa.otherShapes", laid_oocore_isa_otherShapes)] }
def PredictReturnsSaid : Prop := predictReturnsRow.holds Tryd.pinned (OpenSpec.ofChange predictReturnsSpec)

/-- ITS FALSE NEIGHBOUR: 'it returns false'. Refute it at one input. -/
def predictReturnsWrong : ChangeSpec := { name := "predictReturns", fn := fun _ => fun
  | [d1, d2, d3] => { results := [.lit (.bool false)], args := [d1, d2, d3] }
  | _ => none }
def PredictReturnsWrongFalsely : Prop := predictReturnsRow.holds Tryd.pinned (OpenSpec.ofChange predictReturnsWrong)

/- THE SECOND FORM. 'bulk': how many values and letters a reading holds, each counted each time it is reached (what is shared counts as often as it is met; a slice's spare places count too). A statement '..UptoSaid' is the law's where the arguments, and the package variables that the reading takes, are together of bulk at most 1048576: NARROWER than '..Said'. Prove '..Said' where nothing that the law and all that it calls make is longer than what came in: it says more and counts as full. Else prove '..UptoSaid'. A law counts once. -/
mutual
def uptoBulk {H : Type} : DataW H → Nat
  | .lit (.string bytes) => bytes.length + 1
  | .lit _ => 1
  | .nil => 1
  | .ptr d => uptoBulk d + 1
  | .slice elems spare => uptoBulkAll elems + uptoBulkAll spare + 1
  | .agg parts => uptoBulkAll parts + 1
  | .iface _ d => uptoBulk d + 1
  | .map entries => uptoBulkEntries entries + 1
  | .held _ => 1
def uptoBulkAll {H : Type} : List (DataW H) → Nat
  | [] => 0
  | d :: r => uptoBulk d + uptoBulkAll r
def uptoBulkEntries {H : Type} : List (Lit × DataW H) → Nat
  | [] => 0
  | x :: r => uptoBulkEntry x + uptoBulkEntries r
def uptoBulkEntry {H : Type} : Lit × DataW H → Nat
  | (.string bytes, d) => bytes.length + uptoBulk d + 1
  | (_, d) => uptoBulk d + 1
 end
def uptoSmall : (H : Type) → List (DataW H) → Bool := fun _ ds => decide (uptoBulkAll ds ≤ 1048576)
def OpenSpec.upto (s : _root_.Go.ChangeSpec) : _root_.Go.OpenSpec := { _root_.Go.OpenSpec.ofChange s with cond := some uptoSmall }

/-- 'oocorelaw5.PredictGuesses', WHERE WHAT IT READS IS OF BULK AT MOST 1048576: true; the input reads as it did. -/
def predictGuessesUptoRow : OpenClaim := { program := "ytaioaakaffafoaadoor", sum := "04350cb5d91d70716fc830e492c80069d807b0918f0206ce0a4cf02ee363c595", func := "oocore/oocorelaw5.PredictGuesses", spec := "predictGuesses", inPlace := ["internal/reflectlite.ValueOf", "(internal/reflectlite.Value).Type", "(internal/reflectlite.Value).IsNil", "internal/reflectlite.TypeOf", "(internal/reflectlite.Value).Elem", "(internal/reflectlite.Value).Set"], unfollowed := true, recurses := true, named := ["errors.errorType", "oocore/isa.baseShapes", "oocore/isa.otherShapes", "oocore/isa.layouts"], apart := false, laid := [("errors.errorType", laid_errors_errorType), ("oocore/isa.layouts", laid_oocore_isa_layouts), ("oocore/isa.baseShapes", laid_oocore_isa_baseShapes), ("oocore/isa.otherShapes", laid_oocore_isa_otherShapes)], narrowed := true }
def PredictGuessesUptoSaid : Prop := predictGuessesUptoRow.holds Tryd.pinned (OpenSpec.upto predictGuessesSpec)

/-- 'oocorelaw5.PredictLearns', WHERE WHAT IT READS IS OF BULK AT MOST 1048576: true; the input reads as it did. -/
def predictLearnsUptoRow : OpenClaim := { program := "ytaioaakaffafoaadoor", sum := "04350cb5d91d70716fc830e492c80069d807b0918f0206ce0a4cf02ee363c595", func := "oocore/oocorelaw5.PredictLearns", spec := "predictLearns", unfollowed := true, recurses := true, named := ["oocore/isa.baseShapes", "oocore/isa.otherShapes", "oocore/isa.layouts"], apart := false, laid := [("oocore/isa.layouts", laid_oocore_isa_layouts), ("oocore/isa.baseShapes", laid_oocore_isa_baseShapes), ("oocore/isa.otherShapes", laid_oocore_isa_otherShapes)], narrowed := true }
def PredictLearnsUptoSaid : Prop := predictLearnsUptoRow.holds Tryd.pinned (OpenSpec.upto predictLearnsSpec)

/-- 'oocorelaw5.PredictReturns', WHERE WHAT IT READS IS OF BULK AT MOST 1048576: true; the input reads as it did. -/
def predictReturnsUptoRow : OpenClaim := { program := "ytaioaakaffafoaadoor", sum := "04350cb5d91d70716fc830e492c80069d807b0918f0206ce0a4cf02ee363c595", func := "oocore/oocorelaw5.PredictReturns", spec := "predictReturns", unfollowed := true, recurses := true, named := ["oocore/isa.baseShapes", "oocore/isa.otherShapes", "oocore/isa.layouts"], apart := false, laid := [("oocore/isa.layouts", laid_oocore_isa_layouts), ("oocore/isa.baseShapes", laid_oocore_isa_baseShapes), ("oocore/isa.otherShapes", laid_oocore_isa_otherShapes)], narrowed := true }
def PredictReturnsUptoSaid : Prop := predictReturnsUptoRow.holds Tryd.pinned (OpenSpec.upto predictReturnsSpec)

end Rows
end Go.Proofs.YtaioaakaffafoaaDoor
