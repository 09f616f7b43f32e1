/-
  PLAIN TABLES of the chapter isa's program: a row for each operation (numbers 0 to 67), a row for each format (0 to 14). No program in sight.
-/
namespace Go.Proofs.YthbffonedpeeiaaDoor

def fmtL : List Nat := [0, 1, 1, 2, 4, 5, 5, 5, 5, 5, 5, 4, 4, 4, 4, 4, 6, 6, 6, 3, 3, 3, 3, 3, 3, 7, 7, 7, 8, 8, 8, 8, 8, 8, 8, 8, 8, 8, 8, 8, 8, 8, 8, 8, 8, 8, 10, 9, 9, 9, 9, 9, 9, 9, 9, 9, 9, 11, 12, 12, 12, 12, 13, 13, 13, 14, 14, 14]
def codeL : List Int := [0, 55, 23, 111, 103, 99, 99, 99, 99, 99, 99, 3, 3, 3, 3, 3, 35, 35, 35, 19, 19, 19, 19, 19, 19, 19, 19, 19, 51, 51, 51, 51, 51, 51, 51, 51, 51, 51, 51, 51, 51, 51, 51, 51, 51, 51, 47, 47, 47, 47, 47, 47, 47, 47, 47, 47, 47, 15, 115, 115, 115, 115, 115, 115, 115, 115, 115, 115]
def fL : List Int := [0, 0, 0, 0, 0, 0, 1, 4, 5, 6, 7, 0, 1, 2, 4, 5, 0, 1, 2, 0, 2, 3, 4, 6, 7, 1, 5, 5, 0, 0, 1, 2, 3, 4, 5, 5, 6, 7, 0, 1, 2, 3, 4, 5, 6, 7, 2, 2, 2, 2, 2, 2, 2, 2, 2, 2, 2, 0, 0, 0, 0, 0, 1, 2, 3, 5, 6, 7]
def gL : List Int := [0, 0, 0, 0, 0, 0, 0, 0, 0, 0, 0, 0, 0, 0, 0, 0, 0, 0, 0, 0, 0, 0, 0, 0, 0, 0, 0, 32, 0, 32, 0, 0, 0, 0, 0, 32, 0, 0, 1, 1, 1, 1, 1, 1, 1, 1, 2, 3, 1, 0, 4, 12, 8, 16, 20, 24, 28, 0, 0, 1, 770, 261, 0, 0, 0, 0, 0, 0]
def fmtAt (k : Nat) : Nat := fmtL.getD k 0
def codeAt (k : Nat) : Int := codeL.getD k 0
def fAt (k : Nat) : Int := fL.getD k 0
def gAt (k : Nat) : Int := gL.getD k 0
def lyFixedL : List Int := [0, 127, 127, 28799, 28799, 28799, 28799, 4261441663, 4261441663, 4160778367, 4193284223, 4027580415, 4294967295, 28799, 28799]
def lyFixed (f : Nat) : Int := lyFixedL.getD f 0
def lyGL : List Int := [0, 0, 0, 0, 0, 0, 0, 25, 25, 27, 27, 0, 20, 0, 0]
def lyG (f : Nat) : Int := lyGL.getD f 0
def lyRdL : List Bool := [false, true, true, true, true, false, false, true, true, true, true, false, false, true, true]
def lyRd (f : Nat) : Bool := lyRdL.getD f false
def lyRs1L : List Bool := [false, false, false, true, true, true, true, true, true, true, true, false, false, true, true]
def lyRs1 (f : Nat) : Bool := lyRs1L.getD f false
def lyRs2L : List Bool := [false, false, false, false, false, true, true, false, true, true, false, false, false, false, false]
def lyRs2 (f : Nat) : Bool := lyRs2L.getD f false
def lyLowL : List Int := [0, 0, (-1048576), (-2048), (-2048), (-4096), (-2048), 0, 0, 0, 0, 0, 0, 0, 0]
def lyLow (f : Nat) : Int := lyLowL.getD f 0
def lyHighL : List Int := [0, 1048575, 1048574, 2047, 2047, 4094, 2047, 31, 0, 3, 3, 255, 0, 4095, 4095]
def lyHigh (f : Nat) : Int := lyHighL.getD f 0
def lyEvenL : List Bool := [false, false, true, false, false, true, false, false, false, false, false, false, false, false, false]
def lyEven (f : Nat) : Bool := lyEvenL.getD f false
def lyClassL : List Int := [7, 0, 3, 0, 4, 2, 5, 0, 0, 6, 6, 7, 7, 7, 7]
def lyClass (f : Nat) : Int := lyClassL.getD f 0
theorem fmt_lt (k : Nat) : fmtAt k < 15 := by
  by_cases h : k < 68
  · have : ∀ k, k < 68 → fmtAt k < 15 := by decide
    exact this k h
  · unfold fmtAt; rw [List.getD_eq_getElem?_getD, List.getElem?_eq_none (by simp [fmtL]; omega)]; decide
end Go.Proofs.YthbffonedpeeiaaDoor
