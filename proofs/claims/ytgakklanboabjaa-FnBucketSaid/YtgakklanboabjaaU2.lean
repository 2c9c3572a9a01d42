/-
  What SameSpan answers, in the program's text and in the model's, at every argument.
-/
import Derived.Test.YtgakklanboabjaaU1
namespace Go.Proofs.Ytgakklanboabjaa
open Go.RowKit

def sameOkB (x : Int) (a b : List Int) : Bool := rowsB x a && rowsB x b
def sameI (x : Int) (a b : List Int) : Bool := sameOkB x a b && eqL (stepsI x a) (stepsI x b)
theorem sameOk_false {x : Int} {a b : List Int} (h : sameOkB x a b = false) : rowsB x a = false ∨ (rowsB x a = true ∧ rowsB x b = false) := by
  cases ha : rowsB x a
  · exact Or.inl rfl
  · exact Or.inr ⟨rfl, by simpa [sameOkB, ha] using h⟩
theorem sameOk_true {x : Int} {a b : List Int} (h : sameOkB x a b = true) : rowsB x a = true ∧ rowsB x b = true := by simpa [sameOkB] using h

end Go.Proofs.Ytgakklanboabjaa
