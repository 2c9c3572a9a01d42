/-
  What RowOf answers, in the program's text and in the model's.
-/
import Derived.Test.YtddimdfkapbflaaW5
import Derived.Test.YtddimdfkapbflaaMG
namespace Go.Proofs.Ytddimdfkapbflaa
open Go.RowKit

def rowOkB (x : Int) (zs : List Int) : Bool := wideB x && risB 0 x zs
theorem rowOk_true {x : Int} {zs : List Int} (h : rowOkB x zs = true) : ∃ m : Nat, x = m ∧ 1 ≤ m ∧ m ≤ 16 ∧ wideB x = true ∧ risB 0 x zs = true := by
  have h' : wideB x = true ∧ risB 0 x zs = true := by simpa [rowOkB] using h
  have h1 : 1 ≤ x ∧ x ≤ 16 := by simpa [wideB] using h'.1
  exact ⟨x.toNat, by omega, by omega, by omega, h'.1, h'.2⟩
theorem rowOk_false {x : Int} {zs : List Int} (h : rowOkB x zs = false) : wideB x = false ∨ (wideB x = true ∧ risB 0 x zs = false) := by
  cases ha : wideB x
  · exact Or.inl rfl
  · exact Or.inr ⟨rfl, by simpa [rowOkB, ha] using h⟩

end Go.Proofs.Ytddimdfkapbflaa
