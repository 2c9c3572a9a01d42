/-
  What the model's l2Steps answers: the rows brought to steps.
-/
import Derived.Test.YtgakklanboabjaaT1
import Derived.Test.YtgakklanboabjaaD4
import Derived.Maps.AppendAt
namespace Go.Proofs.Ytgakklanboabjaa
open Go.RowKit

/-- What a list of the model's holds behind the first j rows, r having been put or not. -/
def putAt (r : Nat) (O : List Nat) (j : Nat) (b : Bool) : List Nat := if b = true then (O.drop j).map (clr r) else putR r (O.drop j)
theorem putAt_end_no (r : Nat) (O : List Nat) : putAt r O O.length false = [r] := by simp [putAt, putR]
theorem putAt_end_yes (r : Nat) (O : List Nat) : putAt r O O.length true = [] := by simp [putAt]
theorem putAt_yes {r : Nat} {O : List Nat} {j : Nat} (hj : j < O.length) : putAt r O j true = clr r O[j] :: putAt r O (j + 1) true := by
  simp only [putAt, if_true]
  rw [List.drop_eq_getElem_cons hj]; rfl
theorem putAt_here {r : Nat} {O : List Nat} {j : Nat} (hj : j < O.length) (h : clr r O[j] < r) : putAt r O j false = r :: clr r O[j] :: putAt r O (j + 1) true := by
  simp only [putAt, if_true]
  rw [List.drop_eq_getElem_cons hj]
  simp [putR, h]
theorem putAt_later {r : Nat} {O : List Nat} {j : Nat} (hj : j < O.length) (h : ¬ clr r O[j] < r) : putAt r O j false = clr r O[j] :: putAt r O (j + 1) false := by
  simp only [putAt]
  rw [List.drop_eq_getElem_cons hj]
  simp [putR, h]

end Go.Proofs.Ytgakklanboabjaa
