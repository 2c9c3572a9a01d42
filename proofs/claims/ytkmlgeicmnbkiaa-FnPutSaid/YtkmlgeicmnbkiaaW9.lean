/-
  The law of SumRows, walked: it returns true, and turns nothing that lay in memory.
-/
import Derived.Test.YtkmlgeicmnbkiaaW8
namespace Go.Proofs.Ytkmlgeicmnbkiaa
open Go.RowKit

def sumOkB (x : Int) (rs ks : List Int) : Bool := rowsB x rs && risB 0 rs.length ks
def sumI (x : Int) (rs ks : List Int) : Int := if sumOkB x rs ks = true then (sumL rs ks : Nat) else 0
theorem sumOk_true {x : Int} {rs ks : List Int} (h : sumOkB x rs ks = true) : rowsB x rs = true ∧ risB 0 rs.length ks = true := by simpa [sumOkB] using h
theorem sumOk_false {x : Int} {rs ks : List Int} (h : sumOkB x rs ks = false) : rowsB x rs = false ∨ (rowsB x rs = true ∧ risB 0 rs.length ks = false) := by
  cases ha : rowsB x rs
  · exact Or.inl rfl
  · exact Or.inr ⟨rfl, by simpa [sumOkB, ha] using h⟩
theorem rowsB_in {x : Int} {rs : List Int} (h : rowsB x rs = true) : rs.length ≤ 20 ∧ ∀ z ∈ rs, 0 ≤ z ∧ z < 65536 := by
  have h' : wideB x = true ∧ rs.length ≤ 20 ∧ ∀ z ∈ rs, goodB x z = true := by simpa [rowsB, allG] using h
  refine ⟨h'.2.1, fun z hz => ?_⟩
  obtain ⟨m, n, rfl, rfl, _, h2, h3⟩ := good_nat (h'.2.2 z hz)
  have := lt16 h2 h3
  omega

/-- One step more behind what is below. -/
theorem below_more {w a b : World} (h : Below w.heap.size w a) (k : Below a.heap.size a b) : Below w.heap.size w b := h.trans (k.mono h.size)

end Go.Proofs.Ytkmlgeicmnbkiaa
