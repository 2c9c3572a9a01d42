/-
  What AddRows, WeightOf, DotOf and FarApart answer, in the program's text and in the model's, at every argument, in every world that holds the table of bit values.
-/
import Derived.Test.YtkmlgeicmnbkiaaW1
import Derived.Test.YtkmlgeicmnbkiaaMG
import Derived.Lib.Hide
namespace Go.Proofs.Ytkmlgeicmnbkiaa
open Go.RowKit

/-- Valid arguments are natural numbers. -/
theorem good_nat {x r : Int} (h : goodB x r = true) : ∃ m n : Nat, x = m ∧ r = n ∧ 1 ≤ m ∧ m ≤ 16 ∧ n < 2 ^ m := by
  have h' : (1 ≤ x ∧ x ≤ 16) ∧ 0 ≤ r ∧ r < (2 : Int) ^ x.toNat := by simpa [goodB, wideB] using h
  obtain ⟨⟨h1, h2⟩, h3, h4⟩ := h'
  refine ⟨x.toNat, r.toNat, by omega, by omega, by omega, by omega, ?_⟩
  have h5 : ((r.toNat : Nat) : Int) < ((2 ^ x.toNat : Nat) : Int) := by
    rw [show ((r.toNat : Nat) : Int) = r by omega]; simpa using h4
  exact_mod_cast h5

theorem lt16 {m n : Nat} (hm : m ≤ 16) (hn : n < 2 ^ m) : n < 65536 := Nat.lt_of_lt_of_le hn (two_pow_le m hm)
theorem tup {k : IntKind} {a b : Int} {c : Bool} (h : a = b) : Ending.returned (.tuple #[.int k a, .bool c]) = .returned (.tuple #[.int k b, .bool c]) := by rw [h]

end Go.Proofs.Ytkmlgeicmnbkiaa
