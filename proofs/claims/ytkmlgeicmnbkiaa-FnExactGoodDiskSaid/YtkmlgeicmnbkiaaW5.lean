/-
  The law of BitsIn, walked: it returns true, and turns nothing that lay in memory.
-/
import Derived.Test.YtkmlgeicmnbkiaaW4
namespace Go.Proofs.Ytkmlgeicmnbkiaa
open Go.RowKit

/-- What BitsIn answers, at every argument. -/
def bitsI (x r : Int) : List Int := if goodB x r = true then bitsL x.toNat r.toNat else []
theorem bitsI_len (x r : Int) : (bitsI x r).length ≤ 16 := by
  unfold bitsI; split
  · rename_i h
    obtain ⟨m, n, rfl, rfl, h1, h2, h3⟩ := good_nat h
    rw [bitsL_len]; have := cnt_le m n; simp only [Int.toNat_natCast]; omega
  · simp

theorem eqL_self (l : List Int) : eqL l l = true := by simp [eqL]
theorem below_drewN' {w : World} (n : Nat) : Below w.heap.size w (w.drewN n) := below_drewN (Below.refl _ _) n

end Go.Proofs.Ytkmlgeicmnbkiaa
