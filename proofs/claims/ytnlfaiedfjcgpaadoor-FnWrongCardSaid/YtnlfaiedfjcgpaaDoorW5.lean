/-
  The law of BitsIn, walked: it returns true, and turns nothing that lay in memory.
-/
import Derived.Test.YtnlfaiedfjcgpaaDoorW4
namespace Go.Proofs.YtnlfaiedfjcgpaaDoor
open Go.RowKit

/-- What BitsIn answers, at every argument. -/
def bitsI (x r : Int) : List Int := if goodB x r = true then bitsL x.toNat r.toNat else []
theorem bitsI_len (x r : Int) : (bitsI x r).length ≤ 16 := by
  unfold bitsI; split
  · rename_i h
    obtain ⟨m, n, rfl, rfl, h1, h2, h3⟩ := good_nat h
    rw [bitsL_len]; have := cnt_le m n; simp only [Int.toNat_natCast]; omega
  · simp

theorem iBits_any (x r : Int) (w : World) (ht : Tab w) :
    Calls Tryd.prog 25 #[.int .i64 x, .int .i64 r] w fun e w' => ∃ v, e = .returned (.tuple #[v, .bool (goodB x r)]) ∧ Own w' w.heap.size v (bitsI x r) ∧ Below w.heap.size w w' := by
  cases h : goodB x r
  · refine (iBits_no x r w ht h).mono ?_
    rintro e w' ⟨rfl, rfl⟩
    exact ⟨_, rfl, by simp only [bitsI, h]; exact Own.nil _ _, Below.refl _ _⟩
  · obtain ⟨m, n, rfl, rfl, h1, h2, h3⟩ := good_nat h
    refine (iBits m n w ht h h2 (lt16 h2 h3)).mono ?_
    rintro e w' ⟨v, rfl, ho, hb⟩
    exact ⟨_, rfl, by simpa only [bitsI, h, if_true, Int.toNat_natCast] using ho, hb⟩
theorem eqL_self (l : List Int) : eqL l l = true := by simp [eqL]
theorem below_drewN' {w : World} (n : Nat) : Below w.heap.size w (w.drewN n) := below_drewN (Below.refl _ _) n

end Go.Proofs.YtnlfaiedfjcgpaaDoor
