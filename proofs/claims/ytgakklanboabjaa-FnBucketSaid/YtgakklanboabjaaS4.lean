/-
  What bits.Len answers: the library's contract, laid at this program; for a row that is not 0 it is one more than the place of its top bit.
-/
import Derived.Shelf.Small.Bits
import Derived.Shelf.Strconv.Itoa0
import Derived.Test.YtgakklanboabjaaS3
namespace Go.Proofs.Ytgakklanboabjaa
open Go.RowKit Go.Shelf

/-- How many bits a number has. -/
def blen (x : Nat) : Nat := if x = 0 then 0 else x.log2 + 1
theorem bitLen_blen : ∀ (k x : Nat), x < 2 ^ k → k ≤ 64 → Lib.bitLen x = blen x
  | 0, x, h, _ => by
    obtain rfl : x = 0 := by simpa using h
    rfl
  | k + 1, x, h, hk => by
    by_cases h0 : x = 0
    · subst h0; rfl
    · have h64 : x < 2 ^ 64 := Nat.lt_of_lt_of_le h (Nat.pow_le_pow_right (by decide) hk)
      rw [Lib.bitLen_half x h0 h64, bitLen_blen k (x / 2) (by rw [Nat.pow_succ] at h; omega) (by omega)]
      unfold blen
      rw [if_neg h0]
      split
      · obtain rfl : x = 1 := by omega
        rfl
      · have := Nat.log2_def x
        rw [if_pos (show x ≥ 2 by omega)] at this
        omega
end Go.Proofs.Ytgakklanboabjaa
