/-
  Plain mathematics of rows: the indexes of the bits that are 1, among the first k.
-/
import Derived.Test.YtjaeahobmamhoaaDoorM1
namespace Go.Proofs.YtjaeahobmamhoaaDoor

/-- The indexes of the bits 0 .. k - 1 of n that are 1, increasing. -/
def bitsL : Nat → Nat → List Int
  | 0, _ => []
  | k + 1, n => bitsL k n ++ (if n / 2 ^ k % 2 = 1 then [(k : Int)] else [])

theorem bitsL_len (k n : Nat) : (bitsL k n).length = cnt k n := by
  induction k with
  | zero => rfl
  | succ k ih =>
    simp only [bitsL, cnt, List.length_append, ih]
    split
    · simp; omega
    · simp; omega

theorem bitsL_stop {j n : Nat} (h : n < 2 ^ j) : ∀ {m : Nat}, j ≤ m → bitsL m n = bitsL j n := by
  intro m hm
  induction m with
  | zero => obtain rfl : j = 0 := by omega
            rfl
  | succ m ih =>
    by_cases e : j = m + 1
    · rw [e]
    · have hjm : j ≤ m := by omega
      have : n / 2 ^ m = 0 := Nat.div_eq_of_lt (Nat.lt_of_lt_of_le h (Nat.pow_le_pow_right (by decide) hjm))
      simp [bitsL, this, ih hjm]
theorem bitsL_yes {k n : Nat} (h : n / 2 ^ k % 2 = 1) : bitsL (k + 1) n = bitsL k n ++ [(k : Int)] := by simp [bitsL, h]
theorem bitsL_no {k n : Nat} (h : n / 2 ^ k % 2 = 0) : bitsL (k + 1) n = bitsL k n := by simp [bitsL, h]
end Go.Proofs.YtjaeahobmamhoaaDoor
