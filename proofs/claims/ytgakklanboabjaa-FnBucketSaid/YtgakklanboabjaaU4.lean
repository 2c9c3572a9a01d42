/-
  What MakeBy answers, in the program's text and in the model's, at every argument.
-/
import Derived.Test.YtgakklanboabjaaU3
namespace Go.Proofs.Ytgakklanboabjaa
open Go.RowKit

theorem makeI_ok {m n : Nat} {R : List Nat} (h : canI m (zI R) n = true) : makeI m (zI R) n = zI (idxL (mkM R R.length n) R.length) := by
  rw [makeI, if_pos h, nL_zI, Int.toNat_natCast]

theorem and_pow20 (n k : Nat) (hn : n < 1048576) (hk : k ≤ 20) : bits .and .i64 (n : Int) ((2 : Int) ^ k) = ((n &&& 2 ^ k : Nat) : Int) := by
  have h : 2 ^ k ≤ 1048576 := Nat.le_trans (Nat.pow_le_pow_right (by decide) hk) (by decide)
  rw [show ((2 : Int) ^ k) = ((2 ^ k : Nat) : Int) by simp, and_i64 n _ (by omega) (by omega)]
theorem bit_and20 {n k : Nat} (hn : n < 1048576) (hk : k ≤ 20) : (bits .and .i64 (n : Int) ((2 : Int) ^ k) != 0) = n.testBit k := by
  rw [and_pow20 n k hn hk, Nat.testBit_eq_decide_div_mod_eq]
  by_cases h : n / 2 ^ k % 2 = 1
  · have := and_pow_ne.2 h; rw [h]; simp; omega
  · have h0 : n &&& 2 ^ k = 0 := Classical.byContradiction fun h' => h (and_pow_ne.1 h')
    have : n / 2 ^ k % 2 = 0 := by omega
    rw [h0, this]; rfl

end Go.Proofs.Ytgakklanboabjaa
