/-
  What sumFor and nullRow read off a ladder.
-/
import Derived.Test.YtgakklanboabjaaS1
import Derived.Test.YtgakklanboabjaaMG
import Derived.Test.YtgakklanboabjaaWA
namespace Go.Proofs.Ytgakklanboabjaa
open Go.RowKit

theorem bit_and {n k : Nat} (hn : n < 65536) (hk : k ≤ 16) (hb : n.testBit k = true) : (bits .and .i64 (n : Int) ((2 : Int) ^ k) != 0) = true := by
  rw [and_pow_i64 n k hn hk]
  have : n / 2 ^ k % 2 = 1 := by rw [Nat.testBit_eq_decide_div_mod_eq] at hb; simpa using hb
  have := and_pow_ne.2 this; simp; omega
theorem bit_and_no {n k : Nat} (hn : n < 65536) (hk : k ≤ 16) (hb : n.testBit k = false) : (bits .and .i64 (n : Int) ((2 : Int) ^ k) != 0) = false := by
  rw [and_pow_i64 n k hn hk]
  have h0 : n &&& 2 ^ k = 0 := Classical.byContradiction fun h => by
    have := and_pow_ne.1 h
    rw [Nat.testBit_eq_decide_div_mod_eq, this] at hb; cases hb
  rw [h0]; rfl

theorem heap_lt {w : World} {k : Nat} {o : Obj} (h : w.heap[k]? = some o) : k < w.heap.size := (Array.getElem?_eq_some_iff.1 h).1

theorem or_pow_i64 (n k : Nat) (hn : n < 65536) (hk : k ≤ 16) : bits .or .i64 (n : Int) ((2 : Int) ^ k) = ((n ||| 2 ^ k : Nat) : Int) := by
  have h := two_pow_le k hk
  rw [show ((2 : Int) ^ k) = ((2 ^ k : Nat) : Int) by simp, or_i64 n _ (by omega) (by omega)]

end Go.Proofs.Ytgakklanboabjaa
