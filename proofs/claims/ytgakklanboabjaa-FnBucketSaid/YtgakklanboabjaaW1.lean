/-
  The rows of chapter 1: what GoodRow's two texts answer, at every width and every number, in every world that holds the table of bit values.
-/
import Derived.Test.YtgakklanboabjaaRows
import Derived.WalkKit
import Derived.WalkSpells
import Derived.WalkLawsBesides
namespace Go.Proofs.Ytgakklanboabjaa
open Go.RowKit

def wideB (wide : Int) : Bool := decide (1 ≤ wide) && decide (wide ≤ 16)
def goodB (wide row : Int) : Bool := wideB wide && (decide (0 ≤ row) && decide (row < (2 : Int) ^ wide.toNat))

theorem wideB_true {x : Int} (h1 : 1 ≤ x) (h2 : x ≤ 16) : wideB x = true := by simp [wideB, h1, h2]
theorem wideB_false {x : Int} (h : x < 1 ∨ 16 < x) : wideB x = false := by
  unfold wideB; rcases h with h | h
  · rw [decide_eq_false (by omega)]; rfl
  · rw [decide_eq_false (p := x ≤ 16) (by omega)]; simp

theorem ret_bool {a b : Bool} (h : a = b) : Ending.returned (.bool a) = .returned (.bool b) := by rw [h]
theorem ret_int {k : IntKind} {a b : Int} (h : a = b) : Ending.returned (.int k a) = .returned (.int k b) := by rw [h]

def inB (n lo hi : Int) : Bool := decide (lo ≤ n) && decide (n ≤ hi)
theorem inB_true {n lo hi : Int} (h1 : lo ≤ n) (h2 : n ≤ hi) : inB n lo hi = true := by simp [inB, h1, h2]
theorem inB_false {n lo hi : Int} (h : n < lo ∨ hi < n) : inB n lo hi = false := by
  unfold inB; rcases h with h | h
  · rw [decide_eq_false (by omega)]; rfl
  · rw [decide_eq_false (p := n ≤ hi) (by omega)]; simp

set_option maxRecDepth 100000 in
set_option maxHeartbeats 400000 in
theorem l1In_any (n lo hi : Int) (w : World) :
    Calls Try.prog 50 #[.int .i64 n, .int .i64 lo, .int .i64 hi] w fun e w' => e = .returned (.bool (inB n lo hi)) ∧ w = w' := by
  by_cases h1 : lo ≤ n
  · by_cases h2 : n ≤ hi
    · go_enter Try.func50, Try.ntmps50
      go_wp2
      go_ret
      exact ⟨ret_bool (inB_true h1 h2).symm, rfl⟩
    · have h2' : hi < n := by omega
      go_enter Try.func50, Try.ntmps50
      go_wp2
      go_ret
      exact ⟨ret_bool (inB_false (Or.inr h2')).symm, rfl⟩
  · have h1' : n < lo := by omega
    go_enter Try.func50, Try.ntmps50
    go_wp2
    go_ret
    exact ⟨ret_bool (inB_false (Or.inl h1')).symm, rfl⟩

theorem pow_bd (n : Nat) (h : n ≤ 16) : 1 ≤ (2 : Int) ^ n ∧ (2 : Int) ^ n ≤ 65536 :=
  (by decide +kernel : ∀ n < 17, 1 ≤ (2 : Int) ^ n ∧ (2 : Int) ^ n ≤ 65536) n (by omega)
theorem inB_wide (x : Int) : inB x 1 16 = wideB x := rfl
theorem goodB_narrow {x : Int} (r : Int) (h : wideB x = false) : goodB x r = false := by simp [goodB, h]
theorem goodB_wide {x : Int} (r : Int) (h : wideB x = true) : goodB x r = (decide (0 ≤ r) && decide (r < (2 : Int) ^ x.toNat)) := by simp [goodB, h]

end Go.Proofs.Ytgakklanboabjaa
