/-
  What rowsOn reads off a ladder: slices.Backward's iterator by its contract, the loop over it by the guide's law.
-/
import Derived.RangeFuncNested
import Derived.RangeFuncLeaves
import Derived.RangeFuncBox
import Derived.Shelf.Abstract
import Derived.OwnWalkIn
import Derived.TacticsInMore
import Derived.LoopNIn
import Derived.LoopIn
import Derived.Test.YthbjcipdneminaaS5
namespace Go.Proofs.Ythbjcipdneminaa
open Go.RowKit Go.Shelf

attribute [local go_sem] Oper.semAt_some

/-- What comes in k rounds, from the last element of 16 on. -/
def back (L : Lad) (k : Nat) : List (Nat × Nat × Nat) := (List.range k).map fun j => (15 - j, lat L (15 - j))
theorem back_succ (L : Lad) (k : Nat) : back L (k + 1) = back L k ++ [(15 - k, lat L (15 - k))] := by simp [back, List.range_succ]
theorem back_length (L : Lad) (k : Nat) : (back L k).length = k := by simp [back]

/-- Blocks b and c lie as they lay. -/
def KeepTwo (b c : Nat) (A B : World) : Prop := B.heap[b]? = A.heap[b]? ∧ B.heap[c]? = A.heap[c]?
theorem KeepTwo.trans {b c : Nat} {X Y Z : World} (h : KeepTwo b c X Y) (k : KeepTwo b c Y Z) : KeepTwo b c X Z := ⟨k.1.trans h.1, k.2.trans h.2⟩

/-- The rows that are not 0 among what came. -/
def coll (pre : List (Nat × Nat × Nat)) : List Nat := (pre.map fun x => x.2.1).filter fun r => decide (r ≠ 0)
theorem coll_hit (pre : List (Nat × Nat × Nat)) {x : Nat × Nat × Nat} (h : x.2.1 ≠ 0) : coll (pre ++ [x]) = coll pre ++ [x.2.1] := by simp [coll, h]
theorem coll_miss (pre : List (Nat × Nat × Nat)) {x : Nat × Nat × Nat} (h : x.2.1 = 0) : coll (pre ++ [x]) = coll pre := by simp [coll, h]
theorem coll_back (L : Lad) : ∀ k, k ≤ 16 → coll (back L k) ++ down L (16 - k) = down L 16
  | 0, _ => rfl
  | k + 1, hk => by
    have ih := coll_back L k (by omega)
    rw [show 16 - k = (15 - k) + 1 by omega, down] at ih
    rw [back_succ, show 16 - (k + 1) = 15 - k by omega]
    split at ih
    · rename_i h0
      rw [coll_miss _ h0]; exact ih
    · rename_i h0
      rw [coll_hit _ h0]; simpa using ih
theorem coll_all (L : Lad) : coll (back L 16) = down L 16 := by
  have := coll_back L 16 (Nat.le_refl _)
  rwa [Nat.sub_self, down, List.append_nil] at this

end Go.Proofs.Ythbjcipdneminaa
