/-
  What rowsOn reads off a ladder: slices.Backward's iterator by its contract, the loop over it by the guide's law.
-/
import Derived.RangeFuncNested
import Derived.RangeFuncLeaves
import Derived.RangeFuncBox
import Derived.Shelf.Abstract
import Derived.OwnWalkIn
import Derived.TacticsInMore
import Derived.LoopNIn
import Derived.LoopIn
import Derived.Test.YtgakklanboabjaaS5
namespace Go.Proofs.Ytgakklanboabjaa
open Go.RowKit Go.Shelf

attribute [local go_sem] Oper.semAt_some

/-- What comes in k rounds, from the last element of 16 on. -/
def back (L : Lad) (k : Nat) : List (Nat × Nat × Nat) := (List.range k).map fun j => (15 - j, lat L (15 - j))
theorem back_succ (L : Lad) (k : Nat) : back L (k + 1) = back L k ++ [(15 - k, lat L (15 - k))] := by simp [back, List.range_succ]
theorem back_length (L : Lad) (k : Nat) : (back L k).length = k := by simp [back]

/-- Blocks b and c lie as they lay. -/
def KeepTwo (b c : Nat) (A B : World) : Prop := B.heap[b]? = A.heap[b]? ∧ B.heap[c]? = A.heap[c]?
theorem KeepTwo.trans {b c : Nat} {X Y Z : World} (h : KeepTwo b c X Y) (k : KeepTwo b c Y Z) : KeepTwo b c X Z := ⟨k.1.trans h.1, k.2.trans h.2⟩

/-- The rows that are not 0 among what came. -/
def coll (pre : List (Nat × Nat × Nat)) : List Nat := (pre.map fun x => x.2.1).filter fun r => decide (r ≠ 0)
theorem coll_hit (pre : List (Nat × Nat × Nat)) {x : Nat × Nat × Nat} (h : x.2.1 ≠ 0) : coll (pre ++ [x]) = coll pre ++ [x.2.1] := by simp [coll, h]
theorem coll_miss (pre : List (Nat × Nat × Nat)) {x : Nat × Nat × Nat} (h : x.2.1 = 0) : coll (pre ++ [x]) = coll pre := by simp [coll, h]
theorem coll_back (L : Lad) : ∀ k, k ≤ 16 → coll (back L k) ++ down L (16 - k) = down L 16
  | 0, _ => rfl
  | k + 1, hk => by
    have ih := coll_back L k (by omega)
    rw [show 16 - k = (15 - k) + 1 by omega, down] at ih
    rw [back_succ, show 16 - (k + 1) = 15 - k by omega]
    split at ih
    · rename_i h0
      rw [coll_miss _ h0]; exact ih
    · rename_i h0
      rw [coll_hit _ h0]; simpa using ih
theorem coll_all (L : Lad) : coll (back L 16) = down L 16 := by
  have := coll_back L 16 (Nat.le_refl _)
  rwa [Nat.sub_self, down, List.append_nil] at this

/-- 'out = append(out, x)' in a box: what the walk owes behind it; two blocks below the slice's own lie as they lay. -/
theorem box_app {W w1 : World} {n₀ N Bx : Nat} {v v' : Value} {l : List Nat} {z : Nat} {tmp : Obj} (hv : Boxed W Bx 81 v) (hrow : Own W N v (zI l)) (hn₀ : n₀ ≤ W.heap.size) (hB : n₀ ≤ Bx) (hN : n₀ ≤ N)
    (hown' : Own w1 N v' (zI (l ++ [z]))) (hgrow : (W.alloc tmp).grownBy w1 v.ownBlock) :
    Boxed w1 Bx 81 v ∧ Boxed (w1.setCell ⟨Bx, 0, none⟩ v') Bx 81 v' ∧ Own (w1.setCell ⟨Bx, 0, none⟩ v') N v' (zI (l ++ [z])) ∧ KeepsOthers W (w1.setCell ⟨Bx, 0, none⟩ v') ∧ Below n₀ W (w1.setCell ⟨Bx, 0, none⟩ v') ∧
      ∀ k, k < N → k < W.heap.size → k ≠ Bx → (w1.setCell ⟨Bx, 0, none⟩ v').heap[k]? = W.heap[k]? := by
  have hl : Own W n₀ v (zI l) := ⟨hrow.1, by
    rcases hrow.2 with hn | ⟨g, cap, cur, e, hg, r⟩
    · exact Or.inl hn
    · exact Or.inr ⟨g, cap, cur, e, Nat.le_trans hN hg, r⟩⟩
  have hl' : Own w1 n₀ v' (zI (l ++ [z])) := ⟨hown'.1, by
    rcases hown'.2 with hn | ⟨g, cap, cur, e, hg, r⟩
    · exact Or.inl hn
    · exact Or.inr ⟨g, cap, cur, e, Nat.le_trans hN hg, r⟩⟩
  obtain ⟨hv1, hv2, _, hk2, hb2⟩ := hv.appended (by decide) hl hn₀ hB hl' hgrow
  refine ⟨hv1, hv2, World.ownsRow.kept hown' (grownBy_setCell' w1 Bx v') (.inr (hv1.not_row (by decide) hown').symm), hk2, hb2, fun k h1 h2 h3 => ?_⟩
  rw [Below.heap_setCell _ _ _ _ h3, hgrow.block k (by simp; omega) (fun e => ?_), Below.heap_alloc _ _ _ h2]
  have := (hrow.lt k e.symm).1; omega
end Go.Proofs.Ytgakklanboabjaa
