/-
  The laws' helpers on allocators of numbers: toGiver, eqGiver, markGiver, heldGiver, szGiver, sameGiver.
-/
import Derived.Test.YtgakklanboabjaaGT
namespace Go.Proofs.Ytgakklanboabjaa
open Go.RowKit

/-- An allocator of numbers as a value. -/
abbrev gvV (n a s : Int) (v : Value) : Value := .agg #[.int .i64 n, .int .i64 a, .int .i64 s, v]
theorem gSet11 (w : World) (X j : Nat) (u : Value) : w.grownBy (w.setCell ⟨X, j, none⟩ u) (some X) :=
  ⟨rfl, rfl, rfl, by simp, fun k _ hk => heap_setCell_other w ⟨X, j, none⟩ k u (fun e => hk (by rw [e]))⟩
/-- What is stored into a box whole. -/
theorem gv_stored {w : World} {X : Nat} {cs : Array Value} {t : TypeId} (hcs : cs.size = 4) (h : w.heap[X]? = some (.cells cs t (0, 0))) (p q r u : Value) :
    ((((w.setCell ⟨X, 0, none⟩ p).setCell ⟨X, 1, none⟩ q).setCell ⟨X, 2, none⟩ r).setCell ⟨X, 3, none⟩ u).heap[X]? = some (.cells #[p, q, r, u] t (0, 0)) := by
  have h := heap_setCell_same _ _ 3 _ _ u (heap_setCell_same _ _ 2 _ _ r (heap_setCell_same _ _ 1 _ _ q (heap_setCell_same _ _ 0 _ _ p h)))
  refine h.trans ?_
  congr 2
  obtain ⟨l⟩ := cs
  match l, hcs with
  | [a, b, c, d], _ => rfl
theorem below_gv {n X : Nat} {w w' : World} (hb : Below n w w') (h : n ≤ X) (p q r u : Value) : Below n w ((((w'.setCell ⟨X, 0, none⟩ p).setCell ⟨X, 1, none⟩ q).setCell ⟨X, 2, none⟩ r).setCell ⟨X, 3, none⟩ u) := (((hb.setCell h _).setCell h _).setCell h _).setCell h _
theorem gGv (w : World) (X : Nat) (p q r u : Value) : w.grownBy ((((w.setCell ⟨X, 0, none⟩ p).setCell ⟨X, 1, none⟩ q).setCell ⟨X, 2, none⟩ r).setCell ⟨X, 3, none⟩ u) (some X) :=
  grownBy_trans (grownBy_trans (grownBy_trans (gSet11 w X 0 p) (gSet11 _ X 1 q)) (gSet11 _ X 2 r)) (gSet11 _ X 3 u)
end Go.Proofs.Ytgakklanboabjaa
