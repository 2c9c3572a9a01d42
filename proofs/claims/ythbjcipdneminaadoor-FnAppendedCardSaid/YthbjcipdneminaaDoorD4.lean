/-
  The laws' draws of chapter 1 that make lists: rows, DrawRowOf, DrawSumRows, DrawBitsIn; sameInts.
-/
import Derived.Test.YthbjcipdneminaaDoorD3
namespace Go.Proofs.YthbjcipdneminaaDoor
open Go.RowKit

theorem Own.lower {w : World} {base base' : Nat} {v : Value} {zs : List Int} (h : Own w base v zs) (hb : base' ≤ base) : Own w base' v zs := by
  refine ⟨h.1, ?_⟩
  rcases h.2 with hn | ⟨g, cap, cur, e, hg, r⟩
  · exact Or.inl hn
  · exact Or.inr ⟨g, cap, cur, e, Nat.le_trans hb hg, r⟩

end Go.Proofs.YthbjcipdneminaaDoor
