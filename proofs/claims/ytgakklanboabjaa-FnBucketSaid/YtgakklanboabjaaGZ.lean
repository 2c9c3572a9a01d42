/-
  The draws of chapter 11, first part: steps of an allocator (idSteps).
-/
import Derived.Test.YtgakklanboabjaaGY
namespace Go.Proofs.Ytgakklanboabjaa
open Go.RowKit

/-- A choice out of a list that the call itself lays. -/
theorem among_lit (B k : Nat) (L : List Int) (w : World) (hcur : Cur w B k) (hk : k ≤ 549755813888) (h0 : 0 < L.length) (hl : L.length ≤ 1048576) (n c : Nat) (hn : L.length = n) :
    Calls Try.prog 54 #[.pointer (some ⟨B, 0, none⟩), .slice (some ⟨w.heap.size, 0, none⟩) n c] (w.alloc (.cells (L.map (Value.int .i64)).toArray 3)) fun e w' => ∃ r : Int, e = .returned (.int .i64 r) ∧ r ∈ L ∧ Cur w' B (k + 2) ∧ w.grownBy w' (some B) := by
  subst hn
  have hB := hcur.lt
  refine (among_any B k w.heap.size 0 c L _ (hcur.below (gAlloc w _)) hk (by omega) h0 hl (fun j hj => ?_)).mono ?_
  · rw [Nat.zero_add]
    rw [cell_of_row _ _ j _ _ _ (heap_alloc_new w (.cells (L.map (Value.int .i64)).toArray 3))]
    simp [List.getD, hj]
  · rintro e w' ⟨r, he, hr, hc, hg⟩
    exact ⟨r, he, hr, hc, grownBy_trans (World.grownBy_alloc w _ _) hg⟩
theorem pick_to {x n : Int} (h : 0 ≤ x ∧ (x < n ∨ x = 0)) (hn : 0 < n) : 0 ≤ x ∧ x < n := ⟨h.1, by omega⟩

end Go.Proofs.Ytgakklanboabjaa
