/-
  The laws' draws of chapter 1 that make lists: rows, DrawRowOf, DrawSumRows, DrawBitsIn; sameInts.
-/
import Derived.Test.YtgakklanboabjaaD3
namespace Go.Proofs.Ytgakklanboabjaa
open Go.RowKit

theorem Own.lower {w : World} {base base' : Nat} {v : Value} {zs : List Int} (h : Own w base v zs) (hb : base' ≤ base) : Own w base' v zs := by
  refine ⟨h.1, ?_⟩
  rcases h.2 with hn | ⟨g, cap, cur, e, hg, r⟩
  · exact Or.inl hn
  · exact Or.inr ⟨g, cap, cur, e, Nat.le_trans hb hg, r⟩

set_option maxRecDepth 100000 in
set_option maxHeartbeats 400000 in
theorem l1Most_any (x : Int) (w : World) (h : 0 ≤ x) : Calls Try.prog 58 #[.int .i64 0, .int .i64 x] w fun e w' => e = .returned (.int .i64 x) ∧ w = w' := by
  go_enter Try.func58, Try.ntmps58
  go_wp2_with fail
  go_ret
  exact ⟨rfl, rfl⟩

end Go.Proofs.Ytgakklanboabjaa
