/-
  What ladderOf makes of rows.
-/
import Derived.Test.YtgakklanboabjaaS4
import Derived.Test.YtgakklanboabjaaT1
import Derived.WalkMore
import Derived.ScopeJumps
namespace Go.Proofs.Ytgakklanboabjaa
open Go.RowKit

/-- What the number in a cell is. -/
def cellNat (w : World) (C : Nat) : Nat := match w.cell? ⟨C, 0, none⟩ with
  | some (.int _ n) => n.toNat
  | _ => 0
theorem wp_scope_pass {P : Program} {a : Act} {w : World} {Q : Exit → Act → World → Prop} {c X : Code} (l : Nat) (J : Act → World → Prop) (μ : Act → World → Nat) (hf : findLabel c l = some (Code.skip.seq X))
    (pass : ∀ a w, J a w → X.wp P (Exit.jump l (fun a' w' => J a' w' ∧ μ a' w' < μ a w) Q) a w)
    (first : Hid (∀ a w, J a w → X.wp P (Exit.jump l J Q) a w) → c.wp P (Exit.jump l J Q) a w) : (Code.scope c).wp P Q a w := by
  refine wp_scope_jumps l J μ hf (first fun a w h => wp_mono (pass a w h) ?_) (fun a w h => wp_seq (wp_skip (pass a w h)))
  intro e a' w' hq
  cases e with
  | goto l' => exact ⟨hq.1, hq.2.1⟩
  | _ => exact hq

theorem pow20 (n : Nat) (h : n ≤ 20) : 1 ≤ (2 : Int) ^ n ∧ (2 : Int) ^ n ≤ 1048576 :=
  (by decide +kernel : ∀ n < 21, 1 ≤ (2 : Int) ^ n ∧ (2 : Int) ^ n ≤ 1048576) n (by omega)

end Go.Proofs.Ytgakklanboabjaa
