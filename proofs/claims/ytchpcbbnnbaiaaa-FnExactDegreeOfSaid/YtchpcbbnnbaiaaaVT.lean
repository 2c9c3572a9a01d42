/-
  Laws of chapter 5 over the program's own contracts: DegreeOf, PartsOf, LetterFor, FnParts.
-/
import Derived.Test.YtchpcbbnnbaiaaaVQ
import Derived.Test.YtchpcbbnnbaiaaaEA
namespace Go.Proofs.Ytchpcbbnnbaiaaa
open Go.RowKit

theorem iDegree_below (p b : Int) (w : World) : Calls Try.prog 6 #[.int .i64 p, .int .i64 b] w fun e w' => e = .returned (.tuple #[.int .i64 (degI p b), .bool (symOkB p b)]) ∧ Below w.heap.size w w' :=
  (iDegree_any p b w).mono fun _ _ ⟨h1, h2⟩ => ⟨h1, by subst h2; exact Below.refl _ _⟩
theorem dDegree (p b : Int) (w : World) : Calls Try.prog 3 #[.int .i64 p, .int .i64 b] w fun e w' => e = .returned (.bool true) ∧ Below w.heap.size w w' :=
  degreeOf_law (K := fun _ => True) (fun p b w _ => iDegree_below p b w) p b w trivial
end Go.Proofs.Ytchpcbbnnbaiaaa
