/-
  What rowsOn answers: the rows of a ladder, the top one first.
-/
import Derived.Test.YthbjcipdneminaaS6
namespace Go.Proofs.Ythbjcipdneminaa
open Go.RowKit Go.Shelf

end Go.Proofs.Ythbjcipdneminaa
