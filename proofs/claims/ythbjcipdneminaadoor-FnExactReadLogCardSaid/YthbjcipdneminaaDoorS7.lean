/-
  What rowsOn answers: the rows of a ladder, the top one first.
-/
import Derived.Test.YthbjcipdneminaaDoorS6
namespace Go.Proofs.YthbjcipdneminaaDoor
open Go.RowKit Go.Shelf

end Go.Proofs.YthbjcipdneminaaDoor
