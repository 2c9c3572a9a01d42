/-
  What rowsOn answers: the rows of a ladder, the top one first.
-/
import Derived.Test.YtnlfaiedfjcgpaaDoorS6
namespace Go.Proofs.YtnlfaiedfjcgpaaDoor
open Go.RowKit Go.Shelf

end Go.Proofs.YtnlfaiedfjcgpaaDoor
