/-
  What rowsOn answers: the rows of a ladder, the top one first.
-/
import Derived.Test.YtddimdfkapbflaaDoorS6
namespace Go.Proofs.YtddimdfkapbflaaDoor
open Go.RowKit Go.Shelf

end Go.Proofs.YtddimdfkapbflaaDoor
