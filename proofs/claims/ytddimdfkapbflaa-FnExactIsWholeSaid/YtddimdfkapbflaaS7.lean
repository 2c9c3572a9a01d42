/-
  What rowsOn answers: the rows of a ladder, the top one first.
-/
import Derived.Test.YtddimdfkapbflaaS6
namespace Go.Proofs.Ytddimdfkapbflaa
open Go.RowKit Go.Shelf

end Go.Proofs.Ytddimdfkapbflaa
