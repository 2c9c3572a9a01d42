/-
  What rowsOn answers: the rows of a ladder, the top one first.
-/
import Derived.Test.YtkmlgeicmnbkiaaS6
namespace Go.Proofs.Ytkmlgeicmnbkiaa
open Go.RowKit Go.Shelf

end Go.Proofs.Ytkmlgeicmnbkiaa
