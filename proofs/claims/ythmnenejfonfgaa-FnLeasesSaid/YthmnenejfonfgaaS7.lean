/-
  What rowsOn answers: the rows of a ladder, the top one first.
-/
import Derived.Test.YthmnenejfonfgaaS6
namespace Go.Proofs.Ythmnenejfonfgaa
open Go.RowKit Go.Shelf

end Go.Proofs.Ythmnenejfonfgaa
