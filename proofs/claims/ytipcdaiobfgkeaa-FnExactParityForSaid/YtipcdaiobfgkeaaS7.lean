/-
  What rowsOn answers: the rows of a ladder, the top one first.
-/
import Derived.Test.YtipcdaiobfgkeaaS6
namespace Go.Proofs.Ytipcdaiobfgkeaa
open Go.RowKit Go.Shelf

end Go.Proofs.Ytipcdaiobfgkeaa
