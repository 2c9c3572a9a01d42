/-
  What rowsOn answers: the rows of a ladder, the top one first.
-/
import Derived.Test.YtgakklanboabjaaS6
namespace Go.Proofs.Ytgakklanboabjaa
open Go.RowKit Go.Shelf

end Go.Proofs.Ytgakklanboabjaa
