/-
  What rowsOn answers: the rows of a ladder, the top one first.
-/
import Derived.Test.YtchpcbbnnbaiaaaS6
namespace Go.Proofs.Ytchpcbbnnbaiaaa
open Go.RowKit Go.Shelf

end Go.Proofs.Ytchpcbbnnbaiaaa
