/-
  What rowsOn answers: the rows of a ladder, the top one first.
-/
import Derived.Test.YtbegikjoialahaaS6
namespace Go.Proofs.Ytbegikjoialahaa
open Go.RowKit Go.Shelf

end Go.Proofs.Ytbegikjoialahaa
