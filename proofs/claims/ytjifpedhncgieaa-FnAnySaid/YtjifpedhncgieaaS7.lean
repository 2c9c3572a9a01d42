/-
  What rowsOn answers: the rows of a ladder, the top one first.
-/
import Derived.Test.YtjifpedhncgieaaS6
namespace Go.Proofs.Ytjifpedhncgieaa
open Go.RowKit Go.Shelf

end Go.Proofs.Ytjifpedhncgieaa
