/-
  An argument that is a slice of integers, opened: nil, or cells that hold its numbers.
-/
import Derived.Test.YthbjcipdneminaaL1
import Derived.Test.YthbjcipdneminaaH1
namespace Go.Proofs.Ythbjcipdneminaa
open Go.ChangeShapes Go.WideShapes Go.ChangeAt Go.RowKit

end Go.Proofs.Ythbjcipdneminaa
