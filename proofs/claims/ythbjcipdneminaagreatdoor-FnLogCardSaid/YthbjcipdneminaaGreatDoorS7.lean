/-
  What rowsOn answers: the rows of a ladder, the top one first.
-/
import Derived.Test.YthbjcipdneminaaGreatDoorS6
namespace Go.Proofs.YthbjcipdneminaaGreatDoor
open Go.RowKit Go.Shelf

end Go.Proofs.YthbjcipdneminaaGreatDoor
