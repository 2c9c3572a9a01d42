/-
  Laws of chapter 6, walked, whatever the program's own texts are: WithExtra, SolveAll.
-/
import Derived.Test.YtddimdfkapbflaaDoorVP
import Derived.Test.YtddimdfkapbflaaDoorEX
namespace Go.Proofs.YtddimdfkapbflaaDoor
open Go.RowKit

end Go.Proofs.YtddimdfkapbflaaDoor
