/-
  What BitsIn answers, in the program's text and in the model's.
-/
import Derived.Test.YtkmlgeicmnbkiaaW3
import Derived.Test.YtkmlgeicmnbkiaaMG
import Derived.Test.YtkmlgeicmnbkiaaH2
namespace Go.Proofs.Ytkmlgeicmnbkiaa
open Go.RowKit

theorem Own.append {w1 : World} {base : Nat} {v' : Value} {zs : List Int} {z : Int} (h : w1.ownsRow base 3 1 v' (zs.length + 1) (zs.map (Value.int .i64) ++ [.int .i64 z])) : Own w1 base v' (zs ++ [z]) := by
  unfold Own; simpa using h

end Go.Proofs.Ytkmlgeicmnbkiaa
