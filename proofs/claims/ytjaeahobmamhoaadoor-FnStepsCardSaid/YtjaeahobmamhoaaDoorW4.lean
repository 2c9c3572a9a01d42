/-
  What BitsIn answers, in the program's text and in the model's.
-/
import Derived.Test.YtjaeahobmamhoaaDoorW3
import Derived.Test.YtjaeahobmamhoaaDoorM2
import Derived.Test.YtjaeahobmamhoaaDoorH2
namespace Go.Proofs.YtjaeahobmamhoaaDoor
open Go.RowKit

theorem Own.append {w1 : World} {base : Nat} {v' : Value} {zs : List Int} {z : Int} (h : w1.ownsRow base 3 1 v' (zs.length + 1) (zs.map (Value.int .i64) ++ [.int .i64 z])) : Own w1 base v' (zs ++ [z]) := by
  unfold Own; simpa using h

theorem Tab.below {w w' : World} (h : Tab w) (hb : Below w.heap.size w w') : Tab w' := fun i hi => (hb.cell (World.block_lt_of_cell? _ _ (h i hi))).trans (h i hi)

end Go.Proofs.YtjaeahobmamhoaaDoor
