/-
  What SumRows answers, in the program's text and in the model's.
-/
import Derived.Test.YtkmlgeicmnbkiaaW7
import Derived.Test.YtkmlgeicmnbkiaaMG
namespace Go.Proofs.Ytkmlgeicmnbkiaa
open Go.RowKit

def allG (x : Int) (zs : List Int) : Bool := zs.all (goodB x)
def rowsB (x : Int) (zs : List Int) : Bool := wideB x && (decide (zs.length ≤ 20) && allG x zs)
theorem rowsB_narrow {x : Int} {zs : List Int} (h : wideB x = false) : rowsB x zs = false := by simp [rowsB, h]
theorem rowsB_long {x : Int} {zs : List Int} (h : 20 < zs.length) : rowsB x zs = false := by
  rw [rowsB, decide_eq_false (by omega)]; simp
theorem rowsB_all {x : Int} {zs : List Int} (h : wideB x = true) (hl : zs.length ≤ 20) : rowsB x zs = allG x zs := by simp [rowsB, h, hl]

def allIn (zs : List Int) (hi : Int) : Bool := zs.all fun z => inB z 0 hi
theorem allIn_good {x : Int} (zs : List Int) (h : wideB x = true) : allIn zs ((2 : Int) ^ x.toNat - 1) = allG x zs := by
  unfold allIn allG
  congr 1
  funext z
  rw [goodB_wide z h, inB]; congr 1; exact decide_eq_decide.2 (by omega)

end Go.Proofs.Ytkmlgeicmnbkiaa
