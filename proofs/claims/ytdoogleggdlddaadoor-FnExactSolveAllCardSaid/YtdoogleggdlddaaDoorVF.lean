/-
  Laws of chapter 6 over the program's own contracts: ExtraFor, WithExtra, IsWhole, RaptorFor, RowFor, SolveAll, SmallestOf.
-/
import Derived.Test.YtdoogleggdlddaaDoorVA
import Derived.Test.YtdoogleggdlddaaDoorVB
namespace Go.Proofs.YtdoogleggdlddaaDoor
open Go.RowKit

theorem tabStays6 : Stays5 Tab := fun _ _ h hb => h.below hb
theorem anyStays6 : Stays5 (fun _ => True) := fun _ _ _ _ => trivial
theorem dSmall6 (n : Int) (A : Option Addr) (zs : List Int) (ca : Nat) (w : World) (ht : Tab w) (ha : Ints w A zs) : Calls Tryd.prog 6 #[.int .i64 n, .slice A zs.length ca] w fun e w' => e = .returned (.bool true) ∧ Below w.heap.size w w' :=
  smallestOf_law tabStays6 (fun n A zs ca w ht ha hl _ => iSmall_any n A zs ca w ht ha hl) n A zs ca w ht ha
theorem dSolve6 (n : Int) (A : Option Addr) (ls : List (Int × Int)) (ca : Nat) (w : World) (ht : Tab w) (ha : Lets w A ls) (hlm : ls.length ≤ 9223372036854775807) : Calls Tryd.prog 5 #[.int .i64 n, .slice A ls.length ca] w fun e w' => e = .returned (.bool true) ∧ Below w.heap.size w w' :=
  solveAll_law tabStays6 (fun n A ls ca w ht ha hl _ => iSolve6_any n A ls ca w ht ha hl) n A ls ca w ht ha hlm
end Go.Proofs.YtdoogleggdlddaaDoor
