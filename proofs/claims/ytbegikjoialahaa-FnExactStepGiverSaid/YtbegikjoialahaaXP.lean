/-
  FnExactStepGiver over the program's own contracts.
-/
import Derived.Test.YtbegikjoialahaaYL
import Derived.Test.YtbegikjoialahaaXM
namespace Go.Proofs.Ytbegikjoialahaa
open Go.RowKit

theorem dStepGiver (n a s : Int) (A : Option Addr) (zs : List Int) (ca : Nat) (x : Idc) (w : World) (hA : Ints w A zs) (hl : zs.length ≤ 9223372036854775807) (hs : -9223372036854775808 ≤ s) :
    Calls Try.prog 7 #[gvV n a s (.slice A zs.length ca), idV x] w fun e w' => e = .returned (.bool true) ∧ Below w.heap.size w w' :=
  stepGiver_law anyStaysM (fun n a s A zs ca k p w _ hA hL hz _ hs => iStepG n a s A zs ca k p w hA hL hz hs) n a s A zs ca x.1 x.2 w trivial hA hl hs
end Go.Proofs.Ytbegikjoialahaa
