/-
  Chapter 12's exact laws but two over the program's own contracts.
-/
import Derived.Test.YthmnenejfonfgaaYP
import Derived.Test.YthmnenejfonfgaaYR
import Derived.Test.YthmnenejfonfgaaBP
namespace Go.Proofs.Ythmnenejfonfgaa
open Go.RowKit

theorem anyStaysQ : Stays5 (fun _ : World => True) := fun _ _ _ _ => trivial
theorem dGoodLease (a u q : Int) (w : World) : Calls Try.prog 5 #[lsW a u q] w fun e w' => e = .returned (.bool true) ∧ Below w.heap.size w w' :=
  goodLease_law anyStaysQ a u q (fun w _ => iGoodL a u q w) w trivial
theorem dHeldAt (a u q t : Int) (w : World) : Calls Try.prog 8 #[lsW a u q, .int .i64 t] w fun e w' => e = .returned (.bool true) ∧ Below w.heap.size w w' :=
  heldAt_law anyStaysQ a u q t (fun w _ => iHeldAt a u q t w) w trivial
theorem dBelievesAt (a u q t : Int) (w : World) : Calls Try.prog 9 #[lsW a u q, .int .i64 t] w fun e w' => e = .returned (.bool true) ∧ Below w.heap.size w w' :=
  believesAt_law anyStaysQ a u q t (fun w _ => iBelAt a u q t w) w trivial
theorem dStepLease (a u q k wh nw lg : Int) (w : World) : Calls Try.prog 6 #[lsW a u q, lpV (k, wh, nw, lg)] w fun e w' => e = .returned (.bool true) ∧ Below w.heap.size w w' :=
  stepLease_law anyStaysQ a u q k wh nw lg (fun w _ => iStepL a u q k wh nw lg w) w trivial
end Go.Proofs.Ythmnenejfonfgaa
