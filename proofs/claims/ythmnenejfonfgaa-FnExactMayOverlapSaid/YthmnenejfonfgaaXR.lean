/-
  FnExactMayOverlap over the program's own contracts.
-/
import Derived.Test.YthmnenejfonfgaaYQ
import Derived.Test.YthmnenejfonfgaaBK
namespace Go.Proofs.Ythmnenejfonfgaa
open Go.RowKit

theorem anyStaysR : Stays5 (fun _ : World => True) := fun _ _ _ _ => trivial
theorem dMayOverlap (A : Option Addr) (l : List Zac) (ca : Nat) (now : Int) (dr : Int) (w : World) (hA : RdR 3 fZa w A l) (hl : l.length ≤ 9223372036854775807) : Calls Try.prog 10 #[.slice A l.length ca, .int .i64 now, .int .i64 dr] w fun e w' => e = .returned (.bool true) ∧ Below w.heap.size w w' :=
  mayOverlap_law anyStaysR (fun A l ca now dr w _ ha _ hl => iOver12 A l ca now dr w ha hl) A l ca now dr w trivial hA hl
end Go.Proofs.Ythmnenejfonfgaa
