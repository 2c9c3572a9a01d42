/-
  FnExactPlayLease over the program's own contracts.
-/
import Derived.Test.YthmnenejfonfgaaYQ
import Derived.Test.YthmnenejfonfgaaBP
namespace Go.Proofs.Ythmnenejfonfgaa
open Go.RowKit

theorem anyStaysS : Stays5 (fun _ : World => True) := fun _ _ _ _ => trivial
theorem dPlayLease (A : Option Addr) (l : List Zpc) (ca : Nat) (w : World) (hA : RdR 4 fZp w A l) (hl : l.length ≤ 9223372036854775807) : Calls Try.prog 7 #[.slice A l.length ca] w fun e w' => e = .returned (.bool true) ∧ Below w.heap.size w w' :=
  playLease_law anyStaysS (fun A l ca w _ ha _ hl => iPlayL A l ca w ha hl) A l ca w trivial hA hl
end Go.Proofs.Ythmnenejfonfgaa
