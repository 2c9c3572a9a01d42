/-
  Laws of chapter 6 over the program's own contracts: ExtraFor, WithExtra, IsWhole, RaptorFor, RowFor, SolveAll, SmallestOf.
-/
import Derived.Test.YtddimdfkapbflaaDoorVA
import Derived.Test.YtddimdfkapbflaaDoorVB
namespace Go.Proofs.YtddimdfkapbflaaDoor
open Go.RowKit

theorem tabStays6 : Stays5 Tab := fun _ _ h hb => h.below hb
theorem anyStays6 : Stays5 (fun _ => True) := fun _ _ _ _ => trivial
theorem dRow6 (p b : Int) (w : World) (ht : Tab w) : Calls Tryd.prog 4 #[.int .i64 p, .int .i64 b] w fun e w' => e = .returned (.bool true) ∧ Below w.heap.size w w' :=
  rowFor_law tabStays6 (fun p b w ht => iRowFor_any p b w ht) p b w ht
theorem dRaptor6 (A : Option Addr) (zs : List Int) (ca : Nat) (n : Int) (w : World) (ht : Tab w) (ha : Ints w A zs) : Calls Tryd.prog 3 #[.slice A zs.length ca, .int .i64 n] w fun e w' => e = .returned (.bool true) ∧ Below w.heap.size w w' :=
  raptorFor_law tabStays6 (fun A zs ca n w ht ha hl _ => iRaptor_any A zs ca n w ht ha hl) A zs ca n w ht ha
end Go.Proofs.YtddimdfkapbflaaDoor
