/-
  Laws of chapter 6 over the program's own contracts: ExtraFor, WithExtra, IsWhole, RaptorFor, RowFor, SolveAll, SmallestOf.
-/
import Derived.Test.YtddimdfkapbflaaVA
import Derived.Test.YtddimdfkapbflaaVB
namespace Go.Proofs.Ytddimdfkapbflaa
open Go.RowKit

theorem anyStays6 : Stays5 (fun _ => True) := fun _ _ _ _ => trivial
theorem dExtra6 (p b : Int) (w : World) : Calls Try.prog 3 #[.int .i64 p, .int .i64 b] w fun e w' => e = .returned (.bool true) ∧ Below w.heap.size w w' :=
  extraFor_law anyStays6 (fun p b w _ => iExtra_any p b w) p b w trivial
theorem dWith6 (A : Option Addr) (zs : List Int) (ca : Nat) (w : World) (ha : Ints w A zs) : Calls Try.prog 4 #[.slice A zs.length ca] w fun e w' => e = .returned (.bool true) ∧ Below w.heap.size w w' :=
  withExtra_law anyStays6 (fun A zs ca w _ ha hl _ => iWith_any A zs ca w ha hl) A zs ca w trivial ha
theorem dIs6 (A : Option Addr) (zs : List Int) (ca : Nat) (w : World) (ha : Ints w A zs) : Calls Try.prog 5 #[.slice A zs.length ca] w fun e w' => e = .returned (.bool true) ∧ Below w.heap.size w w' :=
  isWhole_law anyStays6 (fun A zs ca w _ ha hl hc => iIs_any A zs ca w ha hl hc) A zs ca w trivial ha
end Go.Proofs.Ytddimdfkapbflaa
