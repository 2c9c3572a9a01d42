/-
  FnPut over the program's own contracts.
-/
import Derived.Test.YtkmlgeicmnbkiaaYD
import Derived.Test.YtkmlgeicmnbkiaaED
namespace Go.Proofs.Ytkmlgeicmnbkiaa
open Go.RowKit

theorem anyStaysH : Stays5 (fun _ => True) := fun _ _ _ _ => trivial
theorem dFnPut (A : Option Addr) (za : List Int) (ca : Nat) (B : Option Addr) (zb : List Int) (cb : Nat) (w : World) (ha : Byts w w.heap.size A za) (hb : Byts w w.heap.size B zb) (hla : za.length ≤ 140737488355328) (hlb : zb.length ≤ 140737488355328) :
    Calls Try.prog 4 #[.slice A za.length ca, .slice B zb.length cb] w fun e w' => e = .returned (.bool true) ∧ Below w.heap.size w w' :=
  fnPut_law anyStaysH (fun A B ss ps ca cb k y w _ hd hA hB _ => iPutS_any A B ss ps ca cb k y w hd hA hB) (fun A B ss ps ca cb k w _ hd hA _ => iReadS_any A B ss ps ca cb k w hd hA) A za ca B zb cb w trivial ha hb hla hlb
end Go.Proofs.Ytkmlgeicmnbkiaa
