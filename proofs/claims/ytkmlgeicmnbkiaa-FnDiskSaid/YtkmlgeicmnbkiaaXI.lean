/-
  FnDisk over the program's own contracts.
-/
import Derived.Test.YtkmlgeicmnbkiaaYE
import Derived.Test.YtkmlgeicmnbkiaaED
namespace Go.Proofs.Ytkmlgeicmnbkiaa
open Go.RowKit

theorem anyStaysI : Stays5 (fun _ => True) := fun _ _ _ _ => trivial
theorem dFnDisk (A : Option Addr) (za : List Int) (ca : Nat) (B : Option Addr) (zb : List Int) (cb : Nat) (w : World) (ha : Byts w w.heap.size A za) (hb : Byts w w.heap.size B zb) (hla : za.length ≤ 140737488355328) (hlb : zb.length ≤ 140737488355328) :
    Calls Try.prog 3 #[.slice A za.length ca, .slice B zb.length cb] w fun e w' => e = .returned (.bool true) ∧ Below w.heap.size w w' :=
  fnDisk_law anyStaysI (fun A B ss ps ca cb w _ hd _ _ => iGoodD_any A B ss ps ca cb w hd) (fun A B ss ps ca cb w _ hd hA _ => iReadAll_any A B ss ps ca cb w hd hA) (fun A B ss ps ca cb w _ hd hA _ => iSync_any A B ss ps ca cb w hd hA)
    (fun A B ss ps ca cb C ks cc torn b w _ hd hA _ hC _ hl => iCrash_any A B C ss ps ks ca cb cc torn b w hd hA hC hl) (fun w _ => iNewDisk w) A za ca B zb cb w trivial ha hb hla hlb
end Go.Proofs.Ytkmlgeicmnbkiaa
