/-
  FnWrong over the program's own contracts.
-/
import Derived.Test.YtnlfaiedfjcgpaaDoorVW
import Derived.Test.YtnlfaiedfjcgpaaDoorEQ
namespace Go.Proofs.YtnlfaiedfjcgpaaDoor
open Go.RowKit

theorem tabStays9 : Stays5 Tab := fun _ _ h hb => h.below hb
theorem dFnWrong (A : Option Addr) (za : List Int) (ca : Nat) (B : Option Addr) (zb : List Int) (cb : Nat) (w : World) (ht : Tab w) (ha : Byts w w.heap.size A za) (hb : Byts w w.heap.size B zb) (hla : za.length ≤ 140737488355328) (hlb : zb.length ≤ 140737488355328) :
    Calls Tryd.prog 3 #[.slice A za.length ca, .slice B zb.length cb] w fun e w' => e = .returned (.bool true) ∧ Below w.heap.size w w' :=
  fnWrong_law tabStays9 (fun k A ls ca n w ht ha hl _ => iRead_any k A ls ca n w ht ha hl) (fun A B zs ls ca cb w _ ha hb hl hl2 _ _ => iAgree_any A B zs ls ca cb w ha hb hl hl2) (fun A zs ca n w _ ha hl _ => iPoints_any A zs ca n w ha hl) A za ca B zb cb w ht ha hb hla hlb
end Go.Proofs.YtnlfaiedfjcgpaaDoor
