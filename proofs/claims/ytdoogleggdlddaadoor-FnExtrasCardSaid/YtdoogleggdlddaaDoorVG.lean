/-
  FnExtras and FnWhole over the program's own contracts.
-/
import Derived.Test.YtdoogleggdlddaaDoorVE
namespace Go.Proofs.YtdoogleggdlddaaDoor
open Go.RowKit

theorem tabStays7 : Stays5 Tab := fun _ _ h hb => h.below hb
theorem dFnExtras (A : Option Addr) (za : List Int) (ca : Nat) (B : Option Addr) (zb : List Int) (cb : Nat) (w : World) (ht : Tab w) (ha : Byts w w.heap.size A za) (hb : Byts w w.heap.size B zb) (hla : za.length ≤ 140737488355328) (hlb : zb.length ≤ 140737488355328) :
    Calls Tryd.prog 4 #[.slice A za.length ca, .slice B zb.length cb] w fun e w' => e = .returned (.bool true) ∧ Below w.heap.size w w' :=
  fnExtras_law tabStays7 (fun A zs ca n w ht ha hl _ => iRaptor_any A zs ca n w ht ha hl) (fun p b w ht => iRowFor_any p b w ht) (fun p b w _ => iExtra_any p b w) (fun A zs ca w _ ha hl hc => iIs_any A zs ca w ha hl hc) A za ca B zb cb w ht ha hb hla hlb
theorem dFnWhole (A : Option Addr) (za : List Int) (ca : Nat) (B : Option Addr) (zb : List Int) (cb : Nat) (w : World) (ht : Tab w) (ha : Byts w w.heap.size A za) (hb : Byts w w.heap.size B zb) (hla : za.length ≤ 140737488355328) (hlb : zb.length ≤ 140737488355328) :
    Calls Tryd.prog 3 #[.slice A za.length ca, .slice B zb.length cb] w fun e w' => e = .returned (.bool true) ∧ Below w.heap.size w w' :=
  fnWhole_law tabStays7 (fun A zs ca w _ ha hl _ => iWith_any A zs ca w ha hl) (fun n A zs ca w ht ha hl _ => iSmall_any n A zs ca w ht ha hl) (fun A zs ca w _ ha hl hc => iIs_any A zs ca w ha hl hc) (fun A zs ca n w ht ha hl _ => iRaptor_any A zs ca n w ht ha hl) (fun n A ls ca w ht ha hl _ => iSolve6_any n A ls ca w ht ha hl) A za ca B zb cb w ht ha hb hla hlb
end Go.Proofs.YtdoogleggdlddaaDoor
