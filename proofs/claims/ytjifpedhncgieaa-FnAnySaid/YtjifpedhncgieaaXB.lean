/-
  FnAny over the program's own contracts.
-/
import Derived.Test.YtjifpedhncgieaaVI
import Derived.Test.YtjifpedhncgieaaEQ
namespace Go.Proofs.Ytjifpedhncgieaa
open Go.RowKit

theorem anyStays9 : Stays5 (fun _ => True) := fun _ _ _ _ => trivial
theorem quiet_below9 {P : Program} {f : FuncId} {args : Array Value} {w : World} {v : Value} (h : Calls P f args w fun e w' => e = .returned v ∧ w = w') : Calls P f args w fun e w' => e = .returned v ∧ Below w.heap.size w w' :=
  h.mono fun _ _ ⟨he, hw⟩ => ⟨he, hw ▸ Below.refl _ _⟩
theorem dFnAny (A : Option Addr) (za : List Int) (ca : Nat) (B : Option Addr) (zb : List Int) (cb : Nat) (w : World) (ha : Byts w w.heap.size A za) (hb : Byts w w.heap.size B zb) (hla : za.length ≤ 140737488355328) (hlb : zb.length ≤ 140737488355328) :
    Calls Try.prog 3 #[.slice A za.length ca, .slice B zb.length cb] w fun e w' => e = .returned (.bool true) ∧ Below w.heap.size w w' :=
  fnAny_law anyStays9 (fun A zs ca n w _ ha hl _ => iPoints_any A zs ca n w ha hl) (fun A ls ca w _ ha hl _ => iGoodP_any A ls ca w ha hl) (fun n A ls ca w _ ha hl hc => iFrom_any n A ls ca w ha hl hc)
    (fun A B zs ls ca cb w _ ha hb hl hl2 _ _ => iAgree_any A B zs ls ca cb w ha hb hl hl2) (fun A zs ca n w _ ha hl _ => quiet_below9 (iValue_any A zs ca n w ha hl)) (fun n w _ => quiet_below9 (iInv_any n w)) A za ca B zb cb w trivial ha hb hla hlb
end Go.Proofs.Ytjifpedhncgieaa
