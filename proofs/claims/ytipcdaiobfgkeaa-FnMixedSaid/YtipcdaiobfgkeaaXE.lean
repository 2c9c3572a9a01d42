/-
  FnMixed over the program's own contracts.
-/
import Derived.Test.YtipcdaiobfgkeaaYA
import Derived.Test.YtipcdaiobfgkeaaER
namespace Go.Proofs.Ytipcdaiobfgkeaa
open Go.RowKit

theorem anyStaysE : Stays5 (fun _ => True) := fun _ _ _ _ => trivial
theorem quiet_belowE {P : Program} {f : FuncId} {args : Array Value} {w : World} {v : Value} (h : Calls P f args w fun e w' => e = .returned v ∧ w = w') : Calls P f args w fun e w' => e = .returned v ∧ Below w.heap.size w w' :=
  h.mono fun _ _ ⟨he, hw⟩ => ⟨he, hw ▸ Below.refl _ _⟩
theorem dFnMixed (A : Option Addr) (za : List Int) (ca : Nat) (B : Option Addr) (zb : List Int) (cb : Nat) (w : World) (ha : Byts w w.heap.size A za) (hb : Byts w w.heap.size B zb) (hla : za.length ≤ 140737488355328) (hlb : zb.length ≤ 140737488355328) :
    Calls Try.prog 3 #[.slice A za.length ca, .slice B zb.length cb] w fun e w' => e = .returned (.bool true) ∧ Below w.heap.size w w' :=
  fnMixed_law anyStaysE (fun A zs ca n w _ ha hl _ => iMixBy_any A zs ca n w ha hl) (fun A zs ca n w _ ha hl _ => iUnmixBy_any A zs ca n w ha hl) (fun a n k w _ => quiet_belowE (iPlaceOf_any a n k w))
    (fun a n f mn w hf _ => iLosses_any a n f mn w hf) (fun a n w _ => quiet_belowE (iSpread_any a n w)) A za ca B zb cb w trivial ha hb hla hlb
end Go.Proofs.Ytipcdaiobfgkeaa
