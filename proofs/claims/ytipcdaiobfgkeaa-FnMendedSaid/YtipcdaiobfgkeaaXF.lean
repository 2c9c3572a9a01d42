/-
  FnMended over the program's own contracts.
-/
import Derived.Test.YtipcdaiobfgkeaaYB
import Derived.Test.YtipcdaiobfgkeaaER
namespace Go.Proofs.Ytipcdaiobfgkeaa
open Go.RowKit

theorem anyStaysF : Stays5 (fun _ => True) := fun _ _ _ _ => trivial
theorem quiet_belowF {P : Program} {f : FuncId} {args : Array Value} {w : World} {v : Value} (h : Calls P f args w fun e w' => e = .returned v ∧ w = w') : Calls P f args w fun e w' => e = .returned v ∧ Below w.heap.size w w' :=
  h.mono fun _ _ ⟨he, hw⟩ => ⟨he, hw ▸ Below.refl _ _⟩
theorem dFnMended (A : Option Addr) (za : List Int) (ca : Nat) (B : Option Addr) (zb : List Int) (cb : Nat) (w : World) (ha : Byts w w.heap.size A za) (hb : Byts w w.heap.size B zb) (hla : za.length ≤ 140737488355328) (hlb : zb.length ≤ 140737488355328) :
    Calls Try.prog 4 #[.slice A za.length ca, .slice B zb.length cb] w fun e w' => e = .returned (.bool true) ∧ Below w.heap.size w w' :=
  fnMended_law anyStaysF (fun A B C zs ps ks ca cb cc n w _ ha hb hc hA _ _ hl hl2 hl3 _ _ _ => iMend_any A B C zs ps ks ca cb cc n w ha hb hc hA hl hl2 hl3) (fun A zs ca n w _ ha hl _ => iParity_any A zs ca n w ha hl)
    (fun a n k w _ => quiet_belowF (iPlaceOf_any a n k w)) A za ca B zb cb w trivial ha hb hla hlb
end Go.Proofs.Ytipcdaiobfgkeaa
