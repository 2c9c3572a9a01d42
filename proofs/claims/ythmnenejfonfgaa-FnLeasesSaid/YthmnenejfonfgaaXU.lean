/-
  FnLeases over every two byte strings.
-/
import Derived.Test.YthmnenejfonfgaaYT
namespace Go.Proofs.Ythmnenejfonfgaa
open Go.RowKit

set_option maxRecDepth 100000 in
theorem dFnLeases (A : Option Addr) (za : List Int) (ca : Nat) (B : Option Addr) (zb : List Int) (cb : Nat) (w : World) (ha : Byts w w.heap.size A za) (hb : Byts w w.heap.size B zb) (hla : za.length ≤ 140737488355328) (hlb : zb.length ≤ 140737488355328) :
    Calls Try.prog 3 #[.slice A za.length ca, .slice B zb.length cb] w fun e w' => e = .returned (.bool true) ∧ Below w.heap.size w w' := by
  by_cases hl : za.length + zb.length ≤ 1048576
  · exact fnLeases_small A za ca B zb cb w ha hb hl
  · have hli : (1048576 : Int) < (za.length : Int) + (zb.length : Int) := by omega
    clear ha hb
    go_enter Try.func3, Try.ntmps3
    go_wp2_with fail
    go_ret
    exact ⟨rfl, Below.refl _ _⟩
end Go.Proofs.Ythmnenejfonfgaa
