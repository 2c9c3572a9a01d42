/-
  Laws of chapter 5 over the program's own contracts: PeelOff, FnPeeled.
-/
import Derived.Test.YtcpfneikcefcmaaDoorVR
import Derived.Test.YtcpfneikcefcmaaDoorFA
namespace Go.Proofs.YtcpfneikcefcmaaDoor
open Go.RowKit

/-- What the peeling asks of the world: the program's table of bit values and the library's table of places. -/
def Tabs (w : World) : Prop := Tab w ∧ DeTab w
theorem tabsStay : Stays5 Tabs := fun _ _ h hb => ⟨h.1.below hb, h.2.below hb⟩
theorem dPeel (n : Int) (A : Option Addr) (ls : List (Int × Int)) (ca : Nat) (w : World) (ht : Tabs w) (ha : Lets w A ls) (hlm : ls.length ≤ 9223372036854775807) : Calls Tryd.prog 3 #[.int .i64 n, .slice A ls.length ca] w fun e w' => e = .returned (.bool true) ∧ Below w.heap.size w w' :=
  peelOff_law tabsStay (fun n A ls ca w ht ha hl _ => iPeel_any n A ls ca w ht.1 ht.2 ha hl) n A ls ca w ht ha hlm
theorem dFnPeeled (A : Option Addr) (za : List Int) (ca : Nat) (B : Option Addr) (zb : List Int) (cb : Nat) (w : World) (ht : Tabs w) (ha : Byts w w.heap.size A za) (hb : Byts w w.heap.size B zb) (hla : za.length ≤ 140737488355328) (hlb : zb.length ≤ 140737488355328) :
    Calls Tryd.prog 6 #[.slice A za.length ca, .slice B zb.length cb] w fun e w' => e = .returned (.bool true) ∧ Below w.heap.size w w' :=
  fnPeeled_law tabsStay (fun n A ls ca w ht ha hl _ => iPeel_any n A ls ca w ht.1 ht.2 ha hl) (fun n A ls ca w _ ha hl _ => iGoodL_any n A ls ca w ha hl) (fun A zs ca n w ht ha hl _ => iLetter_any A zs ca n w ht.1 ha hl) (fun n A ls ca w ht ha hl _ => iAdd_any n A ls ca w ht.1 ha hl) A za ca B zb cb w ht ha hb hla hlb
end Go.Proofs.YtcpfneikcefcmaaDoor
