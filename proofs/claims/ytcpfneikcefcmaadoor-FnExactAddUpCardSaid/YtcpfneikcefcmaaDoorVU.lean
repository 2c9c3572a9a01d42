/-
  Laws of chapter 5 over the program's own contracts: EnoughOf, AddUp.
-/
import Derived.Test.YtcpfneikcefcmaaDoorVP
import Derived.Test.YtcpfneikcefcmaaDoorE6
namespace Go.Proofs.YtcpfneikcefcmaaDoor
open Go.RowKit

theorem tabStays5 : Stays5 Tab := fun _ _ h hb => h.below hb
theorem dEnough (n : Int) (A : Option Addr) (zs : List Int) (ca : Nat) (w : World) (ht : Tab w) (ha : Ints w A zs) : Calls Tryd.prog 5 #[.int .i64 n, .slice A zs.length ca] w fun e w' => e = .returned (.bool true) ∧ Below w.heap.size w w' :=
  enoughOf_law tabStays5 (fun n A zs ca w ht ha hl _ => iEnough_any n A zs ca w ht ha hl) n A zs ca w ht ha
theorem dAdd (n : Int) (A : Option Addr) (ls : List (Int × Int)) (ca : Nat) (w : World) (ht : Tab w) (ha : Lets w A ls) (hlm : ls.length ≤ 9223372036854775807) : Calls Tryd.prog 4 #[.int .i64 n, .slice A ls.length ca] w fun e w' => e = .returned (.bool true) ∧ Below w.heap.size w w' :=
  addUp_law tabStays5 (fun n A ls ca w ht ha hl _ => iAdd_any n A ls ca w ht ha hl) n A ls ca w ht ha hlm
end Go.Proofs.YtcpfneikcefcmaaDoor
