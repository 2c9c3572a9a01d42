/-
  Exact laws of chapter 11 over the program's own contracts: NewGiver, GoodGiver, LostIn, RoomIn, PlayGiver.
-/
import Derived.Test.YtbegikjoialahaaYK
import Derived.Test.YtbegikjoialahaaHF
namespace Go.Proofs.Ytbegikjoialahaa
open Go.RowKit

theorem anyStaysM : Stays5 (fun _ => True) := fun _ _ _ _ => trivial
theorem iPlay5 (A : Option Addr) (l : List Idc) (ca : Nat) (w : World) (ha : RdR 2 fId w A l) (hl : l.length ≤ 1048576) :
    Calls Try.prog 12 #[.slice A l.length ca] w fun e w' => ∃ v1 v2, e = .returned (.tuple #[gvV (pyG l).1 (pyG l).2.1 (pyG l).2.2.1 v1, v2, .bool (decide (l.length ≤ 40))]) ∧ (Own w' w.heap.size v1 (pyG l).2.2.2 ∧ OwnR 4 1 fB1 w' w.heap.size v2 (pyD l) ∧ (v1.ownBlock = none ∨ v1.ownBlock ≠ v2.ownBlock)) ∧ Below w.heap.size w w' :=
  (iPlayG A l ca w ha hl).mono (fun _ _ h => play5 h)
theorem dNewGiver (w : World) : Calls Try.prog 5 #[] w fun e w' => e = .returned (.bool true) ∧ Below w.heap.size w w' :=
  newGiver_law anyStaysM (fun w _ => iNewGv w) w trivial
theorem dGoodGiver (n a s : Int) (A : Option Addr) (zs : List Int) (ca : Nat) (w : World) (hA : Ints w A zs) (hl : zs.length ≤ 9223372036854775807) (hs : -9223372036854775808 ≤ s) :
    Calls Try.prog 6 #[gvV n a s (.slice A zs.length ca)] w fun e w' => e = .returned (.bool true) ∧ Below w.heap.size w w' :=
  goodGiver_law anyStaysM (fun n a s A zs ca w _ hA _ hz hs => iGoodG n a s A zs ca w hA hz hs) n a s A zs ca w trivial hA hl hs
theorem dLostIn (n a s : Int) (A : Option Addr) (zs : List Int) (ca : Nat) (w : World) (hA : Ints w A zs) (hl : zs.length ≤ 9223372036854775807) (hs : -9223372036854775808 ≤ s) :
    Calls Try.prog 9 #[gvV n a s (.slice A zs.length ca)] w fun e w' => e = .returned (.bool true) ∧ Below w.heap.size w w' :=
  lostIn_law anyStaysM (fun n a s A zs ca w _ hA _ hz hs => iLost11 n a s A zs ca w hA hz hs) n a s A zs ca w trivial hA hl hs
theorem dRoomIn (n a s : Int) (A : Option Addr) (zs : List Int) (ca : Nat) (w : World) (hA : Ints w A zs) (hl : zs.length ≤ 9223372036854775807) (hs : -9223372036854775808 ≤ s) :
    Calls Try.prog 10 #[gvV n a s (.slice A zs.length ca)] w fun e w' => e = .returned (.bool true) ∧ Below w.heap.size w w' :=
  roomIn_law anyStaysM (fun n a s A zs ca w _ hA _ hz hs => iRoom11 n a s A zs ca w hA hz hs) n a s A zs ca w trivial hA hl hs
theorem dPlayGiver (A : Option Addr) (l : List Idc) (ca : Nat) (w : World) (hA : RdR 2 fId w A l) (hl : l.length ≤ 9223372036854775807) :
    Calls Try.prog 8 #[.slice A l.length ca] w fun e w' => e = .returned (.bool true) ∧ Below w.heap.size w w' :=
  playGiver_law anyStaysM (fun A l ca w _ hA _ hz => iPlay5 A l ca w hA hz) A l ca w trivial hA hl
end Go.Proofs.Ytbegikjoialahaa
