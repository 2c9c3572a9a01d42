/-
  Laws of chapter 7 over the program's own contracts: InverseOf, ValueAt, PointsFor, GoodPoints, FromPoints, AgreeWith, ReadWrong.
-/
import Derived.Test.YtjifpedhncgieaaVH
import Derived.Test.YtjifpedhncgieaaEQ
namespace Go.Proofs.Ytjifpedhncgieaa
open Go.RowKit

theorem anyStays8 : Stays5 (fun _ => True) := fun _ _ _ _ => trivial
theorem quiet_below {P : Program} {f : FuncId} {args : Array Value} {w : World} {v : Value} (h : Calls P f args w fun e w' => e = .returned v ∧ w = w') : Calls P f args w fun e w' => e = .returned v ∧ Below w.heap.size w w' :=
  h.mono fun _ _ ⟨he, hw⟩ => ⟨he, hw ▸ Below.refl _ _⟩
theorem dInverse7 (p : Int) (w : World) : Calls Try.prog 8 #[.int .i64 p] w fun e w' => e = .returned (.bool true) ∧ Below w.heap.size w w' :=
  inverseOf_law (K := fun _ => True) (fun p w _ => quiet_below (iInv_any p w)) p w trivial
theorem dValue7 (A : Option Addr) (zs : List Int) (ca : Nat) (n : Int) (w : World) (ha : Ints w A zs) : Calls Try.prog 4 #[.slice A zs.length ca, .int .i64 n] w fun e w' => e = .returned (.bool true) ∧ Below w.heap.size w w' :=
  valueAt_law anyStays8 (fun n A zs ca w _ ha hl _ => quiet_below (iValue_any A zs ca n w ha hl)) n A zs ca w trivial ha
theorem dPoints7 (A : Option Addr) (zs : List Int) (ca : Nat) (n : Int) (w : World) (ha : Ints w A zs) : Calls Try.prog 5 #[.slice A zs.length ca, .int .i64 n] w fun e w' => e = .returned (.bool true) ∧ Below w.heap.size w w' :=
  pointsFor_law anyStays8 (fun A zs ca n w _ ha hl _ => iPoints_any A zs ca n w ha hl) A zs ca n w trivial ha
theorem dGood7 (A : Option Addr) (ls : List (Int × Int)) (ca : Nat) (w : World) (ha : Lets w A ls) (hlm : ls.length ≤ 9223372036854775807) : Calls Try.prog 7 #[.slice A ls.length ca] w fun e w' => e = .returned (.bool true) ∧ Below w.heap.size w w' :=
  goodPoints_law anyStays8 (fun A ls ca w _ ha hl _ => iGoodP_any A ls ca w ha hl) A ls ca w trivial ha hlm
theorem dFrom7 (n : Int) (A : Option Addr) (ls : List (Int × Int)) (ca : Nat) (w : World) (ha : Lets w A ls) (hlm : ls.length ≤ 9223372036854775807) : Calls Try.prog 6 #[.int .i64 n, .slice A ls.length ca] w fun e w' => e = .returned (.bool true) ∧ Below w.heap.size w w' :=
  fromPoints_law anyStays8 (fun n A ls ca w _ ha hl hc => iFrom_any n A ls ca w ha hl hc) n A ls ca w trivial ha hlm
theorem dAgree7 (A : Option Addr) (zs : List Int) (ca : Nat) (B : Option Addr) (ls : List (Int × Int)) (cb : Nat) (w : World) (ha : Ints w A zs) (hb : Lets w B ls) (hlm : ls.length ≤ 9223372036854775807) : Calls Try.prog 9 #[.slice A zs.length ca, .slice B ls.length cb] w fun e w' => e = .returned (.bool true) ∧ Below w.heap.size w w' :=
  agreeWith_law anyStays8 (fun A B zs ls ca cb w _ ha hb hl hl2 _ _ => iAgree_any A B zs ls ca cb w ha hb hl hl2) A zs ca B ls cb w trivial ha hb hlm
end Go.Proofs.Ytjifpedhncgieaa
