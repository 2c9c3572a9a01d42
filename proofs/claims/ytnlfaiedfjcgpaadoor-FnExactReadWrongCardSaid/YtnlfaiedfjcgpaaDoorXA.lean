/-
  Laws of chapter 7 over the program's own contracts: InverseOf, ValueAt, PointsFor, GoodPoints, FromPoints, AgreeWith, ReadWrong.
-/
import Derived.Test.YtnlfaiedfjcgpaaDoorVH
import Derived.Test.YtnlfaiedfjcgpaaDoorEQ
namespace Go.Proofs.YtnlfaiedfjcgpaaDoor
open Go.RowKit

theorem tabStays8 : Stays5 Tab := fun _ _ h hb => h.below hb
theorem anyStays8 : Stays5 (fun _ => True) := fun _ _ _ _ => trivial
theorem quiet_below {P : Program} {f : FuncId} {args : Array Value} {w : World} {v : Value} (h : Calls P f args w fun e w' => e = .returned v ∧ w = w') : Calls P f args w fun e w' => e = .returned v ∧ Below w.heap.size w w' :=
  h.mono fun _ _ ⟨he, hw⟩ => ⟨he, hw ▸ Below.refl _ _⟩
theorem dRead7 (n : Int) (A : Option Addr) (ls : List (Int × Int)) (ca : Nat) (y : Int) (w : World) (ht : Tab w) (ha : Lets w A ls) (hlm : ls.length ≤ 9223372036854775807) : Calls Tryd.prog 4 #[.int .i64 n, .slice A ls.length ca, .int .i64 y] w fun e w' => e = .returned (.bool true) ∧ Below w.heap.size w w' :=
  readWrong_law tabStays8 (fun n A ls ca y w ht ha hl _ => iRead_any n A ls ca y w ht ha hl) n A ls ca y w ht ha hlm
end Go.Proofs.YtnlfaiedfjcgpaaDoor
