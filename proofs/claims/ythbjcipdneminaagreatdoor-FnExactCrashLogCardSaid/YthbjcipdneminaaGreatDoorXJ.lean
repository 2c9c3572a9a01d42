/-
  The exact laws of chapter 10 over the program's own contracts.
-/
import Derived.Test.YthbjcipdneminaaGreatDoorYF
import Derived.Test.YthbjcipdneminaaGreatDoorYG
import Derived.Test.YthbjcipdneminaaGreatDoorGR
namespace Go.Proofs.YthbjcipdneminaaGreatDoor
open Go.RowKit

theorem anyStaysJ : Stays5 (fun _ => True) := fun _ _ _ _ => trivial
theorem dCrashLog (A B : Option Addr) (ss : List ByteArray) (ps : List (Int × ByteArray)) (ca cb : Nat) (C : Option Addr) (ks : List Int) (cc : Nat) (torn b : Int) (w : World) (hw : ESyn w) (hA : Strs w A ss) (hB : Puts w B ps) (hl : ss.length ≤ 9223372036854775807) (hz : ∀ s ∈ ss, s.size ≤ 9223372036854775807) (hl2 : ps.length ≤ 9223372036854775807) (hz2 : ∀ p ∈ ps, p.2.size ≤ 9223372036854775807) (hC : Ints w C ks) : Calls Tryz.prog 4 #[diskV (.slice A ss.length ca) (.slice B ps.length cb), .slice C ks.length cc, .int .i64 torn, .int .i64 b] w fun e w' => e = .returned (.bool true) ∧ Below w.heap.size w w' :=
  crashLog_law esyn_stays (fun A B ss ps ca cb C ks cc torn b w hk hd hA _ hC _ hl => iCrashLog_any A B C ss ps ks ca cb cc torn b w hk hd hA hC hl) A B ss ps ca cb C ks cc torn b w hw hA hB hl hz hl2 hz2 hC
end Go.Proofs.YthbjcipdneminaaGreatDoor
