/-
  The exact laws of chapter 10 over the program's own contracts.
-/
import Derived.Test.YthbjcipdneminaaDoorYF
import Derived.Test.YthbjcipdneminaaDoorYG
import Derived.Test.YthbjcipdneminaaDoorGR
namespace Go.Proofs.YthbjcipdneminaaDoor
open Go.RowKit

theorem anyStaysJ : Stays5 (fun _ => True) := fun _ _ _ _ => trivial
theorem dReadRecord (s : ByteArray) (w : World) (hw : ESyn w) : Calls Tryd.prog 4 #[.string s] w fun e w' => e = .returned (.bool true) ∧ Below w.heap.size w w' :=
  readRecord_law esyn_stays (fun s w hk _ => iReadRec_any s w hk) s w hw
theorem dReadLog (A B : Option Addr) (ss : List ByteArray) (ps : List (Int × ByteArray)) (ca cb : Nat) (w : World) (hw : ESyn w) (hA : Strs w A ss) (hB : Puts w B ps) (hl : ss.length ≤ 9223372036854775807) (hz : ∀ s ∈ ss, s.size ≤ 9223372036854775807) (hl2 : ps.length ≤ 9223372036854775807) (hz2 : ∀ p ∈ ps, p.2.size ≤ 9223372036854775807) : Calls Tryd.prog 5 #[diskV (.slice A ss.length ca) (.slice B ps.length cb)] w fun e w' => e = .returned (.bool true) ∧ Below w.heap.size w w' :=
  readLog_law esyn_stays (fun A B ss ps ca cb w hk hd hA _ => iReadLog_any A B ss ps ca cb w hk hd hA) A B ss ps ca cb w hw hA hB hl hz hl2 hz2
theorem dNextNo (A B : Option Addr) (ss : List ByteArray) (ps : List (Int × ByteArray)) (ca cb : Nat) (w : World) (hw : ESyn w) (hA : Strs w A ss) (hB : Puts w B ps) (hl : ss.length ≤ 9223372036854775807) (hz : ∀ s ∈ ss, s.size ≤ 9223372036854775807) (hl2 : ps.length ≤ 9223372036854775807) (hz2 : ∀ p ∈ ps, p.2.size ≤ 9223372036854775807) : Calls Tryd.prog 6 #[diskV (.slice A ss.length ca) (.slice B ps.length cb)] w fun e w' => e = .returned (.bool true) ∧ Below w.heap.size w w' :=
  nextNo_law esyn_stays (fun A B ss ps ca cb w hk hd hA _ => iNextNo_any A B ss ps ca cb w hk hd hA) A B ss ps ca cb w hw hA hB hl hz hl2 hz2
end Go.Proofs.YthbjcipdneminaaDoor
