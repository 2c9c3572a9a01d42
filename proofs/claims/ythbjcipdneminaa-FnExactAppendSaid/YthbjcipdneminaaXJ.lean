/-
  The exact laws of chapter 10 over the program's own contracts.
-/
import Derived.Test.YthbjcipdneminaaYF
import Derived.Test.YthbjcipdneminaaYG
import Derived.Test.YthbjcipdneminaaGR
namespace Go.Proofs.Ythbjcipdneminaa
open Go.RowKit

theorem anyStaysJ : Stays5 (fun _ => True) := fun _ _ _ _ => trivial
theorem dRecordText (r : Rec) (w : World) : Calls Try.prog 3 #[reV r] w fun e w' => e = .returned (.bool true) ∧ Below w.heap.size w w' :=
  recordText_law anyStaysJ (fun r w _ => iRecText_any r w) r w trivial
theorem dSumOf (s : ByteArray) (w : World) (hz : s.size ≤ 9223372036854775807) : Calls Try.prog 5 #[.string s] w fun e w' => e = .returned (.bool true) ∧ Below w.heap.size w w' :=
  sumOf_law (K := fun _ => True) (fun s w _ h => iSumOf_any s w h) s w trivial hz
theorem dAppend (A B : Option Addr) (ss : List ByteArray) (ps : List (Int × ByteArray)) (ca cb : Nat) (no kd na nb : Int) (w : World) (hA : Strs w A ss) (hB : Puts w B ps) (hl : ss.length ≤ 9223372036854775807) (hz : ∀ s ∈ ss, s.size ≤ 9223372036854775807) (hl2 : ps.length ≤ 9223372036854775807) (hz2 : ∀ p ∈ ps, p.2.size ≤ 9223372036854775807) : Calls Try.prog 4 #[diskV (.slice A ss.length ca) (.slice B ps.length cb), .int .i64 no, .int .i64 kd, .int .i64 na, .int .i64 nb] w fun e w' => e = .returned (.bool true) ∧ Below w.heap.size w w' :=
  append_law anyStaysJ (fun A B ss ps ca cb no kd na nb w _ hd hA hB => iAppend_any A B ss ps ca cb no kd na nb w hd hA hB) A B ss ps ca cb no kd na nb w trivial hA hB hl hz hl2 hz2
end Go.Proofs.Ythbjcipdneminaa
