/-
  The exact laws of chapter 9 over the program's own contracts.
-/
import Derived.Test.YtkmlgeicmnbkiaaYC
import Derived.Test.YtkmlgeicmnbkiaaED
namespace Go.Proofs.Ytkmlgeicmnbkiaa
open Go.RowKit

theorem anyStaysG : Stays5 (fun _ => True) := fun _ _ _ _ => trivial
theorem dNewDisk (w : World) : Calls Try.prog 5 #[] w fun e w' => e = .returned (.bool true) ∧ Below w.heap.size w w' :=
  newDisk_law anyStaysG (fun w _ => iNewDisk w) w trivial
theorem dGoodDisk (A B : Option Addr) (ss : List ByteArray) (ps : List (Int × ByteArray)) (ca cb : Nat) (w : World) (hA : Strs w A ss) (hB : Puts w B ps) (hl : ss.length ≤ 9223372036854775807) (hz : ∀ s ∈ ss, s.size ≤ 9223372036854775807) (hl2 : ps.length ≤ 9223372036854775807) (hz2 : ∀ p ∈ ps, p.2.size ≤ 9223372036854775807) : Calls Try.prog 6 #[diskV (.slice A ss.length ca) (.slice B ps.length cb)] w fun e w' => e = .returned (.bool true) ∧ Below w.heap.size w w' :=
  goodDisk_law anyStaysG (fun A B ss ps ca cb w _ hd _ _ => iGoodD_any A B ss ps ca cb w hd) A B ss ps ca cb w trivial hA hB hl hz hl2 hz2
theorem dReadAll (A B : Option Addr) (ss : List ByteArray) (ps : List (Int × ByteArray)) (ca cb : Nat) (w : World) (hA : Strs w A ss) (hB : Puts w B ps) (hl : ss.length ≤ 9223372036854775807) (hz : ∀ s ∈ ss, s.size ≤ 9223372036854775807) (hl2 : ps.length ≤ 9223372036854775807) (hz2 : ∀ p ∈ ps, p.2.size ≤ 9223372036854775807) : Calls Try.prog 11 #[diskV (.slice A ss.length ca) (.slice B ps.length cb)] w fun e w' => e = .returned (.bool true) ∧ Below w.heap.size w w' :=
  readAll_law anyStaysG (fun A B ss ps ca cb w _ hd hA _ => iReadAll_any A B ss ps ca cb w hd hA) A B ss ps ca cb w trivial hA hB hl hz hl2 hz2
theorem dSyncDisk (A B : Option Addr) (ss : List ByteArray) (ps : List (Int × ByteArray)) (ca cb : Nat) (w : World) (hA : Strs w A ss) (hB : Puts w B ps) (hl : ss.length ≤ 9223372036854775807) (hz : ∀ s ∈ ss, s.size ≤ 9223372036854775807) (hl2 : ps.length ≤ 9223372036854775807) (hz2 : ∀ p ∈ ps, p.2.size ≤ 9223372036854775807) : Calls Try.prog 9 #[diskV (.slice A ss.length ca) (.slice B ps.length cb)] w fun e w' => e = .returned (.bool true) ∧ Below w.heap.size w w' :=
  syncDisk_law anyStaysG (fun A B ss ps ca cb w _ hd hA _ => iSync_any A B ss ps ca cb w hd hA) A B ss ps ca cb w trivial hA hB hl hz hl2 hz2
theorem dReadSector (A B : Option Addr) (ss : List ByteArray) (ps : List (Int × ByteArray)) (ca cb : Nat) (k : Int) (w : World) (hA : Strs w A ss) (hB : Puts w B ps) (hl : ss.length ≤ 9223372036854775807) (hz : ∀ s ∈ ss, s.size ≤ 9223372036854775807) (hl2 : ps.length ≤ 9223372036854775807) (hz2 : ∀ p ∈ ps, p.2.size ≤ 9223372036854775807) : Calls Try.prog 8 #[diskV (.slice A ss.length ca) (.slice B ps.length cb), .int .i64 k] w fun e w' => e = .returned (.bool true) ∧ Below w.heap.size w w' :=
  readSector_law anyStaysG (fun A B ss ps ca cb k w _ hd hA _ => iReadS_any A B ss ps ca cb k w hd hA) A B ss ps ca cb k w trivial hA hB hl hz hl2 hz2
theorem dPutSector (A B : Option Addr) (ss : List ByteArray) (ps : List (Int × ByteArray)) (ca cb : Nat) (k : Int) (y : ByteArray) (w : World) (hA : Strs w A ss) (hB : Puts w B ps) (hl : ss.length ≤ 9223372036854775807) (hz : ∀ s ∈ ss, s.size ≤ 9223372036854775807) (hl2 : ps.length ≤ 9223372036854775807) (hz2 : ∀ p ∈ ps, p.2.size ≤ 9223372036854775807) : Calls Try.prog 7 #[diskV (.slice A ss.length ca) (.slice B ps.length cb), .int .i64 k, .string y] w fun e w' => e = .returned (.bool true) ∧ Below w.heap.size w w' :=
  putSector_law anyStaysG (fun A B ss ps ca cb k y w _ hd hA hB _ => iPutS_any A B ss ps ca cb k y w hd hA hB) A B ss ps ca cb k y w trivial hA hB hl hz hl2 hz2
theorem dCrashDisk (A B : Option Addr) (ss : List ByteArray) (ps : List (Int × ByteArray)) (ca cb : Nat) (C : Option Addr) (ks : List Int) (cc : Nat) (torn b : Int) (w : World) (hA : Strs w A ss) (hB : Puts w B ps) (hl : ss.length ≤ 9223372036854775807) (hz : ∀ s ∈ ss, s.size ≤ 9223372036854775807) (hl2 : ps.length ≤ 9223372036854775807) (hz2 : ∀ p ∈ ps, p.2.size ≤ 9223372036854775807) (hC : Ints w C ks) : Calls Try.prog 10 #[diskV (.slice A ss.length ca) (.slice B ps.length cb), .slice C ks.length cc, .int .i64 torn, .int .i64 b] w fun e w' => e = .returned (.bool true) ∧ Below w.heap.size w w' :=
  crashDisk_law anyStaysG (fun A B ss ps ca cb C ks cc torn b w _ hd hA _ hC _ hl => iCrash_any A B C ss ps ks ca cb cc torn b w hd hA hC hl) A B ss ps ca cb C ks cc torn b w trivial hA hB hl hz hl2 hz2 hC
end Go.Proofs.Ytkmlgeicmnbkiaa
