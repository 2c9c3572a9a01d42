/-
  NARROWER THAN 'FOR EVERY INPUT', by the rows' own cells (each row's printed sentence says how): FnMade: laid · FnCode: laid · FnNearest: laid · FnExactSpanOf: laid · FnExactGoodCode: laid · FnExactWordFor: laid · FnExactChecksOf: laid · FnExactSyndromeOf: laid · FnExactLeastWeight: laid · FnExactNearest: laid · FnExactBitsFrom: laid · FnExactDualOf: laid.
  DERIVED. THE GIVEN ROWS OF THIS SEAT. 12 by the template 'for every input the law returns true; each argument reads behind the call as it read before'; 0 by the template 'total and deterministic' (their statements: YtfkojlpihpgnaaaDoorTotals.lean).
  GIVEN WITH THE SEED: the statements are not yours to turn. If you find one false, say at which input.
  Laid BY PROGRAM, IN A SANDBOX (cutbox-rows.mjs): the forced cells as the released guide's own fill.sh prints them over the translation 715e43709f73a63c… (all of the seat's roots in one cut). By AI agents, Wed Nov 11 2026. No macro, syntax, notation, axiom, sorry.
-/
import Derived.Test.YtfkojlpihpgnaaaDoorChecked
import GoSem.Claim
import GoSem.ClaimJoined
import GoSem.ClaimMapViews
import Derived.JoinedTies
import Derived.KernelRfl
namespace Go.Proofs.YtfkojlpihpgnaaaDoor
/- THE CELL 'sum', in the pinned program and in every row, IS THE sha256 OF THE DUMP (.gsa) THAT YtfkojlpihpgnaaaDoorProg.lean LOADS. Nothing in Lean hashes anything: it is a label: what it is worth is what the hold of that sum in a sandbox is worth. -/
noncomputable def Tryd.pinned : Pinned := { name := "ytfkojlpihpgnaaadoor", sum := "715e43709f73a63ccf9a053dea454b1e96abc49b1c2674d0608a5a3f89a4a68e", checked := Tryd.checked }
namespace Rows
def none {H : Type} : Left H := { results := [], args := [] }

/- WHAT THE LISTED PACKAGE-LEVEL VARIABLES READ AS WHEN THE CALL BEGINS. Each datum BY PROGRAM (the guide's laid-datum.mjs) off the statement by which the dump's own 'gosem.cut.vars' lays the variable. In a bare row this is a premise. The card (YtfkojlpihpgnaaaDoorCards.lean) ties it to the program's text. -/
def laid_loop_example_g00647_impl_bitValues {H : Type} : DataW H := .agg [.lit (.int .i64 1), .lit (.int .i64 2), .lit (.int .i64 4), .lit (.int .i64 8), .lit (.int .i64 16), .lit (.int .i64 32), .lit (.int .i64 64), .lit (.int .i64 128), .lit (.int .i64 256), .lit (.int .i64 512), .lit (.int .i64 1024), .lit (.int .i64 2048), .lit (.int .i64 4096), .lit (.int .i64 8192), .lit (.int .i64 16384), .lit (.int .i64 32768), .lit (.int .i64 65536)]

/-- 'laws.FnMade': WHATEVER THE INPUT: true; the input reads as it did. -/
def fnMadeSpec : ChangeSpec := { name := "fnMade", vars := ["loop.example/g00647/impl.bitValues"], fn := fun _ => fun
  | [d1, d2, g1] => { results := [.lit (.bool true)], args := [d1, d2], vars := [g1] }
  | _ => none }
def fnMadeRow : OpenClaim := { program := "ytfkojlpihpgnaaadoor", sum := "715e43709f73a63ccf9a053dea454b1e96abc49b1c2674d0608a5a3f89a4a68e", func := "loop.example/g00647/laws.FnMade", spec := "fnMade", unfollowed := true, recurses := true, named := ["loop.example/g00647/impl.bitValues"], apart := false, laid := [("loop.example/g00647/impl.bitValues", laid_loop_example_g00647_impl_bitValues)] }
def FnMadeSaid : Prop := fnMadeRow.holds Tryd.pinned (OpenSpec.ofChange fnMadeSpec)

/-- ITS FALSE NEIGHBOUR: 'it returns false'. Refute it at one input. -/
def fnMadeWrong : ChangeSpec := { name := "fnMade", vars := ["loop.example/g00647/impl.bitValues"], fn := fun _ => fun
  | [d1, d2, g1] => { results := [.lit (.bool false)], args := [d1, d2], vars := [g1] }
  | _ => none }
def FnMadeWrongFalsely : Prop := fnMadeRow.holds Tryd.pinned (OpenSpec.ofChange fnMadeWrong)

/-- 'laws.FnCode': WHATEVER THE INPUT: true; the input reads as it did. -/
def fnCodeSpec : ChangeSpec := { name := "fnCode", vars := ["loop.example/g00647/impl.bitValues"], fn := fun _ => fun
  | [d1, d2, g1] => { results := [.lit (.bool true)], args := [d1, d2], vars := [g1] }
  | _ => none }
def fnCodeRow : OpenClaim := { program := "ytfkojlpihpgnaaadoor", sum := "715e43709f73a63ccf9a053dea454b1e96abc49b1c2674d0608a5a3f89a4a68e", func := "loop.example/g00647/laws.FnCode", spec := "fnCode", unfollowed := true, recurses := true, named := ["loop.example/g00647/impl.bitValues"], apart := false, laid := [("loop.example/g00647/impl.bitValues", laid_loop_example_g00647_impl_bitValues)] }
def FnCodeSaid : Prop := fnCodeRow.holds Tryd.pinned (OpenSpec.ofChange fnCodeSpec)

/-- ITS FALSE NEIGHBOUR: 'it returns false'. Refute it at one input. -/
def fnCodeWrong : ChangeSpec := { name := "fnCode", vars := ["loop.example/g00647/impl.bitValues"], fn := fun _ => fun
  | [d1, d2, g1] => { results := [.lit (.bool false)], args := [d1, d2], vars := [g1] }
  | _ => none }
def FnCodeWrongFalsely : Prop := fnCodeRow.holds Tryd.pinned (OpenSpec.ofChange fnCodeWrong)

/-- 'laws.FnNearest': WHATEVER THE INPUT: true; the input reads as it did. -/
def fnNearestSpec : ChangeSpec := { name := "fnNearest", vars := ["loop.example/g00647/impl.bitValues"], fn := fun _ => fun
  | [d1, d2, g1] => { results := [.lit (.bool true)], args := [d1, d2], vars := [g1] }
  | _ => none }
def fnNearestRow : OpenClaim := { program := "ytfkojlpihpgnaaadoor", sum := "715e43709f73a63ccf9a053dea454b1e96abc49b1c2674d0608a5a3f89a4a68e", func := "loop.example/g00647/laws.FnNearest", spec := "fnNearest", unfollowed := true, recurses := true, named := ["loop.example/g00647/impl.bitValues"], apart := false, laid := [("loop.example/g00647/impl.bitValues", laid_loop_example_g00647_impl_bitValues)] }
def FnNearestSaid : Prop := fnNearestRow.holds Tryd.pinned (OpenSpec.ofChange fnNearestSpec)

/-- ITS FALSE NEIGHBOUR: 'it returns false'. Refute it at one input. -/
def fnNearestWrong : ChangeSpec := { name := "fnNearest", vars := ["loop.example/g00647/impl.bitValues"], fn := fun _ => fun
  | [d1, d2, g1] => { results := [.lit (.bool false)], args := [d1, d2], vars := [g1] }
  | _ => none }
def FnNearestWrongFalsely : Prop := fnNearestRow.holds Tryd.pinned (OpenSpec.ofChange fnNearestWrong)

/-- 'laws.FnExactSpanOf': WHATEVER THE INPUT: true; the input reads as it did. -/
def fnExactSpanOfSpec : ChangeSpec := { name := "fnExactSpanOf", vars := ["loop.example/g00647/impl.bitValues"], fn := fun _ => fun
  | [d1, d2, g1] => { results := [.lit (.bool true)], args := [d1, d2], vars := [g1] }
  | _ => none }
def fnExactSpanOfRow : OpenClaim := { program := "ytfkojlpihpgnaaadoor", sum := "715e43709f73a63ccf9a053dea454b1e96abc49b1c2674d0608a5a3f89a4a68e", func := "loop.example/g00647/laws.FnExactSpanOf", spec := "fnExactSpanOf", named := ["loop.example/g00647/impl.bitValues"], apart := false, laid := [("loop.example/g00647/impl.bitValues", laid_loop_example_g00647_impl_bitValues)] }
def FnExactSpanOfSaid : Prop := fnExactSpanOfRow.holds Tryd.pinned (OpenSpec.ofChange fnExactSpanOfSpec)

/-- ITS FALSE NEIGHBOUR: 'it returns false'. Refute it at one input. -/
def fnExactSpanOfWrong : ChangeSpec := { name := "fnExactSpanOf", vars := ["loop.example/g00647/impl.bitValues"], fn := fun _ => fun
  | [d1, d2, g1] => { results := [.lit (.bool false)], args := [d1, d2], vars := [g1] }
  | _ => none }
def FnExactSpanOfWrongFalsely : Prop := fnExactSpanOfRow.holds Tryd.pinned (OpenSpec.ofChange fnExactSpanOfWrong)

/-- 'laws.FnExactGoodCode': WHATEVER THE INPUT: true; the input reads as it did. -/
def fnExactGoodCodeSpec : ChangeSpec := { name := "fnExactGoodCode", vars := ["loop.example/g00647/impl.bitValues"], fn := fun _ => fun
  | [d, g1] => { results := [.lit (.bool true)], args := [d], vars := [g1] }
  | _ => none }
def fnExactGoodCodeRow : OpenClaim := { program := "ytfkojlpihpgnaaadoor", sum := "715e43709f73a63ccf9a053dea454b1e96abc49b1c2674d0608a5a3f89a4a68e", func := "loop.example/g00647/laws.FnExactGoodCode", spec := "fnExactGoodCode", unfollowed := true, recurses := true, named := ["loop.example/g00647/impl.bitValues"], apart := false, laid := [("loop.example/g00647/impl.bitValues", laid_loop_example_g00647_impl_bitValues)] }
def FnExactGoodCodeSaid : Prop := fnExactGoodCodeRow.holds Tryd.pinned (OpenSpec.ofChange fnExactGoodCodeSpec)

/-- ITS FALSE NEIGHBOUR: 'it returns false'. Refute it at one input. -/
def fnExactGoodCodeWrong : ChangeSpec := { name := "fnExactGoodCode", vars := ["loop.example/g00647/impl.bitValues"], fn := fun _ => fun
  | [d, g1] => { results := [.lit (.bool false)], args := [d], vars := [g1] }
  | _ => none }
def FnExactGoodCodeWrongFalsely : Prop := fnExactGoodCodeRow.holds Tryd.pinned (OpenSpec.ofChange fnExactGoodCodeWrong)

/-- 'laws.FnExactWordFor': WHATEVER THE INPUT: true; the input reads as it did. -/
def fnExactWordForSpec : ChangeSpec := { name := "fnExactWordFor", vars := ["loop.example/g00647/impl.bitValues"], fn := fun _ => fun
  | [d1, d2, g1] => { results := [.lit (.bool true)], args := [d1, d2], vars := [g1] }
  | _ => none }
def fnExactWordForRow : OpenClaim := { program := "ytfkojlpihpgnaaadoor", sum := "715e43709f73a63ccf9a053dea454b1e96abc49b1c2674d0608a5a3f89a4a68e", func := "loop.example/g00647/laws.FnExactWordFor", spec := "fnExactWordFor", unfollowed := true, recurses := true, named := ["loop.example/g00647/impl.bitValues"], apart := false, laid := [("loop.example/g00647/impl.bitValues", laid_loop_example_g00647_impl_bitValues)] }
def FnExactWordForSaid : Prop := fnExactWordForRow.holds Tryd.pinned (OpenSpec.ofChange fnExactWordForSpec)

/-- ITS FALSE NEIGHBOUR: 'it returns false'. Refute it at one input. -/
def fnExactWordForWrong : ChangeSpec := { name := "fnExactWordFor", vars := ["loop.example/g00647/impl.bitValues"], fn := fun _ => fun
  | [d1, d2, g1] => { results := [.lit (.bool false)], args := [d1, d2], vars := [g1] }
  | _ => none }
def FnExactWordForWrongFalsely : Prop := fnExactWordForRow.holds Tryd.pinned (OpenSpec.ofChange fnExactWordForWrong)

/-- 'laws.FnExactChecksOf': WHATEVER THE INPUT: true; the input reads as it did. -/
def fnExactChecksOfSpec : ChangeSpec := { name := "fnExactChecksOf", vars := ["loop.example/g00647/impl.bitValues"], fn := fun _ => fun
  | [d, g1] => { results := [.lit (.bool true)], args := [d], vars := [g1] }
  | _ => none }
def fnExactChecksOfRow : OpenClaim := { program := "ytfkojlpihpgnaaadoor", sum := "715e43709f73a63ccf9a053dea454b1e96abc49b1c2674d0608a5a3f89a4a68e", func := "loop.example/g00647/laws.FnExactChecksOf", spec := "fnExactChecksOf", unfollowed := true, recurses := true, named := ["loop.example/g00647/impl.bitValues"], apart := false, laid := [("loop.example/g00647/impl.bitValues", laid_loop_example_g00647_impl_bitValues)] }
def FnExactChecksOfSaid : Prop := fnExactChecksOfRow.holds Tryd.pinned (OpenSpec.ofChange fnExactChecksOfSpec)

/-- ITS FALSE NEIGHBOUR: 'it returns false'. Refute it at one input. -/
def fnExactChecksOfWrong : ChangeSpec := { name := "fnExactChecksOf", vars := ["loop.example/g00647/impl.bitValues"], fn := fun _ => fun
  | [d, g1] => { results := [.lit (.bool false)], args := [d], vars := [g1] }
  | _ => none }
def FnExactChecksOfWrongFalsely : Prop := fnExactChecksOfRow.holds Tryd.pinned (OpenSpec.ofChange fnExactChecksOfWrong)

/-- 'laws.FnExactSyndromeOf': WHATEVER THE INPUT: true; the input reads as it did. -/
def fnExactSyndromeOfSpec : ChangeSpec := { name := "fnExactSyndromeOf", vars := ["loop.example/g00647/impl.bitValues"], fn := fun _ => fun
  | [d1, d2, g1] => { results := [.lit (.bool true)], args := [d1, d2], vars := [g1] }
  | _ => none }
def fnExactSyndromeOfRow : OpenClaim := { program := "ytfkojlpihpgnaaadoor", sum := "715e43709f73a63ccf9a053dea454b1e96abc49b1c2674d0608a5a3f89a4a68e", func := "loop.example/g00647/laws.FnExactSyndromeOf", spec := "fnExactSyndromeOf", unfollowed := true, recurses := true, named := ["loop.example/g00647/impl.bitValues"], apart := false, laid := [("loop.example/g00647/impl.bitValues", laid_loop_example_g00647_impl_bitValues)] }
def FnExactSyndromeOfSaid : Prop := fnExactSyndromeOfRow.holds Tryd.pinned (OpenSpec.ofChange fnExactSyndromeOfSpec)

/-- ITS FALSE NEIGHBOUR: 'it returns false'. Refute it at one input. -/
def fnExactSyndromeOfWrong : ChangeSpec := { name := "fnExactSyndromeOf", vars := ["loop.example/g00647/impl.bitValues"], fn := fun _ => fun
  | [d1, d2, g1] => { results := [.lit (.bool false)], args := [d1, d2], vars := [g1] }
  | _ => none }
def FnExactSyndromeOfWrongFalsely : Prop := fnExactSyndromeOfRow.holds Tryd.pinned (OpenSpec.ofChange fnExactSyndromeOfWrong)

/-- 'laws.FnExactLeastWeight': WHATEVER THE INPUT: true; the input reads as it did. -/
def fnExactLeastWeightSpec : ChangeSpec := { name := "fnExactLeastWeight", vars := ["loop.example/g00647/impl.bitValues"], fn := fun _ => fun
  | [d, g1] => { results := [.lit (.bool true)], args := [d], vars := [g1] }
  | _ => none }
def fnExactLeastWeightRow : OpenClaim := { program := "ytfkojlpihpgnaaadoor", sum := "715e43709f73a63ccf9a053dea454b1e96abc49b1c2674d0608a5a3f89a4a68e", func := "loop.example/g00647/laws.FnExactLeastWeight", spec := "fnExactLeastWeight", unfollowed := true, recurses := true, named := ["loop.example/g00647/impl.bitValues"], apart := false, laid := [("loop.example/g00647/impl.bitValues", laid_loop_example_g00647_impl_bitValues)] }
def FnExactLeastWeightSaid : Prop := fnExactLeastWeightRow.holds Tryd.pinned (OpenSpec.ofChange fnExactLeastWeightSpec)

/-- ITS FALSE NEIGHBOUR: 'it returns false'. Refute it at one input. -/
def fnExactLeastWeightWrong : ChangeSpec := { name := "fnExactLeastWeight", vars := ["loop.example/g00647/impl.bitValues"], fn := fun _ => fun
  | [d, g1] => { results := [.lit (.bool false)], args := [d], vars := [g1] }
  | _ => none }
def FnExactLeastWeightWrongFalsely : Prop := fnExactLeastWeightRow.holds Tryd.pinned (OpenSpec.ofChange fnExactLeastWeightWrong)

/-- 'laws.FnExactNearest': WHATEVER THE INPUT: true; the input reads as it did. -/
def fnExactNearestSpec : ChangeSpec := { name := "fnExactNearest", vars := ["loop.example/g00647/impl.bitValues"], fn := fun _ => fun
  | [d1, d2, g1] => { results := [.lit (.bool true)], args := [d1, d2], vars := [g1] }
  | _ => none }
def fnExactNearestRow : OpenClaim := { program := "ytfkojlpihpgnaaadoor", sum := "715e43709f73a63ccf9a053dea454b1e96abc49b1c2674d0608a5a3f89a4a68e", func := "loop.example/g00647/laws.FnExactNearest", spec := "fnExactNearest", unfollowed := true, recurses := true, named := ["loop.example/g00647/impl.bitValues"], apart := false, laid := [("loop.example/g00647/impl.bitValues", laid_loop_example_g00647_impl_bitValues)] }
def FnExactNearestSaid : Prop := fnExactNearestRow.holds Tryd.pinned (OpenSpec.ofChange fnExactNearestSpec)

/-- ITS FALSE NEIGHBOUR: 'it returns false'. Refute it at one input. -/
def fnExactNearestWrong : ChangeSpec := { name := "fnExactNearest", vars := ["loop.example/g00647/impl.bitValues"], fn := fun _ => fun
  | [d1, d2, g1] => { results := [.lit (.bool false)], args := [d1, d2], vars := [g1] }
  | _ => none }
def FnExactNearestWrongFalsely : Prop := fnExactNearestRow.holds Tryd.pinned (OpenSpec.ofChange fnExactNearestWrong)

/-- 'laws.FnExactBitsFrom': WHATEVER THE INPUT: true; the input reads as it did. -/
def fnExactBitsFromSpec : ChangeSpec := { name := "fnExactBitsFrom", vars := ["loop.example/g00647/impl.bitValues"], fn := fun _ => fun
  | [d1, d2, g1] => { results := [.lit (.bool true)], args := [d1, d2], vars := [g1] }
  | _ => none }
def fnExactBitsFromRow : OpenClaim := { program := "ytfkojlpihpgnaaadoor", sum := "715e43709f73a63ccf9a053dea454b1e96abc49b1c2674d0608a5a3f89a4a68e", func := "loop.example/g00647/laws.FnExactBitsFrom", spec := "fnExactBitsFrom", unfollowed := true, recurses := true, named := ["loop.example/g00647/impl.bitValues"], apart := false, laid := [("loop.example/g00647/impl.bitValues", laid_loop_example_g00647_impl_bitValues)] }
def FnExactBitsFromSaid : Prop := fnExactBitsFromRow.holds Tryd.pinned (OpenSpec.ofChange fnExactBitsFromSpec)

/-- ITS FALSE NEIGHBOUR: 'it returns false'. Refute it at one input. -/
def fnExactBitsFromWrong : ChangeSpec := { name := "fnExactBitsFrom", vars := ["loop.example/g00647/impl.bitValues"], fn := fun _ => fun
  | [d1, d2, g1] => { results := [.lit (.bool false)], args := [d1, d2], vars := [g1] }
  | _ => none }
def FnExactBitsFromWrongFalsely : Prop := fnExactBitsFromRow.holds Tryd.pinned (OpenSpec.ofChange fnExactBitsFromWrong)

/-- 'laws.FnExactDualOf': WHATEVER THE INPUT: true; the input reads as it did. -/
def fnExactDualOfSpec : ChangeSpec := { name := "fnExactDualOf", vars := ["loop.example/g00647/impl.bitValues"], fn := fun _ => fun
  | [d, g1] => { results := [.lit (.bool true)], args := [d], vars := [g1] }
  | _ => none }
def fnExactDualOfRow : OpenClaim := { program := "ytfkojlpihpgnaaadoor", sum := "715e43709f73a63ccf9a053dea454b1e96abc49b1c2674d0608a5a3f89a4a68e", func := "loop.example/g00647/laws.FnExactDualOf", spec := "fnExactDualOf", unfollowed := true, recurses := true, named := ["loop.example/g00647/impl.bitValues"], apart := false, laid := [("loop.example/g00647/impl.bitValues", laid_loop_example_g00647_impl_bitValues)] }
def FnExactDualOfSaid : Prop := fnExactDualOfRow.holds Tryd.pinned (OpenSpec.ofChange fnExactDualOfSpec)

/-- ITS FALSE NEIGHBOUR: 'it returns false'. Refute it at one input. -/
def fnExactDualOfWrong : ChangeSpec := { name := "fnExactDualOf", vars := ["loop.example/g00647/impl.bitValues"], fn := fun _ => fun
  | [d, g1] => { results := [.lit (.bool false)], args := [d], vars := [g1] }
  | _ => none }
def FnExactDualOfWrongFalsely : Prop := fnExactDualOfRow.holds Tryd.pinned (OpenSpec.ofChange fnExactDualOfWrong)

/- THE SECOND FORM. 'bulk': how many values and letters a reading holds, each counted each time it is reached (what is shared counts as often as it is met; a slice's spare places count too). A statement '..UptoSaid' is the law's where the arguments, and the package variables that the reading takes, are together of bulk at most 1048576: NARROWER than '..Said'. Prove '..Said' where nothing that the law and all that it calls make is longer than what came in: it says more and counts as full. Else prove '..UptoSaid'. A law counts once. -/
mutual
def uptoBulk {H : Type} : DataW H → Nat
  | .lit (.string bytes) => bytes.length + 1
  | .lit _ => 1
  | .nil => 1
  | .ptr d => uptoBulk d + 1
  | .slice elems spare => uptoBulkAll elems + uptoBulkAll spare + 1
  | .agg parts => uptoBulkAll parts + 1
  | .iface _ d => uptoBulk d + 1
  | .map entries => uptoBulkEntries entries + 1
  | .held _ => 1
def uptoBulkAll {H : Type} : List (DataW H) → Nat
  | [] => 0
  | d :: r => uptoBulk d + uptoBulkAll r
def uptoBulkEntries {H : Type} : List (Lit × DataW H) → Nat
  | [] => 0
  | x :: r => uptoBulkEntry x + uptoBulkEntries r
def uptoBulkEntry {H : Type} : Lit × DataW H → Nat
  | (.string bytes, d) => bytes.length + uptoBulk d + 1
  | (_, d) => uptoBulk d + 1
 end
def uptoSmall : (H : Type) → List (DataW H) → Bool := fun _ ds => decide (uptoBulkAll ds ≤ 1048576)
def OpenSpec.upto (s : _root_.Go.ChangeSpec) : _root_.Go.OpenSpec := { _root_.Go.OpenSpec.ofChange s with cond := some uptoSmall }

/-- 'laws.FnMade', WHERE WHAT IT READS IS OF BULK AT MOST 1048576: true; the input reads as it did. -/
def fnMadeUptoRow : OpenClaim := { program := "ytfkojlpihpgnaaadoor", sum := "715e43709f73a63ccf9a053dea454b1e96abc49b1c2674d0608a5a3f89a4a68e", func := "loop.example/g00647/laws.FnMade", spec := "fnMade", unfollowed := true, recurses := true, named := ["loop.example/g00647/impl.bitValues"], apart := false, laid := [("loop.example/g00647/impl.bitValues", laid_loop_example_g00647_impl_bitValues)], narrowed := true }
def FnMadeUptoSaid : Prop := fnMadeUptoRow.holds Tryd.pinned (OpenSpec.upto fnMadeSpec)

/-- 'laws.FnCode', WHERE WHAT IT READS IS OF BULK AT MOST 1048576: true; the input reads as it did. -/
def fnCodeUptoRow : OpenClaim := { program := "ytfkojlpihpgnaaadoor", sum := "715e43709f73a63ccf9a053dea454b1e96abc49b1c2674d0608a5a3f89a4a68e", func := "loop.example/g00647/laws.FnCode", spec := "fnCode", unfollowed := true, recurses := true, named := ["loop.example/g00647/impl.bitValues"], apart := false, laid := [("loop.example/g00647/impl.bitValues", laid_loop_example_g00647_impl_bitValues)], narrowed := true }
def FnCodeUptoSaid : Prop := fnCodeUptoRow.holds Tryd.pinned (OpenSpec.upto fnCodeSpec)

/-- 'laws.FnNearest', WHERE WHAT IT READS IS OF BULK AT MOST 1048576: true; the input reads as it did. -/
def fnNearestUptoRow : OpenClaim := { program := "ytfkojlpihpgnaaadoor", sum := "715e43709f73a63ccf9a053dea454b1e96abc49b1c2674d0608a5a3f89a4a68e", func := "loop.example/g00647/laws.FnNearest", spec := "fnNearest", unfollowed := true, recurses := true, named := ["loop.example/g00647/impl.bitValues"], apart := false, laid := [("loop.example/g00647/impl.bitValues", laid_loop_example_g00647_impl_bitValues)], narrowed := true }
def FnNearestUptoSaid : Prop := fnNearestUptoRow.holds Tryd.pinned (OpenSpec.upto fnNearestSpec)

/-- 'laws.FnExactSpanOf', WHERE WHAT IT READS IS OF BULK AT MOST 1048576: true; the input reads as it did. -/
def fnExactSpanOfUptoRow : OpenClaim := { program := "ytfkojlpihpgnaaadoor", sum := "715e43709f73a63ccf9a053dea454b1e96abc49b1c2674d0608a5a3f89a4a68e", func := "loop.example/g00647/laws.FnExactSpanOf", spec := "fnExactSpanOf", named := ["loop.example/g00647/impl.bitValues"], apart := false, laid := [("loop.example/g00647/impl.bitValues", laid_loop_example_g00647_impl_bitValues)], narrowed := true }
def FnExactSpanOfUptoSaid : Prop := fnExactSpanOfUptoRow.holds Tryd.pinned (OpenSpec.upto fnExactSpanOfSpec)

/-- 'laws.FnExactGoodCode', WHERE WHAT IT READS IS OF BULK AT MOST 1048576: true; the input reads as it did. -/
def fnExactGoodCodeUptoRow : OpenClaim := { program := "ytfkojlpihpgnaaadoor", sum := "715e43709f73a63ccf9a053dea454b1e96abc49b1c2674d0608a5a3f89a4a68e", func := "loop.example/g00647/laws.FnExactGoodCode", spec := "fnExactGoodCode", unfollowed := true, recurses := true, named := ["loop.example/g00647/impl.bitValues"], apart := false, laid := [("loop.example/g00647/impl.bitValues", laid_loop_example_g00647_impl_bitValues)], narrowed := true }
def FnExactGoodCodeUptoSaid : Prop := fnExactGoodCodeUptoRow.holds Tryd.pinned (OpenSpec.upto fnExactGoodCodeSpec)

/-- 'laws.FnExactWordFor', WHERE WHAT IT READS IS OF BULK AT MOST 1048576: true; the input reads as it did. -/
def fnExactWordForUptoRow : OpenClaim := { program := "ytfkojlpihpgnaaadoor", sum := "715e43709f73a63ccf9a053dea454b1e96abc49b1c2674d0608a5a3f89a4a68e", func := "loop.example/g00647/laws.FnExactWordFor", spec := "fnExactWordFor", unfollowed := true, recurses := true, named := ["loop.example/g00647/impl.bitValues"], apart := false, laid := [("loop.example/g00647/impl.bitValues", laid_loop_example_g00647_impl_bitValues)], narrowed := true }
def FnExactWordForUptoSaid : Prop := fnExactWordForUptoRow.holds Tryd.pinned (OpenSpec.upto fnExactWordForSpec)

/-- 'laws.FnExactChecksOf', WHERE WHAT IT READS IS OF BULK AT MOST 1048576: true; the input reads as it did. -/
def fnExactChecksOfUptoRow : OpenClaim := { program := "ytfkojlpihpgnaaadoor", sum := "715e43709f73a63ccf9a053dea454b1e96abc49b1c2674d0608a5a3f89a4a68e", func := "loop.example/g00647/laws.FnExactChecksOf", spec := "fnExactChecksOf", unfollowed := true, recurses := true, named := ["loop.example/g00647/impl.bitValues"], apart := false, laid := [("loop.example/g00647/impl.bitValues", laid_loop_example_g00647_impl_bitValues)], narrowed := true }
def FnExactChecksOfUptoSaid : Prop := fnExactChecksOfUptoRow.holds Tryd.pinned (OpenSpec.upto fnExactChecksOfSpec)

/-- 'laws.FnExactSyndromeOf', WHERE WHAT IT READS IS OF BULK AT MOST 1048576: true; the input reads as it did. -/
def fnExactSyndromeOfUptoRow : OpenClaim := { program := "ytfkojlpihpgnaaadoor", sum := "715e43709f73a63ccf9a053dea454b1e96abc49b1c2674d0608a5a3f89a4a68e", func := "loop.example/g00647/laws.FnExactSyndromeOf", spec := "fnExactSyndromeOf", unfollowed := true, recurses := true, named := ["loop.example/g00647/impl.bitValues"], apart := false, laid := [("loop.example/g00647/impl.bitValues", laid_loop_example_g00647_impl_bitValues)], narrowed := true }
def FnExactSyndromeOfUptoSaid : Prop := fnExactSyndromeOfUptoRow.holds Tryd.pinned (OpenSpec.upto fnExactSyndromeOfSpec)

/-- 'laws.FnExactLeastWeight', WHERE WHAT IT READS IS OF BULK AT MOST 1048576: true; the input reads as it did. -/
def fnExactLeastWeightUptoRow : OpenClaim := { program := "ytfkojlpihpgnaaadoor", sum := "715e43709f73a63ccf9a053dea454b1e96abc49b1c2674d0608a5a3f89a4a68e", func := "loop.example/g00647/laws.FnExactLeastWeight", spec := "fnExactLeastWeight", unfollowed := true, recurses := true, named := ["loop.example/g00647/impl.bitValues"], apart := false, laid := [("loop.example/g00647/impl.bitValues", laid_loop_example_g00647_impl_bitValues)], narrowed := true }
def FnExactLeastWeightUptoSaid : Prop := fnExactLeastWeightUptoRow.holds Tryd.pinned (OpenSpec.upto fnExactLeastWeightSpec)

/-- 'laws.FnExactNearest', WHERE WHAT IT READS IS OF BULK AT MOST 1048576: true; the input reads as it did. -/
def fnExactNearestUptoRow : OpenClaim := { program := "ytfkojlpihpgnaaadoor", sum := "715e43709f73a63ccf9a053dea454b1e96abc49b1c2674d0608a5a3f89a4a68e", func := "loop.example/g00647/laws.FnExactNearest", spec := "fnExactNearest", unfollowed := true, recurses := true, named := ["loop.example/g00647/impl.bitValues"], apart := false, laid := [("loop.example/g00647/impl.bitValues", laid_loop_example_g00647_impl_bitValues)], narrowed := true }
def FnExactNearestUptoSaid : Prop := fnExactNearestUptoRow.holds Tryd.pinned (OpenSpec.upto fnExactNearestSpec)

/-- 'laws.FnExactBitsFrom', WHERE WHAT IT READS IS OF BULK AT MOST 1048576: true; the input reads as it did. -/
def fnExactBitsFromUptoRow : OpenClaim := { program := "ytfkojlpihpgnaaadoor", sum := "715e43709f73a63ccf9a053dea454b1e96abc49b1c2674d0608a5a3f89a4a68e", func := "loop.example/g00647/laws.FnExactBitsFrom", spec := "fnExactBitsFrom", unfollowed := true, recurses := true, named := ["loop.example/g00647/impl.bitValues"], apart := false, laid := [("loop.example/g00647/impl.bitValues", laid_loop_example_g00647_impl_bitValues)], narrowed := true }
def FnExactBitsFromUptoSaid : Prop := fnExactBitsFromUptoRow.holds Tryd.pinned (OpenSpec.upto fnExactBitsFromSpec)

/-- 'laws.FnExactDualOf', WHERE WHAT IT READS IS OF BULK AT MOST 1048576: true; the input reads as it did. -/
def fnExactDualOfUptoRow : OpenClaim := { program := "ytfkojlpihpgnaaadoor", sum := "715e43709f73a63ccf9a053dea454b1e96abc49b1c2674d0608a5a3f89a4a68e", func := "loop.example/g00647/laws.FnExactDualOf", spec := "fnExactDualOf", unfollowed := true, recurses := true, named := ["loop.example/g00647/impl.bitValues"], apart := false, laid := [("loop.example/g00647/impl.bitValues", laid_loop_example_g00647_impl_bitValues)], narrowed := true }
def FnExactDualOfUptoSaid : Prop := fnExactDualOfUptoRow.holds Tryd.pinned (OpenSpec.upto fnExactDualOfSpec)

end Rows
end Go.Proofs.YtfkojlpihpgnaaaDoor
