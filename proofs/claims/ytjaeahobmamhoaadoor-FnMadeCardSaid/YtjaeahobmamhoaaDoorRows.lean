/-
  NARROWER THAN 'FOR EVERY INPUT', by the rows' own cells (each row's printed sentence says how): FnSteps: laid · FnMade: laid · FnExactStepsOf: laid · FnExactRankOf: laid · FnExactCanMake: laid · FnExactMakeBy: laid · FnExactNullOf: laid · FnExactSpanOf: laid · FnExactTurnRows: laid · FnExactSameSpan: laid.
  DERIVED. THE GIVEN ROWS OF THIS SEAT. 10 by the template 'for every input the law returns true; each argument reads behind the call as it read before'; 0 by the template 'total and deterministic' (their statements: YtjaeahobmamhoaaDoorTotals.lean).
  GIVEN WITH THE SEED: the statements are not yours to turn. If you find one false, say at which input.
  Laid BY PROGRAM, IN A SANDBOX (cutbox-rows.mjs): the forced cells as the released guide's own fill.sh prints them over the translation dc0fb2e40a10125c… (all of the seat's roots in one cut). By AI agents, Wed Nov 11 2026. No macro, syntax, notation, axiom, sorry.
-/
import Derived.Test.YtjaeahobmamhoaaDoorChecked
import GoSem.Claim
import GoSem.ClaimJoined
import GoSem.ClaimMapViews
import Derived.JoinedTies
import Derived.KernelRfl
namespace Go.Proofs.YtjaeahobmamhoaaDoor
/- THE CELL 'sum', in the pinned program and in every row, IS THE sha256 OF THE DUMP (.gsa) THAT YtjaeahobmamhoaaDoorProg.lean LOADS. Nothing in Lean hashes anything: it is a label: what it is worth is what the hold of that sum in a sandbox is worth. -/
noncomputable def Tryd.pinned : Pinned := { name := "ytjaeahobmamhoaadoor", sum := "dc0fb2e40a10125cb5bc587f00cc7ee3d86697b221cadee5a79abc34cdf1645e", checked := Tryd.checked }
namespace Rows
def none {H : Type} : Left H := { results := [], args := [] }

/- WHAT THE LISTED PACKAGE-LEVEL VARIABLES READ AS WHEN THE CALL BEGINS. Each datum BY PROGRAM (the guide's laid-datum.mjs) off the statement by which the dump's own 'gosem.cut.vars' lays the variable. In a bare row this is a premise. The card (YtjaeahobmamhoaaDoorCards.lean) ties it to the program's text. -/
def laid_loop_example_g00647_impl_bitValues {H : Type} : DataW H := .agg [.lit (.int .i64 1), .lit (.int .i64 2), .lit (.int .i64 4), .lit (.int .i64 8), .lit (.int .i64 16), .lit (.int .i64 32), .lit (.int .i64 64), .lit (.int .i64 128), .lit (.int .i64 256), .lit (.int .i64 512), .lit (.int .i64 1024), .lit (.int .i64 2048), .lit (.int .i64 4096), .lit (.int .i64 8192), .lit (.int .i64 16384), .lit (.int .i64 32768), .lit (.int .i64 65536)]

/-- 'laws.FnSteps': WHATEVER THE INPUT: true; the input reads as it did. -/
def fnStepsSpec : ChangeSpec := { name := "fnSteps", vars := ["loop.example/g00647/impl.bitValues"], fn := fun _ => fun
  | [d1, d2, g1] => { results := [.lit (.bool true)], args := [d1, d2], vars := [g1] }
  | _ => none }
def fnStepsRow : OpenClaim := { program := "ytjaeahobmamhoaadoor", sum := "dc0fb2e40a10125cb5bc587f00cc7ee3d86697b221cadee5a79abc34cdf1645e", func := "loop.example/g00647/laws.FnSteps", spec := "fnSteps", unfollowed := true, recurses := true, named := ["loop.example/g00647/impl.bitValues"], apart := false, laid := [("loop.example/g00647/impl.bitValues", laid_loop_example_g00647_impl_bitValues)] }
def FnStepsSaid : Prop := fnStepsRow.holds Tryd.pinned (OpenSpec.ofChange fnStepsSpec)

/-- ITS FALSE NEIGHBOUR: 'it returns false'. Refute it at one input. -/
def fnStepsWrong : ChangeSpec := { name := "fnSteps", vars := ["loop.example/g00647/impl.bitValues"], fn := fun _ => fun
  | [d1, d2, g1] => { results := [.lit (.bool false)], args := [d1, d2], vars := [g1] }
  | _ => none }
def FnStepsWrongFalsely : Prop := fnStepsRow.holds Tryd.pinned (OpenSpec.ofChange fnStepsWrong)

/-- 'laws.FnMade': WHATEVER THE INPUT: true; the input reads as it did. -/
def fnMadeSpec : ChangeSpec := { name := "fnMade", vars := ["loop.example/g00647/impl.bitValues"], fn := fun _ => fun
  | [d1, d2, g1] => { results := [.lit (.bool true)], args := [d1, d2], vars := [g1] }
  | _ => none }
def fnMadeRow : OpenClaim := { program := "ytjaeahobmamhoaadoor", sum := "dc0fb2e40a10125cb5bc587f00cc7ee3d86697b221cadee5a79abc34cdf1645e", func := "loop.example/g00647/laws.FnMade", spec := "fnMade", unfollowed := true, recurses := true, named := ["loop.example/g00647/impl.bitValues"], apart := false, laid := [("loop.example/g00647/impl.bitValues", laid_loop_example_g00647_impl_bitValues)] }
def FnMadeSaid : Prop := fnMadeRow.holds Tryd.pinned (OpenSpec.ofChange fnMadeSpec)

/-- ITS FALSE NEIGHBOUR: 'it returns false'. Refute it at one input. -/
def fnMadeWrong : ChangeSpec := { name := "fnMade", vars := ["loop.example/g00647/impl.bitValues"], fn := fun _ => fun
  | [d1, d2, g1] => { results := [.lit (.bool false)], args := [d1, d2], vars := [g1] }
  | _ => none }
def FnMadeWrongFalsely : Prop := fnMadeRow.holds Tryd.pinned (OpenSpec.ofChange fnMadeWrong)

/-- 'laws.FnExactStepsOf': WHATEVER THE INPUT: true; the input reads as it did. -/
def fnExactStepsOfSpec : ChangeSpec := { name := "fnExactStepsOf", vars := ["loop.example/g00647/impl.bitValues"], fn := fun _ => fun
  | [d1, d2, g1] => { results := [.lit (.bool true)], args := [d1, d2], vars := [g1] }
  | _ => none }
def fnExactStepsOfRow : OpenClaim := { program := "ytjaeahobmamhoaadoor", sum := "dc0fb2e40a10125cb5bc587f00cc7ee3d86697b221cadee5a79abc34cdf1645e", func := "loop.example/g00647/laws.FnExactStepsOf", spec := "fnExactStepsOf", unfollowed := true, recurses := true, named := ["loop.example/g00647/impl.bitValues"], apart := false, laid := [("loop.example/g00647/impl.bitValues", laid_loop_example_g00647_impl_bitValues)] }
def FnExactStepsOfSaid : Prop := fnExactStepsOfRow.holds Tryd.pinned (OpenSpec.ofChange fnExactStepsOfSpec)

/-- ITS FALSE NEIGHBOUR: 'it returns false'. Refute it at one input. -/
def fnExactStepsOfWrong : ChangeSpec := { name := "fnExactStepsOf", vars := ["loop.example/g00647/impl.bitValues"], fn := fun _ => fun
  | [d1, d2, g1] => { results := [.lit (.bool false)], args := [d1, d2], vars := [g1] }
  | _ => none }
def FnExactStepsOfWrongFalsely : Prop := fnExactStepsOfRow.holds Tryd.pinned (OpenSpec.ofChange fnExactStepsOfWrong)

/-- 'laws.FnExactRankOf': WHATEVER THE INPUT: true; the input reads as it did. -/
def fnExactRankOfSpec : ChangeSpec := { name := "fnExactRankOf", vars := ["loop.example/g00647/impl.bitValues"], fn := fun _ => fun
  | [d1, d2, g1] => { results := [.lit (.bool true)], args := [d1, d2], vars := [g1] }
  | _ => none }
def fnExactRankOfRow : OpenClaim := { program := "ytjaeahobmamhoaadoor", sum := "dc0fb2e40a10125cb5bc587f00cc7ee3d86697b221cadee5a79abc34cdf1645e", func := "loop.example/g00647/laws.FnExactRankOf", spec := "fnExactRankOf", unfollowed := true, recurses := true, named := ["loop.example/g00647/impl.bitValues"], apart := false, laid := [("loop.example/g00647/impl.bitValues", laid_loop_example_g00647_impl_bitValues)] }
def FnExactRankOfSaid : Prop := fnExactRankOfRow.holds Tryd.pinned (OpenSpec.ofChange fnExactRankOfSpec)

/-- ITS FALSE NEIGHBOUR: 'it returns false'. Refute it at one input. -/
def fnExactRankOfWrong : ChangeSpec := { name := "fnExactRankOf", vars := ["loop.example/g00647/impl.bitValues"], fn := fun _ => fun
  | [d1, d2, g1] => { results := [.lit (.bool false)], args := [d1, d2], vars := [g1] }
  | _ => none }
def FnExactRankOfWrongFalsely : Prop := fnExactRankOfRow.holds Tryd.pinned (OpenSpec.ofChange fnExactRankOfWrong)

/-- 'laws.FnExactCanMake': WHATEVER THE INPUT: true; the input reads as it did. -/
def fnExactCanMakeSpec : ChangeSpec := { name := "fnExactCanMake", vars := ["loop.example/g00647/impl.bitValues"], fn := fun _ => fun
  | [d1, d2, d3, g1] => { results := [.lit (.bool true)], args := [d1, d2, d3], vars := [g1] }
  | _ => none }
def fnExactCanMakeRow : OpenClaim := { program := "ytjaeahobmamhoaadoor", sum := "dc0fb2e40a10125cb5bc587f00cc7ee3d86697b221cadee5a79abc34cdf1645e", func := "loop.example/g00647/laws.FnExactCanMake", spec := "fnExactCanMake", named := ["loop.example/g00647/impl.bitValues"], apart := false, laid := [("loop.example/g00647/impl.bitValues", laid_loop_example_g00647_impl_bitValues)] }
def FnExactCanMakeSaid : Prop := fnExactCanMakeRow.holds Tryd.pinned (OpenSpec.ofChange fnExactCanMakeSpec)

/-- ITS FALSE NEIGHBOUR: 'it returns false'. Refute it at one input. -/
def fnExactCanMakeWrong : ChangeSpec := { name := "fnExactCanMake", vars := ["loop.example/g00647/impl.bitValues"], fn := fun _ => fun
  | [d1, d2, d3, g1] => { results := [.lit (.bool false)], args := [d1, d2, d3], vars := [g1] }
  | _ => none }
def FnExactCanMakeWrongFalsely : Prop := fnExactCanMakeRow.holds Tryd.pinned (OpenSpec.ofChange fnExactCanMakeWrong)

/-- 'laws.FnExactMakeBy': WHATEVER THE INPUT: true; the input reads as it did. -/
def fnExactMakeBySpec : ChangeSpec := { name := "fnExactMakeBy", vars := ["loop.example/g00647/impl.bitValues"], fn := fun _ => fun
  | [d1, d2, d3, g1] => { results := [.lit (.bool true)], args := [d1, d2, d3], vars := [g1] }
  | _ => none }
def fnExactMakeByRow : OpenClaim := { program := "ytjaeahobmamhoaadoor", sum := "dc0fb2e40a10125cb5bc587f00cc7ee3d86697b221cadee5a79abc34cdf1645e", func := "loop.example/g00647/laws.FnExactMakeBy", spec := "fnExactMakeBy", named := ["loop.example/g00647/impl.bitValues"], apart := false, laid := [("loop.example/g00647/impl.bitValues", laid_loop_example_g00647_impl_bitValues)] }
def FnExactMakeBySaid : Prop := fnExactMakeByRow.holds Tryd.pinned (OpenSpec.ofChange fnExactMakeBySpec)

/-- ITS FALSE NEIGHBOUR: 'it returns false'. Refute it at one input. -/
def fnExactMakeByWrong : ChangeSpec := { name := "fnExactMakeBy", vars := ["loop.example/g00647/impl.bitValues"], fn := fun _ => fun
  | [d1, d2, d3, g1] => { results := [.lit (.bool false)], args := [d1, d2, d3], vars := [g1] }
  | _ => none }
def FnExactMakeByWrongFalsely : Prop := fnExactMakeByRow.holds Tryd.pinned (OpenSpec.ofChange fnExactMakeByWrong)

/-- 'laws.FnExactNullOf': WHATEVER THE INPUT: true; the input reads as it did. -/
def fnExactNullOfSpec : ChangeSpec := { name := "fnExactNullOf", vars := ["loop.example/g00647/impl.bitValues"], fn := fun _ => fun
  | [d1, d2, g1] => { results := [.lit (.bool true)], args := [d1, d2], vars := [g1] }
  | _ => none }
def fnExactNullOfRow : OpenClaim := { program := "ytjaeahobmamhoaadoor", sum := "dc0fb2e40a10125cb5bc587f00cc7ee3d86697b221cadee5a79abc34cdf1645e", func := "loop.example/g00647/laws.FnExactNullOf", spec := "fnExactNullOf", unfollowed := true, recurses := true, named := ["loop.example/g00647/impl.bitValues"], apart := false, laid := [("loop.example/g00647/impl.bitValues", laid_loop_example_g00647_impl_bitValues)] }
def FnExactNullOfSaid : Prop := fnExactNullOfRow.holds Tryd.pinned (OpenSpec.ofChange fnExactNullOfSpec)

/-- ITS FALSE NEIGHBOUR: 'it returns false'. Refute it at one input. -/
def fnExactNullOfWrong : ChangeSpec := { name := "fnExactNullOf", vars := ["loop.example/g00647/impl.bitValues"], fn := fun _ => fun
  | [d1, d2, g1] => { results := [.lit (.bool false)], args := [d1, d2], vars := [g1] }
  | _ => none }
def FnExactNullOfWrongFalsely : Prop := fnExactNullOfRow.holds Tryd.pinned (OpenSpec.ofChange fnExactNullOfWrong)

/-- 'laws.FnExactSpanOf': WHATEVER THE INPUT: true; the input reads as it did. -/
def fnExactSpanOfSpec : ChangeSpec := { name := "fnExactSpanOf", vars := ["loop.example/g00647/impl.bitValues"], fn := fun _ => fun
  | [d1, d2, g1] => { results := [.lit (.bool true)], args := [d1, d2], vars := [g1] }
  | _ => none }
def fnExactSpanOfRow : OpenClaim := { program := "ytjaeahobmamhoaadoor", sum := "dc0fb2e40a10125cb5bc587f00cc7ee3d86697b221cadee5a79abc34cdf1645e", func := "loop.example/g00647/laws.FnExactSpanOf", spec := "fnExactSpanOf", named := ["loop.example/g00647/impl.bitValues"], apart := false, laid := [("loop.example/g00647/impl.bitValues", laid_loop_example_g00647_impl_bitValues)] }
def FnExactSpanOfSaid : Prop := fnExactSpanOfRow.holds Tryd.pinned (OpenSpec.ofChange fnExactSpanOfSpec)

/-- ITS FALSE NEIGHBOUR: 'it returns false'. Refute it at one input. -/
def fnExactSpanOfWrong : ChangeSpec := { name := "fnExactSpanOf", vars := ["loop.example/g00647/impl.bitValues"], fn := fun _ => fun
  | [d1, d2, g1] => { results := [.lit (.bool false)], args := [d1, d2], vars := [g1] }
  | _ => none }
def FnExactSpanOfWrongFalsely : Prop := fnExactSpanOfRow.holds Tryd.pinned (OpenSpec.ofChange fnExactSpanOfWrong)

/-- 'laws.FnExactTurnRows': WHATEVER THE INPUT: true; the input reads as it did. -/
def fnExactTurnRowsSpec : ChangeSpec := { name := "fnExactTurnRows", vars := ["loop.example/g00647/impl.bitValues"], fn := fun _ => fun
  | [d1, d2, g1] => { results := [.lit (.bool true)], args := [d1, d2], vars := [g1] }
  | _ => none }
def fnExactTurnRowsRow : OpenClaim := { program := "ytjaeahobmamhoaadoor", sum := "dc0fb2e40a10125cb5bc587f00cc7ee3d86697b221cadee5a79abc34cdf1645e", func := "loop.example/g00647/laws.FnExactTurnRows", spec := "fnExactTurnRows", named := ["loop.example/g00647/impl.bitValues"], apart := false, laid := [("loop.example/g00647/impl.bitValues", laid_loop_example_g00647_impl_bitValues)] }
def FnExactTurnRowsSaid : Prop := fnExactTurnRowsRow.holds Tryd.pinned (OpenSpec.ofChange fnExactTurnRowsSpec)

/-- ITS FALSE NEIGHBOUR: 'it returns false'. Refute it at one input. -/
def fnExactTurnRowsWrong : ChangeSpec := { name := "fnExactTurnRows", vars := ["loop.example/g00647/impl.bitValues"], fn := fun _ => fun
  | [d1, d2, g1] => { results := [.lit (.bool false)], args := [d1, d2], vars := [g1] }
  | _ => none }
def FnExactTurnRowsWrongFalsely : Prop := fnExactTurnRowsRow.holds Tryd.pinned (OpenSpec.ofChange fnExactTurnRowsWrong)

/-- 'laws.FnExactSameSpan': WHATEVER THE INPUT: true; the input reads as it did. -/
def fnExactSameSpanSpec : ChangeSpec := { name := "fnExactSameSpan", vars := ["loop.example/g00647/impl.bitValues"], fn := fun _ => fun
  | [d1, d2, d3, g1] => { results := [.lit (.bool true)], args := [d1, d2, d3], vars := [g1] }
  | _ => none }
def fnExactSameSpanRow : OpenClaim := { program := "ytjaeahobmamhoaadoor", sum := "dc0fb2e40a10125cb5bc587f00cc7ee3d86697b221cadee5a79abc34cdf1645e", func := "loop.example/g00647/laws.FnExactSameSpan", spec := "fnExactSameSpan", unfollowed := true, recurses := true, named := ["loop.example/g00647/impl.bitValues"], apart := false, laid := [("loop.example/g00647/impl.bitValues", laid_loop_example_g00647_impl_bitValues)] }
def FnExactSameSpanSaid : Prop := fnExactSameSpanRow.holds Tryd.pinned (OpenSpec.ofChange fnExactSameSpanSpec)

/-- ITS FALSE NEIGHBOUR: 'it returns false'. Refute it at one input. -/
def fnExactSameSpanWrong : ChangeSpec := { name := "fnExactSameSpan", vars := ["loop.example/g00647/impl.bitValues"], fn := fun _ => fun
  | [d1, d2, d3, g1] => { results := [.lit (.bool false)], args := [d1, d2, d3], vars := [g1] }
  | _ => none }
def FnExactSameSpanWrongFalsely : Prop := fnExactSameSpanRow.holds Tryd.pinned (OpenSpec.ofChange fnExactSameSpanWrong)

/- THE SECOND FORM. 'bulk': how many values and letters a reading holds, each counted each time it is reached (what is shared counts as often as it is met; a slice's spare places count too). A statement '..UptoSaid' is the law's where the arguments, and the package variables that the reading takes, are together of bulk at most 1048576: NARROWER than '..Said'. Prove '..Said' where nothing that the law and all that it calls make is longer than what came in: it says more and counts as full. Else prove '..UptoSaid'. A law counts once. -/
mutual
def uptoBulk {H : Type} : DataW H → Nat
  | .lit (.string bytes) => bytes.length + 1
  | .lit _ => 1
  | .nil => 1
  | .ptr d => uptoBulk d + 1
  | .slice elems spare => uptoBulkAll elems + uptoBulkAll spare + 1
  | .agg parts => uptoBulkAll parts + 1
  | .iface _ d => uptoBulk d + 1
  | .map entries => uptoBulkEntries entries + 1
  | .held _ => 1
def uptoBulkAll {H : Type} : List (DataW H) → Nat
  | [] => 0
  | d :: r => uptoBulk d + uptoBulkAll r
def uptoBulkEntries {H : Type} : List (Lit × DataW H) → Nat
  | [] => 0
  | x :: r => uptoBulkEntry x + uptoBulkEntries r
def uptoBulkEntry {H : Type} : Lit × DataW H → Nat
  | (.string bytes, d) => bytes.length + uptoBulk d + 1
  | (_, d) => uptoBulk d + 1
 end
def uptoSmall : (H : Type) → List (DataW H) → Bool := fun _ ds => decide (uptoBulkAll ds ≤ 1048576)
def OpenSpec.upto (s : _root_.Go.ChangeSpec) : _root_.Go.OpenSpec := { _root_.Go.OpenSpec.ofChange s with cond := some uptoSmall }

/-- 'laws.FnSteps', WHERE WHAT IT READS IS OF BULK AT MOST 1048576: true; the input reads as it did. -/
def fnStepsUptoRow : OpenClaim := { program := "ytjaeahobmamhoaadoor", sum := "dc0fb2e40a10125cb5bc587f00cc7ee3d86697b221cadee5a79abc34cdf1645e", func := "loop.example/g00647/laws.FnSteps", spec := "fnSteps", unfollowed := true, recurses := true, named := ["loop.example/g00647/impl.bitValues"], apart := false, laid := [("loop.example/g00647/impl.bitValues", laid_loop_example_g00647_impl_bitValues)], narrowed := true }
def FnStepsUptoSaid : Prop := fnStepsUptoRow.holds Tryd.pinned (OpenSpec.upto fnStepsSpec)

/-- 'laws.FnMade', WHERE WHAT IT READS IS OF BULK AT MOST 1048576: true; the input reads as it did. -/
def fnMadeUptoRow : OpenClaim := { program := "ytjaeahobmamhoaadoor", sum := "dc0fb2e40a10125cb5bc587f00cc7ee3d86697b221cadee5a79abc34cdf1645e", func := "loop.example/g00647/laws.FnMade", spec := "fnMade", unfollowed := true, recurses := true, named := ["loop.example/g00647/impl.bitValues"], apart := false, laid := [("loop.example/g00647/impl.bitValues", laid_loop_example_g00647_impl_bitValues)], narrowed := true }
def FnMadeUptoSaid : Prop := fnMadeUptoRow.holds Tryd.pinned (OpenSpec.upto fnMadeSpec)

/-- 'laws.FnExactStepsOf', WHERE WHAT IT READS IS OF BULK AT MOST 1048576: true; the input reads as it did. -/
def fnExactStepsOfUptoRow : OpenClaim := { program := "ytjaeahobmamhoaadoor", sum := "dc0fb2e40a10125cb5bc587f00cc7ee3d86697b221cadee5a79abc34cdf1645e", func := "loop.example/g00647/laws.FnExactStepsOf", spec := "fnExactStepsOf", unfollowed := true, recurses := true, named := ["loop.example/g00647/impl.bitValues"], apart := false, laid := [("loop.example/g00647/impl.bitValues", laid_loop_example_g00647_impl_bitValues)], narrowed := true }
def FnExactStepsOfUptoSaid : Prop := fnExactStepsOfUptoRow.holds Tryd.pinned (OpenSpec.upto fnExactStepsOfSpec)

/-- 'laws.FnExactRankOf', WHERE WHAT IT READS IS OF BULK AT MOST 1048576: true; the input reads as it did. -/
def fnExactRankOfUptoRow : OpenClaim := { program := "ytjaeahobmamhoaadoor", sum := "dc0fb2e40a10125cb5bc587f00cc7ee3d86697b221cadee5a79abc34cdf1645e", func := "loop.example/g00647/laws.FnExactRankOf", spec := "fnExactRankOf", unfollowed := true, recurses := true, named := ["loop.example/g00647/impl.bitValues"], apart := false, laid := [("loop.example/g00647/impl.bitValues", laid_loop_example_g00647_impl_bitValues)], narrowed := true }
def FnExactRankOfUptoSaid : Prop := fnExactRankOfUptoRow.holds Tryd.pinned (OpenSpec.upto fnExactRankOfSpec)

/-- 'laws.FnExactCanMake', WHERE WHAT IT READS IS OF BULK AT MOST 1048576: true; the input reads as it did. -/
def fnExactCanMakeUptoRow : OpenClaim := { program := "ytjaeahobmamhoaadoor", sum := "dc0fb2e40a10125cb5bc587f00cc7ee3d86697b221cadee5a79abc34cdf1645e", func := "loop.example/g00647/laws.FnExactCanMake", spec := "fnExactCanMake", named := ["loop.example/g00647/impl.bitValues"], apart := false, laid := [("loop.example/g00647/impl.bitValues", laid_loop_example_g00647_impl_bitValues)], narrowed := true }
def FnExactCanMakeUptoSaid : Prop := fnExactCanMakeUptoRow.holds Tryd.pinned (OpenSpec.upto fnExactCanMakeSpec)

/-- 'laws.FnExactMakeBy', WHERE WHAT IT READS IS OF BULK AT MOST 1048576: true; the input reads as it did. -/
def fnExactMakeByUptoRow : OpenClaim := { program := "ytjaeahobmamhoaadoor", sum := "dc0fb2e40a10125cb5bc587f00cc7ee3d86697b221cadee5a79abc34cdf1645e", func := "loop.example/g00647/laws.FnExactMakeBy", spec := "fnExactMakeBy", named := ["loop.example/g00647/impl.bitValues"], apart := false, laid := [("loop.example/g00647/impl.bitValues", laid_loop_example_g00647_impl_bitValues)], narrowed := true }
def FnExactMakeByUptoSaid : Prop := fnExactMakeByUptoRow.holds Tryd.pinned (OpenSpec.upto fnExactMakeBySpec)

/-- 'laws.FnExactNullOf', WHERE WHAT IT READS IS OF BULK AT MOST 1048576: true; the input reads as it did. -/
def fnExactNullOfUptoRow : OpenClaim := { program := "ytjaeahobmamhoaadoor", sum := "dc0fb2e40a10125cb5bc587f00cc7ee3d86697b221cadee5a79abc34cdf1645e", func := "loop.example/g00647/laws.FnExactNullOf", spec := "fnExactNullOf", unfollowed := true, recurses := true, named := ["loop.example/g00647/impl.bitValues"], apart := false, laid := [("loop.example/g00647/impl.bitValues", laid_loop_example_g00647_impl_bitValues)], narrowed := true }
def FnExactNullOfUptoSaid : Prop := fnExactNullOfUptoRow.holds Tryd.pinned (OpenSpec.upto fnExactNullOfSpec)

/-- 'laws.FnExactSpanOf', WHERE WHAT IT READS IS OF BULK AT MOST 1048576: true; the input reads as it did. -/
def fnExactSpanOfUptoRow : OpenClaim := { program := "ytjaeahobmamhoaadoor", sum := "dc0fb2e40a10125cb5bc587f00cc7ee3d86697b221cadee5a79abc34cdf1645e", func := "loop.example/g00647/laws.FnExactSpanOf", spec := "fnExactSpanOf", named := ["loop.example/g00647/impl.bitValues"], apart := false, laid := [("loop.example/g00647/impl.bitValues", laid_loop_example_g00647_impl_bitValues)], narrowed := true }
def FnExactSpanOfUptoSaid : Prop := fnExactSpanOfUptoRow.holds Tryd.pinned (OpenSpec.upto fnExactSpanOfSpec)

/-- 'laws.FnExactTurnRows', WHERE WHAT IT READS IS OF BULK AT MOST 1048576: true; the input reads as it did. -/
def fnExactTurnRowsUptoRow : OpenClaim := { program := "ytjaeahobmamhoaadoor", sum := "dc0fb2e40a10125cb5bc587f00cc7ee3d86697b221cadee5a79abc34cdf1645e", func := "loop.example/g00647/laws.FnExactTurnRows", spec := "fnExactTurnRows", named := ["loop.example/g00647/impl.bitValues"], apart := false, laid := [("loop.example/g00647/impl.bitValues", laid_loop_example_g00647_impl_bitValues)], narrowed := true }
def FnExactTurnRowsUptoSaid : Prop := fnExactTurnRowsUptoRow.holds Tryd.pinned (OpenSpec.upto fnExactTurnRowsSpec)

/-- 'laws.FnExactSameSpan', WHERE WHAT IT READS IS OF BULK AT MOST 1048576: true; the input reads as it did. -/
def fnExactSameSpanUptoRow : OpenClaim := { program := "ytjaeahobmamhoaadoor", sum := "dc0fb2e40a10125cb5bc587f00cc7ee3d86697b221cadee5a79abc34cdf1645e", func := "loop.example/g00647/laws.FnExactSameSpan", spec := "fnExactSameSpan", unfollowed := true, recurses := true, named := ["loop.example/g00647/impl.bitValues"], apart := false, laid := [("loop.example/g00647/impl.bitValues", laid_loop_example_g00647_impl_bitValues)], narrowed := true }
def FnExactSameSpanUptoSaid : Prop := fnExactSameSpanUptoRow.holds Tryd.pinned (OpenSpec.upto fnExactSameSpanSpec)

end Rows
end Go.Proofs.YtjaeahobmamhoaaDoor
