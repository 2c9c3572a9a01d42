/-
  NARROWER THAN 'FOR EVERY INPUT', by the rows' own cells (each row's printed sentence says how): FnAdded: laid · FnBits: laid · FnExactGoodRow: laid · FnExactAddRows: laid · FnExactWeightOf: laid · FnExactDotOf: laid · FnExactBitsIn: laid · FnExactRowOf: laid · FnExactSumRows: laid · FnExactFarApart: laid.
  DERIVED. THE GIVEN ROWS OF THIS SEAT. 10 by the template 'for every input the law returns true; each argument reads behind the call as it read before'; 0 by the template 'total and deterministic' (their statements: YtbdncpbbeodpbaaDoorTotals.lean).
  GIVEN WITH THE SEED: the statements are not yours to turn. If you find one false, say at which input.
  Laid BY PROGRAM, IN A SANDBOX (cutbox-rows.mjs): the forced cells as the released guide's own fill.sh prints them over the translation c95dcea5e1946c74… (all of the seat's roots in one cut). By AI agents, Wed Nov 11 2026. No macro, syntax, notation, axiom, sorry.
-/
import Derived.Test.YtbdncpbbeodpbaaDoorChecked
import GoSem.Claim
import GoSem.ClaimJoined
import GoSem.ClaimMapViews
import Derived.JoinedTies
import Derived.KernelRfl
namespace Go.Proofs.YtbdncpbbeodpbaaDoor
/- THE CELL 'sum', in the pinned program and in every row, IS THE sha256 OF THE DUMP (.gsa) THAT YtbdncpbbeodpbaaDoorProg.lean LOADS. Nothing in Lean hashes anything: it is a label: what it is worth is what the hold of that sum in a sandbox is worth. -/
noncomputable def Tryd.pinned : Pinned := { name := "ytbdncpbbeodpbaadoor", sum := "c95dcea5e1946c745343fd8904b5792a435edffa659a94d95c47d5b3470b10bd", checked := Tryd.checked }
namespace Rows
def none {H : Type} : Left H := { results := [], args := [] }

/- WHAT THE LISTED PACKAGE-LEVEL VARIABLES READ AS WHEN THE CALL BEGINS. Each datum BY PROGRAM (the guide's laid-datum.mjs) off the statement by which the dump's own 'gosem.cut.vars' lays the variable. In a bare row this is a premise. The card (YtbdncpbbeodpbaaDoorCards.lean) ties it to the program's text. -/
def laid_loop_example_g00647_impl_bitValues {H : Type} : DataW H := .agg [.lit (.int .i64 1), .lit (.int .i64 2), .lit (.int .i64 4), .lit (.int .i64 8), .lit (.int .i64 16), .lit (.int .i64 32), .lit (.int .i64 64), .lit (.int .i64 128), .lit (.int .i64 256), .lit (.int .i64 512), .lit (.int .i64 1024), .lit (.int .i64 2048), .lit (.int .i64 4096), .lit (.int .i64 8192), .lit (.int .i64 16384), .lit (.int .i64 32768), .lit (.int .i64 65536)]

/-- 'laws.FnAdded': WHATEVER THE INPUT: true; the input reads as it did. -/
def fnAddedSpec : ChangeSpec := { name := "fnAdded", vars := ["loop.example/g00647/impl.bitValues"], fn := fun _ => fun
  | [d1, d2, g1] => { results := [.lit (.bool true)], args := [d1, d2], vars := [g1] }
  | _ => none }
def fnAddedRow : OpenClaim := { program := "ytbdncpbbeodpbaadoor", sum := "c95dcea5e1946c745343fd8904b5792a435edffa659a94d95c47d5b3470b10bd", func := "loop.example/g00647/laws.FnAdded", spec := "fnAdded", named := ["loop.example/g00647/impl.bitValues"], apart := false, laid := [("loop.example/g00647/impl.bitValues", laid_loop_example_g00647_impl_bitValues)] }
def FnAddedSaid : Prop := fnAddedRow.holds Tryd.pinned (OpenSpec.ofChange fnAddedSpec)

/-- ITS FALSE NEIGHBOUR: 'it returns false'. Refute it at one input. -/
def fnAddedWrong : ChangeSpec := { name := "fnAdded", vars := ["loop.example/g00647/impl.bitValues"], fn := fun _ => fun
  | [d1, d2, g1] => { results := [.lit (.bool false)], args := [d1, d2], vars := [g1] }
  | _ => none }
def FnAddedWrongFalsely : Prop := fnAddedRow.holds Tryd.pinned (OpenSpec.ofChange fnAddedWrong)

/-- 'laws.FnBits': WHATEVER THE INPUT: true; the input reads as it did. -/
def fnBitsSpec : ChangeSpec := { name := "fnBits", vars := ["loop.example/g00647/impl.bitValues"], fn := fun _ => fun
  | [d1, d2, g1] => { results := [.lit (.bool true)], args := [d1, d2], vars := [g1] }
  | _ => none }
def fnBitsRow : OpenClaim := { program := "ytbdncpbbeodpbaadoor", sum := "c95dcea5e1946c745343fd8904b5792a435edffa659a94d95c47d5b3470b10bd", func := "loop.example/g00647/laws.FnBits", spec := "fnBits", named := ["loop.example/g00647/impl.bitValues"], apart := false, laid := [("loop.example/g00647/impl.bitValues", laid_loop_example_g00647_impl_bitValues)] }
def FnBitsSaid : Prop := fnBitsRow.holds Tryd.pinned (OpenSpec.ofChange fnBitsSpec)

/-- ITS FALSE NEIGHBOUR: 'it returns false'. Refute it at one input. -/
def fnBitsWrong : ChangeSpec := { name := "fnBits", vars := ["loop.example/g00647/impl.bitValues"], fn := fun _ => fun
  | [d1, d2, g1] => { results := [.lit (.bool false)], args := [d1, d2], vars := [g1] }
  | _ => none }
def FnBitsWrongFalsely : Prop := fnBitsRow.holds Tryd.pinned (OpenSpec.ofChange fnBitsWrong)

/-- 'laws.FnExactGoodRow': WHATEVER THE INPUT: true; the input reads as it did. -/
def fnExactGoodRowSpec : ChangeSpec := { name := "fnExactGoodRow", vars := ["loop.example/g00647/impl.bitValues"], fn := fun _ => fun
  | [d1, d2, g1] => { results := [.lit (.bool true)], args := [d1, d2], vars := [g1] }
  | _ => none }
def fnExactGoodRowRow : OpenClaim := { program := "ytbdncpbbeodpbaadoor", sum := "c95dcea5e1946c745343fd8904b5792a435edffa659a94d95c47d5b3470b10bd", func := "loop.example/g00647/laws.FnExactGoodRow", spec := "fnExactGoodRow", named := ["loop.example/g00647/impl.bitValues"], apart := false, laid := [("loop.example/g00647/impl.bitValues", laid_loop_example_g00647_impl_bitValues)] }
def FnExactGoodRowSaid : Prop := fnExactGoodRowRow.holds Tryd.pinned (OpenSpec.ofChange fnExactGoodRowSpec)

/-- ITS FALSE NEIGHBOUR: 'it returns false'. Refute it at one input. -/
def fnExactGoodRowWrong : ChangeSpec := { name := "fnExactGoodRow", vars := ["loop.example/g00647/impl.bitValues"], fn := fun _ => fun
  | [d1, d2, g1] => { results := [.lit (.bool false)], args := [d1, d2], vars := [g1] }
  | _ => none }
def FnExactGoodRowWrongFalsely : Prop := fnExactGoodRowRow.holds Tryd.pinned (OpenSpec.ofChange fnExactGoodRowWrong)

/-- 'laws.FnExactAddRows': WHATEVER THE INPUT: true; the input reads as it did. -/
def fnExactAddRowsSpec : ChangeSpec := { name := "fnExactAddRows", vars := ["loop.example/g00647/impl.bitValues"], fn := fun _ => fun
  | [d1, d2, d3, g1] => { results := [.lit (.bool true)], args := [d1, d2, d3], vars := [g1] }
  | _ => none }
def fnExactAddRowsRow : OpenClaim := { program := "ytbdncpbbeodpbaadoor", sum := "c95dcea5e1946c745343fd8904b5792a435edffa659a94d95c47d5b3470b10bd", func := "loop.example/g00647/laws.FnExactAddRows", spec := "fnExactAddRows", named := ["loop.example/g00647/impl.bitValues"], apart := false, laid := [("loop.example/g00647/impl.bitValues", laid_loop_example_g00647_impl_bitValues)] }
def FnExactAddRowsSaid : Prop := fnExactAddRowsRow.holds Tryd.pinned (OpenSpec.ofChange fnExactAddRowsSpec)

/-- ITS FALSE NEIGHBOUR: 'it returns false'. Refute it at one input. -/
def fnExactAddRowsWrong : ChangeSpec := { name := "fnExactAddRows", vars := ["loop.example/g00647/impl.bitValues"], fn := fun _ => fun
  | [d1, d2, d3, g1] => { results := [.lit (.bool false)], args := [d1, d2, d3], vars := [g1] }
  | _ => none }
def FnExactAddRowsWrongFalsely : Prop := fnExactAddRowsRow.holds Tryd.pinned (OpenSpec.ofChange fnExactAddRowsWrong)

/-- 'laws.FnExactWeightOf': WHATEVER THE INPUT: true; the input reads as it did. -/
def fnExactWeightOfSpec : ChangeSpec := { name := "fnExactWeightOf", vars := ["loop.example/g00647/impl.bitValues"], fn := fun _ => fun
  | [d1, d2, g1] => { results := [.lit (.bool true)], args := [d1, d2], vars := [g1] }
  | _ => none }
def fnExactWeightOfRow : OpenClaim := { program := "ytbdncpbbeodpbaadoor", sum := "c95dcea5e1946c745343fd8904b5792a435edffa659a94d95c47d5b3470b10bd", func := "loop.example/g00647/laws.FnExactWeightOf", spec := "fnExactWeightOf", named := ["loop.example/g00647/impl.bitValues"], apart := false, laid := [("loop.example/g00647/impl.bitValues", laid_loop_example_g00647_impl_bitValues)] }
def FnExactWeightOfSaid : Prop := fnExactWeightOfRow.holds Tryd.pinned (OpenSpec.ofChange fnExactWeightOfSpec)

/-- ITS FALSE NEIGHBOUR: 'it returns false'. Refute it at one input. -/
def fnExactWeightOfWrong : ChangeSpec := { name := "fnExactWeightOf", vars := ["loop.example/g00647/impl.bitValues"], fn := fun _ => fun
  | [d1, d2, g1] => { results := [.lit (.bool false)], args := [d1, d2], vars := [g1] }
  | _ => none }
def FnExactWeightOfWrongFalsely : Prop := fnExactWeightOfRow.holds Tryd.pinned (OpenSpec.ofChange fnExactWeightOfWrong)

/-- 'laws.FnExactDotOf': WHATEVER THE INPUT: true; the input reads as it did. -/
def fnExactDotOfSpec : ChangeSpec := { name := "fnExactDotOf", vars := ["loop.example/g00647/impl.bitValues"], fn := fun _ => fun
  | [d1, d2, d3, g1] => { results := [.lit (.bool true)], args := [d1, d2, d3], vars := [g1] }
  | _ => none }
def fnExactDotOfRow : OpenClaim := { program := "ytbdncpbbeodpbaadoor", sum := "c95dcea5e1946c745343fd8904b5792a435edffa659a94d95c47d5b3470b10bd", func := "loop.example/g00647/laws.FnExactDotOf", spec := "fnExactDotOf", named := ["loop.example/g00647/impl.bitValues"], apart := false, laid := [("loop.example/g00647/impl.bitValues", laid_loop_example_g00647_impl_bitValues)] }
def FnExactDotOfSaid : Prop := fnExactDotOfRow.holds Tryd.pinned (OpenSpec.ofChange fnExactDotOfSpec)

/-- ITS FALSE NEIGHBOUR: 'it returns false'. Refute it at one input. -/
def fnExactDotOfWrong : ChangeSpec := { name := "fnExactDotOf", vars := ["loop.example/g00647/impl.bitValues"], fn := fun _ => fun
  | [d1, d2, d3, g1] => { results := [.lit (.bool false)], args := [d1, d2, d3], vars := [g1] }
  | _ => none }
def FnExactDotOfWrongFalsely : Prop := fnExactDotOfRow.holds Tryd.pinned (OpenSpec.ofChange fnExactDotOfWrong)

/-- 'laws.FnExactBitsIn': WHATEVER THE INPUT: true; the input reads as it did. -/
def fnExactBitsInSpec : ChangeSpec := { name := "fnExactBitsIn", vars := ["loop.example/g00647/impl.bitValues"], fn := fun _ => fun
  | [d1, d2, g1] => { results := [.lit (.bool true)], args := [d1, d2], vars := [g1] }
  | _ => none }
def fnExactBitsInRow : OpenClaim := { program := "ytbdncpbbeodpbaadoor", sum := "c95dcea5e1946c745343fd8904b5792a435edffa659a94d95c47d5b3470b10bd", func := "loop.example/g00647/laws.FnExactBitsIn", spec := "fnExactBitsIn", named := ["loop.example/g00647/impl.bitValues"], apart := false, laid := [("loop.example/g00647/impl.bitValues", laid_loop_example_g00647_impl_bitValues)] }
def FnExactBitsInSaid : Prop := fnExactBitsInRow.holds Tryd.pinned (OpenSpec.ofChange fnExactBitsInSpec)

/-- ITS FALSE NEIGHBOUR: 'it returns false'. Refute it at one input. -/
def fnExactBitsInWrong : ChangeSpec := { name := "fnExactBitsIn", vars := ["loop.example/g00647/impl.bitValues"], fn := fun _ => fun
  | [d1, d2, g1] => { results := [.lit (.bool false)], args := [d1, d2], vars := [g1] }
  | _ => none }
def FnExactBitsInWrongFalsely : Prop := fnExactBitsInRow.holds Tryd.pinned (OpenSpec.ofChange fnExactBitsInWrong)

/-- 'laws.FnExactRowOf': WHATEVER THE INPUT: true; the input reads as it did. -/
def fnExactRowOfSpec : ChangeSpec := { name := "fnExactRowOf", vars := ["loop.example/g00647/impl.bitValues"], fn := fun _ => fun
  | [d1, d2, g1] => { results := [.lit (.bool true)], args := [d1, d2], vars := [g1] }
  | _ => none }
def fnExactRowOfRow : OpenClaim := { program := "ytbdncpbbeodpbaadoor", sum := "c95dcea5e1946c745343fd8904b5792a435edffa659a94d95c47d5b3470b10bd", func := "loop.example/g00647/laws.FnExactRowOf", spec := "fnExactRowOf", named := ["loop.example/g00647/impl.bitValues"], apart := false, laid := [("loop.example/g00647/impl.bitValues", laid_loop_example_g00647_impl_bitValues)] }
def FnExactRowOfSaid : Prop := fnExactRowOfRow.holds Tryd.pinned (OpenSpec.ofChange fnExactRowOfSpec)

/-- ITS FALSE NEIGHBOUR: 'it returns false'. Refute it at one input. -/
def fnExactRowOfWrong : ChangeSpec := { name := "fnExactRowOf", vars := ["loop.example/g00647/impl.bitValues"], fn := fun _ => fun
  | [d1, d2, g1] => { results := [.lit (.bool false)], args := [d1, d2], vars := [g1] }
  | _ => none }
def FnExactRowOfWrongFalsely : Prop := fnExactRowOfRow.holds Tryd.pinned (OpenSpec.ofChange fnExactRowOfWrong)

/-- 'laws.FnExactSumRows': WHATEVER THE INPUT: true; the input reads as it did. -/
def fnExactSumRowsSpec : ChangeSpec := { name := "fnExactSumRows", vars := ["loop.example/g00647/impl.bitValues"], fn := fun _ => fun
  | [d1, d2, d3, g1] => { results := [.lit (.bool true)], args := [d1, d2, d3], vars := [g1] }
  | _ => none }
def fnExactSumRowsRow : OpenClaim := { program := "ytbdncpbbeodpbaadoor", sum := "c95dcea5e1946c745343fd8904b5792a435edffa659a94d95c47d5b3470b10bd", func := "loop.example/g00647/laws.FnExactSumRows", spec := "fnExactSumRows", named := ["loop.example/g00647/impl.bitValues"], apart := false, laid := [("loop.example/g00647/impl.bitValues", laid_loop_example_g00647_impl_bitValues)] }
def FnExactSumRowsSaid : Prop := fnExactSumRowsRow.holds Tryd.pinned (OpenSpec.ofChange fnExactSumRowsSpec)

/-- ITS FALSE NEIGHBOUR: 'it returns false'. Refute it at one input. -/
def fnExactSumRowsWrong : ChangeSpec := { name := "fnExactSumRows", vars := ["loop.example/g00647/impl.bitValues"], fn := fun _ => fun
  | [d1, d2, d3, g1] => { results := [.lit (.bool false)], args := [d1, d2, d3], vars := [g1] }
  | _ => none }
def FnExactSumRowsWrongFalsely : Prop := fnExactSumRowsRow.holds Tryd.pinned (OpenSpec.ofChange fnExactSumRowsWrong)

/-- 'laws.FnExactFarApart': WHATEVER THE INPUT: true; the input reads as it did. -/
def fnExactFarApartSpec : ChangeSpec := { name := "fnExactFarApart", vars := ["loop.example/g00647/impl.bitValues"], fn := fun _ => fun
  | [d1, d2, d3, g1] => { results := [.lit (.bool true)], args := [d1, d2, d3], vars := [g1] }
  | _ => none }
def fnExactFarApartRow : OpenClaim := { program := "ytbdncpbbeodpbaadoor", sum := "c95dcea5e1946c745343fd8904b5792a435edffa659a94d95c47d5b3470b10bd", func := "loop.example/g00647/laws.FnExactFarApart", spec := "fnExactFarApart", named := ["loop.example/g00647/impl.bitValues"], apart := false, laid := [("loop.example/g00647/impl.bitValues", laid_loop_example_g00647_impl_bitValues)] }
def FnExactFarApartSaid : Prop := fnExactFarApartRow.holds Tryd.pinned (OpenSpec.ofChange fnExactFarApartSpec)

/-- ITS FALSE NEIGHBOUR: 'it returns false'. Refute it at one input. -/
def fnExactFarApartWrong : ChangeSpec := { name := "fnExactFarApart", vars := ["loop.example/g00647/impl.bitValues"], fn := fun _ => fun
  | [d1, d2, d3, g1] => { results := [.lit (.bool false)], args := [d1, d2, d3], vars := [g1] }
  | _ => none }
def FnExactFarApartWrongFalsely : Prop := fnExactFarApartRow.holds Tryd.pinned (OpenSpec.ofChange fnExactFarApartWrong)

/- THE SECOND FORM. 'bulk': how many values and letters a reading holds, each counted each time it is reached (what is shared counts as often as it is met; a slice's spare places count too). A statement '..UptoSaid' is the law's where the arguments, and the package variables that the reading takes, are together of bulk at most 1048576: NARROWER than '..Said'. Prove '..Said' where nothing that the law and all that it calls make is longer than what came in: it says more and counts as full. Else prove '..UptoSaid'. A law counts once. -/
mutual
def uptoBulk {H : Type} : DataW H → Nat
  | .lit (.string bytes) => bytes.length + 1
  | .lit _ => 1
  | .nil => 1
  | .ptr d => uptoBulk d + 1
  | .slice elems spare => uptoBulkAll elems + uptoBulkAll spare + 1
  | .agg parts => uptoBulkAll parts + 1
  | .iface _ d => uptoBulk d + 1
  | .map entries => uptoBulkEntries entries + 1
  | .held _ => 1
def uptoBulkAll {H : Type} : List (DataW H) → Nat
  | [] => 0
  | d :: r => uptoBulk d + uptoBulkAll r
def uptoBulkEntries {H : Type} : List (Lit × DataW H) → Nat
  | [] => 0
  | x :: r => uptoBulkEntry x + uptoBulkEntries r
def uptoBulkEntry {H : Type} : Lit × DataW H → Nat
  | (.string bytes, d) => bytes.length + uptoBulk d + 1
  | (_, d) => uptoBulk d + 1
 end
def uptoSmall : (H : Type) → List (DataW H) → Bool := fun _ ds => decide (uptoBulkAll ds ≤ 1048576)
def OpenSpec.upto (s : _root_.Go.ChangeSpec) : _root_.Go.OpenSpec := { _root_.Go.OpenSpec.ofChange s with cond := some uptoSmall }

/-- 'laws.FnAdded', WHERE WHAT IT READS IS OF BULK AT MOST 1048576: true; the input reads as it did. -/
def fnAddedUptoRow : OpenClaim := { program := "ytbdncpbbeodpbaadoor", sum := "c95dcea5e1946c745343fd8904b5792a435edffa659a94d95c47d5b3470b10bd", func := "loop.example/g00647/laws.FnAdded", spec := "fnAdded", named := ["loop.example/g00647/impl.bitValues"], apart := false, laid := [("loop.example/g00647/impl.bitValues", laid_loop_example_g00647_impl_bitValues)], narrowed := true }
def FnAddedUptoSaid : Prop := fnAddedUptoRow.holds Tryd.pinned (OpenSpec.upto fnAddedSpec)

/-- 'laws.FnBits', WHERE WHAT IT READS IS OF BULK AT MOST 1048576: true; the input reads as it did. -/
def fnBitsUptoRow : OpenClaim := { program := "ytbdncpbbeodpbaadoor", sum := "c95dcea5e1946c745343fd8904b5792a435edffa659a94d95c47d5b3470b10bd", func := "loop.example/g00647/laws.FnBits", spec := "fnBits", named := ["loop.example/g00647/impl.bitValues"], apart := false, laid := [("loop.example/g00647/impl.bitValues", laid_loop_example_g00647_impl_bitValues)], narrowed := true }
def FnBitsUptoSaid : Prop := fnBitsUptoRow.holds Tryd.pinned (OpenSpec.upto fnBitsSpec)

/-- 'laws.FnExactGoodRow', WHERE WHAT IT READS IS OF BULK AT MOST 1048576: true; the input reads as it did. -/
def fnExactGoodRowUptoRow : OpenClaim := { program := "ytbdncpbbeodpbaadoor", sum := "c95dcea5e1946c745343fd8904b5792a435edffa659a94d95c47d5b3470b10bd", func := "loop.example/g00647/laws.FnExactGoodRow", spec := "fnExactGoodRow", named := ["loop.example/g00647/impl.bitValues"], apart := false, laid := [("loop.example/g00647/impl.bitValues", laid_loop_example_g00647_impl_bitValues)], narrowed := true }
def FnExactGoodRowUptoSaid : Prop := fnExactGoodRowUptoRow.holds Tryd.pinned (OpenSpec.upto fnExactGoodRowSpec)

/-- 'laws.FnExactAddRows', WHERE WHAT IT READS IS OF BULK AT MOST 1048576: true; the input reads as it did. -/
def fnExactAddRowsUptoRow : OpenClaim := { program := "ytbdncpbbeodpbaadoor", sum := "c95dcea5e1946c745343fd8904b5792a435edffa659a94d95c47d5b3470b10bd", func := "loop.example/g00647/laws.FnExactAddRows", spec := "fnExactAddRows", named := ["loop.example/g00647/impl.bitValues"], apart := false, laid := [("loop.example/g00647/impl.bitValues", laid_loop_example_g00647_impl_bitValues)], narrowed := true }
def FnExactAddRowsUptoSaid : Prop := fnExactAddRowsUptoRow.holds Tryd.pinned (OpenSpec.upto fnExactAddRowsSpec)

/-- 'laws.FnExactWeightOf', WHERE WHAT IT READS IS OF BULK AT MOST 1048576: true; the input reads as it did. -/
def fnExactWeightOfUptoRow : OpenClaim := { program := "ytbdncpbbeodpbaadoor", sum := "c95dcea5e1946c745343fd8904b5792a435edffa659a94d95c47d5b3470b10bd", func := "loop.example/g00647/laws.FnExactWeightOf", spec := "fnExactWeightOf", named := ["loop.example/g00647/impl.bitValues"], apart := false, laid := [("loop.example/g00647/impl.bitValues", laid_loop_example_g00647_impl_bitValues)], narrowed := true }
def FnExactWeightOfUptoSaid : Prop := fnExactWeightOfUptoRow.holds Tryd.pinned (OpenSpec.upto fnExactWeightOfSpec)

/-- 'laws.FnExactDotOf', WHERE WHAT IT READS IS OF BULK AT MOST 1048576: true; the input reads as it did. -/
def fnExactDotOfUptoRow : OpenClaim := { program := "ytbdncpbbeodpbaadoor", sum := "c95dcea5e1946c745343fd8904b5792a435edffa659a94d95c47d5b3470b10bd", func := "loop.example/g00647/laws.FnExactDotOf", spec := "fnExactDotOf", named := ["loop.example/g00647/impl.bitValues"], apart := false, laid := [("loop.example/g00647/impl.bitValues", laid_loop_example_g00647_impl_bitValues)], narrowed := true }
def FnExactDotOfUptoSaid : Prop := fnExactDotOfUptoRow.holds Tryd.pinned (OpenSpec.upto fnExactDotOfSpec)

/-- 'laws.FnExactBitsIn', WHERE WHAT IT READS IS OF BULK AT MOST 1048576: true; the input reads as it did. -/
def fnExactBitsInUptoRow : OpenClaim := { program := "ytbdncpbbeodpbaadoor", sum := "c95dcea5e1946c745343fd8904b5792a435edffa659a94d95c47d5b3470b10bd", func := "loop.example/g00647/laws.FnExactBitsIn", spec := "fnExactBitsIn", named := ["loop.example/g00647/impl.bitValues"], apart := false, laid := [("loop.example/g00647/impl.bitValues", laid_loop_example_g00647_impl_bitValues)], narrowed := true }
def FnExactBitsInUptoSaid : Prop := fnExactBitsInUptoRow.holds Tryd.pinned (OpenSpec.upto fnExactBitsInSpec)

/-- 'laws.FnExactRowOf', WHERE WHAT IT READS IS OF BULK AT MOST 1048576: true; the input reads as it did. -/
def fnExactRowOfUptoRow : OpenClaim := { program := "ytbdncpbbeodpbaadoor", sum := "c95dcea5e1946c745343fd8904b5792a435edffa659a94d95c47d5b3470b10bd", func := "loop.example/g00647/laws.FnExactRowOf", spec := "fnExactRowOf", named := ["loop.example/g00647/impl.bitValues"], apart := false, laid := [("loop.example/g00647/impl.bitValues", laid_loop_example_g00647_impl_bitValues)], narrowed := true }
def FnExactRowOfUptoSaid : Prop := fnExactRowOfUptoRow.holds Tryd.pinned (OpenSpec.upto fnExactRowOfSpec)

/-- 'laws.FnExactSumRows', WHERE WHAT IT READS IS OF BULK AT MOST 1048576: true; the input reads as it did. -/
def fnExactSumRowsUptoRow : OpenClaim := { program := "ytbdncpbbeodpbaadoor", sum := "c95dcea5e1946c745343fd8904b5792a435edffa659a94d95c47d5b3470b10bd", func := "loop.example/g00647/laws.FnExactSumRows", spec := "fnExactSumRows", named := ["loop.example/g00647/impl.bitValues"], apart := false, laid := [("loop.example/g00647/impl.bitValues", laid_loop_example_g00647_impl_bitValues)], narrowed := true }
def FnExactSumRowsUptoSaid : Prop := fnExactSumRowsUptoRow.holds Tryd.pinned (OpenSpec.upto fnExactSumRowsSpec)

/-- 'laws.FnExactFarApart', WHERE WHAT IT READS IS OF BULK AT MOST 1048576: true; the input reads as it did. -/
def fnExactFarApartUptoRow : OpenClaim := { program := "ytbdncpbbeodpbaadoor", sum := "c95dcea5e1946c745343fd8904b5792a435edffa659a94d95c47d5b3470b10bd", func := "loop.example/g00647/laws.FnExactFarApart", spec := "fnExactFarApart", named := ["loop.example/g00647/impl.bitValues"], apart := false, laid := [("loop.example/g00647/impl.bitValues", laid_loop_example_g00647_impl_bitValues)], narrowed := true }
def FnExactFarApartUptoSaid : Prop := fnExactFarApartUptoRow.holds Tryd.pinned (OpenSpec.upto fnExactFarApartSpec)

end Rows
end Go.Proofs.YtbdncpbbeodpbaaDoor
