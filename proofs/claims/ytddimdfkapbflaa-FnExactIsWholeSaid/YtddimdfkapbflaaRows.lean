/-
  No cell of these rows narrows 'for every input' (looked for: loops, veiled, ifaces, maps, wideKeys, modest, calm, conditions, laid).
  DERIVED. THE GIVEN ROWS OF THIS SEAT. 3 by the template 'for every input the law returns true; each argument reads behind the call as it read before'; 0 by the template 'total and deterministic' (their statements: YtddimdfkapbflaaTotals.lean).
  GIVEN WITH THE SEED: the statements are not yours to turn. If you find one false, say at which input.
  Laid BY PROGRAM, IN A SANDBOX (cutbox-rows.mjs): the forced cells as the released guide's own fill.sh prints them over the translation 20fdb3ae0ebc76da… (all of the seat's roots in one cut). By AI agents, Wed Nov 11 2026. No macro, syntax, notation, axiom, sorry.
-/
import Derived.Test.YtddimdfkapbflaaChecked
import GoSem.Claim
import GoSem.ClaimJoined
import GoSem.ClaimMapViews
import Derived.JoinedTies
import Derived.KernelRfl
namespace Go.Proofs.Ytddimdfkapbflaa
/- THE CELL 'sum', in the pinned program and in every row, IS THE sha256 OF THE DUMP (.gsa) THAT YtddimdfkapbflaaProg.lean LOADS. Nothing in Lean hashes anything: it is a label: what it is worth is what the hold of that sum in a sandbox is worth. -/
noncomputable def Try.pinned : Pinned := { name := "ytddimdfkapbflaa", sum := "20fdb3ae0ebc76da0daec01d89c9287ecb09e10cdf91fec1e8f114d5cf336ae5", checked := Try.checked }
namespace Rows
def none {H : Type} : Left H := { results := [], args := [] }

/-- 'laws.FnExactExtraFor': WHATEVER THE INPUT: true; the input reads as it did. -/
def fnExactExtraForSpec : ChangeSpec := { name := "fnExactExtraFor", fn := fun _ => fun
  | [d1, d2] => { results := [.lit (.bool true)], args := [d1, d2] }
  | _ => none }
def fnExactExtraForRow : OpenClaim := { program := "ytddimdfkapbflaa", sum := "20fdb3ae0ebc76da0daec01d89c9287ecb09e10cdf91fec1e8f114d5cf336ae5", func := "loop.example/g00647/laws.FnExactExtraFor", spec := "fnExactExtraFor", apart := false }
def FnExactExtraForSaid : Prop := fnExactExtraForRow.holds Try.pinned (OpenSpec.ofChange fnExactExtraForSpec)

/-- ITS FALSE NEIGHBOUR: 'it returns false'. Refute it at one input. -/
def fnExactExtraForWrong : ChangeSpec := { name := "fnExactExtraFor", fn := fun _ => fun
  | [d1, d2] => { results := [.lit (.bool false)], args := [d1, d2] }
  | _ => none }
def FnExactExtraForWrongFalsely : Prop := fnExactExtraForRow.holds Try.pinned (OpenSpec.ofChange fnExactExtraForWrong)

/-- 'laws.FnExactWithExtra': WHATEVER THE INPUT: true; the input reads as it did. -/
def fnExactWithExtraSpec : ChangeSpec := { name := "fnExactWithExtra", fn := fun _ => fun
  | [d] => { results := [.lit (.bool true)], args := [d] }
  | _ => none }
def fnExactWithExtraRow : OpenClaim := { program := "ytddimdfkapbflaa", sum := "20fdb3ae0ebc76da0daec01d89c9287ecb09e10cdf91fec1e8f114d5cf336ae5", func := "loop.example/g00647/laws.FnExactWithExtra", spec := "fnExactWithExtra", apart := false }
def FnExactWithExtraSaid : Prop := fnExactWithExtraRow.holds Try.pinned (OpenSpec.ofChange fnExactWithExtraSpec)

/-- ITS FALSE NEIGHBOUR: 'it returns false'. Refute it at one input. -/
def fnExactWithExtraWrong : ChangeSpec := { name := "fnExactWithExtra", fn := fun _ => fun
  | [d] => { results := [.lit (.bool false)], args := [d] }
  | _ => none }
def FnExactWithExtraWrongFalsely : Prop := fnExactWithExtraRow.holds Try.pinned (OpenSpec.ofChange fnExactWithExtraWrong)

/-- 'laws.FnExactIsWhole': WHATEVER THE INPUT: true; the input reads as it did. -/
def fnExactIsWholeSpec : ChangeSpec := { name := "fnExactIsWhole", fn := fun _ => fun
  | [d] => { results := [.lit (.bool true)], args := [d] }
  | _ => none }
def fnExactIsWholeRow : OpenClaim := { program := "ytddimdfkapbflaa", sum := "20fdb3ae0ebc76da0daec01d89c9287ecb09e10cdf91fec1e8f114d5cf336ae5", func := "loop.example/g00647/laws.FnExactIsWhole", spec := "fnExactIsWhole", apart := false }
def FnExactIsWholeSaid : Prop := fnExactIsWholeRow.holds Try.pinned (OpenSpec.ofChange fnExactIsWholeSpec)

/-- ITS FALSE NEIGHBOUR: 'it returns false'. Refute it at one input. -/
def fnExactIsWholeWrong : ChangeSpec := { name := "fnExactIsWhole", fn := fun _ => fun
  | [d] => { results := [.lit (.bool false)], args := [d] }
  | _ => none }
def FnExactIsWholeWrongFalsely : Prop := fnExactIsWholeRow.holds Try.pinned (OpenSpec.ofChange fnExactIsWholeWrong)

/- THE SECOND FORM. 'bulk': how many values and letters a reading holds, each counted each time it is reached (what is shared counts as often as it is met; a slice's spare places count too). A statement '..UptoSaid' is the law's where the arguments, and the package variables that the reading takes, are together of bulk at most 1048576: NARROWER than '..Said'. Prove '..Said' where nothing that the law and all that it calls make is longer than what came in: it says more and counts as full. Else prove '..UptoSaid'. A law counts once. -/
mutual
def uptoBulk {H : Type} : DataW H → Nat
  | .lit (.string bytes) => bytes.length + 1
  | .lit _ => 1
  | .nil => 1
  | .ptr d => uptoBulk d + 1
  | .slice elems spare => uptoBulkAll elems + uptoBulkAll spare + 1
  | .agg parts => uptoBulkAll parts + 1
  | .iface _ d => uptoBulk d + 1
  | .map entries => uptoBulkEntries entries + 1
  | .held _ => 1
def uptoBulkAll {H : Type} : List (DataW H) → Nat
  | [] => 0
  | d :: r => uptoBulk d + uptoBulkAll r
def uptoBulkEntries {H : Type} : List (Lit × DataW H) → Nat
  | [] => 0
  | x :: r => uptoBulkEntry x + uptoBulkEntries r
def uptoBulkEntry {H : Type} : Lit × DataW H → Nat
  | (.string bytes, d) => bytes.length + uptoBulk d + 1
  | (_, d) => uptoBulk d + 1
 end
def uptoSmall : (H : Type) → List (DataW H) → Bool := fun _ ds => decide (uptoBulkAll ds ≤ 1048576)
def OpenSpec.upto (s : _root_.Go.ChangeSpec) : _root_.Go.OpenSpec := { _root_.Go.OpenSpec.ofChange s with cond := some uptoSmall }

/-- 'laws.FnExactExtraFor', WHERE WHAT IT READS IS OF BULK AT MOST 1048576: true; the input reads as it did. -/
def fnExactExtraForUptoRow : OpenClaim := { program := "ytddimdfkapbflaa", sum := "20fdb3ae0ebc76da0daec01d89c9287ecb09e10cdf91fec1e8f114d5cf336ae5", func := "loop.example/g00647/laws.FnExactExtraFor", spec := "fnExactExtraFor", apart := false, narrowed := true }
def FnExactExtraForUptoSaid : Prop := fnExactExtraForUptoRow.holds Try.pinned (OpenSpec.upto fnExactExtraForSpec)

/-- 'laws.FnExactWithExtra', WHERE WHAT IT READS IS OF BULK AT MOST 1048576: true; the input reads as it did. -/
def fnExactWithExtraUptoRow : OpenClaim := { program := "ytddimdfkapbflaa", sum := "20fdb3ae0ebc76da0daec01d89c9287ecb09e10cdf91fec1e8f114d5cf336ae5", func := "loop.example/g00647/laws.FnExactWithExtra", spec := "fnExactWithExtra", apart := false, narrowed := true }
def FnExactWithExtraUptoSaid : Prop := fnExactWithExtraUptoRow.holds Try.pinned (OpenSpec.upto fnExactWithExtraSpec)

/-- 'laws.FnExactIsWhole', WHERE WHAT IT READS IS OF BULK AT MOST 1048576: true; the input reads as it did. -/
def fnExactIsWholeUptoRow : OpenClaim := { program := "ytddimdfkapbflaa", sum := "20fdb3ae0ebc76da0daec01d89c9287ecb09e10cdf91fec1e8f114d5cf336ae5", func := "loop.example/g00647/laws.FnExactIsWhole", spec := "fnExactIsWhole", apart := false, narrowed := true }
def FnExactIsWholeUptoSaid : Prop := fnExactIsWholeUptoRow.holds Try.pinned (OpenSpec.upto fnExactIsWholeSpec)

end Rows
end Go.Proofs.Ytddimdfkapbflaa
