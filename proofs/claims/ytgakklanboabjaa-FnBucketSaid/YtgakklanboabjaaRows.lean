/-
  No cell of these rows narrows 'for every input' (looked for: loops, veiled, ifaces, maps, wideKeys, modest, calm, conditions, laid).
  DERIVED. THE GIVEN ROWS OF THIS SEAT. 9 by the template 'for every input the law returns true; each argument reads behind the call as it read before'; 0 by the template 'total and deterministic' (their statements: YtgakklanboabjaaTotals.lean).
  GIVEN WITH THE SEED: the statements are not yours to turn. If you find one false, say at which input.
  Laid BY PROGRAM, IN A SANDBOX (cutbox-rows.mjs): the forced cells as the released guide's own fill.sh prints them over the translation 8d28196c7a1ee00d… (all of the seat's roots in one cut). By AI agents, Wed Nov 11 2026. No macro, syntax, notation, axiom, sorry.
-/
import Derived.Test.YtgakklanboabjaaChecked
import GoSem.Claim
import GoSem.ClaimJoined
import GoSem.ClaimMapViews
import Derived.JoinedTies
import Derived.KernelRfl
namespace Go.Proofs.Ytgakklanboabjaa
/- THE CELL 'sum', in the pinned program and in every row, IS THE sha256 OF THE DUMP (.gsa) THAT YtgakklanboabjaaProg.lean LOADS. Nothing in Lean hashes anything: it is a label: what it is worth is what the hold of that sum in a sandbox is worth. -/
noncomputable def Try.pinned : Pinned := { name := "ytgakklanboabjaa", sum := "8d28196c7a1ee00d7dc9e6b2eb800fcbb15a52a23c79cf4bac8cc250efdf6673", checked := Try.checked }
namespace Rows
def none {H : Type} : Left H := { results := [], args := [] }

/-- 'laws.FnBucket': WHATEVER THE INPUT: true; the input reads as it did. -/
def fnBucketSpec : ChangeSpec := { name := "fnBucket", fn := fun _ => fun
  | [d1, d2] => { results := [.lit (.bool true)], args := [d1, d2] }
  | _ => none }
def fnBucketRow : OpenClaim := { program := "ytgakklanboabjaa", sum := "8d28196c7a1ee00d7dc9e6b2eb800fcbb15a52a23c79cf4bac8cc250efdf6673", func := "loop.example/g00647/laws.FnBucket", spec := "fnBucket", unfollowed := true, recurses := true, apart := false }
def FnBucketSaid : Prop := fnBucketRow.holds Try.pinned (OpenSpec.ofChange fnBucketSpec)

/-- ITS FALSE NEIGHBOUR: 'it returns false'. Refute it at one input. -/
def fnBucketWrong : ChangeSpec := { name := "fnBucket", fn := fun _ => fun
  | [d1, d2] => { results := [.lit (.bool false)], args := [d1, d2] }
  | _ => none }
def FnBucketWrongFalsely : Prop := fnBucketRow.holds Try.pinned (OpenSpec.ofChange fnBucketWrong)

/-- 'laws.FnFilled': WHATEVER THE INPUT: true; the input reads as it did. -/
def fnFilledSpec : ChangeSpec := { name := "fnFilled", fn := fun _ => fun
  | [d1, d2] => { results := [.lit (.bool true)], args := [d1, d2] }
  | _ => none }
def fnFilledRow : OpenClaim := { program := "ytgakklanboabjaa", sum := "8d28196c7a1ee00d7dc9e6b2eb800fcbb15a52a23c79cf4bac8cc250efdf6673", func := "loop.example/g00647/laws.FnFilled", spec := "fnFilled", unfollowed := true, recurses := true, apart := false }
def FnFilledSaid : Prop := fnFilledRow.holds Try.pinned (OpenSpec.ofChange fnFilledSpec)

/-- ITS FALSE NEIGHBOUR: 'it returns false'. Refute it at one input. -/
def fnFilledWrong : ChangeSpec := { name := "fnFilled", fn := fun _ => fun
  | [d1, d2] => { results := [.lit (.bool false)], args := [d1, d2] }
  | _ => none }
def FnFilledWrongFalsely : Prop := fnFilledRow.holds Try.pinned (OpenSpec.ofChange fnFilledWrong)

/-- 'laws.FnExactNewBucket': WHATEVER THE INPUT: true; the input reads as it did. -/
def fnExactNewBucketSpec : ChangeSpec := { name := "fnExactNewBucket", fn := fun _ => fun
  | [d1, d2] => { results := [.lit (.bool true)], args := [d1, d2] }
  | _ => none }
def fnExactNewBucketRow : OpenClaim := { program := "ytgakklanboabjaa", sum := "8d28196c7a1ee00d7dc9e6b2eb800fcbb15a52a23c79cf4bac8cc250efdf6673", func := "loop.example/g00647/laws.FnExactNewBucket", spec := "fnExactNewBucket", apart := false }
def FnExactNewBucketSaid : Prop := fnExactNewBucketRow.holds Try.pinned (OpenSpec.ofChange fnExactNewBucketSpec)

/-- ITS FALSE NEIGHBOUR: 'it returns false'. Refute it at one input. -/
def fnExactNewBucketWrong : ChangeSpec := { name := "fnExactNewBucket", fn := fun _ => fun
  | [d1, d2] => { results := [.lit (.bool false)], args := [d1, d2] }
  | _ => none }
def FnExactNewBucketWrongFalsely : Prop := fnExactNewBucketRow.holds Try.pinned (OpenSpec.ofChange fnExactNewBucketWrong)

/-- 'laws.FnExactGoodBucket': WHATEVER THE INPUT: true; the input reads as it did. -/
def fnExactGoodBucketSpec : ChangeSpec := { name := "fnExactGoodBucket", fn := fun _ => fun
  | [d] => { results := [.lit (.bool true)], args := [d] }
  | _ => none }
def fnExactGoodBucketRow : OpenClaim := { program := "ytgakklanboabjaa", sum := "8d28196c7a1ee00d7dc9e6b2eb800fcbb15a52a23c79cf4bac8cc250efdf6673", func := "loop.example/g00647/laws.FnExactGoodBucket", spec := "fnExactGoodBucket", apart := false }
def FnExactGoodBucketSaid : Prop := fnExactGoodBucketRow.holds Try.pinned (OpenSpec.ofChange fnExactGoodBucketSpec)

/-- ITS FALSE NEIGHBOUR: 'it returns false'. Refute it at one input. -/
def fnExactGoodBucketWrong : ChangeSpec := { name := "fnExactGoodBucket", fn := fun _ => fun
  | [d] => { results := [.lit (.bool false)], args := [d] }
  | _ => none }
def FnExactGoodBucketWrongFalsely : Prop := fnExactGoodBucketRow.holds Try.pinned (OpenSpec.ofChange fnExactGoodBucketWrong)

/-- 'laws.FnExactFillTo': WHATEVER THE INPUT: true; the input reads as it did. -/
def fnExactFillToSpec : ChangeSpec := { name := "fnExactFillTo", fn := fun _ => fun
  | [d1, d2] => { results := [.lit (.bool true)], args := [d1, d2] }
  | _ => none }
def fnExactFillToRow : OpenClaim := { program := "ytgakklanboabjaa", sum := "8d28196c7a1ee00d7dc9e6b2eb800fcbb15a52a23c79cf4bac8cc250efdf6673", func := "loop.example/g00647/laws.FnExactFillTo", spec := "fnExactFillTo", unfollowed := true, recurses := true, apart := false }
def FnExactFillToSaid : Prop := fnExactFillToRow.holds Try.pinned (OpenSpec.ofChange fnExactFillToSpec)

/-- ITS FALSE NEIGHBOUR: 'it returns false'. Refute it at one input. -/
def fnExactFillToWrong : ChangeSpec := { name := "fnExactFillTo", fn := fun _ => fun
  | [d1, d2] => { results := [.lit (.bool false)], args := [d1, d2] }
  | _ => none }
def FnExactFillToWrongFalsely : Prop := fnExactFillToRow.holds Try.pinned (OpenSpec.ofChange fnExactFillToWrong)

/-- 'laws.FnExactTakeFrom': WHATEVER THE INPUT: true; the input reads as it did. -/
def fnExactTakeFromSpec : ChangeSpec := { name := "fnExactTakeFrom", fn := fun _ => fun
  | [d1, d2] => { results := [.lit (.bool true)], args := [d1, d2] }
  | _ => none }
def fnExactTakeFromRow : OpenClaim := { program := "ytgakklanboabjaa", sum := "8d28196c7a1ee00d7dc9e6b2eb800fcbb15a52a23c79cf4bac8cc250efdf6673", func := "loop.example/g00647/laws.FnExactTakeFrom", spec := "fnExactTakeFrom", unfollowed := true, recurses := true, apart := false }
def FnExactTakeFromSaid : Prop := fnExactTakeFromRow.holds Try.pinned (OpenSpec.ofChange fnExactTakeFromSpec)

/-- ITS FALSE NEIGHBOUR: 'it returns false'. Refute it at one input. -/
def fnExactTakeFromWrong : ChangeSpec := { name := "fnExactTakeFrom", fn := fun _ => fun
  | [d1, d2] => { results := [.lit (.bool false)], args := [d1, d2] }
  | _ => none }
def FnExactTakeFromWrongFalsely : Prop := fnExactTakeFromRow.holds Try.pinned (OpenSpec.ofChange fnExactTakeFromWrong)

/-- 'laws.FnExactPlayBucket': WHATEVER THE INPUT: true; the input reads as it did. -/
def fnExactPlayBucketSpec : ChangeSpec := { name := "fnExactPlayBucket", fn := fun _ => fun
  | [d1, d2] => { results := [.lit (.bool true)], args := [d1, d2] }
  | _ => none }
def fnExactPlayBucketRow : OpenClaim := { program := "ytgakklanboabjaa", sum := "8d28196c7a1ee00d7dc9e6b2eb800fcbb15a52a23c79cf4bac8cc250efdf6673", func := "loop.example/g00647/laws.FnExactPlayBucket", spec := "fnExactPlayBucket", unfollowed := true, recurses := true, apart := false }
def FnExactPlayBucketSaid : Prop := fnExactPlayBucketRow.holds Try.pinned (OpenSpec.ofChange fnExactPlayBucketSpec)

/-- ITS FALSE NEIGHBOUR: 'it returns false'. Refute it at one input. -/
def fnExactPlayBucketWrong : ChangeSpec := { name := "fnExactPlayBucket", fn := fun _ => fun
  | [d1, d2] => { results := [.lit (.bool false)], args := [d1, d2] }
  | _ => none }
def FnExactPlayBucketWrongFalsely : Prop := fnExactPlayBucketRow.holds Try.pinned (OpenSpec.ofChange fnExactPlayBucketWrong)

/-- 'laws.FnExactWaitFor': WHATEVER THE INPUT: true; the input reads as it did. -/
def fnExactWaitForSpec : ChangeSpec := { name := "fnExactWaitFor", fn := fun _ => fun
  | [d1, d2] => { results := [.lit (.bool true)], args := [d1, d2] }
  | _ => none }
def fnExactWaitForRow : OpenClaim := { program := "ytgakklanboabjaa", sum := "8d28196c7a1ee00d7dc9e6b2eb800fcbb15a52a23c79cf4bac8cc250efdf6673", func := "loop.example/g00647/laws.FnExactWaitFor", spec := "fnExactWaitFor", unfollowed := true, recurses := true, apart := false }
def FnExactWaitForSaid : Prop := fnExactWaitForRow.holds Try.pinned (OpenSpec.ofChange fnExactWaitForSpec)

/-- ITS FALSE NEIGHBOUR: 'it returns false'. Refute it at one input. -/
def fnExactWaitForWrong : ChangeSpec := { name := "fnExactWaitFor", fn := fun _ => fun
  | [d1, d2] => { results := [.lit (.bool false)], args := [d1, d2] }
  | _ => none }
def FnExactWaitForWrongFalsely : Prop := fnExactWaitForRow.holds Try.pinned (OpenSpec.ofChange fnExactWaitForWrong)

/-- 'laws.FnExactSumTaken': WHATEVER THE INPUT: true; the input reads as it did. -/
def fnExactSumTakenSpec : ChangeSpec := { name := "fnExactSumTaken", fn := fun _ => fun
  | [d1, d2, d3, d4] => { results := [.lit (.bool true)], args := [d1, d2, d3, d4] }
  | _ => none }
def fnExactSumTakenRow : OpenClaim := { program := "ytgakklanboabjaa", sum := "8d28196c7a1ee00d7dc9e6b2eb800fcbb15a52a23c79cf4bac8cc250efdf6673", func := "loop.example/g00647/laws.FnExactSumTaken", spec := "fnExactSumTaken", apart := false }
def FnExactSumTakenSaid : Prop := fnExactSumTakenRow.holds Try.pinned (OpenSpec.ofChange fnExactSumTakenSpec)

/-- ITS FALSE NEIGHBOUR: 'it returns false'. Refute it at one input. -/
def fnExactSumTakenWrong : ChangeSpec := { name := "fnExactSumTaken", fn := fun _ => fun
  | [d1, d2, d3, d4] => { results := [.lit (.bool false)], args := [d1, d2, d3, d4] }
  | _ => none }
def FnExactSumTakenWrongFalsely : Prop := fnExactSumTakenRow.holds Try.pinned (OpenSpec.ofChange fnExactSumTakenWrong)

/- THE SECOND FORM. 'bulk': how many values and letters a reading holds, each counted each time it is reached (what is shared counts as often as it is met; a slice's spare places count too). A statement '..UptoSaid' is the law's where the arguments, and the package variables that the reading takes, are together of bulk at most 1048576: NARROWER than '..Said'. Prove '..Said' where nothing that the law and all that it calls make is longer than what came in: it says more and counts as full. Else prove '..UptoSaid'. A law counts once. -/
mutual
def uptoBulk {H : Type} : DataW H → Nat
  | .lit (.string bytes) => bytes.length + 1
  | .lit _ => 1
  | .nil => 1
  | .ptr d => uptoBulk d + 1
  | .slice elems spare => uptoBulkAll elems + uptoBulkAll spare + 1
  | .agg parts => uptoBulkAll parts + 1
  | .iface _ d => uptoBulk d + 1
  | .map entries => uptoBulkEntries entries + 1
  | .held _ => 1
def uptoBulkAll {H : Type} : List (DataW H) → Nat
  | [] => 0
  | d :: r => uptoBulk d + uptoBulkAll r
def uptoBulkEntries {H : Type} : List (Lit × DataW H) → Nat
  | [] => 0
  | x :: r => uptoBulkEntry x + uptoBulkEntries r
def uptoBulkEntry {H : Type} : Lit × DataW H → Nat
  | (.string bytes, d) => bytes.length + uptoBulk d + 1
  | (_, d) => uptoBulk d + 1
 end
def uptoSmall : (H : Type) → List (DataW H) → Bool := fun _ ds => decide (uptoBulkAll ds ≤ 1048576)
def OpenSpec.upto (s : _root_.Go.ChangeSpec) : _root_.Go.OpenSpec := { _root_.Go.OpenSpec.ofChange s with cond := some uptoSmall }

/-- 'laws.FnBucket', WHERE WHAT IT READS IS OF BULK AT MOST 1048576: true; the input reads as it did. -/
def fnBucketUptoRow : OpenClaim := { program := "ytgakklanboabjaa", sum := "8d28196c7a1ee00d7dc9e6b2eb800fcbb15a52a23c79cf4bac8cc250efdf6673", func := "loop.example/g00647/laws.FnBucket", spec := "fnBucket", unfollowed := true, recurses := true, apart := false, narrowed := true }
def FnBucketUptoSaid : Prop := fnBucketUptoRow.holds Try.pinned (OpenSpec.upto fnBucketSpec)

/-- 'laws.FnFilled', WHERE WHAT IT READS IS OF BULK AT MOST 1048576: true; the input reads as it did. -/
def fnFilledUptoRow : OpenClaim := { program := "ytgakklanboabjaa", sum := "8d28196c7a1ee00d7dc9e6b2eb800fcbb15a52a23c79cf4bac8cc250efdf6673", func := "loop.example/g00647/laws.FnFilled", spec := "fnFilled", unfollowed := true, recurses := true, apart := false, narrowed := true }
def FnFilledUptoSaid : Prop := fnFilledUptoRow.holds Try.pinned (OpenSpec.upto fnFilledSpec)

/-- 'laws.FnExactNewBucket', WHERE WHAT IT READS IS OF BULK AT MOST 1048576: true; the input reads as it did. -/
def fnExactNewBucketUptoRow : OpenClaim := { program := "ytgakklanboabjaa", sum := "8d28196c7a1ee00d7dc9e6b2eb800fcbb15a52a23c79cf4bac8cc250efdf6673", func := "loop.example/g00647/laws.FnExactNewBucket", spec := "fnExactNewBucket", apart := false, narrowed := true }
def FnExactNewBucketUptoSaid : Prop := fnExactNewBucketUptoRow.holds Try.pinned (OpenSpec.upto fnExactNewBucketSpec)

/-- 'laws.FnExactGoodBucket', WHERE WHAT IT READS IS OF BULK AT MOST 1048576: true; the input reads as it did. -/
def fnExactGoodBucketUptoRow : OpenClaim := { program := "ytgakklanboabjaa", sum := "8d28196c7a1ee00d7dc9e6b2eb800fcbb15a52a23c79cf4bac8cc250efdf6673", func := "loop.example/g00647/laws.FnExactGoodBucket", spec := "fnExactGoodBucket", apart := false, narrowed := true }
def FnExactGoodBucketUptoSaid : Prop := fnExactGoodBucketUptoRow.holds Try.pinned (OpenSpec.upto fnExactGoodBucketSpec)

/-- 'laws.FnExactFillTo', WHERE WHAT IT READS IS OF BULK AT MOST 1048576: true; the input reads as it did. -/
def fnExactFillToUptoRow : OpenClaim := { program := "ytgakklanboabjaa", sum := "8d28196c7a1ee00d7dc9e6b2eb800fcbb15a52a23c79cf4bac8cc250efdf6673", func := "loop.example/g00647/laws.FnExactFillTo", spec := "fnExactFillTo", unfollowed := true, recurses := true, apart := false, narrowed := true }
def FnExactFillToUptoSaid : Prop := fnExactFillToUptoRow.holds Try.pinned (OpenSpec.upto fnExactFillToSpec)

/-- 'laws.FnExactTakeFrom', WHERE WHAT IT READS IS OF BULK AT MOST 1048576: true; the input reads as it did. -/
def fnExactTakeFromUptoRow : OpenClaim := { program := "ytgakklanboabjaa", sum := "8d28196c7a1ee00d7dc9e6b2eb800fcbb15a52a23c79cf4bac8cc250efdf6673", func := "loop.example/g00647/laws.FnExactTakeFrom", spec := "fnExactTakeFrom", unfollowed := true, recurses := true, apart := false, narrowed := true }
def FnExactTakeFromUptoSaid : Prop := fnExactTakeFromUptoRow.holds Try.pinned (OpenSpec.upto fnExactTakeFromSpec)

/-- 'laws.FnExactPlayBucket', WHERE WHAT IT READS IS OF BULK AT MOST 1048576: true; the input reads as it did. -/
def fnExactPlayBucketUptoRow : OpenClaim := { program := "ytgakklanboabjaa", sum := "8d28196c7a1ee00d7dc9e6b2eb800fcbb15a52a23c79cf4bac8cc250efdf6673", func := "loop.example/g00647/laws.FnExactPlayBucket", spec := "fnExactPlayBucket", unfollowed := true, recurses := true, apart := false, narrowed := true }
def FnExactPlayBucketUptoSaid : Prop := fnExactPlayBucketUptoRow.holds Try.pinned (OpenSpec.upto fnExactPlayBucketSpec)

/-- 'laws.FnExactWaitFor', WHERE WHAT IT READS IS OF BULK AT MOST 1048576: true; the input reads as it did. -/
def fnExactWaitForUptoRow : OpenClaim := { program := "ytgakklanboabjaa", sum := "8d28196c7a1ee00d7dc9e6b2eb800fcbb15a52a23c79cf4bac8cc250efdf6673", func := "loop.example/g00647/laws.FnExactWaitFor", spec := "fnExactWaitFor", unfollowed := true, recurses := true, apart := false, narrowed := true }
def FnExactWaitForUptoSaid : Prop := fnExactWaitForUptoRow.holds Try.pinned (OpenSpec.upto fnExactWaitForSpec)

/-- 'laws.FnExactSumTaken', WHERE WHAT IT READS IS OF BULK AT MOST 1048576: true; the input reads as it did. -/
def fnExactSumTakenUptoRow : OpenClaim := { program := "ytgakklanboabjaa", sum := "8d28196c7a1ee00d7dc9e6b2eb800fcbb15a52a23c79cf4bac8cc250efdf6673", func := "loop.example/g00647/laws.FnExactSumTaken", spec := "fnExactSumTaken", apart := false, narrowed := true }
def FnExactSumTakenUptoSaid : Prop := fnExactSumTakenUptoRow.holds Try.pinned (OpenSpec.upto fnExactSumTakenSpec)

end Rows
end Go.Proofs.Ytgakklanboabjaa
