/-
  No cell of these rows narrows 'for every input' (looked for: loops, veiled, ifaces, maps, wideKeys, modest, calm, conditions, laid).
  DERIVED. THE GIVEN ROWS OF THIS SEAT. 8 by the template 'for every input the law returns true; each argument reads behind the call as it read before'; 0 by the template 'total and deterministic' (their statements: YthmnenejfonfgaaTotals.lean).
  GIVEN WITH THE SEED: the statements are not yours to turn. If you find one false, say at which input.
  Laid BY PROGRAM, IN A SANDBOX (cutbox-rows.mjs): the forced cells as the released guide's own fill.sh prints them over the translation 18ae1bce477c6a0c… (all of the seat's roots in one cut). By AI agents, Wed Nov 11 2026. No macro, syntax, notation, axiom, sorry.
-/
import Derived.Test.YthmnenejfonfgaaChecked
import GoSem.Claim
import GoSem.ClaimJoined
import GoSem.ClaimMapViews
import Derived.JoinedTies
import Derived.KernelRfl
namespace Go.Proofs.Ythmnenejfonfgaa
/- THE CELL 'sum', in the pinned program and in every row, IS THE sha256 OF THE DUMP (.gsa) THAT YthmnenejfonfgaaProg.lean LOADS. Nothing in Lean hashes anything: it is a label: what it is worth is what the hold of that sum in a sandbox is worth. -/
noncomputable def Try.pinned : Pinned := { name := "ythmnenejfonfgaa", sum := "18ae1bce477c6a0c41456b9f28e87e4564079ec1efe8be104e16ed68cc76821e", checked := Try.checked }
namespace Rows
def none {H : Type} : Left H := { results := [], args := [] }

/-- 'laws.FnLeases': WHATEVER THE INPUT: true; the input reads as it did. -/
def fnLeasesSpec : ChangeSpec := { name := "fnLeases", fn := fun _ => fun
  | [d1, d2] => { results := [.lit (.bool true)], args := [d1, d2] }
  | _ => none }
def fnLeasesRow : OpenClaim := { program := "ythmnenejfonfgaa", sum := "18ae1bce477c6a0c41456b9f28e87e4564079ec1efe8be104e16ed68cc76821e", func := "loop.example/g00647/laws.FnLeases", spec := "fnLeases", unfollowed := true, recurses := true, apart := false }
def FnLeasesSaid : Prop := fnLeasesRow.holds Try.pinned (OpenSpec.ofChange fnLeasesSpec)

/-- ITS FALSE NEIGHBOUR: 'it returns false'. Refute it at one input. -/
def fnLeasesWrong : ChangeSpec := { name := "fnLeases", fn := fun _ => fun
  | [d1, d2] => { results := [.lit (.bool false)], args := [d1, d2] }
  | _ => none }
def FnLeasesWrongFalsely : Prop := fnLeasesRow.holds Try.pinned (OpenSpec.ofChange fnLeasesWrong)

/-- 'laws.FnLent': WHATEVER THE INPUT: true; the input reads as it did. -/
def fnLentSpec : ChangeSpec := { name := "fnLent", fn := fun _ => fun
  | [d1, d2] => { results := [.lit (.bool true)], args := [d1, d2] }
  | _ => none }
def fnLentRow : OpenClaim := { program := "ythmnenejfonfgaa", sum := "18ae1bce477c6a0c41456b9f28e87e4564079ec1efe8be104e16ed68cc76821e", func := "loop.example/g00647/laws.FnLent", spec := "fnLent", apart := false }
def FnLentSaid : Prop := fnLentRow.holds Try.pinned (OpenSpec.ofChange fnLentSpec)

/-- ITS FALSE NEIGHBOUR: 'it returns false'. Refute it at one input. -/
def fnLentWrong : ChangeSpec := { name := "fnLent", fn := fun _ => fun
  | [d1, d2] => { results := [.lit (.bool false)], args := [d1, d2] }
  | _ => none }
def FnLentWrongFalsely : Prop := fnLentRow.holds Try.pinned (OpenSpec.ofChange fnLentWrong)

/-- 'laws.FnExactGoodLease': WHATEVER THE INPUT: true; the input reads as it did. -/
def fnExactGoodLeaseSpec : ChangeSpec := { name := "fnExactGoodLease", fn := fun _ => fun
  | [d] => { results := [.lit (.bool true)], args := [d] }
  | _ => none }
def fnExactGoodLeaseRow : OpenClaim := { program := "ythmnenejfonfgaa", sum := "18ae1bce477c6a0c41456b9f28e87e4564079ec1efe8be104e16ed68cc76821e", func := "loop.example/g00647/laws.FnExactGoodLease", spec := "fnExactGoodLease", apart := false }
def FnExactGoodLeaseSaid : Prop := fnExactGoodLeaseRow.holds Try.pinned (OpenSpec.ofChange fnExactGoodLeaseSpec)

/-- ITS FALSE NEIGHBOUR: 'it returns false'. Refute it at one input. -/
def fnExactGoodLeaseWrong : ChangeSpec := { name := "fnExactGoodLease", fn := fun _ => fun
  | [d] => { results := [.lit (.bool false)], args := [d] }
  | _ => none }
def FnExactGoodLeaseWrongFalsely : Prop := fnExactGoodLeaseRow.holds Try.pinned (OpenSpec.ofChange fnExactGoodLeaseWrong)

/-- 'laws.FnExactStepLease': WHATEVER THE INPUT: true; the input reads as it did. -/
def fnExactStepLeaseSpec : ChangeSpec := { name := "fnExactStepLease", fn := fun _ => fun
  | [d1, d2] => { results := [.lit (.bool true)], args := [d1, d2] }
  | _ => none }
def fnExactStepLeaseRow : OpenClaim := { program := "ythmnenejfonfgaa", sum := "18ae1bce477c6a0c41456b9f28e87e4564079ec1efe8be104e16ed68cc76821e", func := "loop.example/g00647/laws.FnExactStepLease", spec := "fnExactStepLease", apart := false }
def FnExactStepLeaseSaid : Prop := fnExactStepLeaseRow.holds Try.pinned (OpenSpec.ofChange fnExactStepLeaseSpec)

/-- ITS FALSE NEIGHBOUR: 'it returns false'. Refute it at one input. -/
def fnExactStepLeaseWrong : ChangeSpec := { name := "fnExactStepLease", fn := fun _ => fun
  | [d1, d2] => { results := [.lit (.bool false)], args := [d1, d2] }
  | _ => none }
def FnExactStepLeaseWrongFalsely : Prop := fnExactStepLeaseRow.holds Try.pinned (OpenSpec.ofChange fnExactStepLeaseWrong)

/-- 'laws.FnExactPlayLease': WHATEVER THE INPUT: true; the input reads as it did. -/
def fnExactPlayLeaseSpec : ChangeSpec := { name := "fnExactPlayLease", fn := fun _ => fun
  | [d] => { results := [.lit (.bool true)], args := [d] }
  | _ => none }
def fnExactPlayLeaseRow : OpenClaim := { program := "ythmnenejfonfgaa", sum := "18ae1bce477c6a0c41456b9f28e87e4564079ec1efe8be104e16ed68cc76821e", func := "loop.example/g00647/laws.FnExactPlayLease", spec := "fnExactPlayLease", unfollowed := true, recurses := true, apart := false }
def FnExactPlayLeaseSaid : Prop := fnExactPlayLeaseRow.holds Try.pinned (OpenSpec.ofChange fnExactPlayLeaseSpec)

/-- ITS FALSE NEIGHBOUR: 'it returns false'. Refute it at one input. -/
def fnExactPlayLeaseWrong : ChangeSpec := { name := "fnExactPlayLease", fn := fun _ => fun
  | [d] => { results := [.lit (.bool false)], args := [d] }
  | _ => none }
def FnExactPlayLeaseWrongFalsely : Prop := fnExactPlayLeaseRow.holds Try.pinned (OpenSpec.ofChange fnExactPlayLeaseWrong)

/-- 'laws.FnExactHeldAt': WHATEVER THE INPUT: true; the input reads as it did. -/
def fnExactHeldAtSpec : ChangeSpec := { name := "fnExactHeldAt", fn := fun _ => fun
  | [d1, d2] => { results := [.lit (.bool true)], args := [d1, d2] }
  | _ => none }
def fnExactHeldAtRow : OpenClaim := { program := "ythmnenejfonfgaa", sum := "18ae1bce477c6a0c41456b9f28e87e4564079ec1efe8be104e16ed68cc76821e", func := "loop.example/g00647/laws.FnExactHeldAt", spec := "fnExactHeldAt", apart := false }
def FnExactHeldAtSaid : Prop := fnExactHeldAtRow.holds Try.pinned (OpenSpec.ofChange fnExactHeldAtSpec)

/-- ITS FALSE NEIGHBOUR: 'it returns false'. Refute it at one input. -/
def fnExactHeldAtWrong : ChangeSpec := { name := "fnExactHeldAt", fn := fun _ => fun
  | [d1, d2] => { results := [.lit (.bool false)], args := [d1, d2] }
  | _ => none }
def FnExactHeldAtWrongFalsely : Prop := fnExactHeldAtRow.holds Try.pinned (OpenSpec.ofChange fnExactHeldAtWrong)

/-- 'laws.FnExactBelievesAt': WHATEVER THE INPUT: true; the input reads as it did. -/
def fnExactBelievesAtSpec : ChangeSpec := { name := "fnExactBelievesAt", fn := fun _ => fun
  | [d1, d2] => { results := [.lit (.bool true)], args := [d1, d2] }
  | _ => none }
def fnExactBelievesAtRow : OpenClaim := { program := "ythmnenejfonfgaa", sum := "18ae1bce477c6a0c41456b9f28e87e4564079ec1efe8be104e16ed68cc76821e", func := "loop.example/g00647/laws.FnExactBelievesAt", spec := "fnExactBelievesAt", apart := false }
def FnExactBelievesAtSaid : Prop := fnExactBelievesAtRow.holds Try.pinned (OpenSpec.ofChange fnExactBelievesAtSpec)

/-- ITS FALSE NEIGHBOUR: 'it returns false'. Refute it at one input. -/
def fnExactBelievesAtWrong : ChangeSpec := { name := "fnExactBelievesAt", fn := fun _ => fun
  | [d1, d2] => { results := [.lit (.bool false)], args := [d1, d2] }
  | _ => none }
def FnExactBelievesAtWrongFalsely : Prop := fnExactBelievesAtRow.holds Try.pinned (OpenSpec.ofChange fnExactBelievesAtWrong)

/-- 'laws.FnExactMayOverlap': WHATEVER THE INPUT: true; the input reads as it did. -/
def fnExactMayOverlapSpec : ChangeSpec := { name := "fnExactMayOverlap", fn := fun _ => fun
  | [d1, d2, d3] => { results := [.lit (.bool true)], args := [d1, d2, d3] }
  | _ => none }
def fnExactMayOverlapRow : OpenClaim := { program := "ythmnenejfonfgaa", sum := "18ae1bce477c6a0c41456b9f28e87e4564079ec1efe8be104e16ed68cc76821e", func := "loop.example/g00647/laws.FnExactMayOverlap", spec := "fnExactMayOverlap", unfollowed := true, recurses := true, apart := false }
def FnExactMayOverlapSaid : Prop := fnExactMayOverlapRow.holds Try.pinned (OpenSpec.ofChange fnExactMayOverlapSpec)

/-- ITS FALSE NEIGHBOUR: 'it returns false'. Refute it at one input. -/
def fnExactMayOverlapWrong : ChangeSpec := { name := "fnExactMayOverlap", fn := fun _ => fun
  | [d1, d2, d3] => { results := [.lit (.bool false)], args := [d1, d2, d3] }
  | _ => none }
def FnExactMayOverlapWrongFalsely : Prop := fnExactMayOverlapRow.holds Try.pinned (OpenSpec.ofChange fnExactMayOverlapWrong)

/- THE SECOND FORM. 'bulk': how many values and letters a reading holds, each counted each time it is reached (what is shared counts as often as it is met; a slice's spare places count too). A statement '..UptoSaid' is the law's where the arguments, and the package variables that the reading takes, are together of bulk at most 1048576: NARROWER than '..Said'. Prove '..Said' where nothing that the law and all that it calls make is longer than what came in: it says more and counts as full. Else prove '..UptoSaid'. A law counts once. -/
mutual
def uptoBulk {H : Type} : DataW H → Nat
  | .lit (.string bytes) => bytes.length + 1
  | .lit _ => 1
  | .nil => 1
  | .ptr d => uptoBulk d + 1
  | .slice elems spare => uptoBulkAll elems + uptoBulkAll spare + 1
  | .agg parts => uptoBulkAll parts + 1
  | .iface _ d => uptoBulk d + 1
  | .map entries => uptoBulkEntries entries + 1
  | .held _ => 1
def uptoBulkAll {H : Type} : List (DataW H) → Nat
  | [] => 0
  | d :: r => uptoBulk d + uptoBulkAll r
def uptoBulkEntries {H : Type} : List (Lit × DataW H) → Nat
  | [] => 0
  | x :: r => uptoBulkEntry x + uptoBulkEntries r
def uptoBulkEntry {H : Type} : Lit × DataW H → Nat
  | (.string bytes, d) => bytes.length + uptoBulk d + 1
  | (_, d) => uptoBulk d + 1
 end
def uptoSmall : (H : Type) → List (DataW H) → Bool := fun _ ds => decide (uptoBulkAll ds ≤ 1048576)
def OpenSpec.upto (s : _root_.Go.ChangeSpec) : _root_.Go.OpenSpec := { _root_.Go.OpenSpec.ofChange s with cond := some uptoSmall }

/-- 'laws.FnLeases', WHERE WHAT IT READS IS OF BULK AT MOST 1048576: true; the input reads as it did. -/
def fnLeasesUptoRow : OpenClaim := { program := "ythmnenejfonfgaa", sum := "18ae1bce477c6a0c41456b9f28e87e4564079ec1efe8be104e16ed68cc76821e", func := "loop.example/g00647/laws.FnLeases", spec := "fnLeases", unfollowed := true, recurses := true, apart := false, narrowed := true }
def FnLeasesUptoSaid : Prop := fnLeasesUptoRow.holds Try.pinned (OpenSpec.upto fnLeasesSpec)

/-- 'laws.FnLent', WHERE WHAT IT READS IS OF BULK AT MOST 1048576: true; the input reads as it did. -/
def fnLentUptoRow : OpenClaim := { program := "ythmnenejfonfgaa", sum := "18ae1bce477c6a0c41456b9f28e87e4564079ec1efe8be104e16ed68cc76821e", func := "loop.example/g00647/laws.FnLent", spec := "fnLent", apart := false, narrowed := true }
def FnLentUptoSaid : Prop := fnLentUptoRow.holds Try.pinned (OpenSpec.upto fnLentSpec)

/-- 'laws.FnExactGoodLease', WHERE WHAT IT READS IS OF BULK AT MOST 1048576: true; the input reads as it did. -/
def fnExactGoodLeaseUptoRow : OpenClaim := { program := "ythmnenejfonfgaa", sum := "18ae1bce477c6a0c41456b9f28e87e4564079ec1efe8be104e16ed68cc76821e", func := "loop.example/g00647/laws.FnExactGoodLease", spec := "fnExactGoodLease", apart := false, narrowed := true }
def FnExactGoodLeaseUptoSaid : Prop := fnExactGoodLeaseUptoRow.holds Try.pinned (OpenSpec.upto fnExactGoodLeaseSpec)

/-- 'laws.FnExactStepLease', WHERE WHAT IT READS IS OF BULK AT MOST 1048576: true; the input reads as it did. -/
def fnExactStepLeaseUptoRow : OpenClaim := { program := "ythmnenejfonfgaa", sum := "18ae1bce477c6a0c41456b9f28e87e4564079ec1efe8be104e16ed68cc76821e", func := "loop.example/g00647/laws.FnExactStepLease", spec := "fnExactStepLease", apart := false, narrowed := true }
def FnExactStepLeaseUptoSaid : Prop := fnExactStepLeaseUptoRow.holds Try.pinned (OpenSpec.upto fnExactStepLeaseSpec)

/-- 'laws.FnExactPlayLease', WHERE WHAT IT READS IS OF BULK AT MOST 1048576: true; the input reads as it did. -/
def fnExactPlayLeaseUptoRow : OpenClaim := { program := "ythmnenejfonfgaa", sum := "18ae1bce477c6a0c41456b9f28e87e4564079ec1efe8be104e16ed68cc76821e", func := "loop.example/g00647/laws.FnExactPlayLease", spec := "fnExactPlayLease", unfollowed := true, recurses := true, apart := false, narrowed := true }
def FnExactPlayLeaseUptoSaid : Prop := fnExactPlayLeaseUptoRow.holds Try.pinned (OpenSpec.upto fnExactPlayLeaseSpec)

/-- 'laws.FnExactHeldAt', WHERE WHAT IT READS IS OF BULK AT MOST 1048576: true; the input reads as it did. -/
def fnExactHeldAtUptoRow : OpenClaim := { program := "ythmnenejfonfgaa", sum := "18ae1bce477c6a0c41456b9f28e87e4564079ec1efe8be104e16ed68cc76821e", func := "loop.example/g00647/laws.FnExactHeldAt", spec := "fnExactHeldAt", apart := false, narrowed := true }
def FnExactHeldAtUptoSaid : Prop := fnExactHeldAtUptoRow.holds Try.pinned (OpenSpec.upto fnExactHeldAtSpec)

/-- 'laws.FnExactBelievesAt', WHERE WHAT IT READS IS OF BULK AT MOST 1048576: true; the input reads as it did. -/
def fnExactBelievesAtUptoRow : OpenClaim := { program := "ythmnenejfonfgaa", sum := "18ae1bce477c6a0c41456b9f28e87e4564079ec1efe8be104e16ed68cc76821e", func := "loop.example/g00647/laws.FnExactBelievesAt", spec := "fnExactBelievesAt", apart := false, narrowed := true }
def FnExactBelievesAtUptoSaid : Prop := fnExactBelievesAtUptoRow.holds Try.pinned (OpenSpec.upto fnExactBelievesAtSpec)

/-- 'laws.FnExactMayOverlap', WHERE WHAT IT READS IS OF BULK AT MOST 1048576: true; the input reads as it did. -/
def fnExactMayOverlapUptoRow : OpenClaim := { program := "ythmnenejfonfgaa", sum := "18ae1bce477c6a0c41456b9f28e87e4564079ec1efe8be104e16ed68cc76821e", func := "loop.example/g00647/laws.FnExactMayOverlap", spec := "fnExactMayOverlap", unfollowed := true, recurses := true, apart := false, narrowed := true }
def FnExactMayOverlapUptoSaid : Prop := fnExactMayOverlapUptoRow.holds Try.pinned (OpenSpec.upto fnExactMayOverlapSpec)

end Rows
end Go.Proofs.Ythmnenejfonfgaa
