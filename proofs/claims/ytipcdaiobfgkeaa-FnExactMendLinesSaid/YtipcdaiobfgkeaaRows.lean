/-
  No cell of these rows narrows 'for every input' (looked for: loops, veiled, ifaces, maps, wideKeys, modest, calm, conditions, laid).
  DERIVED. THE GIVEN ROWS OF THIS SEAT. 9 by the template 'for every input the law returns true; each argument reads behind the call as it read before'; 0 by the template 'total and deterministic' (their statements: YtipcdaiobfgkeaaTotals.lean).
  GIVEN WITH THE SEED: the statements are not yours to turn. If you find one false, say at which input.
  Laid BY PROGRAM, IN A SANDBOX (cutbox-rows.mjs): the forced cells as the released guide's own fill.sh prints them over the translation a4bc0952b5987b52… (all of the seat's roots in one cut). By AI agents, Wed Nov 11 2026. No macro, syntax, notation, axiom, sorry.
-/
import Derived.Test.YtipcdaiobfgkeaaChecked
import GoSem.Claim
import GoSem.ClaimJoined
import GoSem.ClaimMapViews
import Derived.JoinedTies
import Derived.KernelRfl
namespace Go.Proofs.Ytipcdaiobfgkeaa
/- THE CELL 'sum', in the pinned program and in every row, IS THE sha256 OF THE DUMP (.gsa) THAT YtipcdaiobfgkeaaProg.lean LOADS. Nothing in Lean hashes anything: it is a label: what it is worth is what the hold of that sum in a sandbox is worth. -/
noncomputable def Try.pinned : Pinned := { name := "ytipcdaiobfgkeaa", sum := "a4bc0952b5987b52a3fee89a98a6019a7fbe4e8b868a4a1be47a5ffe9f6aa51c", checked := Try.checked }
namespace Rows
def none {H : Type} : Left H := { results := [], args := [] }

/-- 'laws.FnMixed': WHATEVER THE INPUT: true; the input reads as it did. -/
def fnMixedSpec : ChangeSpec := { name := "fnMixed", fn := fun _ => fun
  | [d1, d2] => { results := [.lit (.bool true)], args := [d1, d2] }
  | _ => none }
def fnMixedRow : OpenClaim := { program := "ytipcdaiobfgkeaa", sum := "a4bc0952b5987b52a3fee89a98a6019a7fbe4e8b868a4a1be47a5ffe9f6aa51c", func := "loop.example/g00647/laws.FnMixed", spec := "fnMixed", unfollowed := true, recurses := true, apart := false }
def FnMixedSaid : Prop := fnMixedRow.holds Try.pinned (OpenSpec.ofChange fnMixedSpec)

/-- ITS FALSE NEIGHBOUR: 'it returns false'. Refute it at one input. -/
def fnMixedWrong : ChangeSpec := { name := "fnMixed", fn := fun _ => fun
  | [d1, d2] => { results := [.lit (.bool false)], args := [d1, d2] }
  | _ => none }
def FnMixedWrongFalsely : Prop := fnMixedRow.holds Try.pinned (OpenSpec.ofChange fnMixedWrong)

/-- 'laws.FnMended': WHATEVER THE INPUT: true; the input reads as it did. -/
def fnMendedSpec : ChangeSpec := { name := "fnMended", fn := fun _ => fun
  | [d1, d2] => { results := [.lit (.bool true)], args := [d1, d2] }
  | _ => none }
def fnMendedRow : OpenClaim := { program := "ytipcdaiobfgkeaa", sum := "a4bc0952b5987b52a3fee89a98a6019a7fbe4e8b868a4a1be47a5ffe9f6aa51c", func := "loop.example/g00647/laws.FnMended", spec := "fnMended", unfollowed := true, recurses := true, apart := false }
def FnMendedSaid : Prop := fnMendedRow.holds Try.pinned (OpenSpec.ofChange fnMendedSpec)

/-- ITS FALSE NEIGHBOUR: 'it returns false'. Refute it at one input. -/
def fnMendedWrong : ChangeSpec := { name := "fnMended", fn := fun _ => fun
  | [d1, d2] => { results := [.lit (.bool false)], args := [d1, d2] }
  | _ => none }
def FnMendedWrongFalsely : Prop := fnMendedRow.holds Try.pinned (OpenSpec.ofChange fnMendedWrong)

/-- 'laws.FnExactMixBy': WHATEVER THE INPUT: true; the input reads as it did. -/
def fnExactMixBySpec : ChangeSpec := { name := "fnExactMixBy", fn := fun _ => fun
  | [d1, d2] => { results := [.lit (.bool true)], args := [d1, d2] }
  | _ => none }
def fnExactMixByRow : OpenClaim := { program := "ytipcdaiobfgkeaa", sum := "a4bc0952b5987b52a3fee89a98a6019a7fbe4e8b868a4a1be47a5ffe9f6aa51c", func := "loop.example/g00647/laws.FnExactMixBy", spec := "fnExactMixBy", unfollowed := true, recurses := true, apart := false }
def FnExactMixBySaid : Prop := fnExactMixByRow.holds Try.pinned (OpenSpec.ofChange fnExactMixBySpec)

/-- ITS FALSE NEIGHBOUR: 'it returns false'. Refute it at one input. -/
def fnExactMixByWrong : ChangeSpec := { name := "fnExactMixBy", fn := fun _ => fun
  | [d1, d2] => { results := [.lit (.bool false)], args := [d1, d2] }
  | _ => none }
def FnExactMixByWrongFalsely : Prop := fnExactMixByRow.holds Try.pinned (OpenSpec.ofChange fnExactMixByWrong)

/-- 'laws.FnExactUnmixBy': WHATEVER THE INPUT: true; the input reads as it did. -/
def fnExactUnmixBySpec : ChangeSpec := { name := "fnExactUnmixBy", fn := fun _ => fun
  | [d1, d2] => { results := [.lit (.bool true)], args := [d1, d2] }
  | _ => none }
def fnExactUnmixByRow : OpenClaim := { program := "ytipcdaiobfgkeaa", sum := "a4bc0952b5987b52a3fee89a98a6019a7fbe4e8b868a4a1be47a5ffe9f6aa51c", func := "loop.example/g00647/laws.FnExactUnmixBy", spec := "fnExactUnmixBy", unfollowed := true, recurses := true, apart := false }
def FnExactUnmixBySaid : Prop := fnExactUnmixByRow.holds Try.pinned (OpenSpec.ofChange fnExactUnmixBySpec)

/-- ITS FALSE NEIGHBOUR: 'it returns false'. Refute it at one input. -/
def fnExactUnmixByWrong : ChangeSpec := { name := "fnExactUnmixBy", fn := fun _ => fun
  | [d1, d2] => { results := [.lit (.bool false)], args := [d1, d2] }
  | _ => none }
def FnExactUnmixByWrongFalsely : Prop := fnExactUnmixByRow.holds Try.pinned (OpenSpec.ofChange fnExactUnmixByWrong)

/-- 'laws.FnExactPlaceOf': WHATEVER THE INPUT: true; the input reads as it did. -/
def fnExactPlaceOfSpec : ChangeSpec := { name := "fnExactPlaceOf", fn := fun _ => fun
  | [d1, d2, d3] => { results := [.lit (.bool true)], args := [d1, d2, d3] }
  | _ => none }
def fnExactPlaceOfRow : OpenClaim := { program := "ytipcdaiobfgkeaa", sum := "a4bc0952b5987b52a3fee89a98a6019a7fbe4e8b868a4a1be47a5ffe9f6aa51c", func := "loop.example/g00647/laws.FnExactPlaceOf", spec := "fnExactPlaceOf", apart := false }
def FnExactPlaceOfSaid : Prop := fnExactPlaceOfRow.holds Try.pinned (OpenSpec.ofChange fnExactPlaceOfSpec)

/-- ITS FALSE NEIGHBOUR: 'it returns false'. Refute it at one input. -/
def fnExactPlaceOfWrong : ChangeSpec := { name := "fnExactPlaceOf", fn := fun _ => fun
  | [d1, d2, d3] => { results := [.lit (.bool false)], args := [d1, d2, d3] }
  | _ => none }
def FnExactPlaceOfWrongFalsely : Prop := fnExactPlaceOfRow.holds Try.pinned (OpenSpec.ofChange fnExactPlaceOfWrong)

/-- 'laws.FnExactLossesIn': WHATEVER THE INPUT: true; the input reads as it did. -/
def fnExactLossesInSpec : ChangeSpec := { name := "fnExactLossesIn", fn := fun _ => fun
  | [d1, d2, d3, d4] => { results := [.lit (.bool true)], args := [d1, d2, d3, d4] }
  | _ => none }
def fnExactLossesInRow : OpenClaim := { program := "ytipcdaiobfgkeaa", sum := "a4bc0952b5987b52a3fee89a98a6019a7fbe4e8b868a4a1be47a5ffe9f6aa51c", func := "loop.example/g00647/laws.FnExactLossesIn", spec := "fnExactLossesIn", apart := false }
def FnExactLossesInSaid : Prop := fnExactLossesInRow.holds Try.pinned (OpenSpec.ofChange fnExactLossesInSpec)

/-- ITS FALSE NEIGHBOUR: 'it returns false'. Refute it at one input. -/
def fnExactLossesInWrong : ChangeSpec := { name := "fnExactLossesIn", fn := fun _ => fun
  | [d1, d2, d3, d4] => { results := [.lit (.bool false)], args := [d1, d2, d3, d4] }
  | _ => none }
def FnExactLossesInWrongFalsely : Prop := fnExactLossesInRow.holds Try.pinned (OpenSpec.ofChange fnExactLossesInWrong)

/-- 'laws.FnExactSpreadOf': WHATEVER THE INPUT: true; the input reads as it did. -/
def fnExactSpreadOfSpec : ChangeSpec := { name := "fnExactSpreadOf", fn := fun _ => fun
  | [d1, d2] => { results := [.lit (.bool true)], args := [d1, d2] }
  | _ => none }
def fnExactSpreadOfRow : OpenClaim := { program := "ytipcdaiobfgkeaa", sum := "a4bc0952b5987b52a3fee89a98a6019a7fbe4e8b868a4a1be47a5ffe9f6aa51c", func := "loop.example/g00647/laws.FnExactSpreadOf", spec := "fnExactSpreadOf", apart := false }
def FnExactSpreadOfSaid : Prop := fnExactSpreadOfRow.holds Try.pinned (OpenSpec.ofChange fnExactSpreadOfSpec)

/-- ITS FALSE NEIGHBOUR: 'it returns false'. Refute it at one input. -/
def fnExactSpreadOfWrong : ChangeSpec := { name := "fnExactSpreadOf", fn := fun _ => fun
  | [d1, d2] => { results := [.lit (.bool false)], args := [d1, d2] }
  | _ => none }
def FnExactSpreadOfWrongFalsely : Prop := fnExactSpreadOfRow.holds Try.pinned (OpenSpec.ofChange fnExactSpreadOfWrong)

/-- 'laws.FnExactParityFor': WHATEVER THE INPUT: true; the input reads as it did. -/
def fnExactParityForSpec : ChangeSpec := { name := "fnExactParityFor", fn := fun _ => fun
  | [d1, d2] => { results := [.lit (.bool true)], args := [d1, d2] }
  | _ => none }
def fnExactParityForRow : OpenClaim := { program := "ytipcdaiobfgkeaa", sum := "a4bc0952b5987b52a3fee89a98a6019a7fbe4e8b868a4a1be47a5ffe9f6aa51c", func := "loop.example/g00647/laws.FnExactParityFor", spec := "fnExactParityFor", unfollowed := true, recurses := true, apart := false }
def FnExactParityForSaid : Prop := fnExactParityForRow.holds Try.pinned (OpenSpec.ofChange fnExactParityForSpec)

/-- ITS FALSE NEIGHBOUR: 'it returns false'. Refute it at one input. -/
def fnExactParityForWrong : ChangeSpec := { name := "fnExactParityFor", fn := fun _ => fun
  | [d1, d2] => { results := [.lit (.bool false)], args := [d1, d2] }
  | _ => none }
def FnExactParityForWrongFalsely : Prop := fnExactParityForRow.holds Try.pinned (OpenSpec.ofChange fnExactParityForWrong)

/-- 'laws.FnExactMendLines': WHATEVER THE INPUT: true; the input reads as it did. -/
def fnExactMendLinesSpec : ChangeSpec := { name := "fnExactMendLines", fn := fun _ => fun
  | [d1, d2, d3, d4] => { results := [.lit (.bool true)], args := [d1, d2, d3, d4] }
  | _ => none }
def fnExactMendLinesRow : OpenClaim := { program := "ytipcdaiobfgkeaa", sum := "a4bc0952b5987b52a3fee89a98a6019a7fbe4e8b868a4a1be47a5ffe9f6aa51c", func := "loop.example/g00647/laws.FnExactMendLines", spec := "fnExactMendLines", unfollowed := true, recurses := true, apart := false }
def FnExactMendLinesSaid : Prop := fnExactMendLinesRow.holds Try.pinned (OpenSpec.ofChange fnExactMendLinesSpec)

/-- ITS FALSE NEIGHBOUR: 'it returns false'. Refute it at one input. -/
def fnExactMendLinesWrong : ChangeSpec := { name := "fnExactMendLines", fn := fun _ => fun
  | [d1, d2, d3, d4] => { results := [.lit (.bool false)], args := [d1, d2, d3, d4] }
  | _ => none }
def FnExactMendLinesWrongFalsely : Prop := fnExactMendLinesRow.holds Try.pinned (OpenSpec.ofChange fnExactMendLinesWrong)

/- THE SECOND FORM. 'bulk': how many values and letters a reading holds, each counted each time it is reached (what is shared counts as often as it is met; a slice's spare places count too). A statement '..UptoSaid' is the law's where the arguments, and the package variables that the reading takes, are together of bulk at most 1048576: NARROWER than '..Said'. Prove '..Said' where nothing that the law and all that it calls make is longer than what came in: it says more and counts as full. Else prove '..UptoSaid'. A law counts once. -/
mutual
def uptoBulk {H : Type} : DataW H → Nat
  | .lit (.string bytes) => bytes.length + 1
  | .lit _ => 1
  | .nil => 1
  | .ptr d => uptoBulk d + 1
  | .slice elems spare => uptoBulkAll elems + uptoBulkAll spare + 1
  | .agg parts => uptoBulkAll parts + 1
  | .iface _ d => uptoBulk d + 1
  | .map entries => uptoBulkEntries entries + 1
  | .held _ => 1
def uptoBulkAll {H : Type} : List (DataW H) → Nat
  | [] => 0
  | d :: r => uptoBulk d + uptoBulkAll r
def uptoBulkEntries {H : Type} : List (Lit × DataW H) → Nat
  | [] => 0
  | x :: r => uptoBulkEntry x + uptoBulkEntries r
def uptoBulkEntry {H : Type} : Lit × DataW H → Nat
  | (.string bytes, d) => bytes.length + uptoBulk d + 1
  | (_, d) => uptoBulk d + 1
 end
def uptoSmall : (H : Type) → List (DataW H) → Bool := fun _ ds => decide (uptoBulkAll ds ≤ 1048576)
def OpenSpec.upto (s : _root_.Go.ChangeSpec) : _root_.Go.OpenSpec := { _root_.Go.OpenSpec.ofChange s with cond := some uptoSmall }

/-- 'laws.FnMixed', WHERE WHAT IT READS IS OF BULK AT MOST 1048576: true; the input reads as it did. -/
def fnMixedUptoRow : OpenClaim := { program := "ytipcdaiobfgkeaa", sum := "a4bc0952b5987b52a3fee89a98a6019a7fbe4e8b868a4a1be47a5ffe9f6aa51c", func := "loop.example/g00647/laws.FnMixed", spec := "fnMixed", unfollowed := true, recurses := true, apart := false, narrowed := true }
def FnMixedUptoSaid : Prop := fnMixedUptoRow.holds Try.pinned (OpenSpec.upto fnMixedSpec)

/-- 'laws.FnMended', WHERE WHAT IT READS IS OF BULK AT MOST 1048576: true; the input reads as it did. -/
def fnMendedUptoRow : OpenClaim := { program := "ytipcdaiobfgkeaa", sum := "a4bc0952b5987b52a3fee89a98a6019a7fbe4e8b868a4a1be47a5ffe9f6aa51c", func := "loop.example/g00647/laws.FnMended", spec := "fnMended", unfollowed := true, recurses := true, apart := false, narrowed := true }
def FnMendedUptoSaid : Prop := fnMendedUptoRow.holds Try.pinned (OpenSpec.upto fnMendedSpec)

/-- 'laws.FnExactMixBy', WHERE WHAT IT READS IS OF BULK AT MOST 1048576: true; the input reads as it did. -/
def fnExactMixByUptoRow : OpenClaim := { program := "ytipcdaiobfgkeaa", sum := "a4bc0952b5987b52a3fee89a98a6019a7fbe4e8b868a4a1be47a5ffe9f6aa51c", func := "loop.example/g00647/laws.FnExactMixBy", spec := "fnExactMixBy", unfollowed := true, recurses := true, apart := false, narrowed := true }
def FnExactMixByUptoSaid : Prop := fnExactMixByUptoRow.holds Try.pinned (OpenSpec.upto fnExactMixBySpec)

/-- 'laws.FnExactUnmixBy', WHERE WHAT IT READS IS OF BULK AT MOST 1048576: true; the input reads as it did. -/
def fnExactUnmixByUptoRow : OpenClaim := { program := "ytipcdaiobfgkeaa", sum := "a4bc0952b5987b52a3fee89a98a6019a7fbe4e8b868a4a1be47a5ffe9f6aa51c", func := "loop.example/g00647/laws.FnExactUnmixBy", spec := "fnExactUnmixBy", unfollowed := true, recurses := true, apart := false, narrowed := true }
def FnExactUnmixByUptoSaid : Prop := fnExactUnmixByUptoRow.holds Try.pinned (OpenSpec.upto fnExactUnmixBySpec)

/-- 'laws.FnExactPlaceOf', WHERE WHAT IT READS IS OF BULK AT MOST 1048576: true; the input reads as it did. -/
def fnExactPlaceOfUptoRow : OpenClaim := { program := "ytipcdaiobfgkeaa", sum := "a4bc0952b5987b52a3fee89a98a6019a7fbe4e8b868a4a1be47a5ffe9f6aa51c", func := "loop.example/g00647/laws.FnExactPlaceOf", spec := "fnExactPlaceOf", apart := false, narrowed := true }
def FnExactPlaceOfUptoSaid : Prop := fnExactPlaceOfUptoRow.holds Try.pinned (OpenSpec.upto fnExactPlaceOfSpec)

/-- 'laws.FnExactLossesIn', WHERE WHAT IT READS IS OF BULK AT MOST 1048576: true; the input reads as it did. -/
def fnExactLossesInUptoRow : OpenClaim := { program := "ytipcdaiobfgkeaa", sum := "a4bc0952b5987b52a3fee89a98a6019a7fbe4e8b868a4a1be47a5ffe9f6aa51c", func := "loop.example/g00647/laws.FnExactLossesIn", spec := "fnExactLossesIn", apart := false, narrowed := true }
def FnExactLossesInUptoSaid : Prop := fnExactLossesInUptoRow.holds Try.pinned (OpenSpec.upto fnExactLossesInSpec)

/-- 'laws.FnExactSpreadOf', WHERE WHAT IT READS IS OF BULK AT MOST 1048576: true; the input reads as it did. -/
def fnExactSpreadOfUptoRow : OpenClaim := { program := "ytipcdaiobfgkeaa", sum := "a4bc0952b5987b52a3fee89a98a6019a7fbe4e8b868a4a1be47a5ffe9f6aa51c", func := "loop.example/g00647/laws.FnExactSpreadOf", spec := "fnExactSpreadOf", apart := false, narrowed := true }
def FnExactSpreadOfUptoSaid : Prop := fnExactSpreadOfUptoRow.holds Try.pinned (OpenSpec.upto fnExactSpreadOfSpec)

/-- 'laws.FnExactParityFor', WHERE WHAT IT READS IS OF BULK AT MOST 1048576: true; the input reads as it did. -/
def fnExactParityForUptoRow : OpenClaim := { program := "ytipcdaiobfgkeaa", sum := "a4bc0952b5987b52a3fee89a98a6019a7fbe4e8b868a4a1be47a5ffe9f6aa51c", func := "loop.example/g00647/laws.FnExactParityFor", spec := "fnExactParityFor", unfollowed := true, recurses := true, apart := false, narrowed := true }
def FnExactParityForUptoSaid : Prop := fnExactParityForUptoRow.holds Try.pinned (OpenSpec.upto fnExactParityForSpec)

/-- 'laws.FnExactMendLines', WHERE WHAT IT READS IS OF BULK AT MOST 1048576: true; the input reads as it did. -/
def fnExactMendLinesUptoRow : OpenClaim := { program := "ytipcdaiobfgkeaa", sum := "a4bc0952b5987b52a3fee89a98a6019a7fbe4e8b868a4a1be47a5ffe9f6aa51c", func := "loop.example/g00647/laws.FnExactMendLines", spec := "fnExactMendLines", unfollowed := true, recurses := true, apart := false, narrowed := true }
def FnExactMendLinesUptoSaid : Prop := fnExactMendLinesUptoRow.holds Try.pinned (OpenSpec.upto fnExactMendLinesSpec)

end Rows
end Go.Proofs.Ytipcdaiobfgkeaa
