/-
  No cell of these rows narrows 'for every input' (looked for: loops, veiled, ifaces, maps, wideKeys, modest, calm, conditions, laid).
  DERIVED. THE GIVEN ROWS OF THIS SEAT. 9 by the template 'for every input the law returns true; each argument reads behind the call as it read before'; 0 by the template 'total and deterministic' (their statements: YthabkkboodhbmaaTotals.lean).
  GIVEN WITH THE SEED: the statements are not yours to turn. If you find one false, say at which input.
  Laid BY PROGRAM, IN A SANDBOX (cutbox-rows.mjs): the forced cells as the released guide's own fill.sh prints them over the translation 73dc1ff988ef43fa… (all of the seat's roots in one cut). By AI agents, Wed Nov 11 2026. No macro, syntax, notation, axiom, sorry.
-/
import Derived.Test.YthabkkboodhbmaaChecked
import GoSem.Claim
import GoSem.ClaimJoined
import GoSem.ClaimMapViews
import Derived.JoinedTies
import Derived.KernelRfl
namespace Go.Proofs.Ythabkkboodhbmaa
/- THE CELL 'sum', in the pinned program and in every row, IS THE sha256 OF THE DUMP (.gsa) THAT YthabkkboodhbmaaProg.lean LOADS. Nothing in Lean hashes anything: it is a label: what it is worth is what the hold of that sum in a sandbox is worth. -/
noncomputable def Try.pinned : Pinned := { name := "ythabkkboodhbmaa", sum := "73dc1ff988ef43fa949f415b8e84433cffe1799a58d978726a24afc95c67851e", checked := Try.checked }
namespace Rows
def none {H : Type} : Left H := { results := [], args := [] }

/-- 'laws.FnCut': WHATEVER THE INPUT: true; the input reads as it did. -/
def fnCutSpec : ChangeSpec := { name := "fnCut", fn := fun _ => fun
  | [d1, d2] => { results := [.lit (.bool true)], args := [d1, d2] }
  | _ => none }
def fnCutRow : OpenClaim := { program := "ythabkkboodhbmaa", sum := "73dc1ff988ef43fa949f415b8e84433cffe1799a58d978726a24afc95c67851e", func := "loop.example/g00647/laws.FnCut", spec := "fnCut", unfollowed := true, recurses := true, apart := false }
def FnCutSaid : Prop := fnCutRow.holds Try.pinned (OpenSpec.ofChange fnCutSpec)

/-- ITS FALSE NEIGHBOUR: 'it returns false'. Refute it at one input. -/
def fnCutWrong : ChangeSpec := { name := "fnCut", fn := fun _ => fun
  | [d1, d2] => { results := [.lit (.bool false)], args := [d1, d2] }
  | _ => none }
def FnCutWrongFalsely : Prop := fnCutRow.holds Try.pinned (OpenSpec.ofChange fnCutWrong)

/-- 'laws.FnPieces': WHATEVER THE INPUT: true; the input reads as it did. -/
def fnPiecesSpec : ChangeSpec := { name := "fnPieces", fn := fun _ => fun
  | [d1, d2] => { results := [.lit (.bool true)], args := [d1, d2] }
  | _ => none }
def fnPiecesRow : OpenClaim := { program := "ythabkkboodhbmaa", sum := "73dc1ff988ef43fa949f415b8e84433cffe1799a58d978726a24afc95c67851e", func := "loop.example/g00647/laws.FnPieces", spec := "fnPieces", apart := false }
def FnPiecesSaid : Prop := fnPiecesRow.holds Try.pinned (OpenSpec.ofChange fnPiecesSpec)

/-- ITS FALSE NEIGHBOUR: 'it returns false'. Refute it at one input. -/
def fnPiecesWrong : ChangeSpec := { name := "fnPieces", fn := fun _ => fun
  | [d1, d2] => { results := [.lit (.bool false)], args := [d1, d2] }
  | _ => none }
def FnPiecesWrongFalsely : Prop := fnPiecesRow.holds Try.pinned (OpenSpec.ofChange fnPiecesWrong)

/-- 'laws.FnExactPartOf': WHATEVER THE INPUT: true; the input reads as it did. -/
def fnExactPartOfSpec : ChangeSpec := { name := "fnExactPartOf", fn := fun _ => fun
  | [d1, d2] => { results := [.lit (.bool true)], args := [d1, d2] }
  | _ => none }
def fnExactPartOfRow : OpenClaim := { program := "ythabkkboodhbmaa", sum := "73dc1ff988ef43fa949f415b8e84433cffe1799a58d978726a24afc95c67851e", func := "loop.example/g00647/laws.FnExactPartOf", spec := "fnExactPartOf", apart := false }
def FnExactPartOfSaid : Prop := fnExactPartOfRow.holds Try.pinned (OpenSpec.ofChange fnExactPartOfSpec)

/-- ITS FALSE NEIGHBOUR: 'it returns false'. Refute it at one input. -/
def fnExactPartOfWrong : ChangeSpec := { name := "fnExactPartOf", fn := fun _ => fun
  | [d1, d2] => { results := [.lit (.bool false)], args := [d1, d2] }
  | _ => none }
def FnExactPartOfWrongFalsely : Prop := fnExactPartOfRow.holds Try.pinned (OpenSpec.ofChange fnExactPartOfWrong)

/-- 'laws.FnExactPiecesOf': WHATEVER THE INPUT: true; the input reads as it did. -/
def fnExactPiecesOfSpec : ChangeSpec := { name := "fnExactPiecesOf", fn := fun _ => fun
  | [d] => { results := [.lit (.bool true)], args := [d] }
  | _ => none }
def fnExactPiecesOfRow : OpenClaim := { program := "ythabkkboodhbmaa", sum := "73dc1ff988ef43fa949f415b8e84433cffe1799a58d978726a24afc95c67851e", func := "loop.example/g00647/laws.FnExactPiecesOf", spec := "fnExactPiecesOf", apart := false }
def FnExactPiecesOfSaid : Prop := fnExactPiecesOfRow.holds Try.pinned (OpenSpec.ofChange fnExactPiecesOfSpec)

/-- ITS FALSE NEIGHBOUR: 'it returns false'. Refute it at one input. -/
def fnExactPiecesOfWrong : ChangeSpec := { name := "fnExactPiecesOf", fn := fun _ => fun
  | [d] => { results := [.lit (.bool false)], args := [d] }
  | _ => none }
def FnExactPiecesOfWrongFalsely : Prop := fnExactPiecesOfRow.holds Try.pinned (OpenSpec.ofChange fnExactPiecesOfWrong)

/-- 'laws.FnExactTextOf': WHATEVER THE INPUT: true; the input reads as it did. -/
def fnExactTextOfSpec : ChangeSpec := { name := "fnExactTextOf", fn := fun _ => fun
  | [d1, d2] => { results := [.lit (.bool true)], args := [d1, d2] }
  | _ => none }
def fnExactTextOfRow : OpenClaim := { program := "ythabkkboodhbmaa", sum := "73dc1ff988ef43fa949f415b8e84433cffe1799a58d978726a24afc95c67851e", func := "loop.example/g00647/laws.FnExactTextOf", spec := "fnExactTextOf", apart := false }
def FnExactTextOfSaid : Prop := fnExactTextOfRow.holds Try.pinned (OpenSpec.ofChange fnExactTextOfSpec)

/-- ITS FALSE NEIGHBOUR: 'it returns false'. Refute it at one input. -/
def fnExactTextOfWrong : ChangeSpec := { name := "fnExactTextOf", fn := fun _ => fun
  | [d1, d2] => { results := [.lit (.bool false)], args := [d1, d2] }
  | _ => none }
def FnExactTextOfWrongFalsely : Prop := fnExactTextOfRow.holds Try.pinned (OpenSpec.ofChange fnExactTextOfWrong)

/-- 'laws.FnExactCutThing': WHATEVER THE INPUT: true; the input reads as it did. -/
def fnExactCutThingSpec : ChangeSpec := { name := "fnExactCutThing", fn := fun _ => fun
  | [d] => { results := [.lit (.bool true)], args := [d] }
  | _ => none }
def fnExactCutThingRow : OpenClaim := { program := "ythabkkboodhbmaa", sum := "73dc1ff988ef43fa949f415b8e84433cffe1799a58d978726a24afc95c67851e", func := "loop.example/g00647/laws.FnExactCutThing", spec := "fnExactCutThing", apart := false }
def FnExactCutThingSaid : Prop := fnExactCutThingRow.holds Try.pinned (OpenSpec.ofChange fnExactCutThingSpec)

/-- ITS FALSE NEIGHBOUR: 'it returns false'. Refute it at one input. -/
def fnExactCutThingWrong : ChangeSpec := { name := "fnExactCutThing", fn := fun _ => fun
  | [d] => { results := [.lit (.bool false)], args := [d] }
  | _ => none }
def FnExactCutThingWrongFalsely : Prop := fnExactCutThingRow.holds Try.pinned (OpenSpec.ofChange fnExactCutThingWrong)

/-- 'laws.FnExactGlueThing': WHATEVER THE INPUT: true; the input reads as it did. -/
def fnExactGlueThingSpec : ChangeSpec := { name := "fnExactGlueThing", fn := fun _ => fun
  | [d] => { results := [.lit (.bool true)], args := [d] }
  | _ => none }
def fnExactGlueThingRow : OpenClaim := { program := "ythabkkboodhbmaa", sum := "73dc1ff988ef43fa949f415b8e84433cffe1799a58d978726a24afc95c67851e", func := "loop.example/g00647/laws.FnExactGlueThing", spec := "fnExactGlueThing", unfollowed := true, recurses := true, apart := false }
def FnExactGlueThingSaid : Prop := fnExactGlueThingRow.holds Try.pinned (OpenSpec.ofChange fnExactGlueThingSpec)

/-- ITS FALSE NEIGHBOUR: 'it returns false'. Refute it at one input. -/
def fnExactGlueThingWrong : ChangeSpec := { name := "fnExactGlueThing", fn := fun _ => fun
  | [d] => { results := [.lit (.bool false)], args := [d] }
  | _ => none }
def FnExactGlueThingWrongFalsely : Prop := fnExactGlueThingRow.holds Try.pinned (OpenSpec.ofChange fnExactGlueThingWrong)

/-- 'laws.FnExactBlocksFor': WHATEVER THE INPUT: true; the input reads as it did. -/
def fnExactBlocksForSpec : ChangeSpec := { name := "fnExactBlocksFor", fn := fun _ => fun
  | [d] => { results := [.lit (.bool true)], args := [d] }
  | _ => none }
def fnExactBlocksForRow : OpenClaim := { program := "ythabkkboodhbmaa", sum := "73dc1ff988ef43fa949f415b8e84433cffe1799a58d978726a24afc95c67851e", func := "loop.example/g00647/laws.FnExactBlocksFor", spec := "fnExactBlocksFor", apart := false }
def FnExactBlocksForSaid : Prop := fnExactBlocksForRow.holds Try.pinned (OpenSpec.ofChange fnExactBlocksForSpec)

/-- ITS FALSE NEIGHBOUR: 'it returns false'. Refute it at one input. -/
def fnExactBlocksForWrong : ChangeSpec := { name := "fnExactBlocksFor", fn := fun _ => fun
  | [d] => { results := [.lit (.bool false)], args := [d] }
  | _ => none }
def FnExactBlocksForWrongFalsely : Prop := fnExactBlocksForRow.holds Try.pinned (OpenSpec.ofChange fnExactBlocksForWrong)

/-- 'laws.FnExactPieceAt': WHATEVER THE INPUT: true; the input reads as it did. -/
def fnExactPieceAtSpec : ChangeSpec := { name := "fnExactPieceAt", fn := fun _ => fun
  | [d1, d2] => { results := [.lit (.bool true)], args := [d1, d2] }
  | _ => none }
def fnExactPieceAtRow : OpenClaim := { program := "ythabkkboodhbmaa", sum := "73dc1ff988ef43fa949f415b8e84433cffe1799a58d978726a24afc95c67851e", func := "loop.example/g00647/laws.FnExactPieceAt", spec := "fnExactPieceAt", apart := false }
def FnExactPieceAtSaid : Prop := fnExactPieceAtRow.holds Try.pinned (OpenSpec.ofChange fnExactPieceAtSpec)

/-- ITS FALSE NEIGHBOUR: 'it returns false'. Refute it at one input. -/
def fnExactPieceAtWrong : ChangeSpec := { name := "fnExactPieceAt", fn := fun _ => fun
  | [d1, d2] => { results := [.lit (.bool false)], args := [d1, d2] }
  | _ => none }
def FnExactPieceAtWrongFalsely : Prop := fnExactPieceAtRow.holds Try.pinned (OpenSpec.ofChange fnExactPieceAtWrong)

/- THE SECOND FORM. 'bulk': how many values and letters a reading holds, each counted each time it is reached (what is shared counts as often as it is met; a slice's spare places count too). A statement '..UptoSaid' is the law's where the arguments, and the package variables that the reading takes, are together of bulk at most 1048576: NARROWER than '..Said'. Prove '..Said' where nothing that the law and all that it calls make is longer than what came in: it says more and counts as full. Else prove '..UptoSaid'. A law counts once. -/
mutual
def uptoBulk {H : Type} : DataW H → Nat
  | .lit (.string bytes) => bytes.length + 1
  | .lit _ => 1
  | .nil => 1
  | .ptr d => uptoBulk d + 1
  | .slice elems spare => uptoBulkAll elems + uptoBulkAll spare + 1
  | .agg parts => uptoBulkAll parts + 1
  | .iface _ d => uptoBulk d + 1
  | .map entries => uptoBulkEntries entries + 1
  | .held _ => 1
def uptoBulkAll {H : Type} : List (DataW H) → Nat
  | [] => 0
  | d :: r => uptoBulk d + uptoBulkAll r
def uptoBulkEntries {H : Type} : List (Lit × DataW H) → Nat
  | [] => 0
  | x :: r => uptoBulkEntry x + uptoBulkEntries r
def uptoBulkEntry {H : Type} : Lit × DataW H → Nat
  | (.string bytes, d) => bytes.length + uptoBulk d + 1
  | (_, d) => uptoBulk d + 1
 end
def uptoSmall : (H : Type) → List (DataW H) → Bool := fun _ ds => decide (uptoBulkAll ds ≤ 1048576)
def OpenSpec.upto (s : _root_.Go.ChangeSpec) : _root_.Go.OpenSpec := { _root_.Go.OpenSpec.ofChange s with cond := some uptoSmall }

/-- 'laws.FnCut', WHERE WHAT IT READS IS OF BULK AT MOST 1048576: true; the input reads as it did. -/
def fnCutUptoRow : OpenClaim := { program := "ythabkkboodhbmaa", sum := "73dc1ff988ef43fa949f415b8e84433cffe1799a58d978726a24afc95c67851e", func := "loop.example/g00647/laws.FnCut", spec := "fnCut", unfollowed := true, recurses := true, apart := false, narrowed := true }
def FnCutUptoSaid : Prop := fnCutUptoRow.holds Try.pinned (OpenSpec.upto fnCutSpec)

/-- 'laws.FnPieces', WHERE WHAT IT READS IS OF BULK AT MOST 1048576: true; the input reads as it did. -/
def fnPiecesUptoRow : OpenClaim := { program := "ythabkkboodhbmaa", sum := "73dc1ff988ef43fa949f415b8e84433cffe1799a58d978726a24afc95c67851e", func := "loop.example/g00647/laws.FnPieces", spec := "fnPieces", apart := false, narrowed := true }
def FnPiecesUptoSaid : Prop := fnPiecesUptoRow.holds Try.pinned (OpenSpec.upto fnPiecesSpec)

/-- 'laws.FnExactPartOf', WHERE WHAT IT READS IS OF BULK AT MOST 1048576: true; the input reads as it did. -/
def fnExactPartOfUptoRow : OpenClaim := { program := "ythabkkboodhbmaa", sum := "73dc1ff988ef43fa949f415b8e84433cffe1799a58d978726a24afc95c67851e", func := "loop.example/g00647/laws.FnExactPartOf", spec := "fnExactPartOf", apart := false, narrowed := true }
def FnExactPartOfUptoSaid : Prop := fnExactPartOfUptoRow.holds Try.pinned (OpenSpec.upto fnExactPartOfSpec)

/-- 'laws.FnExactPiecesOf', WHERE WHAT IT READS IS OF BULK AT MOST 1048576: true; the input reads as it did. -/
def fnExactPiecesOfUptoRow : OpenClaim := { program := "ythabkkboodhbmaa", sum := "73dc1ff988ef43fa949f415b8e84433cffe1799a58d978726a24afc95c67851e", func := "loop.example/g00647/laws.FnExactPiecesOf", spec := "fnExactPiecesOf", apart := false, narrowed := true }
def FnExactPiecesOfUptoSaid : Prop := fnExactPiecesOfUptoRow.holds Try.pinned (OpenSpec.upto fnExactPiecesOfSpec)

/-- 'laws.FnExactTextOf', WHERE WHAT IT READS IS OF BULK AT MOST 1048576: true; the input reads as it did. -/
def fnExactTextOfUptoRow : OpenClaim := { program := "ythabkkboodhbmaa", sum := "73dc1ff988ef43fa949f415b8e84433cffe1799a58d978726a24afc95c67851e", func := "loop.example/g00647/laws.FnExactTextOf", spec := "fnExactTextOf", apart := false, narrowed := true }
def FnExactTextOfUptoSaid : Prop := fnExactTextOfUptoRow.holds Try.pinned (OpenSpec.upto fnExactTextOfSpec)

/-- 'laws.FnExactCutThing', WHERE WHAT IT READS IS OF BULK AT MOST 1048576: true; the input reads as it did. -/
def fnExactCutThingUptoRow : OpenClaim := { program := "ythabkkboodhbmaa", sum := "73dc1ff988ef43fa949f415b8e84433cffe1799a58d978726a24afc95c67851e", func := "loop.example/g00647/laws.FnExactCutThing", spec := "fnExactCutThing", apart := false, narrowed := true }
def FnExactCutThingUptoSaid : Prop := fnExactCutThingUptoRow.holds Try.pinned (OpenSpec.upto fnExactCutThingSpec)

/-- 'laws.FnExactGlueThing', WHERE WHAT IT READS IS OF BULK AT MOST 1048576: true; the input reads as it did. -/
def fnExactGlueThingUptoRow : OpenClaim := { program := "ythabkkboodhbmaa", sum := "73dc1ff988ef43fa949f415b8e84433cffe1799a58d978726a24afc95c67851e", func := "loop.example/g00647/laws.FnExactGlueThing", spec := "fnExactGlueThing", unfollowed := true, recurses := true, apart := false, narrowed := true }
def FnExactGlueThingUptoSaid : Prop := fnExactGlueThingUptoRow.holds Try.pinned (OpenSpec.upto fnExactGlueThingSpec)

/-- 'laws.FnExactBlocksFor', WHERE WHAT IT READS IS OF BULK AT MOST 1048576: true; the input reads as it did. -/
def fnExactBlocksForUptoRow : OpenClaim := { program := "ythabkkboodhbmaa", sum := "73dc1ff988ef43fa949f415b8e84433cffe1799a58d978726a24afc95c67851e", func := "loop.example/g00647/laws.FnExactBlocksFor", spec := "fnExactBlocksFor", apart := false, narrowed := true }
def FnExactBlocksForUptoSaid : Prop := fnExactBlocksForUptoRow.holds Try.pinned (OpenSpec.upto fnExactBlocksForSpec)

/-- 'laws.FnExactPieceAt', WHERE WHAT IT READS IS OF BULK AT MOST 1048576: true; the input reads as it did. -/
def fnExactPieceAtUptoRow : OpenClaim := { program := "ythabkkboodhbmaa", sum := "73dc1ff988ef43fa949f415b8e84433cffe1799a58d978726a24afc95c67851e", func := "loop.example/g00647/laws.FnExactPieceAt", spec := "fnExactPieceAt", apart := false, narrowed := true }
def FnExactPieceAtUptoSaid : Prop := fnExactPieceAtUptoRow.holds Try.pinned (OpenSpec.upto fnExactPieceAtSpec)

end Rows
end Go.Proofs.Ythabkkboodhbmaa
