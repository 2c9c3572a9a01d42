/-
  No cell of these rows narrows 'for every input' (looked for: loops, veiled, ifaces, maps, wideKeys, modest, calm, conditions, laid).
  DERIVED. THE GIVEN ROWS OF THIS SEAT. 7 by the template 'for every input the law returns true; each argument reads behind the call as it read before'; 0 by the template 'total and deterministic' (their statements: YtjifpedhncgieaaTotals.lean).
  GIVEN WITH THE SEED: the statements are not yours to turn. If you find one false, say at which input.
  Laid BY PROGRAM, IN A SANDBOX (cutbox-rows.mjs): the forced cells as the released guide's own fill.sh prints them over the translation 715a3b4a00b11910… (all of the seat's roots in one cut). By AI agents, Wed Nov 11 2026. No macro, syntax, notation, axiom, sorry.
-/
import Derived.Test.YtjifpedhncgieaaChecked
import GoSem.Claim
import GoSem.ClaimJoined
import GoSem.ClaimMapViews
import Derived.JoinedTies
import Derived.KernelRfl
namespace Go.Proofs.Ytjifpedhncgieaa
/- THE CELL 'sum', in the pinned program and in every row, IS THE sha256 OF THE DUMP (.gsa) THAT YtjifpedhncgieaaProg.lean LOADS. Nothing in Lean hashes anything: it is a label: what it is worth is what the hold of that sum in a sandbox is worth. -/
noncomputable def Try.pinned : Pinned := { name := "ytjifpedhncgieaa", sum := "715a3b4a00b11910f62e47638495ff0fbf77192ded554d964749901ce006fe02", checked := Try.checked }
namespace Rows
def none {H : Type} : Left H := { results := [], args := [] }

/-- 'laws.FnAny': WHATEVER THE INPUT: true; the input reads as it did. -/
def fnAnySpec : ChangeSpec := { name := "fnAny", fn := fun _ => fun
  | [d1, d2] => { results := [.lit (.bool true)], args := [d1, d2] }
  | _ => none }
def fnAnyRow : OpenClaim := { program := "ytjifpedhncgieaa", sum := "715a3b4a00b11910f62e47638495ff0fbf77192ded554d964749901ce006fe02", func := "loop.example/g00647/laws.FnAny", spec := "fnAny", unfollowed := true, recurses := true, apart := false }
def FnAnySaid : Prop := fnAnyRow.holds Try.pinned (OpenSpec.ofChange fnAnySpec)

/-- ITS FALSE NEIGHBOUR: 'it returns false'. Refute it at one input. -/
def fnAnyWrong : ChangeSpec := { name := "fnAny", fn := fun _ => fun
  | [d1, d2] => { results := [.lit (.bool false)], args := [d1, d2] }
  | _ => none }
def FnAnyWrongFalsely : Prop := fnAnyRow.holds Try.pinned (OpenSpec.ofChange fnAnyWrong)

/-- 'laws.FnExactValueAt': WHATEVER THE INPUT: true; the input reads as it did. -/
def fnExactValueAtSpec : ChangeSpec := { name := "fnExactValueAt", fn := fun _ => fun
  | [d1, d2] => { results := [.lit (.bool true)], args := [d1, d2] }
  | _ => none }
def fnExactValueAtRow : OpenClaim := { program := "ytjifpedhncgieaa", sum := "715a3b4a00b11910f62e47638495ff0fbf77192ded554d964749901ce006fe02", func := "loop.example/g00647/laws.FnExactValueAt", spec := "fnExactValueAt", unfollowed := true, recurses := true, apart := false }
def FnExactValueAtSaid : Prop := fnExactValueAtRow.holds Try.pinned (OpenSpec.ofChange fnExactValueAtSpec)

/-- ITS FALSE NEIGHBOUR: 'it returns false'. Refute it at one input. -/
def fnExactValueAtWrong : ChangeSpec := { name := "fnExactValueAt", fn := fun _ => fun
  | [d1, d2] => { results := [.lit (.bool false)], args := [d1, d2] }
  | _ => none }
def FnExactValueAtWrongFalsely : Prop := fnExactValueAtRow.holds Try.pinned (OpenSpec.ofChange fnExactValueAtWrong)

/-- 'laws.FnExactPointsFor': WHATEVER THE INPUT: true; the input reads as it did. -/
def fnExactPointsForSpec : ChangeSpec := { name := "fnExactPointsFor", fn := fun _ => fun
  | [d1, d2] => { results := [.lit (.bool true)], args := [d1, d2] }
  | _ => none }
def fnExactPointsForRow : OpenClaim := { program := "ytjifpedhncgieaa", sum := "715a3b4a00b11910f62e47638495ff0fbf77192ded554d964749901ce006fe02", func := "loop.example/g00647/laws.FnExactPointsFor", spec := "fnExactPointsFor", unfollowed := true, recurses := true, apart := false }
def FnExactPointsForSaid : Prop := fnExactPointsForRow.holds Try.pinned (OpenSpec.ofChange fnExactPointsForSpec)

/-- ITS FALSE NEIGHBOUR: 'it returns false'. Refute it at one input. -/
def fnExactPointsForWrong : ChangeSpec := { name := "fnExactPointsFor", fn := fun _ => fun
  | [d1, d2] => { results := [.lit (.bool false)], args := [d1, d2] }
  | _ => none }
def FnExactPointsForWrongFalsely : Prop := fnExactPointsForRow.holds Try.pinned (OpenSpec.ofChange fnExactPointsForWrong)

/-- 'laws.FnExactFromPoints': WHATEVER THE INPUT: true; the input reads as it did. -/
def fnExactFromPointsSpec : ChangeSpec := { name := "fnExactFromPoints", fn := fun _ => fun
  | [d1, d2] => { results := [.lit (.bool true)], args := [d1, d2] }
  | _ => none }
def fnExactFromPointsRow : OpenClaim := { program := "ytjifpedhncgieaa", sum := "715a3b4a00b11910f62e47638495ff0fbf77192ded554d964749901ce006fe02", func := "loop.example/g00647/laws.FnExactFromPoints", spec := "fnExactFromPoints", unfollowed := true, recurses := true, apart := false }
def FnExactFromPointsSaid : Prop := fnExactFromPointsRow.holds Try.pinned (OpenSpec.ofChange fnExactFromPointsSpec)

/-- ITS FALSE NEIGHBOUR: 'it returns false'. Refute it at one input. -/
def fnExactFromPointsWrong : ChangeSpec := { name := "fnExactFromPoints", fn := fun _ => fun
  | [d1, d2] => { results := [.lit (.bool false)], args := [d1, d2] }
  | _ => none }
def FnExactFromPointsWrongFalsely : Prop := fnExactFromPointsRow.holds Try.pinned (OpenSpec.ofChange fnExactFromPointsWrong)

/-- 'laws.FnExactGoodPoints': WHATEVER THE INPUT: true; the input reads as it did. -/
def fnExactGoodPointsSpec : ChangeSpec := { name := "fnExactGoodPoints", fn := fun _ => fun
  | [d] => { results := [.lit (.bool true)], args := [d] }
  | _ => none }
def fnExactGoodPointsRow : OpenClaim := { program := "ytjifpedhncgieaa", sum := "715a3b4a00b11910f62e47638495ff0fbf77192ded554d964749901ce006fe02", func := "loop.example/g00647/laws.FnExactGoodPoints", spec := "fnExactGoodPoints", unfollowed := true, recurses := true, apart := false }
def FnExactGoodPointsSaid : Prop := fnExactGoodPointsRow.holds Try.pinned (OpenSpec.ofChange fnExactGoodPointsSpec)

/-- ITS FALSE NEIGHBOUR: 'it returns false'. Refute it at one input. -/
def fnExactGoodPointsWrong : ChangeSpec := { name := "fnExactGoodPoints", fn := fun _ => fun
  | [d] => { results := [.lit (.bool false)], args := [d] }
  | _ => none }
def FnExactGoodPointsWrongFalsely : Prop := fnExactGoodPointsRow.holds Try.pinned (OpenSpec.ofChange fnExactGoodPointsWrong)

/-- 'laws.FnExactInverseOf': WHATEVER THE INPUT: true; the input reads as it did. -/
def fnExactInverseOfSpec : ChangeSpec := { name := "fnExactInverseOf", fn := fun _ => fun
  | [d] => { results := [.lit (.bool true)], args := [d] }
  | _ => none }
def fnExactInverseOfRow : OpenClaim := { program := "ytjifpedhncgieaa", sum := "715a3b4a00b11910f62e47638495ff0fbf77192ded554d964749901ce006fe02", func := "loop.example/g00647/laws.FnExactInverseOf", spec := "fnExactInverseOf", apart := false }
def FnExactInverseOfSaid : Prop := fnExactInverseOfRow.holds Try.pinned (OpenSpec.ofChange fnExactInverseOfSpec)

/-- ITS FALSE NEIGHBOUR: 'it returns false'. Refute it at one input. -/
def fnExactInverseOfWrong : ChangeSpec := { name := "fnExactInverseOf", fn := fun _ => fun
  | [d] => { results := [.lit (.bool false)], args := [d] }
  | _ => none }
def FnExactInverseOfWrongFalsely : Prop := fnExactInverseOfRow.holds Try.pinned (OpenSpec.ofChange fnExactInverseOfWrong)

/-- 'laws.FnExactAgreeWith': WHATEVER THE INPUT: true; the input reads as it did. -/
def fnExactAgreeWithSpec : ChangeSpec := { name := "fnExactAgreeWith", fn := fun _ => fun
  | [d1, d2] => { results := [.lit (.bool true)], args := [d1, d2] }
  | _ => none }
def fnExactAgreeWithRow : OpenClaim := { program := "ytjifpedhncgieaa", sum := "715a3b4a00b11910f62e47638495ff0fbf77192ded554d964749901ce006fe02", func := "loop.example/g00647/laws.FnExactAgreeWith", spec := "fnExactAgreeWith", unfollowed := true, recurses := true, apart := false }
def FnExactAgreeWithSaid : Prop := fnExactAgreeWithRow.holds Try.pinned (OpenSpec.ofChange fnExactAgreeWithSpec)

/-- ITS FALSE NEIGHBOUR: 'it returns false'. Refute it at one input. -/
def fnExactAgreeWithWrong : ChangeSpec := { name := "fnExactAgreeWith", fn := fun _ => fun
  | [d1, d2] => { results := [.lit (.bool false)], args := [d1, d2] }
  | _ => none }
def FnExactAgreeWithWrongFalsely : Prop := fnExactAgreeWithRow.holds Try.pinned (OpenSpec.ofChange fnExactAgreeWithWrong)

/- THE SECOND FORM. 'bulk': how many values and letters a reading holds, each counted each time it is reached (what is shared counts as often as it is met; a slice's spare places count too). A statement '..UptoSaid' is the law's where the arguments, and the package variables that the reading takes, are together of bulk at most 1048576: NARROWER than '..Said'. Prove '..Said' where nothing that the law and all that it calls make is longer than what came in: it says more and counts as full. Else prove '..UptoSaid'. A law counts once. -/
mutual
def uptoBulk {H : Type} : DataW H → Nat
  | .lit (.string bytes) => bytes.length + 1
  | .lit _ => 1
  | .nil => 1
  | .ptr d => uptoBulk d + 1
  | .slice elems spare => uptoBulkAll elems + uptoBulkAll spare + 1
  | .agg parts => uptoBulkAll parts + 1
  | .iface _ d => uptoBulk d + 1
  | .map entries => uptoBulkEntries entries + 1
  | .held _ => 1
def uptoBulkAll {H : Type} : List (DataW H) → Nat
  | [] => 0
  | d :: r => uptoBulk d + uptoBulkAll r
def uptoBulkEntries {H : Type} : List (Lit × DataW H) → Nat
  | [] => 0
  | x :: r => uptoBulkEntry x + uptoBulkEntries r
def uptoBulkEntry {H : Type} : Lit × DataW H → Nat
  | (.string bytes, d) => bytes.length + uptoBulk d + 1
  | (_, d) => uptoBulk d + 1
 end
def uptoSmall : (H : Type) → List (DataW H) → Bool := fun _ ds => decide (uptoBulkAll ds ≤ 1048576)
def OpenSpec.upto (s : _root_.Go.ChangeSpec) : _root_.Go.OpenSpec := { _root_.Go.OpenSpec.ofChange s with cond := some uptoSmall }

/-- 'laws.FnAny', WHERE WHAT IT READS IS OF BULK AT MOST 1048576: true; the input reads as it did. -/
def fnAnyUptoRow : OpenClaim := { program := "ytjifpedhncgieaa", sum := "715a3b4a00b11910f62e47638495ff0fbf77192ded554d964749901ce006fe02", func := "loop.example/g00647/laws.FnAny", spec := "fnAny", unfollowed := true, recurses := true, apart := false, narrowed := true }
def FnAnyUptoSaid : Prop := fnAnyUptoRow.holds Try.pinned (OpenSpec.upto fnAnySpec)

/-- 'laws.FnExactValueAt', WHERE WHAT IT READS IS OF BULK AT MOST 1048576: true; the input reads as it did. -/
def fnExactValueAtUptoRow : OpenClaim := { program := "ytjifpedhncgieaa", sum := "715a3b4a00b11910f62e47638495ff0fbf77192ded554d964749901ce006fe02", func := "loop.example/g00647/laws.FnExactValueAt", spec := "fnExactValueAt", unfollowed := true, recurses := true, apart := false, narrowed := true }
def FnExactValueAtUptoSaid : Prop := fnExactValueAtUptoRow.holds Try.pinned (OpenSpec.upto fnExactValueAtSpec)

/-- 'laws.FnExactPointsFor', WHERE WHAT IT READS IS OF BULK AT MOST 1048576: true; the input reads as it did. -/
def fnExactPointsForUptoRow : OpenClaim := { program := "ytjifpedhncgieaa", sum := "715a3b4a00b11910f62e47638495ff0fbf77192ded554d964749901ce006fe02", func := "loop.example/g00647/laws.FnExactPointsFor", spec := "fnExactPointsFor", unfollowed := true, recurses := true, apart := false, narrowed := true }
def FnExactPointsForUptoSaid : Prop := fnExactPointsForUptoRow.holds Try.pinned (OpenSpec.upto fnExactPointsForSpec)

/-- 'laws.FnExactFromPoints', WHERE WHAT IT READS IS OF BULK AT MOST 1048576: true; the input reads as it did. -/
def fnExactFromPointsUptoRow : OpenClaim := { program := "ytjifpedhncgieaa", sum := "715a3b4a00b11910f62e47638495ff0fbf77192ded554d964749901ce006fe02", func := "loop.example/g00647/laws.FnExactFromPoints", spec := "fnExactFromPoints", unfollowed := true, recurses := true, apart := false, narrowed := true }
def FnExactFromPointsUptoSaid : Prop := fnExactFromPointsUptoRow.holds Try.pinned (OpenSpec.upto fnExactFromPointsSpec)

/-- 'laws.FnExactGoodPoints', WHERE WHAT IT READS IS OF BULK AT MOST 1048576: true; the input reads as it did. -/
def fnExactGoodPointsUptoRow : OpenClaim := { program := "ytjifpedhncgieaa", sum := "715a3b4a00b11910f62e47638495ff0fbf77192ded554d964749901ce006fe02", func := "loop.example/g00647/laws.FnExactGoodPoints", spec := "fnExactGoodPoints", unfollowed := true, recurses := true, apart := false, narrowed := true }
def FnExactGoodPointsUptoSaid : Prop := fnExactGoodPointsUptoRow.holds Try.pinned (OpenSpec.upto fnExactGoodPointsSpec)

/-- 'laws.FnExactInverseOf', WHERE WHAT IT READS IS OF BULK AT MOST 1048576: true; the input reads as it did. -/
def fnExactInverseOfUptoRow : OpenClaim := { program := "ytjifpedhncgieaa", sum := "715a3b4a00b11910f62e47638495ff0fbf77192ded554d964749901ce006fe02", func := "loop.example/g00647/laws.FnExactInverseOf", spec := "fnExactInverseOf", apart := false, narrowed := true }
def FnExactInverseOfUptoSaid : Prop := fnExactInverseOfUptoRow.holds Try.pinned (OpenSpec.upto fnExactInverseOfSpec)

/-- 'laws.FnExactAgreeWith', WHERE WHAT IT READS IS OF BULK AT MOST 1048576: true; the input reads as it did. -/
def fnExactAgreeWithUptoRow : OpenClaim := { program := "ytjifpedhncgieaa", sum := "715a3b4a00b11910f62e47638495ff0fbf77192ded554d964749901ce006fe02", func := "loop.example/g00647/laws.FnExactAgreeWith", spec := "fnExactAgreeWith", unfollowed := true, recurses := true, apart := false, narrowed := true }
def FnExactAgreeWithUptoSaid : Prop := fnExactAgreeWithUptoRow.holds Try.pinned (OpenSpec.upto fnExactAgreeWithSpec)

end Rows
end Go.Proofs.Ytjifpedhncgieaa
