/-
  No cell of these rows narrows 'for every input' (looked for: loops, veiled, ifaces, maps, wideKeys, modest, calm, conditions, laid).
  DERIVED. THE GIVEN ROWS OF THIS SEAT. 8 by the template 'for every input the law returns true; each argument reads behind the call as it read before'; 0 by the template 'total and deterministic' (their statements: YtbegikjoialahaaTotals.lean).
  GIVEN WITH THE SEED: the statements are not yours to turn. If you find one false, say at which input.
  Laid BY PROGRAM, IN A SANDBOX (cutbox-rows.mjs): the forced cells as the released guide's own fill.sh prints them over the translation ff2b78dffd469c2d… (all of the seat's roots in one cut). By AI agents, Wed Nov 11 2026. No macro, syntax, notation, axiom, sorry.
-/
import Derived.Test.YtbegikjoialahaaChecked
import GoSem.Claim
import GoSem.ClaimJoined
import GoSem.ClaimMapViews
import Derived.JoinedTies
import Derived.KernelRfl
namespace Go.Proofs.Ytbegikjoialahaa
/- THE CELL 'sum', in the pinned program and in every row, IS THE sha256 OF THE DUMP (.gsa) THAT YtbegikjoialahaaProg.lean LOADS. Nothing in Lean hashes anything: it is a label: what it is worth is what the hold of that sum in a sandbox is worth. -/
noncomputable def Try.pinned : Pinned := { name := "ytbegikjoialahaa", sum := "ff2b78dffd469c2d529e663f0f065d41d6bf10e24418b897fdfa6672940ce10e", checked := Try.checked }
namespace Rows
def none {H : Type} : Left H := { results := [], args := [] }

/-- 'laws.FnGiven': WHATEVER THE INPUT: true; the input reads as it did. -/
def fnGivenSpec : ChangeSpec := { name := "fnGiven", fn := fun _ => fun
  | [d1, d2] => { results := [.lit (.bool true)], args := [d1, d2] }
  | _ => none }
def fnGivenRow : OpenClaim := { program := "ytbegikjoialahaa", sum := "ff2b78dffd469c2d529e663f0f065d41d6bf10e24418b897fdfa6672940ce10e", func := "loop.example/g00647/laws.FnGiven", spec := "fnGiven", unfollowed := true, recurses := true, apart := false }
def FnGivenSaid : Prop := fnGivenRow.holds Try.pinned (OpenSpec.ofChange fnGivenSpec)

/-- ITS FALSE NEIGHBOUR: 'it returns false'. Refute it at one input. -/
def fnGivenWrong : ChangeSpec := { name := "fnGiven", fn := fun _ => fun
  | [d1, d2] => { results := [.lit (.bool false)], args := [d1, d2] }
  | _ => none }
def FnGivenWrongFalsely : Prop := fnGivenRow.holds Try.pinned (OpenSpec.ofChange fnGivenWrong)

/-- 'laws.FnAside': WHATEVER THE INPUT: true; the input reads as it did. -/
def fnAsideSpec : ChangeSpec := { name := "fnAside", fn := fun _ => fun
  | [d1, d2] => { results := [.lit (.bool true)], args := [d1, d2] }
  | _ => none }
def fnAsideRow : OpenClaim := { program := "ytbegikjoialahaa", sum := "ff2b78dffd469c2d529e663f0f065d41d6bf10e24418b897fdfa6672940ce10e", func := "loop.example/g00647/laws.FnAside", spec := "fnAside", unfollowed := true, recurses := true, apart := false }
def FnAsideSaid : Prop := fnAsideRow.holds Try.pinned (OpenSpec.ofChange fnAsideSpec)

/-- ITS FALSE NEIGHBOUR: 'it returns false'. Refute it at one input. -/
def fnAsideWrong : ChangeSpec := { name := "fnAside", fn := fun _ => fun
  | [d1, d2] => { results := [.lit (.bool false)], args := [d1, d2] }
  | _ => none }
def FnAsideWrongFalsely : Prop := fnAsideRow.holds Try.pinned (OpenSpec.ofChange fnAsideWrong)

/-- 'laws.FnExactNewGiver': WHATEVER THE INPUT: true; the input reads as it did. -/
def fnExactNewGiverSpec : ChangeSpec := { name := "fnExactNewGiver", fn := fun _ => fun
  | [] => { results := [.lit (.bool true)], args := [] }
  | _ => none }
def fnExactNewGiverRow : OpenClaim := { program := "ytbegikjoialahaa", sum := "ff2b78dffd469c2d529e663f0f065d41d6bf10e24418b897fdfa6672940ce10e", func := "loop.example/g00647/laws.FnExactNewGiver", spec := "fnExactNewGiver", apart := false }
def FnExactNewGiverSaid : Prop := fnExactNewGiverRow.holds Try.pinned (OpenSpec.ofChange fnExactNewGiverSpec)

/-- ITS FALSE NEIGHBOUR: 'it returns false'. Refute it at one input. -/
def fnExactNewGiverWrong : ChangeSpec := { name := "fnExactNewGiver", fn := fun _ => fun
  | [] => { results := [.lit (.bool false)], args := [] }
  | _ => none }
def FnExactNewGiverWrongFalsely : Prop := fnExactNewGiverRow.holds Try.pinned (OpenSpec.ofChange fnExactNewGiverWrong)

/-- 'laws.FnExactGoodGiver': WHATEVER THE INPUT: true; the input reads as it did. -/
def fnExactGoodGiverSpec : ChangeSpec := { name := "fnExactGoodGiver", fn := fun _ => fun
  | [d] => { results := [.lit (.bool true)], args := [d] }
  | _ => none }
def fnExactGoodGiverRow : OpenClaim := { program := "ytbegikjoialahaa", sum := "ff2b78dffd469c2d529e663f0f065d41d6bf10e24418b897fdfa6672940ce10e", func := "loop.example/g00647/laws.FnExactGoodGiver", spec := "fnExactGoodGiver", apart := false }
def FnExactGoodGiverSaid : Prop := fnExactGoodGiverRow.holds Try.pinned (OpenSpec.ofChange fnExactGoodGiverSpec)

/-- ITS FALSE NEIGHBOUR: 'it returns false'. Refute it at one input. -/
def fnExactGoodGiverWrong : ChangeSpec := { name := "fnExactGoodGiver", fn := fun _ => fun
  | [d] => { results := [.lit (.bool false)], args := [d] }
  | _ => none }
def FnExactGoodGiverWrongFalsely : Prop := fnExactGoodGiverRow.holds Try.pinned (OpenSpec.ofChange fnExactGoodGiverWrong)

/-- 'laws.FnExactStepGiver': WHATEVER THE INPUT: true; the input reads as it did. -/
def fnExactStepGiverSpec : ChangeSpec := { name := "fnExactStepGiver", fn := fun _ => fun
  | [d1, d2] => { results := [.lit (.bool true)], args := [d1, d2] }
  | _ => none }
def fnExactStepGiverRow : OpenClaim := { program := "ytbegikjoialahaa", sum := "ff2b78dffd469c2d529e663f0f065d41d6bf10e24418b897fdfa6672940ce10e", func := "loop.example/g00647/laws.FnExactStepGiver", spec := "fnExactStepGiver", unfollowed := true, recurses := true, apart := false }
def FnExactStepGiverSaid : Prop := fnExactStepGiverRow.holds Try.pinned (OpenSpec.ofChange fnExactStepGiverSpec)

/-- ITS FALSE NEIGHBOUR: 'it returns false'. Refute it at one input. -/
def fnExactStepGiverWrong : ChangeSpec := { name := "fnExactStepGiver", fn := fun _ => fun
  | [d1, d2] => { results := [.lit (.bool false)], args := [d1, d2] }
  | _ => none }
def FnExactStepGiverWrongFalsely : Prop := fnExactStepGiverRow.holds Try.pinned (OpenSpec.ofChange fnExactStepGiverWrong)

/-- 'laws.FnExactPlayGiver': WHATEVER THE INPUT: true; the input reads as it did. -/
def fnExactPlayGiverSpec : ChangeSpec := { name := "fnExactPlayGiver", fn := fun _ => fun
  | [d] => { results := [.lit (.bool true)], args := [d] }
  | _ => none }
def fnExactPlayGiverRow : OpenClaim := { program := "ytbegikjoialahaa", sum := "ff2b78dffd469c2d529e663f0f065d41d6bf10e24418b897fdfa6672940ce10e", func := "loop.example/g00647/laws.FnExactPlayGiver", spec := "fnExactPlayGiver", unfollowed := true, recurses := true, apart := false }
def FnExactPlayGiverSaid : Prop := fnExactPlayGiverRow.holds Try.pinned (OpenSpec.ofChange fnExactPlayGiverSpec)

/-- ITS FALSE NEIGHBOUR: 'it returns false'. Refute it at one input. -/
def fnExactPlayGiverWrong : ChangeSpec := { name := "fnExactPlayGiver", fn := fun _ => fun
  | [d] => { results := [.lit (.bool false)], args := [d] }
  | _ => none }
def FnExactPlayGiverWrongFalsely : Prop := fnExactPlayGiverRow.holds Try.pinned (OpenSpec.ofChange fnExactPlayGiverWrong)

/-- 'laws.FnExactLostIn': WHATEVER THE INPUT: true; the input reads as it did. -/
def fnExactLostInSpec : ChangeSpec := { name := "fnExactLostIn", fn := fun _ => fun
  | [d] => { results := [.lit (.bool true)], args := [d] }
  | _ => none }
def fnExactLostInRow : OpenClaim := { program := "ytbegikjoialahaa", sum := "ff2b78dffd469c2d529e663f0f065d41d6bf10e24418b897fdfa6672940ce10e", func := "loop.example/g00647/laws.FnExactLostIn", spec := "fnExactLostIn", apart := false }
def FnExactLostInSaid : Prop := fnExactLostInRow.holds Try.pinned (OpenSpec.ofChange fnExactLostInSpec)

/-- ITS FALSE NEIGHBOUR: 'it returns false'. Refute it at one input. -/
def fnExactLostInWrong : ChangeSpec := { name := "fnExactLostIn", fn := fun _ => fun
  | [d] => { results := [.lit (.bool false)], args := [d] }
  | _ => none }
def FnExactLostInWrongFalsely : Prop := fnExactLostInRow.holds Try.pinned (OpenSpec.ofChange fnExactLostInWrong)

/-- 'laws.FnExactRoomIn': WHATEVER THE INPUT: true; the input reads as it did. -/
def fnExactRoomInSpec : ChangeSpec := { name := "fnExactRoomIn", fn := fun _ => fun
  | [d] => { results := [.lit (.bool true)], args := [d] }
  | _ => none }
def fnExactRoomInRow : OpenClaim := { program := "ytbegikjoialahaa", sum := "ff2b78dffd469c2d529e663f0f065d41d6bf10e24418b897fdfa6672940ce10e", func := "loop.example/g00647/laws.FnExactRoomIn", spec := "fnExactRoomIn", unfollowed := true, recurses := true, apart := false }
def FnExactRoomInSaid : Prop := fnExactRoomInRow.holds Try.pinned (OpenSpec.ofChange fnExactRoomInSpec)

/-- ITS FALSE NEIGHBOUR: 'it returns false'. Refute it at one input. -/
def fnExactRoomInWrong : ChangeSpec := { name := "fnExactRoomIn", fn := fun _ => fun
  | [d] => { results := [.lit (.bool false)], args := [d] }
  | _ => none }
def FnExactRoomInWrongFalsely : Prop := fnExactRoomInRow.holds Try.pinned (OpenSpec.ofChange fnExactRoomInWrong)

/- THE SECOND FORM. 'bulk': how many values and letters a reading holds, each counted each time it is reached (what is shared counts as often as it is met; a slice's spare places count too). A statement '..UptoSaid' is the law's where the arguments, and the package variables that the reading takes, are together of bulk at most 1048576: NARROWER than '..Said'. Prove '..Said' where nothing that the law and all that it calls make is longer than what came in: it says more and counts as full. Else prove '..UptoSaid'. A law counts once. -/
mutual
def uptoBulk {H : Type} : DataW H → Nat
  | .lit (.string bytes) => bytes.length + 1
  | .lit _ => 1
  | .nil => 1
  | .ptr d => uptoBulk d + 1
  | .slice elems spare => uptoBulkAll elems + uptoBulkAll spare + 1
  | .agg parts => uptoBulkAll parts + 1
  | .iface _ d => uptoBulk d + 1
  | .map entries => uptoBulkEntries entries + 1
  | .held _ => 1
def uptoBulkAll {H : Type} : List (DataW H) → Nat
  | [] => 0
  | d :: r => uptoBulk d + uptoBulkAll r
def uptoBulkEntries {H : Type} : List (Lit × DataW H) → Nat
  | [] => 0
  | x :: r => uptoBulkEntry x + uptoBulkEntries r
def uptoBulkEntry {H : Type} : Lit × DataW H → Nat
  | (.string bytes, d) => bytes.length + uptoBulk d + 1
  | (_, d) => uptoBulk d + 1
 end
def uptoSmall : (H : Type) → List (DataW H) → Bool := fun _ ds => decide (uptoBulkAll ds ≤ 1048576)
def OpenSpec.upto (s : _root_.Go.ChangeSpec) : _root_.Go.OpenSpec := { _root_.Go.OpenSpec.ofChange s with cond := some uptoSmall }

/-- 'laws.FnGiven', WHERE WHAT IT READS IS OF BULK AT MOST 1048576: true; the input reads as it did. -/
def fnGivenUptoRow : OpenClaim := { program := "ytbegikjoialahaa", sum := "ff2b78dffd469c2d529e663f0f065d41d6bf10e24418b897fdfa6672940ce10e", func := "loop.example/g00647/laws.FnGiven", spec := "fnGiven", unfollowed := true, recurses := true, apart := false, narrowed := true }
def FnGivenUptoSaid : Prop := fnGivenUptoRow.holds Try.pinned (OpenSpec.upto fnGivenSpec)

/-- 'laws.FnAside', WHERE WHAT IT READS IS OF BULK AT MOST 1048576: true; the input reads as it did. -/
def fnAsideUptoRow : OpenClaim := { program := "ytbegikjoialahaa", sum := "ff2b78dffd469c2d529e663f0f065d41d6bf10e24418b897fdfa6672940ce10e", func := "loop.example/g00647/laws.FnAside", spec := "fnAside", unfollowed := true, recurses := true, apart := false, narrowed := true }
def FnAsideUptoSaid : Prop := fnAsideUptoRow.holds Try.pinned (OpenSpec.upto fnAsideSpec)

/-- 'laws.FnExactNewGiver', WHERE WHAT IT READS IS OF BULK AT MOST 1048576: true; the input reads as it did. -/
def fnExactNewGiverUptoRow : OpenClaim := { program := "ytbegikjoialahaa", sum := "ff2b78dffd469c2d529e663f0f065d41d6bf10e24418b897fdfa6672940ce10e", func := "loop.example/g00647/laws.FnExactNewGiver", spec := "fnExactNewGiver", apart := false, narrowed := true }
def FnExactNewGiverUptoSaid : Prop := fnExactNewGiverUptoRow.holds Try.pinned (OpenSpec.upto fnExactNewGiverSpec)

/-- 'laws.FnExactGoodGiver', WHERE WHAT IT READS IS OF BULK AT MOST 1048576: true; the input reads as it did. -/
def fnExactGoodGiverUptoRow : OpenClaim := { program := "ytbegikjoialahaa", sum := "ff2b78dffd469c2d529e663f0f065d41d6bf10e24418b897fdfa6672940ce10e", func := "loop.example/g00647/laws.FnExactGoodGiver", spec := "fnExactGoodGiver", apart := false, narrowed := true }
def FnExactGoodGiverUptoSaid : Prop := fnExactGoodGiverUptoRow.holds Try.pinned (OpenSpec.upto fnExactGoodGiverSpec)

/-- 'laws.FnExactStepGiver', WHERE WHAT IT READS IS OF BULK AT MOST 1048576: true; the input reads as it did. -/
def fnExactStepGiverUptoRow : OpenClaim := { program := "ytbegikjoialahaa", sum := "ff2b78dffd469c2d529e663f0f065d41d6bf10e24418b897fdfa6672940ce10e", func := "loop.example/g00647/laws.FnExactStepGiver", spec := "fnExactStepGiver", unfollowed := true, recurses := true, apart := false, narrowed := true }
def FnExactStepGiverUptoSaid : Prop := fnExactStepGiverUptoRow.holds Try.pinned (OpenSpec.upto fnExactStepGiverSpec)

/-- 'laws.FnExactPlayGiver', WHERE WHAT IT READS IS OF BULK AT MOST 1048576: true; the input reads as it did. -/
def fnExactPlayGiverUptoRow : OpenClaim := { program := "ytbegikjoialahaa", sum := "ff2b78dffd469c2d529e663f0f065d41d6bf10e24418b897fdfa6672940ce10e", func := "loop.example/g00647/laws.FnExactPlayGiver", spec := "fnExactPlayGiver", unfollowed := true, recurses := true, apart := false, narrowed := true }
def FnExactPlayGiverUptoSaid : Prop := fnExactPlayGiverUptoRow.holds Try.pinned (OpenSpec.upto fnExactPlayGiverSpec)

/-- 'laws.FnExactLostIn', WHERE WHAT IT READS IS OF BULK AT MOST 1048576: true; the input reads as it did. -/
def fnExactLostInUptoRow : OpenClaim := { program := "ytbegikjoialahaa", sum := "ff2b78dffd469c2d529e663f0f065d41d6bf10e24418b897fdfa6672940ce10e", func := "loop.example/g00647/laws.FnExactLostIn", spec := "fnExactLostIn", apart := false, narrowed := true }
def FnExactLostInUptoSaid : Prop := fnExactLostInUptoRow.holds Try.pinned (OpenSpec.upto fnExactLostInSpec)

/-- 'laws.FnExactRoomIn', WHERE WHAT IT READS IS OF BULK AT MOST 1048576: true; the input reads as it did. -/
def fnExactRoomInUptoRow : OpenClaim := { program := "ytbegikjoialahaa", sum := "ff2b78dffd469c2d529e663f0f065d41d6bf10e24418b897fdfa6672940ce10e", func := "loop.example/g00647/laws.FnExactRoomIn", spec := "fnExactRoomIn", unfollowed := true, recurses := true, apart := false, narrowed := true }
def FnExactRoomInUptoSaid : Prop := fnExactRoomInUptoRow.holds Try.pinned (OpenSpec.upto fnExactRoomInSpec)

end Rows
end Go.Proofs.Ytbegikjoialahaa
