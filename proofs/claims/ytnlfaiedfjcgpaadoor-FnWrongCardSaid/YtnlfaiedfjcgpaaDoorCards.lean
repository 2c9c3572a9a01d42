/-
  DERIVED. GIVEN WITH THE SEED: THE CARDS: each row of YtnlfaiedfjcgpaaDoorRows.lean that lists a variable, with what it lists TIED to the program's text (the seventh form; the later family's looks); each row that meets fmt, with fmt's text TOLD by the authors' own Lean function (tested against real Go, not proved from fmt's source: count such statements apart). THE CARD IS WHAT COUNTS. Prove the row's statement (the work); the ties are given (YtnlfaiedfjcgpaaDoorTie.lean); close each card by the builder's one call (the guide's Derived/Test/ToyasCard.lean, 'card_holds'). Laid BY PROGRAM, IN A SANDBOX (cutbox-door.mjs). By AI agents, Wed Nov 11 2026. No macro, syntax, notation, axiom, sorry.
-/
import Derived.Test.YtnlfaiedfjcgpaaDoorRows
import GoSem.ClaimSeven
namespace Go.Proofs.YtnlfaiedfjcgpaaDoor
namespace Rows

/-- THE TIED CARD OF 'laws.FnWrong'. -/
def fnWrongCard : Claim7 := { stood := { row := fnWrongRow, standIns := [], harness := (true, "43d593a4abe497e2d499b16bcb0f064873f078da97aa5c4ac0d86ded912af549"), looks := false }, kinds := [], alts := [], laidByText := true, laidKinds := [.data], laidTests := true, laidLooks := .later }
def FnWrongCardSaid : Prop := Claim7.holds Tryd.pinned (.plain (OpenSpec.ofChange fnWrongSpec)) fnWrongCard

/-- THE TIED CARD OF 'laws.FnExactReadWrong'. -/
def fnExactReadWrongCard : Claim7 := { stood := { row := fnExactReadWrongRow, standIns := [], harness := (true, "43d593a4abe497e2d499b16bcb0f064873f078da97aa5c4ac0d86ded912af549"), looks := false }, kinds := [], alts := [], laidByText := true, laidKinds := [.data], laidTests := true, laidLooks := .later }
def FnExactReadWrongCardSaid : Prop := Claim7.holds Tryd.pinned (.plain (OpenSpec.ofChange fnExactReadWrongSpec)) fnExactReadWrongCard

/-- THE SECOND FORM's CARD OF 'laws.FnWrong'. -/
def fnWrongUptoCard : Claim7 := { stood := { row := fnWrongUptoRow, standIns := [], harness := (true, "43d593a4abe497e2d499b16bcb0f064873f078da97aa5c4ac0d86ded912af549"), looks := false }, kinds := [], alts := [], laidByText := true, laidKinds := [.data], laidTests := true, laidLooks := .later }
def FnWrongUptoCardSaid : Prop := Claim7.holds Tryd.pinned (.plain (OpenSpec.upto fnWrongSpec)) fnWrongUptoCard

/-- THE SECOND FORM's CARD OF 'laws.FnExactReadWrong'. -/
def fnExactReadWrongUptoCard : Claim7 := { stood := { row := fnExactReadWrongUptoRow, standIns := [], harness := (true, "43d593a4abe497e2d499b16bcb0f064873f078da97aa5c4ac0d86ded912af549"), looks := false }, kinds := [], alts := [], laidByText := true, laidKinds := [.data], laidTests := true, laidLooks := .later }
def FnExactReadWrongUptoCardSaid : Prop := Claim7.holds Tryd.pinned (.plain (OpenSpec.upto fnExactReadWrongSpec)) fnExactReadWrongUptoCard
end Rows
end Go.Proofs.YtnlfaiedfjcgpaaDoor
