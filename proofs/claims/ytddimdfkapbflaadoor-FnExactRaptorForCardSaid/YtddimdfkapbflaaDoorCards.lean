/-
  DERIVED. GIVEN WITH THE SEED: THE CARDS: each row of YtddimdfkapbflaaDoorRows.lean that lists a variable, with what it lists TIED to the program's text (the seventh form; the later family's looks); each row that meets fmt, with fmt's text TOLD by the authors' own Lean function (tested against real Go, not proved from fmt's source: count such statements apart). THE CARD IS WHAT COUNTS. Prove the row's statement (the work); the ties are given (YtddimdfkapbflaaDoorTie.lean); close each card by the builder's one call (the guide's Derived/Test/ToyasCard.lean, 'card_holds'). Laid BY PROGRAM, IN A SANDBOX (cutbox-door.mjs). By AI agents, Wed Nov 11 2026. No macro, syntax, notation, axiom, sorry.
-/
import Derived.Test.YtddimdfkapbflaaDoorRows
import GoSem.ClaimSeven
namespace Go.Proofs.YtddimdfkapbflaaDoor
namespace Rows

/-- THE TIED CARD OF 'laws.FnExactRaptorFor'. -/
def fnExactRaptorForCard : Claim7 := { stood := { row := fnExactRaptorForRow, standIns := [], harness := (true, "46a4a4ee9ec8de21b56d357b0153382df775f0479de64ad0ca7a483f15911ac1"), looks := false }, kinds := [], alts := [], laidByText := true, laidKinds := [.data], laidTests := true, laidLooks := .later }
def FnExactRaptorForCardSaid : Prop := Claim7.holds Tryd.pinned (.plain (OpenSpec.ofChange fnExactRaptorForSpec)) fnExactRaptorForCard

/-- THE TIED CARD OF 'laws.FnExactRowFor'. -/
def fnExactRowForCard : Claim7 := { stood := { row := fnExactRowForRow, standIns := [], harness := (true, "46a4a4ee9ec8de21b56d357b0153382df775f0479de64ad0ca7a483f15911ac1"), looks := false }, kinds := [], alts := [], laidByText := true, laidKinds := [.data], laidTests := true, laidLooks := .later }
def FnExactRowForCardSaid : Prop := Claim7.holds Tryd.pinned (.plain (OpenSpec.ofChange fnExactRowForSpec)) fnExactRowForCard

/-- THE SECOND FORM's CARD OF 'laws.FnExactRaptorFor'. -/
def fnExactRaptorForUptoCard : Claim7 := { stood := { row := fnExactRaptorForUptoRow, standIns := [], harness := (true, "46a4a4ee9ec8de21b56d357b0153382df775f0479de64ad0ca7a483f15911ac1"), looks := false }, kinds := [], alts := [], laidByText := true, laidKinds := [.data], laidTests := true, laidLooks := .later }
def FnExactRaptorForUptoCardSaid : Prop := Claim7.holds Tryd.pinned (.plain (OpenSpec.upto fnExactRaptorForSpec)) fnExactRaptorForUptoCard

/-- THE SECOND FORM's CARD OF 'laws.FnExactRowFor'. -/
def fnExactRowForUptoCard : Claim7 := { stood := { row := fnExactRowForUptoRow, standIns := [], harness := (true, "46a4a4ee9ec8de21b56d357b0153382df775f0479de64ad0ca7a483f15911ac1"), looks := false }, kinds := [], alts := [], laidByText := true, laidKinds := [.data], laidTests := true, laidLooks := .later }
def FnExactRowForUptoCardSaid : Prop := Claim7.holds Tryd.pinned (.plain (OpenSpec.upto fnExactRowForSpec)) fnExactRowForUptoCard
end Rows
end Go.Proofs.YtddimdfkapbflaaDoor
