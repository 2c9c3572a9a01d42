/-
  DERIVED. GIVEN WITH THE SEED: THE CARDS: each row of YtdoogleggdlddaaDoorRows.lean that lists a variable, with what it lists TIED to the program's text (the seventh form; the later family's looks); each row that meets fmt, with fmt's text TOLD by the authors' own Lean function (tested against real Go, not proved from fmt's source: count such statements apart). THE CARD IS WHAT COUNTS. Prove the row's statement (the work); the ties are given (YtdoogleggdlddaaDoorTie.lean); close each card by the builder's one call (the guide's Derived/Test/ToyasCard.lean, 'card_holds'). Laid BY PROGRAM, IN A SANDBOX (cutbox-door.mjs). By AI agents, Wed Nov 11 2026. No macro, syntax, notation, axiom, sorry.
-/
import Derived.Test.YtdoogleggdlddaaDoorRows
import GoSem.ClaimSeven
namespace Go.Proofs.YtdoogleggdlddaaDoor
namespace Rows

/-- THE TIED CARD OF 'laws.FnWhole'. -/
def fnWholeCard : Claim7 := { stood := { row := fnWholeRow, standIns := [], harness := (true, "e3002dc027ab77a9114e1df39398ca6b0cbb43377d507a1422a713357d4b8298"), looks := false }, kinds := [], alts := [], laidByText := true, laidKinds := [.data], laidTests := true, laidLooks := .later }
def FnWholeCardSaid : Prop := Claim7.holds Tryd.pinned (.plain (OpenSpec.ofChange fnWholeSpec)) fnWholeCard

/-- THE TIED CARD OF 'laws.FnExtras'. -/
def fnExtrasCard : Claim7 := { stood := { row := fnExtrasRow, standIns := [], harness := (true, "e3002dc027ab77a9114e1df39398ca6b0cbb43377d507a1422a713357d4b8298"), looks := false }, kinds := [], alts := [], laidByText := true, laidKinds := [.data], laidTests := true, laidLooks := .later }
def FnExtrasCardSaid : Prop := Claim7.holds Tryd.pinned (.plain (OpenSpec.ofChange fnExtrasSpec)) fnExtrasCard

/-- THE TIED CARD OF 'laws.FnExactSolveAll'. -/
def fnExactSolveAllCard : Claim7 := { stood := { row := fnExactSolveAllRow, standIns := [], harness := (true, "e3002dc027ab77a9114e1df39398ca6b0cbb43377d507a1422a713357d4b8298"), looks := false }, kinds := [], alts := [], laidByText := true, laidKinds := [.data], laidTests := true, laidLooks := .later }
def FnExactSolveAllCardSaid : Prop := Claim7.holds Tryd.pinned (.plain (OpenSpec.ofChange fnExactSolveAllSpec)) fnExactSolveAllCard

/-- THE TIED CARD OF 'laws.FnExactSmallestOf'. -/
def fnExactSmallestOfCard : Claim7 := { stood := { row := fnExactSmallestOfRow, standIns := [], harness := (true, "e3002dc027ab77a9114e1df39398ca6b0cbb43377d507a1422a713357d4b8298"), looks := false }, kinds := [], alts := [], laidByText := true, laidKinds := [.data], laidTests := true, laidLooks := .later }
def FnExactSmallestOfCardSaid : Prop := Claim7.holds Tryd.pinned (.plain (OpenSpec.ofChange fnExactSmallestOfSpec)) fnExactSmallestOfCard

/-- THE SECOND FORM's CARD OF 'laws.FnWhole'. -/
def fnWholeUptoCard : Claim7 := { stood := { row := fnWholeUptoRow, standIns := [], harness := (true, "e3002dc027ab77a9114e1df39398ca6b0cbb43377d507a1422a713357d4b8298"), looks := false }, kinds := [], alts := [], laidByText := true, laidKinds := [.data], laidTests := true, laidLooks := .later }
def FnWholeUptoCardSaid : Prop := Claim7.holds Tryd.pinned (.plain (OpenSpec.upto fnWholeSpec)) fnWholeUptoCard

/-- THE SECOND FORM's CARD OF 'laws.FnExtras'. -/
def fnExtrasUptoCard : Claim7 := { stood := { row := fnExtrasUptoRow, standIns := [], harness := (true, "e3002dc027ab77a9114e1df39398ca6b0cbb43377d507a1422a713357d4b8298"), looks := false }, kinds := [], alts := [], laidByText := true, laidKinds := [.data], laidTests := true, laidLooks := .later }
def FnExtrasUptoCardSaid : Prop := Claim7.holds Tryd.pinned (.plain (OpenSpec.upto fnExtrasSpec)) fnExtrasUptoCard

/-- THE SECOND FORM's CARD OF 'laws.FnExactSolveAll'. -/
def fnExactSolveAllUptoCard : Claim7 := { stood := { row := fnExactSolveAllUptoRow, standIns := [], harness := (true, "e3002dc027ab77a9114e1df39398ca6b0cbb43377d507a1422a713357d4b8298"), looks := false }, kinds := [], alts := [], laidByText := true, laidKinds := [.data], laidTests := true, laidLooks := .later }
def FnExactSolveAllUptoCardSaid : Prop := Claim7.holds Tryd.pinned (.plain (OpenSpec.upto fnExactSolveAllSpec)) fnExactSolveAllUptoCard

/-- THE SECOND FORM's CARD OF 'laws.FnExactSmallestOf'. -/
def fnExactSmallestOfUptoCard : Claim7 := { stood := { row := fnExactSmallestOfUptoRow, standIns := [], harness := (true, "e3002dc027ab77a9114e1df39398ca6b0cbb43377d507a1422a713357d4b8298"), looks := false }, kinds := [], alts := [], laidByText := true, laidKinds := [.data], laidTests := true, laidLooks := .later }
def FnExactSmallestOfUptoCardSaid : Prop := Claim7.holds Tryd.pinned (.plain (OpenSpec.upto fnExactSmallestOfSpec)) fnExactSmallestOfUptoCard
end Rows
end Go.Proofs.YtdoogleggdlddaaDoor
