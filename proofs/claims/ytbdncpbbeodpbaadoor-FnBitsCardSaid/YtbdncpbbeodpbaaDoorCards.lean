/-
  DERIVED. GIVEN WITH THE SEED: THE CARDS: each row of YtbdncpbbeodpbaaDoorRows.lean that lists a variable, with what it lists TIED to the program's text (the seventh form; the later family's looks); each row that meets fmt, with fmt's text TOLD by the authors' own Lean function (tested against real Go, not proved from fmt's source: count such statements apart). THE CARD IS WHAT COUNTS. Prove the row's statement (the work); the ties are given (YtbdncpbbeodpbaaDoorTie.lean); close each card by the builder's one call (the guide's Derived/Test/ToyasCard.lean, 'card_holds'). Laid BY PROGRAM, IN A SANDBOX (cutbox-door.mjs). By AI agents, Wed Nov 11 2026. No macro, syntax, notation, axiom, sorry.
-/
import Derived.Test.YtbdncpbbeodpbaaDoorRows
import GoSem.ClaimSeven
namespace Go.Proofs.YtbdncpbbeodpbaaDoor
namespace Rows

/-- THE TIED CARD OF 'laws.FnAdded'. -/
def fnAddedCard : Claim7 := { stood := { row := fnAddedRow, standIns := [], harness := (true, "535811b55000662b5a25c3c511d4939512c568d53ec41852e2a6dc73b21e8590"), looks := false }, kinds := [], alts := [], laidByText := true, laidKinds := [.data], laidTests := true, laidLooks := .later }
def FnAddedCardSaid : Prop := Claim7.holds Tryd.pinned (.plain (OpenSpec.ofChange fnAddedSpec)) fnAddedCard

/-- THE TIED CARD OF 'laws.FnBits'. -/
def fnBitsCard : Claim7 := { stood := { row := fnBitsRow, standIns := [], harness := (true, "535811b55000662b5a25c3c511d4939512c568d53ec41852e2a6dc73b21e8590"), looks := false }, kinds := [], alts := [], laidByText := true, laidKinds := [.data], laidTests := true, laidLooks := .later }
def FnBitsCardSaid : Prop := Claim7.holds Tryd.pinned (.plain (OpenSpec.ofChange fnBitsSpec)) fnBitsCard

/-- THE TIED CARD OF 'laws.FnExactGoodRow'. -/
def fnExactGoodRowCard : Claim7 := { stood := { row := fnExactGoodRowRow, standIns := [], harness := (true, "535811b55000662b5a25c3c511d4939512c568d53ec41852e2a6dc73b21e8590"), looks := false }, kinds := [], alts := [], laidByText := true, laidKinds := [.data], laidTests := true, laidLooks := .later }
def FnExactGoodRowCardSaid : Prop := Claim7.holds Tryd.pinned (.plain (OpenSpec.ofChange fnExactGoodRowSpec)) fnExactGoodRowCard

/-- THE TIED CARD OF 'laws.FnExactAddRows'. -/
def fnExactAddRowsCard : Claim7 := { stood := { row := fnExactAddRowsRow, standIns := [], harness := (true, "535811b55000662b5a25c3c511d4939512c568d53ec41852e2a6dc73b21e8590"), looks := false }, kinds := [], alts := [], laidByText := true, laidKinds := [.data], laidTests := true, laidLooks := .later }
def FnExactAddRowsCardSaid : Prop := Claim7.holds Tryd.pinned (.plain (OpenSpec.ofChange fnExactAddRowsSpec)) fnExactAddRowsCard

/-- THE TIED CARD OF 'laws.FnExactWeightOf'. -/
def fnExactWeightOfCard : Claim7 := { stood := { row := fnExactWeightOfRow, standIns := [], harness := (true, "535811b55000662b5a25c3c511d4939512c568d53ec41852e2a6dc73b21e8590"), looks := false }, kinds := [], alts := [], laidByText := true, laidKinds := [.data], laidTests := true, laidLooks := .later }
def FnExactWeightOfCardSaid : Prop := Claim7.holds Tryd.pinned (.plain (OpenSpec.ofChange fnExactWeightOfSpec)) fnExactWeightOfCard

/-- THE TIED CARD OF 'laws.FnExactDotOf'. -/
def fnExactDotOfCard : Claim7 := { stood := { row := fnExactDotOfRow, standIns := [], harness := (true, "535811b55000662b5a25c3c511d4939512c568d53ec41852e2a6dc73b21e8590"), looks := false }, kinds := [], alts := [], laidByText := true, laidKinds := [.data], laidTests := true, laidLooks := .later }
def FnExactDotOfCardSaid : Prop := Claim7.holds Tryd.pinned (.plain (OpenSpec.ofChange fnExactDotOfSpec)) fnExactDotOfCard

/-- THE TIED CARD OF 'laws.FnExactBitsIn'. -/
def fnExactBitsInCard : Claim7 := { stood := { row := fnExactBitsInRow, standIns := [], harness := (true, "535811b55000662b5a25c3c511d4939512c568d53ec41852e2a6dc73b21e8590"), looks := false }, kinds := [], alts := [], laidByText := true, laidKinds := [.data], laidTests := true, laidLooks := .later }
def FnExactBitsInCardSaid : Prop := Claim7.holds Tryd.pinned (.plain (OpenSpec.ofChange fnExactBitsInSpec)) fnExactBitsInCard

/-- THE TIED CARD OF 'laws.FnExactRowOf'. -/
def fnExactRowOfCard : Claim7 := { stood := { row := fnExactRowOfRow, standIns := [], harness := (true, "535811b55000662b5a25c3c511d4939512c568d53ec41852e2a6dc73b21e8590"), looks := false }, kinds := [], alts := [], laidByText := true, laidKinds := [.data], laidTests := true, laidLooks := .later }
def FnExactRowOfCardSaid : Prop := Claim7.holds Tryd.pinned (.plain (OpenSpec.ofChange fnExactRowOfSpec)) fnExactRowOfCard

/-- THE TIED CARD OF 'laws.FnExactSumRows'. -/
def fnExactSumRowsCard : Claim7 := { stood := { row := fnExactSumRowsRow, standIns := [], harness := (true, "535811b55000662b5a25c3c511d4939512c568d53ec41852e2a6dc73b21e8590"), looks := false }, kinds := [], alts := [], laidByText := true, laidKinds := [.data], laidTests := true, laidLooks := .later }
def FnExactSumRowsCardSaid : Prop := Claim7.holds Tryd.pinned (.plain (OpenSpec.ofChange fnExactSumRowsSpec)) fnExactSumRowsCard

/-- THE TIED CARD OF 'laws.FnExactFarApart'. -/
def fnExactFarApartCard : Claim7 := { stood := { row := fnExactFarApartRow, standIns := [], harness := (true, "535811b55000662b5a25c3c511d4939512c568d53ec41852e2a6dc73b21e8590"), looks := false }, kinds := [], alts := [], laidByText := true, laidKinds := [.data], laidTests := true, laidLooks := .later }
def FnExactFarApartCardSaid : Prop := Claim7.holds Tryd.pinned (.plain (OpenSpec.ofChange fnExactFarApartSpec)) fnExactFarApartCard

/-- THE SECOND FORM's CARD OF 'laws.FnAdded'. -/
def fnAddedUptoCard : Claim7 := { stood := { row := fnAddedUptoRow, standIns := [], harness := (true, "535811b55000662b5a25c3c511d4939512c568d53ec41852e2a6dc73b21e8590"), looks := false }, kinds := [], alts := [], laidByText := true, laidKinds := [.data], laidTests := true, laidLooks := .later }
def FnAddedUptoCardSaid : Prop := Claim7.holds Tryd.pinned (.plain (OpenSpec.upto fnAddedSpec)) fnAddedUptoCard

/-- THE SECOND FORM's CARD OF 'laws.FnBits'. -/
def fnBitsUptoCard : Claim7 := { stood := { row := fnBitsUptoRow, standIns := [], harness := (true, "535811b55000662b5a25c3c511d4939512c568d53ec41852e2a6dc73b21e8590"), looks := false }, kinds := [], alts := [], laidByText := true, laidKinds := [.data], laidTests := true, laidLooks := .later }
def FnBitsUptoCardSaid : Prop := Claim7.holds Tryd.pinned (.plain (OpenSpec.upto fnBitsSpec)) fnBitsUptoCard

/-- THE SECOND FORM's CARD OF 'laws.FnExactGoodRow'. -/
def fnExactGoodRowUptoCard : Claim7 := { stood := { row := fnExactGoodRowUptoRow, standIns := [], harness := (true, "535811b55000662b5a25c3c511d4939512c568d53ec41852e2a6dc73b21e8590"), looks := false }, kinds := [], alts := [], laidByText := true, laidKinds := [.data], laidTests := true, laidLooks := .later }
def FnExactGoodRowUptoCardSaid : Prop := Claim7.holds Tryd.pinned (.plain (OpenSpec.upto fnExactGoodRowSpec)) fnExactGoodRowUptoCard

/-- THE SECOND FORM's CARD OF 'laws.FnExactAddRows'. -/
def fnExactAddRowsUptoCard : Claim7 := { stood := { row := fnExactAddRowsUptoRow, standIns := [], harness := (true, "535811b55000662b5a25c3c511d4939512c568d53ec41852e2a6dc73b21e8590"), looks := false }, kinds := [], alts := [], laidByText := true, laidKinds := [.data], laidTests := true, laidLooks := .later }
def FnExactAddRowsUptoCardSaid : Prop := Claim7.holds Tryd.pinned (.plain (OpenSpec.upto fnExactAddRowsSpec)) fnExactAddRowsUptoCard

/-- THE SECOND FORM's CARD OF 'laws.FnExactWeightOf'. -/
def fnExactWeightOfUptoCard : Claim7 := { stood := { row := fnExactWeightOfUptoRow, standIns := [], harness := (true, "535811b55000662b5a25c3c511d4939512c568d53ec41852e2a6dc73b21e8590"), looks := false }, kinds := [], alts := [], laidByText := true, laidKinds := [.data], laidTests := true, laidLooks := .later }
def FnExactWeightOfUptoCardSaid : Prop := Claim7.holds Tryd.pinned (.plain (OpenSpec.upto fnExactWeightOfSpec)) fnExactWeightOfUptoCard

/-- THE SECOND FORM's CARD OF 'laws.FnExactDotOf'. -/
def fnExactDotOfUptoCard : Claim7 := { stood := { row := fnExactDotOfUptoRow, standIns := [], harness := (true, "535811b55000662b5a25c3c511d4939512c568d53ec41852e2a6dc73b21e8590"), looks := false }, kinds := [], alts := [], laidByText := true, laidKinds := [.data], laidTests := true, laidLooks := .later }
def FnExactDotOfUptoCardSaid : Prop := Claim7.holds Tryd.pinned (.plain (OpenSpec.upto fnExactDotOfSpec)) fnExactDotOfUptoCard

/-- THE SECOND FORM's CARD OF 'laws.FnExactBitsIn'. -/
def fnExactBitsInUptoCard : Claim7 := { stood := { row := fnExactBitsInUptoRow, standIns := [], harness := (true, "535811b55000662b5a25c3c511d4939512c568d53ec41852e2a6dc73b21e8590"), looks := false }, kinds := [], alts := [], laidByText := true, laidKinds := [.data], laidTests := true, laidLooks := .later }
def FnExactBitsInUptoCardSaid : Prop := Claim7.holds Tryd.pinned (.plain (OpenSpec.upto fnExactBitsInSpec)) fnExactBitsInUptoCard

/-- THE SECOND FORM's CARD OF 'laws.FnExactRowOf'. -/
def fnExactRowOfUptoCard : Claim7 := { stood := { row := fnExactRowOfUptoRow, standIns := [], harness := (true, "535811b55000662b5a25c3c511d4939512c568d53ec41852e2a6dc73b21e8590"), looks := false }, kinds := [], alts := [], laidByText := true, laidKinds := [.data], laidTests := true, laidLooks := .later }
def FnExactRowOfUptoCardSaid : Prop := Claim7.holds Tryd.pinned (.plain (OpenSpec.upto fnExactRowOfSpec)) fnExactRowOfUptoCard

/-- THE SECOND FORM's CARD OF 'laws.FnExactSumRows'. -/
def fnExactSumRowsUptoCard : Claim7 := { stood := { row := fnExactSumRowsUptoRow, standIns := [], harness := (true, "535811b55000662b5a25c3c511d4939512c568d53ec41852e2a6dc73b21e8590"), looks := false }, kinds := [], alts := [], laidByText := true, laidKinds := [.data], laidTests := true, laidLooks := .later }
def FnExactSumRowsUptoCardSaid : Prop := Claim7.holds Tryd.pinned (.plain (OpenSpec.upto fnExactSumRowsSpec)) fnExactSumRowsUptoCard

/-- THE SECOND FORM's CARD OF 'laws.FnExactFarApart'. -/
def fnExactFarApartUptoCard : Claim7 := { stood := { row := fnExactFarApartUptoRow, standIns := [], harness := (true, "535811b55000662b5a25c3c511d4939512c568d53ec41852e2a6dc73b21e8590"), looks := false }, kinds := [], alts := [], laidByText := true, laidKinds := [.data], laidTests := true, laidLooks := .later }
def FnExactFarApartUptoCardSaid : Prop := Claim7.holds Tryd.pinned (.plain (OpenSpec.upto fnExactFarApartSpec)) fnExactFarApartUptoCard
end Rows
end Go.Proofs.YtbdncpbbeodpbaaDoor
