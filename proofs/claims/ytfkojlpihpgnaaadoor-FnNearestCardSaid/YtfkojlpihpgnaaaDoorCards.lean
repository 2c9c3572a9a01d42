/-
  DERIVED. GIVEN WITH THE SEED: THE CARDS: each row of YtfkojlpihpgnaaaDoorRows.lean that lists a variable, with what it lists TIED to the program's text (the seventh form; the later family's looks); each row that meets fmt, with fmt's text TOLD by the authors' own Lean function (tested against real Go, not proved from fmt's source: count such statements apart). THE CARD IS WHAT COUNTS. Prove the row's statement (the work); the ties are given (YtfkojlpihpgnaaaDoorTie.lean); close each card by the builder's one call (the guide's Derived/Test/ToyasCard.lean, 'card_holds'). Laid BY PROGRAM, IN A SANDBOX (cutbox-door.mjs). By AI agents, Wed Nov 11 2026. No macro, syntax, notation, axiom, sorry.
-/
import Derived.Test.YtfkojlpihpgnaaaDoorRows
import GoSem.ClaimSeven
namespace Go.Proofs.YtfkojlpihpgnaaaDoor
namespace Rows

/-- THE TIED CARD OF 'laws.FnMade'. -/
def fnMadeCard : Claim7 := { stood := { row := fnMadeRow, standIns := [], harness := (true, "2d9838acc48894bf46dc81a63c8745894e0b2bca6b835d22035ec43910961b4c"), looks := false }, kinds := [], alts := [], laidByText := true, laidKinds := [.data], laidTests := true, laidLooks := .later }
def FnMadeCardSaid : Prop := Claim7.holds Tryd.pinned (.plain (OpenSpec.ofChange fnMadeSpec)) fnMadeCard

/-- THE TIED CARD OF 'laws.FnCode'. -/
def fnCodeCard : Claim7 := { stood := { row := fnCodeRow, standIns := [], harness := (true, "2d9838acc48894bf46dc81a63c8745894e0b2bca6b835d22035ec43910961b4c"), looks := false }, kinds := [], alts := [], laidByText := true, laidKinds := [.data], laidTests := true, laidLooks := .later }
def FnCodeCardSaid : Prop := Claim7.holds Tryd.pinned (.plain (OpenSpec.ofChange fnCodeSpec)) fnCodeCard

/-- THE TIED CARD OF 'laws.FnNearest'. -/
def fnNearestCard : Claim7 := { stood := { row := fnNearestRow, standIns := [], harness := (true, "2d9838acc48894bf46dc81a63c8745894e0b2bca6b835d22035ec43910961b4c"), looks := false }, kinds := [], alts := [], laidByText := true, laidKinds := [.data], laidTests := true, laidLooks := .later }
def FnNearestCardSaid : Prop := Claim7.holds Tryd.pinned (.plain (OpenSpec.ofChange fnNearestSpec)) fnNearestCard

/-- THE TIED CARD OF 'laws.FnExactSpanOf'. -/
def fnExactSpanOfCard : Claim7 := { stood := { row := fnExactSpanOfRow, standIns := [], harness := (true, "2d9838acc48894bf46dc81a63c8745894e0b2bca6b835d22035ec43910961b4c"), looks := false }, kinds := [], alts := [], laidByText := true, laidKinds := [.data], laidTests := true, laidLooks := .later }
def FnExactSpanOfCardSaid : Prop := Claim7.holds Tryd.pinned (.plain (OpenSpec.ofChange fnExactSpanOfSpec)) fnExactSpanOfCard

/-- THE TIED CARD OF 'laws.FnExactGoodCode'. -/
def fnExactGoodCodeCard : Claim7 := { stood := { row := fnExactGoodCodeRow, standIns := [], harness := (true, "2d9838acc48894bf46dc81a63c8745894e0b2bca6b835d22035ec43910961b4c"), looks := false }, kinds := [], alts := [], laidByText := true, laidKinds := [.data], laidTests := true, laidLooks := .later }
def FnExactGoodCodeCardSaid : Prop := Claim7.holds Tryd.pinned (.plain (OpenSpec.ofChange fnExactGoodCodeSpec)) fnExactGoodCodeCard

/-- THE TIED CARD OF 'laws.FnExactWordFor'. -/
def fnExactWordForCard : Claim7 := { stood := { row := fnExactWordForRow, standIns := [], harness := (true, "2d9838acc48894bf46dc81a63c8745894e0b2bca6b835d22035ec43910961b4c"), looks := false }, kinds := [], alts := [], laidByText := true, laidKinds := [.data], laidTests := true, laidLooks := .later }
def FnExactWordForCardSaid : Prop := Claim7.holds Tryd.pinned (.plain (OpenSpec.ofChange fnExactWordForSpec)) fnExactWordForCard

/-- THE TIED CARD OF 'laws.FnExactChecksOf'. -/
def fnExactChecksOfCard : Claim7 := { stood := { row := fnExactChecksOfRow, standIns := [], harness := (true, "2d9838acc48894bf46dc81a63c8745894e0b2bca6b835d22035ec43910961b4c"), looks := false }, kinds := [], alts := [], laidByText := true, laidKinds := [.data], laidTests := true, laidLooks := .later }
def FnExactChecksOfCardSaid : Prop := Claim7.holds Tryd.pinned (.plain (OpenSpec.ofChange fnExactChecksOfSpec)) fnExactChecksOfCard

/-- THE TIED CARD OF 'laws.FnExactSyndromeOf'. -/
def fnExactSyndromeOfCard : Claim7 := { stood := { row := fnExactSyndromeOfRow, standIns := [], harness := (true, "2d9838acc48894bf46dc81a63c8745894e0b2bca6b835d22035ec43910961b4c"), looks := false }, kinds := [], alts := [], laidByText := true, laidKinds := [.data], laidTests := true, laidLooks := .later }
def FnExactSyndromeOfCardSaid : Prop := Claim7.holds Tryd.pinned (.plain (OpenSpec.ofChange fnExactSyndromeOfSpec)) fnExactSyndromeOfCard

/-- THE TIED CARD OF 'laws.FnExactLeastWeight'. -/
def fnExactLeastWeightCard : Claim7 := { stood := { row := fnExactLeastWeightRow, standIns := [], harness := (true, "2d9838acc48894bf46dc81a63c8745894e0b2bca6b835d22035ec43910961b4c"), looks := false }, kinds := [], alts := [], laidByText := true, laidKinds := [.data], laidTests := true, laidLooks := .later }
def FnExactLeastWeightCardSaid : Prop := Claim7.holds Tryd.pinned (.plain (OpenSpec.ofChange fnExactLeastWeightSpec)) fnExactLeastWeightCard

/-- THE TIED CARD OF 'laws.FnExactNearest'. -/
def fnExactNearestCard : Claim7 := { stood := { row := fnExactNearestRow, standIns := [], harness := (true, "2d9838acc48894bf46dc81a63c8745894e0b2bca6b835d22035ec43910961b4c"), looks := false }, kinds := [], alts := [], laidByText := true, laidKinds := [.data], laidTests := true, laidLooks := .later }
def FnExactNearestCardSaid : Prop := Claim7.holds Tryd.pinned (.plain (OpenSpec.ofChange fnExactNearestSpec)) fnExactNearestCard

/-- THE TIED CARD OF 'laws.FnExactBitsFrom'. -/
def fnExactBitsFromCard : Claim7 := { stood := { row := fnExactBitsFromRow, standIns := [], harness := (true, "2d9838acc48894bf46dc81a63c8745894e0b2bca6b835d22035ec43910961b4c"), looks := false }, kinds := [], alts := [], laidByText := true, laidKinds := [.data], laidTests := true, laidLooks := .later }
def FnExactBitsFromCardSaid : Prop := Claim7.holds Tryd.pinned (.plain (OpenSpec.ofChange fnExactBitsFromSpec)) fnExactBitsFromCard

/-- THE TIED CARD OF 'laws.FnExactDualOf'. -/
def fnExactDualOfCard : Claim7 := { stood := { row := fnExactDualOfRow, standIns := [], harness := (true, "2d9838acc48894bf46dc81a63c8745894e0b2bca6b835d22035ec43910961b4c"), looks := false }, kinds := [], alts := [], laidByText := true, laidKinds := [.data], laidTests := true, laidLooks := .later }
def FnExactDualOfCardSaid : Prop := Claim7.holds Tryd.pinned (.plain (OpenSpec.ofChange fnExactDualOfSpec)) fnExactDualOfCard

/-- THE SECOND FORM's CARD OF 'laws.FnMade'. -/
def fnMadeUptoCard : Claim7 := { stood := { row := fnMadeUptoRow, standIns := [], harness := (true, "2d9838acc48894bf46dc81a63c8745894e0b2bca6b835d22035ec43910961b4c"), looks := false }, kinds := [], alts := [], laidByText := true, laidKinds := [.data], laidTests := true, laidLooks := .later }
def FnMadeUptoCardSaid : Prop := Claim7.holds Tryd.pinned (.plain (OpenSpec.upto fnMadeSpec)) fnMadeUptoCard

/-- THE SECOND FORM's CARD OF 'laws.FnCode'. -/
def fnCodeUptoCard : Claim7 := { stood := { row := fnCodeUptoRow, standIns := [], harness := (true, "2d9838acc48894bf46dc81a63c8745894e0b2bca6b835d22035ec43910961b4c"), looks := false }, kinds := [], alts := [], laidByText := true, laidKinds := [.data], laidTests := true, laidLooks := .later }
def FnCodeUptoCardSaid : Prop := Claim7.holds Tryd.pinned (.plain (OpenSpec.upto fnCodeSpec)) fnCodeUptoCard

/-- THE SECOND FORM's CARD OF 'laws.FnNearest'. -/
def fnNearestUptoCard : Claim7 := { stood := { row := fnNearestUptoRow, standIns := [], harness := (true, "2d9838acc48894bf46dc81a63c8745894e0b2bca6b835d22035ec43910961b4c"), looks := false }, kinds := [], alts := [], laidByText := true, laidKinds := [.data], laidTests := true, laidLooks := .later }
def FnNearestUptoCardSaid : Prop := Claim7.holds Tryd.pinned (.plain (OpenSpec.upto fnNearestSpec)) fnNearestUptoCard

/-- THE SECOND FORM's CARD OF 'laws.FnExactSpanOf'. -/
def fnExactSpanOfUptoCard : Claim7 := { stood := { row := fnExactSpanOfUptoRow, standIns := [], harness := (true, "2d9838acc48894bf46dc81a63c8745894e0b2bca6b835d22035ec43910961b4c"), looks := false }, kinds := [], alts := [], laidByText := true, laidKinds := [.data], laidTests := true, laidLooks := .later }
def FnExactSpanOfUptoCardSaid : Prop := Claim7.holds Tryd.pinned (.plain (OpenSpec.upto fnExactSpanOfSpec)) fnExactSpanOfUptoCard

/-- THE SECOND FORM's CARD OF 'laws.FnExactGoodCode'. -/
def fnExactGoodCodeUptoCard : Claim7 := { stood := { row := fnExactGoodCodeUptoRow, standIns := [], harness := (true, "2d9838acc48894bf46dc81a63c8745894e0b2bca6b835d22035ec43910961b4c"), looks := false }, kinds := [], alts := [], laidByText := true, laidKinds := [.data], laidTests := true, laidLooks := .later }
def FnExactGoodCodeUptoCardSaid : Prop := Claim7.holds Tryd.pinned (.plain (OpenSpec.upto fnExactGoodCodeSpec)) fnExactGoodCodeUptoCard

/-- THE SECOND FORM's CARD OF 'laws.FnExactWordFor'. -/
def fnExactWordForUptoCard : Claim7 := { stood := { row := fnExactWordForUptoRow, standIns := [], harness := (true, "2d9838acc48894bf46dc81a63c8745894e0b2bca6b835d22035ec43910961b4c"), looks := false }, kinds := [], alts := [], laidByText := true, laidKinds := [.data], laidTests := true, laidLooks := .later }
def FnExactWordForUptoCardSaid : Prop := Claim7.holds Tryd.pinned (.plain (OpenSpec.upto fnExactWordForSpec)) fnExactWordForUptoCard

/-- THE SECOND FORM's CARD OF 'laws.FnExactChecksOf'. -/
def fnExactChecksOfUptoCard : Claim7 := { stood := { row := fnExactChecksOfUptoRow, standIns := [], harness := (true, "2d9838acc48894bf46dc81a63c8745894e0b2bca6b835d22035ec43910961b4c"), looks := false }, kinds := [], alts := [], laidByText := true, laidKinds := [.data], laidTests := true, laidLooks := .later }
def FnExactChecksOfUptoCardSaid : Prop := Claim7.holds Tryd.pinned (.plain (OpenSpec.upto fnExactChecksOfSpec)) fnExactChecksOfUptoCard

/-- THE SECOND FORM's CARD OF 'laws.FnExactSyndromeOf'. -/
def fnExactSyndromeOfUptoCard : Claim7 := { stood := { row := fnExactSyndromeOfUptoRow, standIns := [], harness := (true, "2d9838acc48894bf46dc81a63c8745894e0b2bca6b835d22035ec43910961b4c"), looks := false }, kinds := [], alts := [], laidByText := true, laidKinds := [.data], laidTests := true, laidLooks := .later }
def FnExactSyndromeOfUptoCardSaid : Prop := Claim7.holds Tryd.pinned (.plain (OpenSpec.upto fnExactSyndromeOfSpec)) fnExactSyndromeOfUptoCard

/-- THE SECOND FORM's CARD OF 'laws.FnExactLeastWeight'. -/
def fnExactLeastWeightUptoCard : Claim7 := { stood := { row := fnExactLeastWeightUptoRow, standIns := [], harness := (true, "2d9838acc48894bf46dc81a63c8745894e0b2bca6b835d22035ec43910961b4c"), looks := false }, kinds := [], alts := [], laidByText := true, laidKinds := [.data], laidTests := true, laidLooks := .later }
def FnExactLeastWeightUptoCardSaid : Prop := Claim7.holds Tryd.pinned (.plain (OpenSpec.upto fnExactLeastWeightSpec)) fnExactLeastWeightUptoCard

/-- THE SECOND FORM's CARD OF 'laws.FnExactNearest'. -/
def fnExactNearestUptoCard : Claim7 := { stood := { row := fnExactNearestUptoRow, standIns := [], harness := (true, "2d9838acc48894bf46dc81a63c8745894e0b2bca6b835d22035ec43910961b4c"), looks := false }, kinds := [], alts := [], laidByText := true, laidKinds := [.data], laidTests := true, laidLooks := .later }
def FnExactNearestUptoCardSaid : Prop := Claim7.holds Tryd.pinned (.plain (OpenSpec.upto fnExactNearestSpec)) fnExactNearestUptoCard

/-- THE SECOND FORM's CARD OF 'laws.FnExactBitsFrom'. -/
def fnExactBitsFromUptoCard : Claim7 := { stood := { row := fnExactBitsFromUptoRow, standIns := [], harness := (true, "2d9838acc48894bf46dc81a63c8745894e0b2bca6b835d22035ec43910961b4c"), looks := false }, kinds := [], alts := [], laidByText := true, laidKinds := [.data], laidTests := true, laidLooks := .later }
def FnExactBitsFromUptoCardSaid : Prop := Claim7.holds Tryd.pinned (.plain (OpenSpec.upto fnExactBitsFromSpec)) fnExactBitsFromUptoCard

/-- THE SECOND FORM's CARD OF 'laws.FnExactDualOf'. -/
def fnExactDualOfUptoCard : Claim7 := { stood := { row := fnExactDualOfUptoRow, standIns := [], harness := (true, "2d9838acc48894bf46dc81a63c8745894e0b2bca6b835d22035ec43910961b4c"), looks := false }, kinds := [], alts := [], laidByText := true, laidKinds := [.data], laidTests := true, laidLooks := .later }
def FnExactDualOfUptoCardSaid : Prop := Claim7.holds Tryd.pinned (.plain (OpenSpec.upto fnExactDualOfSpec)) fnExactDualOfUptoCard
end Rows
end Go.Proofs.YtfkojlpihpgnaaaDoor
