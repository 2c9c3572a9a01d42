/-
  DERIVED. GIVEN WITH THE SEED: THE CARDS: each row of YtjaeahobmamhoaaDoorRows.lean that lists a variable, with what it lists TIED to the program's text (the seventh form; the later family's looks); each row that meets fmt, with fmt's text TOLD by the authors' own Lean function (tested against real Go, not proved from fmt's source: count such statements apart). THE CARD IS WHAT COUNTS. Prove the row's statement (the work); the ties are given (YtjaeahobmamhoaaDoorTie.lean); close each card by the builder's one call (the guide's Derived/Test/ToyasCard.lean, 'card_holds'). Laid BY PROGRAM, IN A SANDBOX (cutbox-door.mjs). By AI agents, Wed Nov 11 2026. No macro, syntax, notation, axiom, sorry.
-/
import Derived.Test.YtjaeahobmamhoaaDoorRows
import GoSem.ClaimSeven
namespace Go.Proofs.YtjaeahobmamhoaaDoor
namespace Rows

/-- THE TIED CARD OF 'laws.FnSteps'. -/
def fnStepsCard : Claim7 := { stood := { row := fnStepsRow, standIns := [], harness := (true, "113f3be75b33ce12d7bf0c30bc6666956e4186c7af21dc8c3937767d5a7f0a2e"), looks := false }, kinds := [], alts := [], laidByText := true, laidKinds := [.data], laidTests := true, laidLooks := .later }
def FnStepsCardSaid : Prop := Claim7.holds Tryd.pinned (.plain (OpenSpec.ofChange fnStepsSpec)) fnStepsCard

/-- THE TIED CARD OF 'laws.FnMade'. -/
def fnMadeCard : Claim7 := { stood := { row := fnMadeRow, standIns := [], harness := (true, "113f3be75b33ce12d7bf0c30bc6666956e4186c7af21dc8c3937767d5a7f0a2e"), looks := false }, kinds := [], alts := [], laidByText := true, laidKinds := [.data], laidTests := true, laidLooks := .later }
def FnMadeCardSaid : Prop := Claim7.holds Tryd.pinned (.plain (OpenSpec.ofChange fnMadeSpec)) fnMadeCard

/-- THE TIED CARD OF 'laws.FnExactStepsOf'. -/
def fnExactStepsOfCard : Claim7 := { stood := { row := fnExactStepsOfRow, standIns := [], harness := (true, "113f3be75b33ce12d7bf0c30bc6666956e4186c7af21dc8c3937767d5a7f0a2e"), looks := false }, kinds := [], alts := [], laidByText := true, laidKinds := [.data], laidTests := true, laidLooks := .later }
def FnExactStepsOfCardSaid : Prop := Claim7.holds Tryd.pinned (.plain (OpenSpec.ofChange fnExactStepsOfSpec)) fnExactStepsOfCard

/-- THE TIED CARD OF 'laws.FnExactRankOf'. -/
def fnExactRankOfCard : Claim7 := { stood := { row := fnExactRankOfRow, standIns := [], harness := (true, "113f3be75b33ce12d7bf0c30bc6666956e4186c7af21dc8c3937767d5a7f0a2e"), looks := false }, kinds := [], alts := [], laidByText := true, laidKinds := [.data], laidTests := true, laidLooks := .later }
def FnExactRankOfCardSaid : Prop := Claim7.holds Tryd.pinned (.plain (OpenSpec.ofChange fnExactRankOfSpec)) fnExactRankOfCard

/-- THE TIED CARD OF 'laws.FnExactCanMake'. -/
def fnExactCanMakeCard : Claim7 := { stood := { row := fnExactCanMakeRow, standIns := [], harness := (true, "113f3be75b33ce12d7bf0c30bc6666956e4186c7af21dc8c3937767d5a7f0a2e"), looks := false }, kinds := [], alts := [], laidByText := true, laidKinds := [.data], laidTests := true, laidLooks := .later }
def FnExactCanMakeCardSaid : Prop := Claim7.holds Tryd.pinned (.plain (OpenSpec.ofChange fnExactCanMakeSpec)) fnExactCanMakeCard

/-- THE TIED CARD OF 'laws.FnExactMakeBy'. -/
def fnExactMakeByCard : Claim7 := { stood := { row := fnExactMakeByRow, standIns := [], harness := (true, "113f3be75b33ce12d7bf0c30bc6666956e4186c7af21dc8c3937767d5a7f0a2e"), looks := false }, kinds := [], alts := [], laidByText := true, laidKinds := [.data], laidTests := true, laidLooks := .later }
def FnExactMakeByCardSaid : Prop := Claim7.holds Tryd.pinned (.plain (OpenSpec.ofChange fnExactMakeBySpec)) fnExactMakeByCard

/-- THE TIED CARD OF 'laws.FnExactNullOf'. -/
def fnExactNullOfCard : Claim7 := { stood := { row := fnExactNullOfRow, standIns := [], harness := (true, "113f3be75b33ce12d7bf0c30bc6666956e4186c7af21dc8c3937767d5a7f0a2e"), looks := false }, kinds := [], alts := [], laidByText := true, laidKinds := [.data], laidTests := true, laidLooks := .later }
def FnExactNullOfCardSaid : Prop := Claim7.holds Tryd.pinned (.plain (OpenSpec.ofChange fnExactNullOfSpec)) fnExactNullOfCard

/-- THE TIED CARD OF 'laws.FnExactSpanOf'. -/
def fnExactSpanOfCard : Claim7 := { stood := { row := fnExactSpanOfRow, standIns := [], harness := (true, "113f3be75b33ce12d7bf0c30bc6666956e4186c7af21dc8c3937767d5a7f0a2e"), looks := false }, kinds := [], alts := [], laidByText := true, laidKinds := [.data], laidTests := true, laidLooks := .later }
def FnExactSpanOfCardSaid : Prop := Claim7.holds Tryd.pinned (.plain (OpenSpec.ofChange fnExactSpanOfSpec)) fnExactSpanOfCard

/-- THE TIED CARD OF 'laws.FnExactTurnRows'. -/
def fnExactTurnRowsCard : Claim7 := { stood := { row := fnExactTurnRowsRow, standIns := [], harness := (true, "113f3be75b33ce12d7bf0c30bc6666956e4186c7af21dc8c3937767d5a7f0a2e"), looks := false }, kinds := [], alts := [], laidByText := true, laidKinds := [.data], laidTests := true, laidLooks := .later }
def FnExactTurnRowsCardSaid : Prop := Claim7.holds Tryd.pinned (.plain (OpenSpec.ofChange fnExactTurnRowsSpec)) fnExactTurnRowsCard

/-- THE TIED CARD OF 'laws.FnExactSameSpan'. -/
def fnExactSameSpanCard : Claim7 := { stood := { row := fnExactSameSpanRow, standIns := [], harness := (true, "113f3be75b33ce12d7bf0c30bc6666956e4186c7af21dc8c3937767d5a7f0a2e"), looks := false }, kinds := [], alts := [], laidByText := true, laidKinds := [.data], laidTests := true, laidLooks := .later }
def FnExactSameSpanCardSaid : Prop := Claim7.holds Tryd.pinned (.plain (OpenSpec.ofChange fnExactSameSpanSpec)) fnExactSameSpanCard

/-- THE SECOND FORM's CARD OF 'laws.FnSteps'. -/
def fnStepsUptoCard : Claim7 := { stood := { row := fnStepsUptoRow, standIns := [], harness := (true, "113f3be75b33ce12d7bf0c30bc6666956e4186c7af21dc8c3937767d5a7f0a2e"), looks := false }, kinds := [], alts := [], laidByText := true, laidKinds := [.data], laidTests := true, laidLooks := .later }
def FnStepsUptoCardSaid : Prop := Claim7.holds Tryd.pinned (.plain (OpenSpec.upto fnStepsSpec)) fnStepsUptoCard

/-- THE SECOND FORM's CARD OF 'laws.FnMade'. -/
def fnMadeUptoCard : Claim7 := { stood := { row := fnMadeUptoRow, standIns := [], harness := (true, "113f3be75b33ce12d7bf0c30bc6666956e4186c7af21dc8c3937767d5a7f0a2e"), looks := false }, kinds := [], alts := [], laidByText := true, laidKinds := [.data], laidTests := true, laidLooks := .later }
def FnMadeUptoCardSaid : Prop := Claim7.holds Tryd.pinned (.plain (OpenSpec.upto fnMadeSpec)) fnMadeUptoCard

/-- THE SECOND FORM's CARD OF 'laws.FnExactStepsOf'. -/
def fnExactStepsOfUptoCard : Claim7 := { stood := { row := fnExactStepsOfUptoRow, standIns := [], harness := (true, "113f3be75b33ce12d7bf0c30bc6666956e4186c7af21dc8c3937767d5a7f0a2e"), looks := false }, kinds := [], alts := [], laidByText := true, laidKinds := [.data], laidTests := true, laidLooks := .later }
def FnExactStepsOfUptoCardSaid : Prop := Claim7.holds Tryd.pinned (.plain (OpenSpec.upto fnExactStepsOfSpec)) fnExactStepsOfUptoCard

/-- THE SECOND FORM's CARD OF 'laws.FnExactRankOf'. -/
def fnExactRankOfUptoCard : Claim7 := { stood := { row := fnExactRankOfUptoRow, standIns := [], harness := (true, "113f3be75b33ce12d7bf0c30bc6666956e4186c7af21dc8c3937767d5a7f0a2e"), looks := false }, kinds := [], alts := [], laidByText := true, laidKinds := [.data], laidTests := true, laidLooks := .later }
def FnExactRankOfUptoCardSaid : Prop := Claim7.holds Tryd.pinned (.plain (OpenSpec.upto fnExactRankOfSpec)) fnExactRankOfUptoCard

/-- THE SECOND FORM's CARD OF 'laws.FnExactCanMake'. -/
def fnExactCanMakeUptoCard : Claim7 := { stood := { row := fnExactCanMakeUptoRow, standIns := [], harness := (true, "113f3be75b33ce12d7bf0c30bc6666956e4186c7af21dc8c3937767d5a7f0a2e"), looks := false }, kinds := [], alts := [], laidByText := true, laidKinds := [.data], laidTests := true, laidLooks := .later }
def FnExactCanMakeUptoCardSaid : Prop := Claim7.holds Tryd.pinned (.plain (OpenSpec.upto fnExactCanMakeSpec)) fnExactCanMakeUptoCard

/-- THE SECOND FORM's CARD OF 'laws.FnExactMakeBy'. -/
def fnExactMakeByUptoCard : Claim7 := { stood := { row := fnExactMakeByUptoRow, standIns := [], harness := (true, "113f3be75b33ce12d7bf0c30bc6666956e4186c7af21dc8c3937767d5a7f0a2e"), looks := false }, kinds := [], alts := [], laidByText := true, laidKinds := [.data], laidTests := true, laidLooks := .later }
def FnExactMakeByUptoCardSaid : Prop := Claim7.holds Tryd.pinned (.plain (OpenSpec.upto fnExactMakeBySpec)) fnExactMakeByUptoCard

/-- THE SECOND FORM's CARD OF 'laws.FnExactNullOf'. -/
def fnExactNullOfUptoCard : Claim7 := { stood := { row := fnExactNullOfUptoRow, standIns := [], harness := (true, "113f3be75b33ce12d7bf0c30bc6666956e4186c7af21dc8c3937767d5a7f0a2e"), looks := false }, kinds := [], alts := [], laidByText := true, laidKinds := [.data], laidTests := true, laidLooks := .later }
def FnExactNullOfUptoCardSaid : Prop := Claim7.holds Tryd.pinned (.plain (OpenSpec.upto fnExactNullOfSpec)) fnExactNullOfUptoCard

/-- THE SECOND FORM's CARD OF 'laws.FnExactSpanOf'. -/
def fnExactSpanOfUptoCard : Claim7 := { stood := { row := fnExactSpanOfUptoRow, standIns := [], harness := (true, "113f3be75b33ce12d7bf0c30bc6666956e4186c7af21dc8c3937767d5a7f0a2e"), looks := false }, kinds := [], alts := [], laidByText := true, laidKinds := [.data], laidTests := true, laidLooks := .later }
def FnExactSpanOfUptoCardSaid : Prop := Claim7.holds Tryd.pinned (.plain (OpenSpec.upto fnExactSpanOfSpec)) fnExactSpanOfUptoCard

/-- THE SECOND FORM's CARD OF 'laws.FnExactTurnRows'. -/
def fnExactTurnRowsUptoCard : Claim7 := { stood := { row := fnExactTurnRowsUptoRow, standIns := [], harness := (true, "113f3be75b33ce12d7bf0c30bc6666956e4186c7af21dc8c3937767d5a7f0a2e"), looks := false }, kinds := [], alts := [], laidByText := true, laidKinds := [.data], laidTests := true, laidLooks := .later }
def FnExactTurnRowsUptoCardSaid : Prop := Claim7.holds Tryd.pinned (.plain (OpenSpec.upto fnExactTurnRowsSpec)) fnExactTurnRowsUptoCard

/-- THE SECOND FORM's CARD OF 'laws.FnExactSameSpan'. -/
def fnExactSameSpanUptoCard : Claim7 := { stood := { row := fnExactSameSpanUptoRow, standIns := [], harness := (true, "113f3be75b33ce12d7bf0c30bc6666956e4186c7af21dc8c3937767d5a7f0a2e"), looks := false }, kinds := [], alts := [], laidByText := true, laidKinds := [.data], laidTests := true, laidLooks := .later }
def FnExactSameSpanUptoCardSaid : Prop := Claim7.holds Tryd.pinned (.plain (OpenSpec.upto fnExactSameSpanSpec)) fnExactSameSpanUptoCard
end Rows
end Go.Proofs.YtjaeahobmamhoaaDoor
