/-
  DERIVED. GIVEN WITH THE SEED: THE CARDS: each row of YtcpfneikcefcmaaDoorRows.lean that lists a variable, with what it lists TIED to the program's text (the seventh form; the later family's looks); each row that meets fmt, with fmt's text TOLD by the authors' own Lean function (tested against real Go, not proved from fmt's source: count such statements apart). THE CARD IS WHAT COUNTS. Prove the row's statement (the work); the ties are given (YtcpfneikcefcmaaDoorTie.lean); close each card by the builder's one call (the guide's Derived/Test/ToyasCard.lean, 'card_holds'). Laid BY PROGRAM, IN A SANDBOX (cutbox-door.mjs). By AI agents, Wed Nov 11 2026. No macro, syntax, notation, axiom, sorry.
-/
import Derived.Test.YtcpfneikcefcmaaDoorRows
import GoSem.ClaimSeven
namespace Go.Proofs.YtcpfneikcefcmaaDoor
namespace Rows

/-- THE TIED CARD OF 'laws.FnExactPeelOff'. -/
def fnExactPeelOffCard : Claim7 := { stood := { row := fnExactPeelOffRow, standIns := [], harness := (true, "ed5f74f85d90ab0990a0f61c5fa56fc688c50b398fbc83f522e93aea3ab2ae3c"), looks := false }, kinds := [], alts := [], laidByText := true, laidKinds := [.data, .data, .data], laidTests := true, laidLooks := .later }
def FnExactPeelOffCardSaid : Prop := Claim7.holds Tryd.pinned (.plain (OpenSpec.ofChange fnExactPeelOffSpec)) fnExactPeelOffCard

/-- THE TIED CARD OF 'laws.FnExactAddUp'. -/
def fnExactAddUpCard : Claim7 := { stood := { row := fnExactAddUpRow, standIns := [], harness := (true, "ed5f74f85d90ab0990a0f61c5fa56fc688c50b398fbc83f522e93aea3ab2ae3c"), looks := false }, kinds := [], alts := [], laidByText := true, laidKinds := [.data], laidTests := true, laidLooks := .later }
def FnExactAddUpCardSaid : Prop := Claim7.holds Tryd.pinned (.plain (OpenSpec.ofChange fnExactAddUpSpec)) fnExactAddUpCard

/-- THE TIED CARD OF 'laws.FnExactEnoughOf'. -/
def fnExactEnoughOfCard : Claim7 := { stood := { row := fnExactEnoughOfRow, standIns := [], harness := (true, "ed5f74f85d90ab0990a0f61c5fa56fc688c50b398fbc83f522e93aea3ab2ae3c"), looks := false }, kinds := [], alts := [], laidByText := true, laidKinds := [.data], laidTests := true, laidLooks := .later }
def FnExactEnoughOfCardSaid : Prop := Claim7.holds Tryd.pinned (.plain (OpenSpec.ofChange fnExactEnoughOfSpec)) fnExactEnoughOfCard

/-- THE TIED CARD OF 'laws.FnPeeled'. -/
def fnPeeledCard : Claim7 := { stood := { row := fnPeeledRow, standIns := [], harness := (true, "ed5f74f85d90ab0990a0f61c5fa56fc688c50b398fbc83f522e93aea3ab2ae3c"), looks := false }, kinds := [], alts := [], laidByText := true, laidKinds := [.data, .data, .data], laidTests := true, laidLooks := .later }
def FnPeeledCardSaid : Prop := Claim7.holds Tryd.pinned (.plain (OpenSpec.ofChange fnPeeledSpec)) fnPeeledCard

/-- THE SECOND FORM's CARD OF 'laws.FnExactPeelOff'. -/
def fnExactPeelOffUptoCard : Claim7 := { stood := { row := fnExactPeelOffUptoRow, standIns := [], harness := (true, "ed5f74f85d90ab0990a0f61c5fa56fc688c50b398fbc83f522e93aea3ab2ae3c"), looks := false }, kinds := [], alts := [], laidByText := true, laidKinds := [.data, .data, .data], laidTests := true, laidLooks := .later }
def FnExactPeelOffUptoCardSaid : Prop := Claim7.holds Tryd.pinned (.plain (OpenSpec.upto fnExactPeelOffSpec)) fnExactPeelOffUptoCard

/-- THE SECOND FORM's CARD OF 'laws.FnExactAddUp'. -/
def fnExactAddUpUptoCard : Claim7 := { stood := { row := fnExactAddUpUptoRow, standIns := [], harness := (true, "ed5f74f85d90ab0990a0f61c5fa56fc688c50b398fbc83f522e93aea3ab2ae3c"), looks := false }, kinds := [], alts := [], laidByText := true, laidKinds := [.data], laidTests := true, laidLooks := .later }
def FnExactAddUpUptoCardSaid : Prop := Claim7.holds Tryd.pinned (.plain (OpenSpec.upto fnExactAddUpSpec)) fnExactAddUpUptoCard

/-- THE SECOND FORM's CARD OF 'laws.FnExactEnoughOf'. -/
def fnExactEnoughOfUptoCard : Claim7 := { stood := { row := fnExactEnoughOfUptoRow, standIns := [], harness := (true, "ed5f74f85d90ab0990a0f61c5fa56fc688c50b398fbc83f522e93aea3ab2ae3c"), looks := false }, kinds := [], alts := [], laidByText := true, laidKinds := [.data], laidTests := true, laidLooks := .later }
def FnExactEnoughOfUptoCardSaid : Prop := Claim7.holds Tryd.pinned (.plain (OpenSpec.upto fnExactEnoughOfSpec)) fnExactEnoughOfUptoCard

/-- THE SECOND FORM's CARD OF 'laws.FnPeeled'. -/
def fnPeeledUptoCard : Claim7 := { stood := { row := fnPeeledUptoRow, standIns := [], harness := (true, "ed5f74f85d90ab0990a0f61c5fa56fc688c50b398fbc83f522e93aea3ab2ae3c"), looks := false }, kinds := [], alts := [], laidByText := true, laidKinds := [.data, .data, .data], laidTests := true, laidLooks := .later }
def FnPeeledUptoCardSaid : Prop := Claim7.holds Tryd.pinned (.plain (OpenSpec.upto fnPeeledSpec)) fnPeeledUptoCard
end Rows
end Go.Proofs.YtcpfneikcefcmaaDoor
