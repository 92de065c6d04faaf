/-
  DERIVED. GIVEN WITH THE SEED: THE CARDS: each row of YtjdoglihebfamaaDoorRows.lean that lists a variable, with what it lists TIED to the program's text (the seventh form; the later family's looks); each row that meets fmt, with fmt's text TOLD by the authors' own Lean function (tested against real Go, not proved from fmt's source: count such statements apart). THE CARD IS WHAT COUNTS. Prove the row's statement (the work); the ties are given (YtjdoglihebfamaaDoorTie.lean); close each card by the builder's one call (the guide's Derived/Test/ToyasCard.lean, 'card_holds'). Laid BY PROGRAM, IN A SANDBOX (cutbox-door.mjs). By AI agents, Wed Nov 11 2026. No macro, syntax, notation, axiom, sorry.
-/
import Derived.Test.YtjdoglihebfamaaDoorRows
import GoSem.ClaimSeven
namespace Go.Proofs.YtjdoglihebfamaaDoor
namespace Rows

/-- THE TIED CARD OF 'bedrocklaw12.FlowWants'. -/
def flowWantsCard : Claim7 := { stood := { row := flowWantsRow, standIns := [], harness := (true, "1119c45cc90f6066fd10c7a3892b95ddefe45a5d7c79e35a6b2a8234e606290a"), looks := false }, kinds := [], alts := [], laidByText := true, laidKinds := [.data], laidTests := true, laidLooks := .later }
def FlowWantsCardSaid : Prop := Claim7.holds Tryd.pinned (.plain (OpenSpec.ofChange flowWantsSpec)) flowWantsCard

/-- THE TIED CARD OF 'bedrocklaw12.FlowGoes'. -/
def flowGoesCard : Claim7 := { stood := { row := flowGoesRow, standIns := [], harness := (true, "1119c45cc90f6066fd10c7a3892b95ddefe45a5d7c79e35a6b2a8234e606290a"), looks := false }, kinds := [], alts := [], laidByText := true, laidKinds := [.data], laidTests := true, laidLooks := .later }
def FlowGoesCardSaid : Prop := Claim7.holds Tryd.pinned (.plain (OpenSpec.ofChange flowGoesSpec)) flowGoesCard

/-- THE TIED CARD OF 'bedrocklaw12.FlowBlind'. -/
def flowBlindCard : Claim7 := { stood := { row := flowBlindRow, standIns := [], harness := (true, "1119c45cc90f6066fd10c7a3892b95ddefe45a5d7c79e35a6b2a8234e606290a"), looks := false }, kinds := [], alts := [], laidByText := true, laidKinds := [.data], laidTests := true, laidLooks := .later }
def FlowBlindCardSaid : Prop := Claim7.holds Tryd.pinned (.plain (OpenSpec.ofChange flowBlindSpec)) flowBlindCard

/-- THE TIED CARD OF 'bedrocklaw12.FlowSoaks'. -/
def flowSoaksCard : Claim7 := { stood := { row := flowSoaksRow, standIns := [], harness := (true, "1119c45cc90f6066fd10c7a3892b95ddefe45a5d7c79e35a6b2a8234e606290a"), looks := false }, kinds := [], alts := [], laidByText := true, laidKinds := [.data], laidTests := true, laidLooks := .later }
def FlowSoaksCardSaid : Prop := Claim7.holds Tryd.pinned (.plain (OpenSpec.ofChange flowSoaksSpec)) flowSoaksCard

/-- THE TIED CARD OF 'bedrocklaw12.FlowFeeds'. -/
def flowFeedsCard : Claim7 := { stood := { row := flowFeedsRow, standIns := [], harness := (true, "1119c45cc90f6066fd10c7a3892b95ddefe45a5d7c79e35a6b2a8234e606290a"), looks := false }, kinds := [], alts := [], laidByText := true, laidKinds := [.data], laidTests := true, laidLooks := .later }
def FlowFeedsCardSaid : Prop := Claim7.holds Tryd.pinned (.plain (OpenSpec.ofChange flowFeedsSpec)) flowFeedsCard

/-- THE TIED CARD OF 'bedrocklaw12.FlowStays'. -/
def flowStaysCard : Claim7 := { stood := { row := flowStaysRow, standIns := [], harness := (true, "1119c45cc90f6066fd10c7a3892b95ddefe45a5d7c79e35a6b2a8234e606290a"), looks := false }, kinds := [], alts := [], laidByText := true, laidKinds := [.data], laidTests := true, laidLooks := .later }
def FlowStaysCardSaid : Prop := Claim7.holds Tryd.pinned (.plain (OpenSpec.ofChange flowStaysSpec)) flowStaysCard

/-- THE TIED CARD OF 'bedrocklaw12.FlowDries'. -/
def flowDriesCard : Claim7 := { stood := { row := flowDriesRow, standIns := [], harness := (true, "1119c45cc90f6066fd10c7a3892b95ddefe45a5d7c79e35a6b2a8234e606290a"), looks := false }, kinds := [], alts := [], laidByText := true, laidKinds := [.data], laidTests := true, laidLooks := .later }
def FlowDriesCardSaid : Prop := Claim7.holds Tryd.pinned (.plain (OpenSpec.ofChange flowDriesSpec)) flowDriesCard

/-- THE TIED CARD OF 'bedrocklaw12.FlowKnown'. -/
def flowKnownCard : Claim7 := { stood := { row := flowKnownRow, standIns := [], harness := (true, "1119c45cc90f6066fd10c7a3892b95ddefe45a5d7c79e35a6b2a8234e606290a"), looks := false }, kinds := [], alts := [], laidByText := true, laidKinds := [.data], laidTests := true, laidLooks := .later }
def FlowKnownCardSaid : Prop := Claim7.holds Tryd.pinned (.plain (OpenSpec.ofChange flowKnownSpec)) flowKnownCard

/-- THE SECOND FORM's CARD OF 'bedrocklaw12.FlowWants'. -/
def flowWantsUptoCard : Claim7 := { stood := { row := flowWantsUptoRow, standIns := [], harness := (true, "1119c45cc90f6066fd10c7a3892b95ddefe45a5d7c79e35a6b2a8234e606290a"), looks := false }, kinds := [], alts := [], laidByText := true, laidKinds := [.data], laidTests := true, laidLooks := .later }
def FlowWantsUptoCardSaid : Prop := Claim7.holds Tryd.pinned (.plain (OpenSpec.upto flowWantsSpec)) flowWantsUptoCard

/-- THE SECOND FORM's CARD OF 'bedrocklaw12.FlowGoes'. -/
def flowGoesUptoCard : Claim7 := { stood := { row := flowGoesUptoRow, standIns := [], harness := (true, "1119c45cc90f6066fd10c7a3892b95ddefe45a5d7c79e35a6b2a8234e606290a"), looks := false }, kinds := [], alts := [], laidByText := true, laidKinds := [.data], laidTests := true, laidLooks := .later }
def FlowGoesUptoCardSaid : Prop := Claim7.holds Tryd.pinned (.plain (OpenSpec.upto flowGoesSpec)) flowGoesUptoCard

/-- THE SECOND FORM's CARD OF 'bedrocklaw12.FlowBlind'. -/
def flowBlindUptoCard : Claim7 := { stood := { row := flowBlindUptoRow, standIns := [], harness := (true, "1119c45cc90f6066fd10c7a3892b95ddefe45a5d7c79e35a6b2a8234e606290a"), looks := false }, kinds := [], alts := [], laidByText := true, laidKinds := [.data], laidTests := true, laidLooks := .later }
def FlowBlindUptoCardSaid : Prop := Claim7.holds Tryd.pinned (.plain (OpenSpec.upto flowBlindSpec)) flowBlindUptoCard

/-- THE SECOND FORM's CARD OF 'bedrocklaw12.FlowSoaks'. -/
def flowSoaksUptoCard : Claim7 := { stood := { row := flowSoaksUptoRow, standIns := [], harness := (true, "1119c45cc90f6066fd10c7a3892b95ddefe45a5d7c79e35a6b2a8234e606290a"), looks := false }, kinds := [], alts := [], laidByText := true, laidKinds := [.data], laidTests := true, laidLooks := .later }
def FlowSoaksUptoCardSaid : Prop := Claim7.holds Tryd.pinned (.plain (OpenSpec.upto flowSoaksSpec)) flowSoaksUptoCard

/-- THE SECOND FORM's CARD OF 'bedrocklaw12.FlowFeeds'. -/
def flowFeedsUptoCard : Claim7 := { stood := { row := flowFeedsUptoRow, standIns := [], harness := (true, "1119c45cc90f6066fd10c7a3892b95ddefe45a5d7c79e35a6b2a8234e606290a"), looks := false }, kinds := [], alts := [], laidByText := true, laidKinds := [.data], laidTests := true, laidLooks := .later }
def FlowFeedsUptoCardSaid : Prop := Claim7.holds Tryd.pinned (.plain (OpenSpec.upto flowFeedsSpec)) flowFeedsUptoCard

/-- THE SECOND FORM's CARD OF 'bedrocklaw12.FlowStays'. -/
def flowStaysUptoCard : Claim7 := { stood := { row := flowStaysUptoRow, standIns := [], harness := (true, "1119c45cc90f6066fd10c7a3892b95ddefe45a5d7c79e35a6b2a8234e606290a"), looks := false }, kinds := [], alts := [], laidByText := true, laidKinds := [.data], laidTests := true, laidLooks := .later }
def FlowStaysUptoCardSaid : Prop := Claim7.holds Tryd.pinned (.plain (OpenSpec.upto flowStaysSpec)) flowStaysUptoCard

/-- THE SECOND FORM's CARD OF 'bedrocklaw12.FlowDries'. -/
def flowDriesUptoCard : Claim7 := { stood := { row := flowDriesUptoRow, standIns := [], harness := (true, "1119c45cc90f6066fd10c7a3892b95ddefe45a5d7c79e35a6b2a8234e606290a"), looks := false }, kinds := [], alts := [], laidByText := true, laidKinds := [.data], laidTests := true, laidLooks := .later }
def FlowDriesUptoCardSaid : Prop := Claim7.holds Tryd.pinned (.plain (OpenSpec.upto flowDriesSpec)) flowDriesUptoCard

/-- THE SECOND FORM's CARD OF 'bedrocklaw12.FlowKnown'. -/
def flowKnownUptoCard : Claim7 := { stood := { row := flowKnownUptoRow, standIns := [], harness := (true, "1119c45cc90f6066fd10c7a3892b95ddefe45a5d7c79e35a6b2a8234e606290a"), looks := false }, kinds := [], alts := [], laidByText := true, laidKinds := [.data], laidTests := true, laidLooks := .later }
def FlowKnownUptoCardSaid : Prop := Claim7.holds Tryd.pinned (.plain (OpenSpec.upto flowKnownSpec)) flowKnownUptoCard
end Rows
end Go.Proofs.YtjdoglihebfamaaDoor
