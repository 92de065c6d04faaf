/-
  DERIVED. GIVEN WITH THE SEED: THE CARDS: each row of YtbkadecfmjjadaaDoorRows.lean that lists a variable, with what it lists TIED to the program's text (the seventh form; the later family's looks); each row that meets fmt, with fmt's text TOLD by the authors' own Lean function (tested against real Go, not proved from fmt's source: count such statements apart). THE CARD IS WHAT COUNTS. Prove the row's statement (the work); the ties are given (YtbkadecfmjjadaaDoorTie.lean); close each card by the builder's one call (the guide's Derived/Test/ToyasCard.lean, 'card_holds'). Laid BY PROGRAM, IN A SANDBOX (cutbox-door.mjs). By AI agents, Wed Nov 11 2026. No macro, syntax, notation, axiom, sorry.
-/
import Derived.Test.YtbkadecfmjjadaaDoorRows
import GoSem.ClaimSeven
namespace Go.Proofs.YtbkadecfmjjadaaDoor
namespace Rows

/-- THE TIED CARD OF 'bedrocklaw10.GlowLights'. -/
def glowLightsCard : Claim7 := { stood := { row := glowLightsRow, standIns := [], harness := (true, "0eda40a7a5f4690f0245e1709f66202f31772ff2cc3319919d7dc0c24536b486"), looks := false }, kinds := [], alts := [], laidByText := true, laidKinds := [.data], laidTests := true, laidLooks := .later }
def GlowLightsCardSaid : Prop := Claim7.holds Tryd.pinned (.plain (OpenSpec.ofChange glowLightsSpec)) glowLightsCard

/-- THE TIED CARD OF 'bedrocklaw10.GlowSteps'. -/
def glowStepsCard : Claim7 := { stood := { row := glowStepsRow, standIns := [], harness := (true, "0eda40a7a5f4690f0245e1709f66202f31772ff2cc3319919d7dc0c24536b486"), looks := false }, kinds := [], alts := [], laidByText := true, laidKinds := [.data], laidTests := true, laidLooks := .later }
def GlowStepsCardSaid : Prop := Claim7.holds Tryd.pinned (.plain (OpenSpec.ofChange glowStepsSpec)) glowStepsCard

/-- THE TIED CARD OF 'bedrocklaw10.GlowNear'. -/
def glowNearCard : Claim7 := { stood := { row := glowNearRow, standIns := [], harness := (true, "0eda40a7a5f4690f0245e1709f66202f31772ff2cc3319919d7dc0c24536b486"), looks := false }, kinds := [], alts := [], laidByText := true, laidKinds := [.data], laidTests := true, laidLooks := .later }
def GlowNearCardSaid : Prop := Claim7.holds Tryd.pinned (.plain (OpenSpec.ofChange glowNearSpec)) glowNearCard

/-- THE TIED CARD OF 'bedrocklaw10.GlowTorch'. -/
def glowTorchCard : Claim7 := { stood := { row := glowTorchRow, standIns := [], harness := (true, "0eda40a7a5f4690f0245e1709f66202f31772ff2cc3319919d7dc0c24536b486"), looks := false }, kinds := [], alts := [], laidByText := true, laidKinds := [.data], laidTests := true, laidLooks := .later }
def GlowTorchCardSaid : Prop := Claim7.holds Tryd.pinned (.plain (OpenSpec.ofChange glowTorchSpec)) glowTorchCard

/-- THE TIED CARD OF 'bedrocklaw10.GlowStone'. -/
def glowStoneCard : Claim7 := { stood := { row := glowStoneRow, standIns := [], harness := (true, "0eda40a7a5f4690f0245e1709f66202f31772ff2cc3319919d7dc0c24536b486"), looks := false }, kinds := [], alts := [], laidByText := true, laidKinds := [.data], laidTests := true, laidLooks := .later }
def GlowStoneCardSaid : Prop := Claim7.holds Tryd.pinned (.plain (OpenSpec.ofChange glowStoneSpec)) glowStoneCard

/-- THE TIED CARD OF 'bedrocklaw10.GlowLamp'. -/
def glowLampCard : Claim7 := { stood := { row := glowLampRow, standIns := [], harness := (true, "0eda40a7a5f4690f0245e1709f66202f31772ff2cc3319919d7dc0c24536b486"), looks := false }, kinds := [], alts := [], laidByText := true, laidKinds := [.data], laidTests := true, laidLooks := .later }
def GlowLampCardSaid : Prop := Claim7.holds Tryd.pinned (.plain (OpenSpec.ofChange glowLampSpec)) glowLampCard

/-- THE TIED CARD OF 'bedrocklaw10.GlowTurned'. -/
def glowTurnedCard : Claim7 := { stood := { row := glowTurnedRow, standIns := [], harness := (true, "0eda40a7a5f4690f0245e1709f66202f31772ff2cc3319919d7dc0c24536b486"), looks := false }, kinds := [], alts := [], laidByText := true, laidKinds := [.data], laidTests := true, laidLooks := .later }
def GlowTurnedCardSaid : Prop := Claim7.holds Tryd.pinned (.plain (OpenSpec.ofChange glowTurnedSpec)) glowTurnedCard

/-- THE TIED CARD OF 'bedrocklaw10.GlowLand'. -/
def glowLandCard : Claim7 := { stood := { row := glowLandRow, standIns := [], harness := (true, "0eda40a7a5f4690f0245e1709f66202f31772ff2cc3319919d7dc0c24536b486"), looks := false }, kinds := [], alts := [], laidByText := true, laidKinds := [.data, .data], laidTests := true, laidLooks := .later }
def GlowLandCardSaid : Prop := Claim7.holds Tryd.pinned (.plain (OpenSpec.ofChange glowLandSpec)) glowLandCard

/-- THE TIED CARD OF 'bedrocklaw10.GlowKnown'. -/
def glowKnownCard : Claim7 := { stood := { row := glowKnownRow, standIns := [], harness := (true, "0eda40a7a5f4690f0245e1709f66202f31772ff2cc3319919d7dc0c24536b486"), looks := false }, kinds := [], alts := [], laidByText := true, laidKinds := [.data], laidTests := true, laidLooks := .later }
def GlowKnownCardSaid : Prop := Claim7.holds Tryd.pinned (.plain (OpenSpec.ofChange glowKnownSpec)) glowKnownCard

/-- THE SECOND FORM's CARD OF 'bedrocklaw10.GlowLights'. -/
def glowLightsUptoCard : Claim7 := { stood := { row := glowLightsUptoRow, standIns := [], harness := (true, "0eda40a7a5f4690f0245e1709f66202f31772ff2cc3319919d7dc0c24536b486"), looks := false }, kinds := [], alts := [], laidByText := true, laidKinds := [.data], laidTests := true, laidLooks := .later }
def GlowLightsUptoCardSaid : Prop := Claim7.holds Tryd.pinned (.plain (OpenSpec.upto glowLightsSpec)) glowLightsUptoCard

/-- THE SECOND FORM's CARD OF 'bedrocklaw10.GlowSteps'. -/
def glowStepsUptoCard : Claim7 := { stood := { row := glowStepsUptoRow, standIns := [], harness := (true, "0eda40a7a5f4690f0245e1709f66202f31772ff2cc3319919d7dc0c24536b486"), looks := false }, kinds := [], alts := [], laidByText := true, laidKinds := [.data], laidTests := true, laidLooks := .later }
def GlowStepsUptoCardSaid : Prop := Claim7.holds Tryd.pinned (.plain (OpenSpec.upto glowStepsSpec)) glowStepsUptoCard

/-- THE SECOND FORM's CARD OF 'bedrocklaw10.GlowNear'. -/
def glowNearUptoCard : Claim7 := { stood := { row := glowNearUptoRow, standIns := [], harness := (true, "0eda40a7a5f4690f0245e1709f66202f31772ff2cc3319919d7dc0c24536b486"), looks := false }, kinds := [], alts := [], laidByText := true, laidKinds := [.data], laidTests := true, laidLooks := .later }
def GlowNearUptoCardSaid : Prop := Claim7.holds Tryd.pinned (.plain (OpenSpec.upto glowNearSpec)) glowNearUptoCard

/-- THE SECOND FORM's CARD OF 'bedrocklaw10.GlowTorch'. -/
def glowTorchUptoCard : Claim7 := { stood := { row := glowTorchUptoRow, standIns := [], harness := (true, "0eda40a7a5f4690f0245e1709f66202f31772ff2cc3319919d7dc0c24536b486"), looks := false }, kinds := [], alts := [], laidByText := true, laidKinds := [.data], laidTests := true, laidLooks := .later }
def GlowTorchUptoCardSaid : Prop := Claim7.holds Tryd.pinned (.plain (OpenSpec.upto glowTorchSpec)) glowTorchUptoCard

/-- THE SECOND FORM's CARD OF 'bedrocklaw10.GlowStone'. -/
def glowStoneUptoCard : Claim7 := { stood := { row := glowStoneUptoRow, standIns := [], harness := (true, "0eda40a7a5f4690f0245e1709f66202f31772ff2cc3319919d7dc0c24536b486"), looks := false }, kinds := [], alts := [], laidByText := true, laidKinds := [.data], laidTests := true, laidLooks := .later }
def GlowStoneUptoCardSaid : Prop := Claim7.holds Tryd.pinned (.plain (OpenSpec.upto glowStoneSpec)) glowStoneUptoCard

/-- THE SECOND FORM's CARD OF 'bedrocklaw10.GlowLamp'. -/
def glowLampUptoCard : Claim7 := { stood := { row := glowLampUptoRow, standIns := [], harness := (true, "0eda40a7a5f4690f0245e1709f66202f31772ff2cc3319919d7dc0c24536b486"), looks := false }, kinds := [], alts := [], laidByText := true, laidKinds := [.data], laidTests := true, laidLooks := .later }
def GlowLampUptoCardSaid : Prop := Claim7.holds Tryd.pinned (.plain (OpenSpec.upto glowLampSpec)) glowLampUptoCard

/-- THE SECOND FORM's CARD OF 'bedrocklaw10.GlowTurned'. -/
def glowTurnedUptoCard : Claim7 := { stood := { row := glowTurnedUptoRow, standIns := [], harness := (true, "0eda40a7a5f4690f0245e1709f66202f31772ff2cc3319919d7dc0c24536b486"), looks := false }, kinds := [], alts := [], laidByText := true, laidKinds := [.data], laidTests := true, laidLooks := .later }
def GlowTurnedUptoCardSaid : Prop := Claim7.holds Tryd.pinned (.plain (OpenSpec.upto glowTurnedSpec)) glowTurnedUptoCard

/-- THE SECOND FORM's CARD OF 'bedrocklaw10.GlowLand'. -/
def glowLandUptoCard : Claim7 := { stood := { row := glowLandUptoRow, standIns := [], harness := (true, "0eda40a7a5f4690f0245e1709f66202f31772ff2cc3319919d7dc0c24536b486"), looks := false }, kinds := [], alts := [], laidByText := true, laidKinds := [.data, .data], laidTests := true, laidLooks := .later }
def GlowLandUptoCardSaid : Prop := Claim7.holds Tryd.pinned (.plain (OpenSpec.upto glowLandSpec)) glowLandUptoCard

/-- THE SECOND FORM's CARD OF 'bedrocklaw10.GlowKnown'. -/
def glowKnownUptoCard : Claim7 := { stood := { row := glowKnownUptoRow, standIns := [], harness := (true, "0eda40a7a5f4690f0245e1709f66202f31772ff2cc3319919d7dc0c24536b486"), looks := false }, kinds := [], alts := [], laidByText := true, laidKinds := [.data], laidTests := true, laidLooks := .later }
def GlowKnownUptoCardSaid : Prop := Claim7.holds Tryd.pinned (.plain (OpenSpec.upto glowKnownSpec)) glowKnownUptoCard
end Rows
end Go.Proofs.YtbkadecfmjjadaaDoor
