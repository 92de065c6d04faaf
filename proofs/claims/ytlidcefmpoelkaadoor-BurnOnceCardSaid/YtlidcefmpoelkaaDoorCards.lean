/-
  DERIVED. GIVEN WITH THE SEED: THE CARDS: each row of YtlidcefmpoelkaaDoorRows.lean that lists a variable, with what it lists TIED to the program's text (the seventh form; the later family's looks); each row that meets fmt, with fmt's text TOLD by the authors' own Lean function (tested against real Go, not proved from fmt's source: count such statements apart). THE CARD IS WHAT COUNTS. Prove the row's statement (the work); the ties are given (YtlidcefmpoelkaaDoorTie.lean); close each card by the builder's one call (the guide's Derived/Test/ToyasCard.lean, 'card_holds'). Laid BY PROGRAM, IN A SANDBOX (cutbox-door.mjs). By AI agents, Wed Nov 11 2026. No macro, syntax, notation, axiom, sorry.
-/
import Derived.Test.YtlidcefmpoelkaaDoorRows
import GoSem.ClaimSeven
namespace Go.Proofs.YtlidcefmpoelkaaDoor
namespace Rows

/-- THE TIED CARD OF 'bedrocklaw14.BurnFires'. -/
def burnFiresCard : Claim7 := { stood := { row := burnFiresRow, standIns := [], harness := (true, "ce785ec30d82817607faee7174415402c093d23b9a5eac989853d4153b8014cf"), looks := false }, kinds := [], alts := [], laidByText := true, laidKinds := [.data], laidTests := true, laidLooks := .later }
def BurnFiresCardSaid : Prop := Claim7.holds Tryd.pinned (.plain (OpenSpec.ofChange burnFiresSpec)) burnFiresCard

/-- THE TIED CARD OF 'bedrocklaw14.BurnPlants'. -/
def burnPlantsCard : Claim7 := { stood := { row := burnPlantsRow, standIns := [], harness := (true, "ce785ec30d82817607faee7174415402c093d23b9a5eac989853d4153b8014cf"), looks := false }, kinds := [], alts := [], laidByText := true, laidKinds := [.data], laidTests := true, laidLooks := .later }
def BurnPlantsCardSaid : Prop := Claim7.holds Tryd.pinned (.plain (OpenSpec.ofChange burnPlantsSpec)) burnPlantsCard

/-- THE TIED CARD OF 'bedrocklaw14.BurnCounts'. -/
def burnCountsCard : Claim7 := { stood := { row := burnCountsRow, standIns := [], harness := (true, "ce785ec30d82817607faee7174415402c093d23b9a5eac989853d4153b8014cf"), looks := false }, kinds := [], alts := [], laidByText := true, laidKinds := [.data], laidTests := true, laidLooks := .later }
def BurnCountsCardSaid : Prop := Claim7.holds Tryd.pinned (.plain (OpenSpec.ofChange burnCountsSpec)) burnCountsCard

/-- THE TIED CARD OF 'bedrocklaw14.BurnOnce'. -/
def burnOnceCard : Claim7 := { stood := { row := burnOnceRow, standIns := [], harness := (true, "ce785ec30d82817607faee7174415402c093d23b9a5eac989853d4153b8014cf"), looks := false }, kinds := [], alts := [], laidByText := true, laidKinds := [.data], laidTests := true, laidLooks := .later }
def BurnOnceCardSaid : Prop := Claim7.holds Tryd.pinned (.plain (OpenSpec.ofChange burnOnceSpec)) burnOnceCard

/-- THE TIED CARD OF 'bedrocklaw14.BurnOver'. -/
def burnOverCard : Claim7 := { stood := { row := burnOverRow, standIns := [], harness := (true, "ce785ec30d82817607faee7174415402c093d23b9a5eac989853d4153b8014cf"), looks := false }, kinds := [], alts := [], laidByText := true, laidKinds := [.data], laidTests := true, laidLooks := .later }
def BurnOverCardSaid : Prop := Claim7.holds Tryd.pinned (.plain (OpenSpec.ofChange burnOverSpec)) burnOverCard

/-- THE TIED CARD OF 'bedrocklaw14.BurnTakes'. -/
def burnTakesCard : Claim7 := { stood := { row := burnTakesRow, standIns := [], harness := (true, "ce785ec30d82817607faee7174415402c093d23b9a5eac989853d4153b8014cf"), looks := false }, kinds := [], alts := [], laidByText := true, laidKinds := [.data], laidTests := true, laidLooks := .later }
def BurnTakesCardSaid : Prop := Claim7.holds Tryd.pinned (.plain (OpenSpec.ofChange burnTakesSpec)) burnTakesCard

/-- THE TIED CARD OF 'bedrocklaw14.BurnDark'. -/
def burnDarkCard : Claim7 := { stood := { row := burnDarkRow, standIns := [], harness := (true, "ce785ec30d82817607faee7174415402c093d23b9a5eac989853d4153b8014cf"), looks := false }, kinds := [], alts := [], laidByText := true, laidKinds := [.data], laidTests := true, laidLooks := .later }
def BurnDarkCardSaid : Prop := Claim7.holds Tryd.pinned (.plain (OpenSpec.ofChange burnDarkSpec)) burnDarkCard

/-- THE TIED CARD OF 'bedrocklaw14.BurnGrows'. -/
def burnGrowsCard : Claim7 := { stood := { row := burnGrowsRow, standIns := [], harness := (true, "ce785ec30d82817607faee7174415402c093d23b9a5eac989853d4153b8014cf"), looks := false }, kinds := [], alts := [], laidByText := true, laidKinds := [.data], laidTests := true, laidLooks := .later }
def BurnGrowsCardSaid : Prop := Claim7.holds Tryd.pinned (.plain (OpenSpec.ofChange burnGrowsSpec)) burnGrowsCard

/-- THE TIED CARD OF 'bedrocklaw14.BurnKnown'. -/
def burnKnownCard : Claim7 := { stood := { row := burnKnownRow, standIns := [], harness := (true, "ce785ec30d82817607faee7174415402c093d23b9a5eac989853d4153b8014cf"), looks := false }, kinds := [], alts := [], laidByText := true, laidKinds := [.data], laidTests := true, laidLooks := .later }
def BurnKnownCardSaid : Prop := Claim7.holds Tryd.pinned (.plain (OpenSpec.ofChange burnKnownSpec)) burnKnownCard

/-- THE SECOND FORM's CARD OF 'bedrocklaw14.BurnFires'. -/
def burnFiresUptoCard : Claim7 := { stood := { row := burnFiresUptoRow, standIns := [], harness := (true, "ce785ec30d82817607faee7174415402c093d23b9a5eac989853d4153b8014cf"), looks := false }, kinds := [], alts := [], laidByText := true, laidKinds := [.data], laidTests := true, laidLooks := .later }
def BurnFiresUptoCardSaid : Prop := Claim7.holds Tryd.pinned (.plain (OpenSpec.upto burnFiresSpec)) burnFiresUptoCard

/-- THE SECOND FORM's CARD OF 'bedrocklaw14.BurnPlants'. -/
def burnPlantsUptoCard : Claim7 := { stood := { row := burnPlantsUptoRow, standIns := [], harness := (true, "ce785ec30d82817607faee7174415402c093d23b9a5eac989853d4153b8014cf"), looks := false }, kinds := [], alts := [], laidByText := true, laidKinds := [.data], laidTests := true, laidLooks := .later }
def BurnPlantsUptoCardSaid : Prop := Claim7.holds Tryd.pinned (.plain (OpenSpec.upto burnPlantsSpec)) burnPlantsUptoCard

/-- THE SECOND FORM's CARD OF 'bedrocklaw14.BurnCounts'. -/
def burnCountsUptoCard : Claim7 := { stood := { row := burnCountsUptoRow, standIns := [], harness := (true, "ce785ec30d82817607faee7174415402c093d23b9a5eac989853d4153b8014cf"), looks := false }, kinds := [], alts := [], laidByText := true, laidKinds := [.data], laidTests := true, laidLooks := .later }
def BurnCountsUptoCardSaid : Prop := Claim7.holds Tryd.pinned (.plain (OpenSpec.upto burnCountsSpec)) burnCountsUptoCard

/-- THE SECOND FORM's CARD OF 'bedrocklaw14.BurnOnce'. -/
def burnOnceUptoCard : Claim7 := { stood := { row := burnOnceUptoRow, standIns := [], harness := (true, "ce785ec30d82817607faee7174415402c093d23b9a5eac989853d4153b8014cf"), looks := false }, kinds := [], alts := [], laidByText := true, laidKinds := [.data], laidTests := true, laidLooks := .later }
def BurnOnceUptoCardSaid : Prop := Claim7.holds Tryd.pinned (.plain (OpenSpec.upto burnOnceSpec)) burnOnceUptoCard

/-- THE SECOND FORM's CARD OF 'bedrocklaw14.BurnOver'. -/
def burnOverUptoCard : Claim7 := { stood := { row := burnOverUptoRow, standIns := [], harness := (true, "ce785ec30d82817607faee7174415402c093d23b9a5eac989853d4153b8014cf"), looks := false }, kinds := [], alts := [], laidByText := true, laidKinds := [.data], laidTests := true, laidLooks := .later }
def BurnOverUptoCardSaid : Prop := Claim7.holds Tryd.pinned (.plain (OpenSpec.upto burnOverSpec)) burnOverUptoCard

/-- THE SECOND FORM's CARD OF 'bedrocklaw14.BurnTakes'. -/
def burnTakesUptoCard : Claim7 := { stood := { row := burnTakesUptoRow, standIns := [], harness := (true, "ce785ec30d82817607faee7174415402c093d23b9a5eac989853d4153b8014cf"), looks := false }, kinds := [], alts := [], laidByText := true, laidKinds := [.data], laidTests := true, laidLooks := .later }
def BurnTakesUptoCardSaid : Prop := Claim7.holds Tryd.pinned (.plain (OpenSpec.upto burnTakesSpec)) burnTakesUptoCard

/-- THE SECOND FORM's CARD OF 'bedrocklaw14.BurnDark'. -/
def burnDarkUptoCard : Claim7 := { stood := { row := burnDarkUptoRow, standIns := [], harness := (true, "ce785ec30d82817607faee7174415402c093d23b9a5eac989853d4153b8014cf"), looks := false }, kinds := [], alts := [], laidByText := true, laidKinds := [.data], laidTests := true, laidLooks := .later }
def BurnDarkUptoCardSaid : Prop := Claim7.holds Tryd.pinned (.plain (OpenSpec.upto burnDarkSpec)) burnDarkUptoCard

/-- THE SECOND FORM's CARD OF 'bedrocklaw14.BurnGrows'. -/
def burnGrowsUptoCard : Claim7 := { stood := { row := burnGrowsUptoRow, standIns := [], harness := (true, "ce785ec30d82817607faee7174415402c093d23b9a5eac989853d4153b8014cf"), looks := false }, kinds := [], alts := [], laidByText := true, laidKinds := [.data], laidTests := true, laidLooks := .later }
def BurnGrowsUptoCardSaid : Prop := Claim7.holds Tryd.pinned (.plain (OpenSpec.upto burnGrowsSpec)) burnGrowsUptoCard

/-- THE SECOND FORM's CARD OF 'bedrocklaw14.BurnKnown'. -/
def burnKnownUptoCard : Claim7 := { stood := { row := burnKnownUptoRow, standIns := [], harness := (true, "ce785ec30d82817607faee7174415402c093d23b9a5eac989853d4153b8014cf"), looks := false }, kinds := [], alts := [], laidByText := true, laidKinds := [.data], laidTests := true, laidLooks := .later }
def BurnKnownUptoCardSaid : Prop := Claim7.holds Tryd.pinned (.plain (OpenSpec.upto burnKnownSpec)) burnKnownUptoCard
end Rows
end Go.Proofs.YtlidcefmpoelkaaDoor
