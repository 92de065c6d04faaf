/-
  DERIVED. GIVEN WITH THE SEED: THE CARDS: each row of YtjjnmkbjohiekaaDoorRows.lean that lists a variable, with what it lists TIED to the program's text (the seventh form; the later family's looks); each row that meets fmt, with fmt's text TOLD by the authors' own Lean function (tested against real Go, not proved from fmt's source: count such statements apart). THE CARD IS WHAT COUNTS. Prove the row's statement (the work); the ties are given (YtjjnmkbjohiekaaDoorTie.lean); close each card by the builder's one call (the guide's Derived/Test/ToyasCard.lean, 'card_holds'). Laid BY PROGRAM, IN A SANDBOX (cutbox-door.mjs). By AI agents, Wed Nov 11 2026. No macro, syntax, notation, axiom, sorry.
-/
import Derived.Test.YtjjnmkbjohiekaaDoorRows
import GoSem.ClaimSeven
namespace Go.Proofs.YtjjnmkbjohiekaaDoor
namespace Rows

/-- THE TIED CARD OF 'bedrocklaw08.LandCells'. -/
def landCellsCard : Claim7 := { stood := { row := landCellsRow, standIns := [], harness := (true, "8fa431aa148d6d48ef3431cb24b1f40fbe38b86f8fe3b27363b39762a7df4204"), looks := false }, kinds := [], alts := [], laidByText := true, laidKinds := [.data], laidTests := true, laidLooks := .later }
def LandCellsCardSaid : Prop := Claim7.holds Tryd.pinned (.plain (OpenSpec.ofChange landCellsSpec)) landCellsCard

/-- THE TIED CARD OF 'bedrocklaw08.LandChunks'. -/
def landChunksCard : Claim7 := { stood := { row := landChunksRow, standIns := [], harness := (true, "8fa431aa148d6d48ef3431cb24b1f40fbe38b86f8fe3b27363b39762a7df4204"), looks := false }, kinds := [], alts := [], laidByText := true, laidKinds := [.data, .data], laidTests := true, laidLooks := .later }
def LandChunksCardSaid : Prop := Claim7.holds Tryd.pinned (.plain (OpenSpec.ofChange landChunksSpec)) landChunksCard

/-- THE TIED CARD OF 'bedrocklaw08.LandSame'. -/
def landSameCard : Claim7 := { stood := { row := landSameRow, standIns := [], harness := (true, "8fa431aa148d6d48ef3431cb24b1f40fbe38b86f8fe3b27363b39762a7df4204"), looks := false }, kinds := [], alts := [], laidByText := true, laidKinds := [.data, .data], laidTests := true, laidLooks := .later }
def LandSameCardSaid : Prop := Claim7.holds Tryd.pinned (.plain (OpenSpec.ofChange landSameSpec)) landSameCard

/-- THE TIED CARD OF 'bedrocklaw08.LandFlat'. -/
def landFlatCard : Claim7 := { stood := { row := landFlatRow, standIns := [], harness := (true, "8fa431aa148d6d48ef3431cb24b1f40fbe38b86f8fe3b27363b39762a7df4204"), looks := false }, kinds := [], alts := [], laidByText := true, laidKinds := [.data], laidTests := true, laidLooks := .later }
def LandFlatCardSaid : Prop := Claim7.holds Tryd.pinned (.plain (OpenSpec.ofChange landFlatSpec)) landFlatCard

/-- THE TIED CARD OF 'bedrocklaw08.LandOther'. -/
def landOtherCard : Claim7 := { stood := { row := landOtherRow, standIns := [], harness := (true, "8fa431aa148d6d48ef3431cb24b1f40fbe38b86f8fe3b27363b39762a7df4204"), looks := false }, kinds := [], alts := [], laidByText := true, laidKinds := [.data], laidTests := true, laidLooks := .later }
def LandOtherCardSaid : Prop := Claim7.holds Tryd.pinned (.plain (OpenSpec.ofChange landOtherSpec)) landOtherCard

/-- THE TIED CARD OF 'bedrocklaw08.LandCounts'. -/
def landCountsCard : Claim7 := { stood := { row := landCountsRow, standIns := [], harness := (true, "8fa431aa148d6d48ef3431cb24b1f40fbe38b86f8fe3b27363b39762a7df4204"), looks := false }, kinds := [], alts := [], laidByText := true, laidKinds := [.data, .data], laidTests := true, laidLooks := .later }
def LandCountsCardSaid : Prop := Claim7.holds Tryd.pinned (.plain (OpenSpec.ofChange landCountsSpec)) landCountsCard

/-- THE TIED CARD OF 'bedrocklaw08.LandKnown'. -/
def landKnownCard : Claim7 := { stood := { row := landKnownRow, standIns := [], harness := (true, "8fa431aa148d6d48ef3431cb24b1f40fbe38b86f8fe3b27363b39762a7df4204"), looks := false }, kinds := [], alts := [], laidByText := true, laidKinds := [.data, .data], laidTests := true, laidLooks := .later }
def LandKnownCardSaid : Prop := Claim7.holds Tryd.pinned (.plain (OpenSpec.ofChange landKnownSpec)) landKnownCard

/-- THE SECOND FORM's CARD OF 'bedrocklaw08.LandCells'. -/
def landCellsUptoCard : Claim7 := { stood := { row := landCellsUptoRow, standIns := [], harness := (true, "8fa431aa148d6d48ef3431cb24b1f40fbe38b86f8fe3b27363b39762a7df4204"), looks := false }, kinds := [], alts := [], laidByText := true, laidKinds := [.data], laidTests := true, laidLooks := .later }
def LandCellsUptoCardSaid : Prop := Claim7.holds Tryd.pinned (.plain (OpenSpec.upto landCellsSpec)) landCellsUptoCard

/-- THE SECOND FORM's CARD OF 'bedrocklaw08.LandChunks'. -/
def landChunksUptoCard : Claim7 := { stood := { row := landChunksUptoRow, standIns := [], harness := (true, "8fa431aa148d6d48ef3431cb24b1f40fbe38b86f8fe3b27363b39762a7df4204"), looks := false }, kinds := [], alts := [], laidByText := true, laidKinds := [.data, .data], laidTests := true, laidLooks := .later }
def LandChunksUptoCardSaid : Prop := Claim7.holds Tryd.pinned (.plain (OpenSpec.upto landChunksSpec)) landChunksUptoCard

/-- THE SECOND FORM's CARD OF 'bedrocklaw08.LandSame'. -/
def landSameUptoCard : Claim7 := { stood := { row := landSameUptoRow, standIns := [], harness := (true, "8fa431aa148d6d48ef3431cb24b1f40fbe38b86f8fe3b27363b39762a7df4204"), looks := false }, kinds := [], alts := [], laidByText := true, laidKinds := [.data, .data], laidTests := true, laidLooks := .later }
def LandSameUptoCardSaid : Prop := Claim7.holds Tryd.pinned (.plain (OpenSpec.upto landSameSpec)) landSameUptoCard

/-- THE SECOND FORM's CARD OF 'bedrocklaw08.LandFlat'. -/
def landFlatUptoCard : Claim7 := { stood := { row := landFlatUptoRow, standIns := [], harness := (true, "8fa431aa148d6d48ef3431cb24b1f40fbe38b86f8fe3b27363b39762a7df4204"), looks := false }, kinds := [], alts := [], laidByText := true, laidKinds := [.data], laidTests := true, laidLooks := .later }
def LandFlatUptoCardSaid : Prop := Claim7.holds Tryd.pinned (.plain (OpenSpec.upto landFlatSpec)) landFlatUptoCard

/-- THE SECOND FORM's CARD OF 'bedrocklaw08.LandOther'. -/
def landOtherUptoCard : Claim7 := { stood := { row := landOtherUptoRow, standIns := [], harness := (true, "8fa431aa148d6d48ef3431cb24b1f40fbe38b86f8fe3b27363b39762a7df4204"), looks := false }, kinds := [], alts := [], laidByText := true, laidKinds := [.data], laidTests := true, laidLooks := .later }
def LandOtherUptoCardSaid : Prop := Claim7.holds Tryd.pinned (.plain (OpenSpec.upto landOtherSpec)) landOtherUptoCard

/-- THE SECOND FORM's CARD OF 'bedrocklaw08.LandCounts'. -/
def landCountsUptoCard : Claim7 := { stood := { row := landCountsUptoRow, standIns := [], harness := (true, "8fa431aa148d6d48ef3431cb24b1f40fbe38b86f8fe3b27363b39762a7df4204"), looks := false }, kinds := [], alts := [], laidByText := true, laidKinds := [.data, .data], laidTests := true, laidLooks := .later }
def LandCountsUptoCardSaid : Prop := Claim7.holds Tryd.pinned (.plain (OpenSpec.upto landCountsSpec)) landCountsUptoCard

/-- THE SECOND FORM's CARD OF 'bedrocklaw08.LandKnown'. -/
def landKnownUptoCard : Claim7 := { stood := { row := landKnownUptoRow, standIns := [], harness := (true, "8fa431aa148d6d48ef3431cb24b1f40fbe38b86f8fe3b27363b39762a7df4204"), looks := false }, kinds := [], alts := [], laidByText := true, laidKinds := [.data, .data], laidTests := true, laidLooks := .later }
def LandKnownUptoCardSaid : Prop := Claim7.holds Tryd.pinned (.plain (OpenSpec.upto landKnownSpec)) landKnownUptoCard
end Rows
end Go.Proofs.YtjjnmkbjohiekaaDoor
