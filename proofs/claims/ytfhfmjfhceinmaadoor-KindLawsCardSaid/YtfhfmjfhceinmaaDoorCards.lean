/-
  DERIVED. GIVEN WITH THE SEED: THE CARDS: each row of YtfhfmjfhceinmaaDoorRows.lean that lists a variable, with what it lists TIED to the program's text (the seventh form; the later family's looks); each row that meets fmt, with fmt's text TOLD by the authors' own Lean function (tested against real Go, not proved from fmt's source: count such statements apart). THE CARD IS WHAT COUNTS. Prove the row's statement (the work); the ties are given (YtfhfmjfhceinmaaDoorTie.lean); close each card by the builder's one call (the guide's Derived/Test/ToyasCard.lean, 'card_holds'). Laid BY PROGRAM, IN A SANDBOX (cutbox-door.mjs). By AI agents, Wed Nov 11 2026. No macro, syntax, notation, axiom, sorry.
-/
import Derived.Test.YtfhfmjfhceinmaaDoorRows
import GoSem.ClaimSeven
namespace Go.Proofs.YtfhfmjfhceinmaaDoor
namespace Rows

/-- THE TIED CARD OF 'bedrocklaw01.KindNames'. -/
def kindNamesCard : Claim7 := { stood := { row := kindNamesRow, standIns := [], harness := (true, "26024a075d995f831e19131a2b2318a4a557843d37b4da319442d1eddde64e4b"), looks := false }, kinds := [], alts := [], laidByText := true, laidKinds := [.data], laidTests := true, laidLooks := .later }
def KindNamesCardSaid : Prop := Claim7.holds Tryd.pinned (.plain (OpenSpec.ofChange kindNamesSpec)) kindNamesCard

/-- THE TIED CARD OF 'bedrocklaw01.KindSorts'. -/
def kindSortsCard : Claim7 := { stood := { row := kindSortsRow, standIns := [], harness := (true, "26024a075d995f831e19131a2b2318a4a557843d37b4da319442d1eddde64e4b"), looks := false }, kinds := [], alts := [], laidByText := true, laidKinds := [.data], laidTests := true, laidLooks := .later }
def KindSortsCardSaid : Prop := Claim7.holds Tryd.pinned (.plain (OpenSpec.ofChange kindSortsSpec)) kindSortsCard

/-- THE TIED CARD OF 'bedrocklaw01.KindCells'. -/
def kindCellsCard : Claim7 := { stood := { row := kindCellsRow, standIns := [], harness := (true, "26024a075d995f831e19131a2b2318a4a557843d37b4da319442d1eddde64e4b"), looks := false }, kinds := [], alts := [], laidByText := true, laidKinds := [.data], laidTests := true, laidLooks := .later }
def KindCellsCardSaid : Prop := Claim7.holds Tryd.pinned (.plain (OpenSpec.ofChange kindCellsSpec)) kindCellsCard

/-- THE TIED CARD OF 'bedrocklaw01.KindKnown'. -/
def kindKnownCard : Claim7 := { stood := { row := kindKnownRow, standIns := [], harness := (true, "26024a075d995f831e19131a2b2318a4a557843d37b4da319442d1eddde64e4b"), looks := false }, kinds := [], alts := [], laidByText := true, laidKinds := [.data], laidTests := true, laidLooks := .later }
def KindKnownCardSaid : Prop := Claim7.holds Tryd.pinned (.plain (OpenSpec.ofChange kindKnownSpec)) kindKnownCard

/-- THE TIED CARD OF 'bedrocklaw01.KindBack'. -/
def kindBackCard : Claim7 := { stood := { row := kindBackRow, standIns := [], harness := (true, "26024a075d995f831e19131a2b2318a4a557843d37b4da319442d1eddde64e4b"), looks := false }, kinds := [], alts := [], laidByText := true, laidKinds := [.data], laidTests := true, laidLooks := .later }
def KindBackCardSaid : Prop := Claim7.holds Tryd.pinned (.plain (OpenSpec.ofChange kindBackSpec)) kindBackCard

/-- THE TIED CARD OF 'bedrocklaw01.KindLaws'. -/
def kindLawsCard : Claim7 := { stood := { row := kindLawsRow, standIns := [], harness := (true, "26024a075d995f831e19131a2b2318a4a557843d37b4da319442d1eddde64e4b"), looks := false }, kinds := [], alts := [], laidByText := true, laidKinds := [.data], laidTests := true, laidLooks := .later }
def KindLawsCardSaid : Prop := Claim7.holds Tryd.pinned (.plain (OpenSpec.ofChange kindLawsSpec)) kindLawsCard

/-- THE SECOND FORM's CARD OF 'bedrocklaw01.KindNames'. -/
def kindNamesUptoCard : Claim7 := { stood := { row := kindNamesUptoRow, standIns := [], harness := (true, "26024a075d995f831e19131a2b2318a4a557843d37b4da319442d1eddde64e4b"), looks := false }, kinds := [], alts := [], laidByText := true, laidKinds := [.data], laidTests := true, laidLooks := .later }
def KindNamesUptoCardSaid : Prop := Claim7.holds Tryd.pinned (.plain (OpenSpec.upto kindNamesSpec)) kindNamesUptoCard

/-- THE SECOND FORM's CARD OF 'bedrocklaw01.KindSorts'. -/
def kindSortsUptoCard : Claim7 := { stood := { row := kindSortsUptoRow, standIns := [], harness := (true, "26024a075d995f831e19131a2b2318a4a557843d37b4da319442d1eddde64e4b"), looks := false }, kinds := [], alts := [], laidByText := true, laidKinds := [.data], laidTests := true, laidLooks := .later }
def KindSortsUptoCardSaid : Prop := Claim7.holds Tryd.pinned (.plain (OpenSpec.upto kindSortsSpec)) kindSortsUptoCard

/-- THE SECOND FORM's CARD OF 'bedrocklaw01.KindCells'. -/
def kindCellsUptoCard : Claim7 := { stood := { row := kindCellsUptoRow, standIns := [], harness := (true, "26024a075d995f831e19131a2b2318a4a557843d37b4da319442d1eddde64e4b"), looks := false }, kinds := [], alts := [], laidByText := true, laidKinds := [.data], laidTests := true, laidLooks := .later }
def KindCellsUptoCardSaid : Prop := Claim7.holds Tryd.pinned (.plain (OpenSpec.upto kindCellsSpec)) kindCellsUptoCard

/-- THE SECOND FORM's CARD OF 'bedrocklaw01.KindKnown'. -/
def kindKnownUptoCard : Claim7 := { stood := { row := kindKnownUptoRow, standIns := [], harness := (true, "26024a075d995f831e19131a2b2318a4a557843d37b4da319442d1eddde64e4b"), looks := false }, kinds := [], alts := [], laidByText := true, laidKinds := [.data], laidTests := true, laidLooks := .later }
def KindKnownUptoCardSaid : Prop := Claim7.holds Tryd.pinned (.plain (OpenSpec.upto kindKnownSpec)) kindKnownUptoCard

/-- THE SECOND FORM's CARD OF 'bedrocklaw01.KindBack'. -/
def kindBackUptoCard : Claim7 := { stood := { row := kindBackUptoRow, standIns := [], harness := (true, "26024a075d995f831e19131a2b2318a4a557843d37b4da319442d1eddde64e4b"), looks := false }, kinds := [], alts := [], laidByText := true, laidKinds := [.data], laidTests := true, laidLooks := .later }
def KindBackUptoCardSaid : Prop := Claim7.holds Tryd.pinned (.plain (OpenSpec.upto kindBackSpec)) kindBackUptoCard

/-- THE SECOND FORM's CARD OF 'bedrocklaw01.KindLaws'. -/
def kindLawsUptoCard : Claim7 := { stood := { row := kindLawsUptoRow, standIns := [], harness := (true, "26024a075d995f831e19131a2b2318a4a557843d37b4da319442d1eddde64e4b"), looks := false }, kinds := [], alts := [], laidByText := true, laidKinds := [.data], laidTests := true, laidLooks := .later }
def KindLawsUptoCardSaid : Prop := Claim7.holds Tryd.pinned (.plain (OpenSpec.upto kindLawsSpec)) kindLawsUptoCard
end Rows
end Go.Proofs.YtfhfmjfhceinmaaDoor
