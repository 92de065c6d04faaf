/-
  DERIVED. GIVEN WITH THE SEED: THE CARDS: each row of YtlahkmkipciiiaaDoorRows.lean that lists a variable, with what it lists TIED to the program's text (the seventh form; the later family's looks); each row that meets fmt, with fmt's text TOLD by the authors' own Lean function (tested against real Go, not proved from fmt's source: count such statements apart). THE CARD IS WHAT COUNTS. Prove the row's statement (the work); the ties are given (YtlahkmkipciiiaaDoorTie.lean); close each card by the builder's one call (the guide's Derived/Test/ToyasCard.lean, 'card_holds'). Laid BY PROGRAM, IN A SANDBOX (cutbox-door.mjs). By AI agents, Wed Nov 11 2026. No macro, syntax, notation, axiom, sorry.
-/
import Derived.Test.YtlahkmkipciiiaaDoorRows
import GoSem.ClaimSeven
namespace Go.Proofs.YtlahkmkipciiiaaDoor
namespace Rows

/-- THE TIED CARD OF 'bedrocklaw15.ReactNext'. -/
def reactNextCard : Claim7 := { stood := { row := reactNextRow, standIns := [], harness := (true, "cdcceb8dc91ed9c1012bfd5657fff016b05906526bdf9bc3f23d48dca54363e1"), looks := false }, kinds := [], alts := [], laidByText := true, laidKinds := [.data], laidTests := true, laidLooks := .later }
def ReactNextCardSaid : Prop := Claim7.holds Tryd.pinned (.plain (OpenSpec.ofChange reactNextSpec)) reactNextCard

/-- THE TIED CARD OF 'bedrocklaw15.ReactDelta'. -/
def reactDeltaCard : Claim7 := { stood := { row := reactDeltaRow, standIns := [], harness := (true, "cdcceb8dc91ed9c1012bfd5657fff016b05906526bdf9bc3f23d48dca54363e1"), looks := false }, kinds := [], alts := [], laidByText := true, laidKinds := [.data], laidTests := true, laidLooks := .later }
def ReactDeltaCardSaid : Prop := Claim7.holds Tryd.pinned (.plain (OpenSpec.ofChange reactDeltaSpec)) reactDeltaCard

/-- THE TIED CARD OF 'bedrocklaw15.ReactKnown'. -/
def reactKnownCard : Claim7 := { stood := { row := reactKnownRow, standIns := [], harness := (true, "cdcceb8dc91ed9c1012bfd5657fff016b05906526bdf9bc3f23d48dca54363e1"), looks := false }, kinds := [], alts := [], laidByText := true, laidKinds := [.data], laidTests := true, laidLooks := .later }
def ReactKnownCardSaid : Prop := Claim7.holds Tryd.pinned (.plain (OpenSpec.ofChange reactKnownSpec)) reactKnownCard

/-- THE TIED CARD OF 'bedrocklaw15.ReactCounts'. -/
def reactCountsCard : Claim7 := { stood := { row := reactCountsRow, standIns := [], harness := (true, "cdcceb8dc91ed9c1012bfd5657fff016b05906526bdf9bc3f23d48dca54363e1"), looks := false }, kinds := [], alts := [], laidByText := true, laidKinds := [.data], laidTests := true, laidLooks := .later }
def ReactCountsCardSaid : Prop := Claim7.holds Tryd.pinned (.plain (OpenSpec.ofChange reactCountsSpec)) reactCountsCard

/-- THE TIED CARD OF 'bedrocklaw15.ReactLittle'. -/
def reactLittleCard : Claim7 := { stood := { row := reactLittleRow, standIns := [], harness := (true, "cdcceb8dc91ed9c1012bfd5657fff016b05906526bdf9bc3f23d48dca54363e1"), looks := false }, kinds := [], alts := [], laidByText := true, laidKinds := [.data], laidTests := true, laidLooks := .later }
def ReactLittleCardSaid : Prop := Claim7.holds Tryd.pinned (.plain (OpenSpec.ofChange reactLittleSpec)) reactLittleCard

/-- THE SECOND FORM's CARD OF 'bedrocklaw15.ReactNext'. -/
def reactNextUptoCard : Claim7 := { stood := { row := reactNextUptoRow, standIns := [], harness := (true, "cdcceb8dc91ed9c1012bfd5657fff016b05906526bdf9bc3f23d48dca54363e1"), looks := false }, kinds := [], alts := [], laidByText := true, laidKinds := [.data], laidTests := true, laidLooks := .later }
def ReactNextUptoCardSaid : Prop := Claim7.holds Tryd.pinned (.plain (OpenSpec.upto reactNextSpec)) reactNextUptoCard

/-- THE SECOND FORM's CARD OF 'bedrocklaw15.ReactDelta'. -/
def reactDeltaUptoCard : Claim7 := { stood := { row := reactDeltaUptoRow, standIns := [], harness := (true, "cdcceb8dc91ed9c1012bfd5657fff016b05906526bdf9bc3f23d48dca54363e1"), looks := false }, kinds := [], alts := [], laidByText := true, laidKinds := [.data], laidTests := true, laidLooks := .later }
def ReactDeltaUptoCardSaid : Prop := Claim7.holds Tryd.pinned (.plain (OpenSpec.upto reactDeltaSpec)) reactDeltaUptoCard

/-- THE SECOND FORM's CARD OF 'bedrocklaw15.ReactKnown'. -/
def reactKnownUptoCard : Claim7 := { stood := { row := reactKnownUptoRow, standIns := [], harness := (true, "cdcceb8dc91ed9c1012bfd5657fff016b05906526bdf9bc3f23d48dca54363e1"), looks := false }, kinds := [], alts := [], laidByText := true, laidKinds := [.data], laidTests := true, laidLooks := .later }
def ReactKnownUptoCardSaid : Prop := Claim7.holds Tryd.pinned (.plain (OpenSpec.upto reactKnownSpec)) reactKnownUptoCard

/-- THE SECOND FORM's CARD OF 'bedrocklaw15.ReactCounts'. -/
def reactCountsUptoCard : Claim7 := { stood := { row := reactCountsUptoRow, standIns := [], harness := (true, "cdcceb8dc91ed9c1012bfd5657fff016b05906526bdf9bc3f23d48dca54363e1"), looks := false }, kinds := [], alts := [], laidByText := true, laidKinds := [.data], laidTests := true, laidLooks := .later }
def ReactCountsUptoCardSaid : Prop := Claim7.holds Tryd.pinned (.plain (OpenSpec.upto reactCountsSpec)) reactCountsUptoCard

/-- THE SECOND FORM's CARD OF 'bedrocklaw15.ReactLittle'. -/
def reactLittleUptoCard : Claim7 := { stood := { row := reactLittleUptoRow, standIns := [], harness := (true, "cdcceb8dc91ed9c1012bfd5657fff016b05906526bdf9bc3f23d48dca54363e1"), looks := false }, kinds := [], alts := [], laidByText := true, laidKinds := [.data], laidTests := true, laidLooks := .later }
def ReactLittleUptoCardSaid : Prop := Claim7.holds Tryd.pinned (.plain (OpenSpec.upto reactLittleSpec)) reactLittleUptoCard
end Rows
end Go.Proofs.YtlahkmkipciiiaaDoor
