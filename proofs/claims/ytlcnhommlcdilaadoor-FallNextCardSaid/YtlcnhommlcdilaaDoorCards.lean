/-
  DERIVED. GIVEN WITH THE SEED: THE CARDS: each row of YtlcnhommlcdilaaDoorRows.lean that lists a variable, with what it lists TIED to the program's text (the seventh form; the later family's looks); each row that meets fmt, with fmt's text TOLD by the authors' own Lean function (tested against real Go, not proved from fmt's source: count such statements apart). THE CARD IS WHAT COUNTS. Prove the row's statement (the work); the ties are given (YtlcnhommlcdilaaDoorTie.lean); close each card by the builder's one call (the guide's Derived/Test/ToyasCard.lean, 'card_holds'). Laid BY PROGRAM, IN A SANDBOX (cutbox-door.mjs). By AI agents, Wed Nov 11 2026. No macro, syntax, notation, axiom, sorry.
-/
import Derived.Test.YtlcnhommlcdilaaDoorRows
import GoSem.ClaimSeven
namespace Go.Proofs.YtlcnhommlcdilaaDoor
namespace Rows

/-- THE TIED CARD OF 'bedrocklaw13.FallNext'. -/
def fallNextCard : Claim7 := { stood := { row := fallNextRow, standIns := [], harness := (true, "7ff7a5b2976ebfa29ebf9dcab1c045c64edb09e0a8ebaf712541c09ae5ff6a9d"), looks := false }, kinds := [], alts := [], laidByText := true, laidKinds := [.data], laidTests := true, laidLooks := .later }
def FallNextCardSaid : Prop := Claim7.holds Tryd.pinned (.plain (OpenSpec.ofChange fallNextSpec)) fallNextCard

/-- THE TIED CARD OF 'bedrocklaw13.FallRows'. -/
def fallRowsCard : Claim7 := { stood := { row := fallRowsRow, standIns := [], harness := (true, "7ff7a5b2976ebfa29ebf9dcab1c045c64edb09e0a8ebaf712541c09ae5ff6a9d"), looks := false }, kinds := [], alts := [], laidByText := true, laidKinds := [.data], laidTests := true, laidLooks := .later }
def FallRowsCardSaid : Prop := Claim7.holds Tryd.pinned (.plain (OpenSpec.ofChange fallRowsSpec)) fallRowsCard

/-- THE TIED CARD OF 'bedrocklaw13.FallKnown'. -/
def fallKnownCard : Claim7 := { stood := { row := fallKnownRow, standIns := [], harness := (true, "7ff7a5b2976ebfa29ebf9dcab1c045c64edb09e0a8ebaf712541c09ae5ff6a9d"), looks := false }, kinds := [], alts := [], laidByText := true, laidKinds := [.data], laidTests := true, laidLooks := .later }
def FallKnownCardSaid : Prop := Claim7.holds Tryd.pinned (.plain (OpenSpec.ofChange fallKnownSpec)) fallKnownCard

/-- THE TIED CARD OF 'bedrocklaw13.FallSteps'. -/
def fallStepsCard : Claim7 := { stood := { row := fallStepsRow, standIns := [], harness := (true, "7ff7a5b2976ebfa29ebf9dcab1c045c64edb09e0a8ebaf712541c09ae5ff6a9d"), looks := false }, kinds := [], alts := [], laidByText := true, laidKinds := [.data], laidTests := true, laidLooks := .later }
def FallStepsCardSaid : Prop := Claim7.holds Tryd.pinned (.plain (OpenSpec.ofChange fallStepsSpec)) fallStepsCard

/-- THE TIED CARD OF 'bedrocklaw13.FallShort'. -/
def fallShortCard : Claim7 := { stood := { row := fallShortRow, standIns := [], harness := (true, "7ff7a5b2976ebfa29ebf9dcab1c045c64edb09e0a8ebaf712541c09ae5ff6a9d"), looks := false }, kinds := [], alts := [], laidByText := true, laidKinds := [.data], laidTests := true, laidLooks := .later }
def FallShortCardSaid : Prop := Claim7.holds Tryd.pinned (.plain (OpenSpec.ofChange fallShortSpec)) fallShortCard

/-- THE SECOND FORM's CARD OF 'bedrocklaw13.FallNext'. -/
def fallNextUptoCard : Claim7 := { stood := { row := fallNextUptoRow, standIns := [], harness := (true, "7ff7a5b2976ebfa29ebf9dcab1c045c64edb09e0a8ebaf712541c09ae5ff6a9d"), looks := false }, kinds := [], alts := [], laidByText := true, laidKinds := [.data], laidTests := true, laidLooks := .later }
def FallNextUptoCardSaid : Prop := Claim7.holds Tryd.pinned (.plain (OpenSpec.upto fallNextSpec)) fallNextUptoCard

/-- THE SECOND FORM's CARD OF 'bedrocklaw13.FallRows'. -/
def fallRowsUptoCard : Claim7 := { stood := { row := fallRowsUptoRow, standIns := [], harness := (true, "7ff7a5b2976ebfa29ebf9dcab1c045c64edb09e0a8ebaf712541c09ae5ff6a9d"), looks := false }, kinds := [], alts := [], laidByText := true, laidKinds := [.data], laidTests := true, laidLooks := .later }
def FallRowsUptoCardSaid : Prop := Claim7.holds Tryd.pinned (.plain (OpenSpec.upto fallRowsSpec)) fallRowsUptoCard

/-- THE SECOND FORM's CARD OF 'bedrocklaw13.FallKnown'. -/
def fallKnownUptoCard : Claim7 := { stood := { row := fallKnownUptoRow, standIns := [], harness := (true, "7ff7a5b2976ebfa29ebf9dcab1c045c64edb09e0a8ebaf712541c09ae5ff6a9d"), looks := false }, kinds := [], alts := [], laidByText := true, laidKinds := [.data], laidTests := true, laidLooks := .later }
def FallKnownUptoCardSaid : Prop := Claim7.holds Tryd.pinned (.plain (OpenSpec.upto fallKnownSpec)) fallKnownUptoCard

/-- THE SECOND FORM's CARD OF 'bedrocklaw13.FallSteps'. -/
def fallStepsUptoCard : Claim7 := { stood := { row := fallStepsUptoRow, standIns := [], harness := (true, "7ff7a5b2976ebfa29ebf9dcab1c045c64edb09e0a8ebaf712541c09ae5ff6a9d"), looks := false }, kinds := [], alts := [], laidByText := true, laidKinds := [.data], laidTests := true, laidLooks := .later }
def FallStepsUptoCardSaid : Prop := Claim7.holds Tryd.pinned (.plain (OpenSpec.upto fallStepsSpec)) fallStepsUptoCard

/-- THE SECOND FORM's CARD OF 'bedrocklaw13.FallShort'. -/
def fallShortUptoCard : Claim7 := { stood := { row := fallShortUptoRow, standIns := [], harness := (true, "7ff7a5b2976ebfa29ebf9dcab1c045c64edb09e0a8ebaf712541c09ae5ff6a9d"), looks := false }, kinds := [], alts := [], laidByText := true, laidKinds := [.data], laidTests := true, laidLooks := .later }
def FallShortUptoCardSaid : Prop := Claim7.holds Tryd.pinned (.plain (OpenSpec.upto fallShortSpec)) fallShortUptoCard
end Rows
end Go.Proofs.YtlcnhommlcdilaaDoor
