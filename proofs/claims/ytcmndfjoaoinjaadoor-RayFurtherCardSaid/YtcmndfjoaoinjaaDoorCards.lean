/-
  DERIVED. GIVEN WITH THE SEED: THE CARDS: each row of YtcmndfjoaoinjaaDoorRows.lean that lists a variable, with what it lists TIED to the program's text (the seventh form; the later family's looks); each row that meets fmt, with fmt's text TOLD by the authors' own Lean function (tested against real Go, not proved from fmt's source: count such statements apart). THE CARD IS WHAT COUNTS. Prove the row's statement (the work); the ties are given (YtcmndfjoaoinjaaDoorTie.lean); close each card by the builder's one call (the guide's Derived/Test/ToyasCard.lean, 'card_holds'). Laid BY PROGRAM, IN A SANDBOX (cutbox-door.mjs). By AI agents, Wed Nov 11 2026. No macro, syntax, notation, axiom, sorry.
-/
import Derived.Test.YtcmndfjoaoinjaaDoorRows
import GoSem.ClaimSeven
namespace Go.Proofs.YtcmndfjoaoinjaaDoor
namespace Rows

/-- THE TIED CARD OF 'bedrocklaw09.RayWays'. -/
def rayWaysCard : Claim7 := { stood := { row := rayWaysRow, standIns := [], harness := (true, "2c5e7755d5e77dbdf8675436e480e3f5716f77a2d64fe04c26035c4af29e2bce"), looks := false }, kinds := [], alts := [], laidByText := true, laidKinds := [.data], laidTests := true, laidLooks := .later }
def RayWaysCardSaid : Prop := Claim7.holds Tryd.pinned (.plain (OpenSpec.ofChange rayWaysSpec)) rayWaysCard

/-- THE TIED CARD OF 'bedrocklaw09.RayKnown'. -/
def rayKnownCard : Claim7 := { stood := { row := rayKnownRow, standIns := [], harness := (true, "2c5e7755d5e77dbdf8675436e480e3f5716f77a2d64fe04c26035c4af29e2bce"), looks := false }, kinds := [], alts := [], laidByText := true, laidKinds := [.data], laidTests := true, laidLooks := .later }
def RayKnownCardSaid : Prop := Claim7.holds Tryd.pinned (.plain (OpenSpec.ofChange rayKnownSpec)) rayKnownCard

/-- THE TIED CARD OF 'bedrocklaw09.RayStraight'. -/
def rayStraightCard : Claim7 := { stood := { row := rayStraightRow, standIns := [], harness := (true, "2c5e7755d5e77dbdf8675436e480e3f5716f77a2d64fe04c26035c4af29e2bce"), looks := false }, kinds := [], alts := [], laidByText := true, laidKinds := [.data], laidTests := true, laidLooks := .later }
def RayStraightCardSaid : Prop := Claim7.holds Tryd.pinned (.plain (OpenSpec.ofChange rayStraightSpec)) rayStraightCard

/-- THE TIED CARD OF 'bedrocklaw09.RayFurther'. -/
def rayFurtherCard : Claim7 := { stood := { row := rayFurtherRow, standIns := [], harness := (true, "2c5e7755d5e77dbdf8675436e480e3f5716f77a2d64fe04c26035c4af29e2bce"), looks := false }, kinds := [], alts := [], laidByText := true, laidKinds := [.data], laidTests := true, laidLooks := .later }
def RayFurtherCardSaid : Prop := Claim7.holds Tryd.pinned (.plain (OpenSpec.ofChange rayFurtherSpec)) rayFurtherCard

/-- THE SECOND FORM's CARD OF 'bedrocklaw09.RayWays'. -/
def rayWaysUptoCard : Claim7 := { stood := { row := rayWaysUptoRow, standIns := [], harness := (true, "2c5e7755d5e77dbdf8675436e480e3f5716f77a2d64fe04c26035c4af29e2bce"), looks := false }, kinds := [], alts := [], laidByText := true, laidKinds := [.data], laidTests := true, laidLooks := .later }
def RayWaysUptoCardSaid : Prop := Claim7.holds Tryd.pinned (.plain (OpenSpec.upto rayWaysSpec)) rayWaysUptoCard

/-- THE SECOND FORM's CARD OF 'bedrocklaw09.RayKnown'. -/
def rayKnownUptoCard : Claim7 := { stood := { row := rayKnownUptoRow, standIns := [], harness := (true, "2c5e7755d5e77dbdf8675436e480e3f5716f77a2d64fe04c26035c4af29e2bce"), looks := false }, kinds := [], alts := [], laidByText := true, laidKinds := [.data], laidTests := true, laidLooks := .later }
def RayKnownUptoCardSaid : Prop := Claim7.holds Tryd.pinned (.plain (OpenSpec.upto rayKnownSpec)) rayKnownUptoCard

/-- THE SECOND FORM's CARD OF 'bedrocklaw09.RayStraight'. -/
def rayStraightUptoCard : Claim7 := { stood := { row := rayStraightUptoRow, standIns := [], harness := (true, "2c5e7755d5e77dbdf8675436e480e3f5716f77a2d64fe04c26035c4af29e2bce"), looks := false }, kinds := [], alts := [], laidByText := true, laidKinds := [.data], laidTests := true, laidLooks := .later }
def RayStraightUptoCardSaid : Prop := Claim7.holds Tryd.pinned (.plain (OpenSpec.upto rayStraightSpec)) rayStraightUptoCard

/-- THE SECOND FORM's CARD OF 'bedrocklaw09.RayFurther'. -/
def rayFurtherUptoCard : Claim7 := { stood := { row := rayFurtherUptoRow, standIns := [], harness := (true, "2c5e7755d5e77dbdf8675436e480e3f5716f77a2d64fe04c26035c4af29e2bce"), looks := false }, kinds := [], alts := [], laidByText := true, laidKinds := [.data], laidTests := true, laidLooks := .later }
def RayFurtherUptoCardSaid : Prop := Claim7.holds Tryd.pinned (.plain (OpenSpec.upto rayFurtherSpec)) rayFurtherUptoCard
end Rows
end Go.Proofs.YtcmndfjoaoinjaaDoor
