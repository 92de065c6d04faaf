/-
  DERIVED. GIVEN WITH THE SEED: THE CARDS: each row of YtpimkdaikoclnaaDoorRows.lean that lists a variable, with what it lists TIED to the program's text (the seventh form; the later family's looks); each row that meets fmt, with fmt's text TOLD by the authors' own Lean function (tested against real Go, not proved from fmt's source: count such statements apart). THE CARD IS WHAT COUNTS. Prove the row's statement (the work); the ties are given (YtpimkdaikoclnaaDoorTie.lean); close each card by the builder's one call (the guide's Derived/Test/ToyasCard.lean, 'card_holds'). Laid BY PROGRAM, IN A SANDBOX (cutbox-door.mjs). By AI agents, Wed Nov 11 2026. No macro, syntax, notation, axiom, sorry.
-/
import Derived.Test.YtpimkdaikoclnaaDoorRows
import GoSem.ClaimSeven
namespace Go.Proofs.YtpimkdaikoclnaaDoor
namespace Rows

/-- THE TIED CARD OF 'bedrocklaw11.FloodKeeps'. -/
def floodKeepsCard : Claim7 := { stood := { row := floodKeepsRow, standIns := [], harness := (true, "538e1aa09c5d2bdb61f11b683e6ed2f6d58a38e28b45da35f30a733ba929c6c2"), looks := false }, kinds := [], alts := [], laidByText := true, laidKinds := [.data], laidTests := true, laidLooks := .later }
def FloodKeepsCardSaid : Prop := Claim7.holds Tryd.pinned (.plain (OpenSpec.ofChange floodKeepsSpec)) floodKeepsCard

/-- THE TIED CARD OF 'bedrocklaw11.FloodKnown'. -/
def floodKnownCard : Claim7 := { stood := { row := floodKnownRow, standIns := [], harness := (true, "538e1aa09c5d2bdb61f11b683e6ed2f6d58a38e28b45da35f30a733ba929c6c2"), looks := false }, kinds := [], alts := [], laidByText := true, laidKinds := [.data], laidTests := true, laidLooks := .later }
def FloodKnownCardSaid : Prop := Claim7.holds Tryd.pinned (.plain (OpenSpec.ofChange floodKnownSpec)) floodKnownCard

/-- THE TIED CARD OF 'bedrocklaw11.FloodBack'. -/
def floodBackCard : Claim7 := { stood := { row := floodBackRow, standIns := [], harness := (true, "538e1aa09c5d2bdb61f11b683e6ed2f6d58a38e28b45da35f30a733ba929c6c2"), looks := false }, kinds := [], alts := [], laidByText := true, laidKinds := [.data], laidTests := true, laidLooks := .later }
def FloodBackCardSaid : Prop := Claim7.holds Tryd.pinned (.plain (OpenSpec.ofChange floodBackSpec)) floodBackCard

/-- THE SECOND FORM's CARD OF 'bedrocklaw11.FloodKeeps'. -/
def floodKeepsUptoCard : Claim7 := { stood := { row := floodKeepsUptoRow, standIns := [], harness := (true, "538e1aa09c5d2bdb61f11b683e6ed2f6d58a38e28b45da35f30a733ba929c6c2"), looks := false }, kinds := [], alts := [], laidByText := true, laidKinds := [.data], laidTests := true, laidLooks := .later }
def FloodKeepsUptoCardSaid : Prop := Claim7.holds Tryd.pinned (.plain (OpenSpec.upto floodKeepsSpec)) floodKeepsUptoCard

/-- THE SECOND FORM's CARD OF 'bedrocklaw11.FloodKnown'. -/
def floodKnownUptoCard : Claim7 := { stood := { row := floodKnownUptoRow, standIns := [], harness := (true, "538e1aa09c5d2bdb61f11b683e6ed2f6d58a38e28b45da35f30a733ba929c6c2"), looks := false }, kinds := [], alts := [], laidByText := true, laidKinds := [.data], laidTests := true, laidLooks := .later }
def FloodKnownUptoCardSaid : Prop := Claim7.holds Tryd.pinned (.plain (OpenSpec.upto floodKnownSpec)) floodKnownUptoCard

/-- THE SECOND FORM's CARD OF 'bedrocklaw11.FloodBack'. -/
def floodBackUptoCard : Claim7 := { stood := { row := floodBackUptoRow, standIns := [], harness := (true, "538e1aa09c5d2bdb61f11b683e6ed2f6d58a38e28b45da35f30a733ba929c6c2"), looks := false }, kinds := [], alts := [], laidByText := true, laidKinds := [.data], laidTests := true, laidLooks := .later }
def FloodBackUptoCardSaid : Prop := Claim7.holds Tryd.pinned (.plain (OpenSpec.upto floodBackSpec)) floodBackUptoCard
end Rows
end Go.Proofs.YtpimkdaikoclnaaDoor
