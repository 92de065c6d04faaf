/-
  DERIVED. GIVEN WITH THE SEED: THE CARDS: each row of YtiochoppiohjnaaDoorRows.lean that lists a variable, with what it lists TIED to the program's text (the seventh form; the later family's looks); each row that meets fmt, with fmt's text TOLD by the authors' own Lean function (tested against real Go, not proved from fmt's source: count such statements apart). THE CARD IS WHAT COUNTS. Prove the row's statement (the work); the ties are given (YtiochoppiohjnaaDoorTie.lean); close each card by the builder's one call (the guide's Derived/Test/ToyasCard.lean, 'card_holds'). Laid BY PROGRAM, IN A SANDBOX (cutbox-door.mjs). By AI agents, Wed Nov 11 2026. No macro, syntax, notation, axiom, sorry.
-/
import Derived.Test.YtiochoppiohjnaaDoorRows
import GoSem.ClaimSeven
namespace Go.Proofs.YtiochoppiohjnaaDoor
namespace Rows

/-- THE TIED CARD OF 'bedrocklaw07.ChunkChecks'. -/
def chunkChecksCard : Claim7 := { stood := { row := chunkChecksRow, standIns := [], harness := (true, "d8dd6a8398b24d5bc5434a08e3a74fb7cb8a952546ef8f653009d7a7b8014c8b"), looks := false }, kinds := [], alts := [], laidByText := true, laidKinds := [.data], laidTests := true, laidLooks := .later }
def ChunkChecksCardSaid : Prop := Claim7.holds Tryd.pinned (.plain (OpenSpec.ofChange chunkChecksSpec)) chunkChecksCard

/-- THE TIED CARD OF 'bedrocklaw07.ChunkSame'. -/
def chunkSameCard : Claim7 := { stood := { row := chunkSameRow, standIns := [], harness := (true, "d8dd6a8398b24d5bc5434a08e3a74fb7cb8a952546ef8f653009d7a7b8014c8b"), looks := false }, kinds := [], alts := [], laidByText := true, laidKinds := [.data], laidTests := true, laidLooks := .later }
def ChunkSameCardSaid : Prop := Claim7.holds Tryd.pinned (.plain (OpenSpec.ofChange chunkSameSpec)) chunkSameCard

/-- THE TIED CARD OF 'bedrocklaw07.ChunkTicks'. -/
def chunkTicksCard : Claim7 := { stood := { row := chunkTicksRow, standIns := [], harness := (true, "d8dd6a8398b24d5bc5434a08e3a74fb7cb8a952546ef8f653009d7a7b8014c8b"), looks := false }, kinds := [], alts := [], laidByText := true, laidKinds := [.data], laidTests := true, laidLooks := .later }
def ChunkTicksCardSaid : Prop := Claim7.holds Tryd.pinned (.plain (OpenSpec.ofChange chunkTicksSpec)) chunkTicksCard

/-- THE TIED CARD OF 'bedrocklaw07.ChunkKnown'. -/
def chunkKnownCard : Claim7 := { stood := { row := chunkKnownRow, standIns := [], harness := (true, "d8dd6a8398b24d5bc5434a08e3a74fb7cb8a952546ef8f653009d7a7b8014c8b"), looks := false }, kinds := [], alts := [], laidByText := true, laidKinds := [.data], laidTests := true, laidLooks := .later }
def ChunkKnownCardSaid : Prop := Claim7.holds Tryd.pinned (.plain (OpenSpec.ofChange chunkKnownSpec)) chunkKnownCard

/-- THE TIED CARD OF 'bedrocklaw07.ChunkCopies'. -/
def chunkCopiesCard : Claim7 := { stood := { row := chunkCopiesRow, standIns := [], harness := (true, "d8dd6a8398b24d5bc5434a08e3a74fb7cb8a952546ef8f653009d7a7b8014c8b"), looks := false }, kinds := [], alts := [], laidByText := true, laidKinds := [.data], laidTests := true, laidLooks := .later }
def ChunkCopiesCardSaid : Prop := Claim7.holds Tryd.pinned (.plain (OpenSpec.ofChange chunkCopiesSpec)) chunkCopiesCard

/-- THE TIED CARD OF 'bedrocklaw07.ChunkOrder'. -/
def chunkOrderCard : Claim7 := { stood := { row := chunkOrderRow, standIns := [], harness := (true, "d8dd6a8398b24d5bc5434a08e3a74fb7cb8a952546ef8f653009d7a7b8014c8b"), looks := false }, kinds := [], alts := [], laidByText := true, laidKinds := [.data], laidTests := true, laidLooks := .later }
def ChunkOrderCardSaid : Prop := Claim7.holds Tryd.pinned (.plain (OpenSpec.ofChange chunkOrderSpec)) chunkOrderCard

/-- THE SECOND FORM's CARD OF 'bedrocklaw07.ChunkChecks'. -/
def chunkChecksUptoCard : Claim7 := { stood := { row := chunkChecksUptoRow, standIns := [], harness := (true, "d8dd6a8398b24d5bc5434a08e3a74fb7cb8a952546ef8f653009d7a7b8014c8b"), looks := false }, kinds := [], alts := [], laidByText := true, laidKinds := [.data], laidTests := true, laidLooks := .later }
def ChunkChecksUptoCardSaid : Prop := Claim7.holds Tryd.pinned (.plain (OpenSpec.upto chunkChecksSpec)) chunkChecksUptoCard

/-- THE SECOND FORM's CARD OF 'bedrocklaw07.ChunkSame'. -/
def chunkSameUptoCard : Claim7 := { stood := { row := chunkSameUptoRow, standIns := [], harness := (true, "d8dd6a8398b24d5bc5434a08e3a74fb7cb8a952546ef8f653009d7a7b8014c8b"), looks := false }, kinds := [], alts := [], laidByText := true, laidKinds := [.data], laidTests := true, laidLooks := .later }
def ChunkSameUptoCardSaid : Prop := Claim7.holds Tryd.pinned (.plain (OpenSpec.upto chunkSameSpec)) chunkSameUptoCard

/-- THE SECOND FORM's CARD OF 'bedrocklaw07.ChunkTicks'. -/
def chunkTicksUptoCard : Claim7 := { stood := { row := chunkTicksUptoRow, standIns := [], harness := (true, "d8dd6a8398b24d5bc5434a08e3a74fb7cb8a952546ef8f653009d7a7b8014c8b"), looks := false }, kinds := [], alts := [], laidByText := true, laidKinds := [.data], laidTests := true, laidLooks := .later }
def ChunkTicksUptoCardSaid : Prop := Claim7.holds Tryd.pinned (.plain (OpenSpec.upto chunkTicksSpec)) chunkTicksUptoCard

/-- THE SECOND FORM's CARD OF 'bedrocklaw07.ChunkKnown'. -/
def chunkKnownUptoCard : Claim7 := { stood := { row := chunkKnownUptoRow, standIns := [], harness := (true, "d8dd6a8398b24d5bc5434a08e3a74fb7cb8a952546ef8f653009d7a7b8014c8b"), looks := false }, kinds := [], alts := [], laidByText := true, laidKinds := [.data], laidTests := true, laidLooks := .later }
def ChunkKnownUptoCardSaid : Prop := Claim7.holds Tryd.pinned (.plain (OpenSpec.upto chunkKnownSpec)) chunkKnownUptoCard

/-- THE SECOND FORM's CARD OF 'bedrocklaw07.ChunkCopies'. -/
def chunkCopiesUptoCard : Claim7 := { stood := { row := chunkCopiesUptoRow, standIns := [], harness := (true, "d8dd6a8398b24d5bc5434a08e3a74fb7cb8a952546ef8f653009d7a7b8014c8b"), looks := false }, kinds := [], alts := [], laidByText := true, laidKinds := [.data], laidTests := true, laidLooks := .later }
def ChunkCopiesUptoCardSaid : Prop := Claim7.holds Tryd.pinned (.plain (OpenSpec.upto chunkCopiesSpec)) chunkCopiesUptoCard

/-- THE SECOND FORM's CARD OF 'bedrocklaw07.ChunkOrder'. -/
def chunkOrderUptoCard : Claim7 := { stood := { row := chunkOrderUptoRow, standIns := [], harness := (true, "d8dd6a8398b24d5bc5434a08e3a74fb7cb8a952546ef8f653009d7a7b8014c8b"), looks := false }, kinds := [], alts := [], laidByText := true, laidKinds := [.data], laidTests := true, laidLooks := .later }
def ChunkOrderUptoCardSaid : Prop := Claim7.holds Tryd.pinned (.plain (OpenSpec.upto chunkOrderSpec)) chunkOrderUptoCard
end Rows
end Go.Proofs.YtiochoppiohjnaaDoor
