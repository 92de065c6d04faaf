/-
  NARROWER THAN 'FOR EVERY INPUT', by the rows' own cells (each row's printed sentence says how): ChunkChecks: laid · ChunkSame: laid · ChunkTicks: laid · ChunkKnown: laid · ChunkCopies: laid · ChunkOrder: laid.
  DERIVED. THE GIVEN ROWS OF THIS SEAT. 6 by the template 'for every input the law returns true; each argument reads behind the call as it read before'; 0 by the template 'total and deterministic' (their statements: YtiochoppiohjnaaDoorTotals.lean).
  GIVEN WITH THE SEED: the statements are not yours to turn. If you find one false, say at which input.
  Laid BY PROGRAM, IN A SANDBOX (cutbox-rows.mjs): the forced cells as the released guide's own fill.sh prints them over the translation 76dda41024c7eb09… (all of the seat's roots in one cut). By AI agents, Wed Nov 11 2026. No macro, syntax, notation, axiom, sorry.
-/
import Derived.Test.YtiochoppiohjnaaDoorChecked
import GoSem.Claim
import GoSem.ClaimJoined
import GoSem.ClaimMapViews
import Derived.JoinedTies
import Derived.KernelRfl
namespace Go.Proofs.YtiochoppiohjnaaDoor
/- THE CELL 'sum', in the pinned program and in every row, IS THE sha256 OF THE DUMP (.gsa) THAT YtiochoppiohjnaaDoorProg.lean LOADS. Nothing in Lean hashes anything: it is a label: what it is worth is what the hold of that sum in a sandbox is worth. -/
noncomputable def Tryd.pinned : Pinned := { name := "ytiochoppiohjnaadoor", sum := "76dda41024c7eb0991264cc6820a3e1219ed3785d7cea12ee2ccde36bb91f06d", checked := Tryd.checked }
namespace Rows
def none {H : Type} : Left H := { results := [], args := [] }

/- WHAT THE LISTED PACKAGE-LEVEL VARIABLES READ AS WHEN THE CALL BEGINS. Each datum BY PROGRAM (the guide's laid-datum.mjs) off the statement by which the dump's own 'gosem.cut.vars' lays the variable. In a bare row this is a premise. The card (YtiochoppiohjnaaDoorCards.lean) ties it to the program's text. -/
def laid_bedrock_kind_rows {H : Type} : DataW H := .agg [.agg [.lit (.string [97, 105, 114]), .lit (.int .u8 0), .lit (.int .u8 0), .lit (.int .u8 13)], .agg [.lit (.string [98, 101, 100, 114, 111, 99, 107]), .lit (.int .u8 0), .lit (.int .u8 0), .lit (.int .u8 0)], .agg [.lit (.string [115, 116, 111, 110, 101]), .lit (.int .u8 0), .lit (.int .u8 0), .lit (.int .u8 2)], .agg [.lit (.string [115, 111, 105, 108]), .lit (.int .u8 0), .lit (.int .u8 0), .lit (.int .u8 2)], .agg [.lit (.string [115, 97, 110, 100]), .lit (.int .u8 0), .lit (.int .u8 0), .lit (.int .u8 18)], .agg [.lit (.string [103, 114, 97, 118, 101, 108]), .lit (.int .u8 0), .lit (.int .u8 0), .lit (.int .u8 18)], .agg [.lit (.string [119, 111, 111, 100]), .lit (.int .u8 0), .lit (.int .u8 0), .lit (.int .u8 34)], .agg [.lit (.string [108, 101, 97, 118, 101, 115]), .lit (.int .u8 0), .lit (.int .u8 0), .lit (.int .u8 34)], .agg [.lit (.string [97, 115, 104]), .lit (.int .u8 0), .lit (.int .u8 0), .lit (.int .u8 18)], .agg [.lit (.string [103, 108, 97, 115, 115]), .lit (.int .u8 0), .lit (.int .u8 0), .lit (.int .u8 3)], .agg [.lit (.string [109, 111, 118, 101, 114]), .lit (.int .u8 0), .lit (.int .u8 0), .lit (.int .u8 0)], .agg [.lit (.string [116, 111, 114, 99, 104]), .lit (.int .u8 1), .lit (.int .u8 15), .lit (.int .u8 13)], .agg [.lit (.string [112, 108, 97, 110, 116]), .lit (.int .u8 0), .lit (.int .u8 3), .lit (.int .u8 45)], .agg [.lit (.string [119, 97, 116, 101, 114]), .lit (.int .u8 0), .lit (.int .u8 7), .lit (.int .u8 5)], .agg [.lit (.string [102, 105, 114, 101]), .lit (.int .u8 0), .lit (.int .u8 1), .lit (.int .u8 13)]]

/-- 'bedrocklaw07.ChunkChecks': WHATEVER THE INPUT: true; the input reads as it did. -/
def chunkChecksSpec : ChangeSpec := { name := "chunkChecks", fn := fun _ => fun
  | [d1, d2] => { results := [.lit (.bool true)], args := [d1, d2] }
  | _ => none }
def chunkChecksRow : OpenClaim := { program := "ytiochoppiohjnaadoor", sum := "76dda41024c7eb0991264cc6820a3e1219ed3785d7cea12ee2ccde36bb91f06d", func := "bedrock/bedrocklaw07.ChunkChecks", spec := "chunkChecks", unfollowed := true, recurses := true, named := ["bedrock/kind.rows"], apart := false, laid := [("bedrock/kind.rows", laid_bedrock_kind_rows)] }
def ChunkChecksSaid : Prop := chunkChecksRow.holds Tryd.pinned (OpenSpec.ofChange chunkChecksSpec)

/-- ITS FALSE NEIGHBOUR: 'it returns false'. Refute it at one input. -/
def chunkChecksWrong : ChangeSpec := { name := "chunkChecks", fn := fun _ => fun
  | [d1, d2] => { results := [.lit (.bool false)], args := [d1, d2] }
  | _ => none }
def ChunkChecksWrongFalsely : Prop := chunkChecksRow.holds Tryd.pinned (OpenSpec.ofChange chunkChecksWrong)

/-- 'bedrocklaw07.ChunkSame': WHATEVER THE INPUT: true; the input reads as it did. -/
def chunkSameSpec : ChangeSpec := { name := "chunkSame", fn := fun _ => fun
  | [d1, d2, d3, d4] => { results := [.lit (.bool true)], args := [d1, d2, d3, d4] }
  | _ => none }
def chunkSameRow : OpenClaim := { program := "ytiochoppiohjnaadoor", sum := "76dda41024c7eb0991264cc6820a3e1219ed3785d7cea12ee2ccde36bb91f06d", func := "bedrock/bedrocklaw07.ChunkSame", spec := "chunkSame", unfollowed := true, recurses := true, named := ["bedrock/kind.rows"], apart := false, laid := [("bedrock/kind.rows", laid_bedrock_kind_rows)] }
def ChunkSameSaid : Prop := chunkSameRow.holds Tryd.pinned (OpenSpec.ofChange chunkSameSpec)

/-- ITS FALSE NEIGHBOUR: 'it returns false'. Refute it at one input. -/
def chunkSameWrong : ChangeSpec := { name := "chunkSame", fn := fun _ => fun
  | [d1, d2, d3, d4] => { results := [.lit (.bool false)], args := [d1, d2, d3, d4] }
  | _ => none }
def ChunkSameWrongFalsely : Prop := chunkSameRow.holds Tryd.pinned (OpenSpec.ofChange chunkSameWrong)

/-- 'bedrocklaw07.ChunkTicks': WHATEVER THE INPUT: true; the input reads as it did. -/
def chunkTicksSpec : ChangeSpec := { name := "chunkTicks", fn := fun _ => fun
  | [d1, d2, d3] => { results := [.lit (.bool true)], args := [d1, d2, d3] }
  | _ => none }
def chunkTicksRow : OpenClaim := { program := "ytiochoppiohjnaadoor", sum := "76dda41024c7eb0991264cc6820a3e1219ed3785d7cea12ee2ccde36bb91f06d", func := "bedrock/bedrocklaw07.ChunkTicks", spec := "chunkTicks", unfollowed := true, recurses := true, named := ["bedrock/kind.rows"], apart := false, laid := [("bedrock/kind.rows", laid_bedrock_kind_rows)] }
def ChunkTicksSaid : Prop := chunkTicksRow.holds Tryd.pinned (OpenSpec.ofChange chunkTicksSpec)

/-- ITS FALSE NEIGHBOUR: 'it returns false'. Refute it at one input. -/
def chunkTicksWrong : ChangeSpec := { name := "chunkTicks", fn := fun _ => fun
  | [d1, d2, d3] => { results := [.lit (.bool false)], args := [d1, d2, d3] }
  | _ => none }
def ChunkTicksWrongFalsely : Prop := chunkTicksRow.holds Tryd.pinned (OpenSpec.ofChange chunkTicksWrong)

/-- 'bedrocklaw07.ChunkKnown': WHATEVER THE INPUT: true; the input reads as it did. -/
def chunkKnownSpec : ChangeSpec := { name := "chunkKnown", fn := fun _ => fun
  | [] => { results := [.lit (.bool true)], args := [] }
  | _ => none }
def chunkKnownRow : OpenClaim := { program := "ytiochoppiohjnaadoor", sum := "76dda41024c7eb0991264cc6820a3e1219ed3785d7cea12ee2ccde36bb91f06d", func := "bedrock/bedrocklaw07.ChunkKnown", spec := "chunkKnown", unfollowed := true, recurses := true, named := ["bedrock/kind.rows"], apart := false, laid := [("bedrock/kind.rows", laid_bedrock_kind_rows)] }
def ChunkKnownSaid : Prop := chunkKnownRow.holds Tryd.pinned (OpenSpec.ofChange chunkKnownSpec)

/-- ITS FALSE NEIGHBOUR: 'it returns false'. Refute it at one input. -/
def chunkKnownWrong : ChangeSpec := { name := "chunkKnown", fn := fun _ => fun
  | [] => { results := [.lit (.bool false)], args := [] }
  | _ => none }
def ChunkKnownWrongFalsely : Prop := chunkKnownRow.holds Tryd.pinned (OpenSpec.ofChange chunkKnownWrong)

/-- 'bedrocklaw07.ChunkCopies': WHATEVER THE INPUT: true; the input reads as it did. -/
def chunkCopiesSpec : ChangeSpec := { name := "chunkCopies", fn := fun _ => fun
  | [d1, d2] => { results := [.lit (.bool true)], args := [d1, d2] }
  | _ => none }
def chunkCopiesRow : OpenClaim := { program := "ytiochoppiohjnaadoor", sum := "76dda41024c7eb0991264cc6820a3e1219ed3785d7cea12ee2ccde36bb91f06d", func := "bedrock/bedrocklaw07.ChunkCopies", spec := "chunkCopies", unfollowed := true, recurses := true, named := ["bedrock/kind.rows"], apart := false, laid := [("bedrock/kind.rows", laid_bedrock_kind_rows)] }
def ChunkCopiesSaid : Prop := chunkCopiesRow.holds Tryd.pinned (OpenSpec.ofChange chunkCopiesSpec)

/-- ITS FALSE NEIGHBOUR: 'it returns false'. Refute it at one input. -/
def chunkCopiesWrong : ChangeSpec := { name := "chunkCopies", fn := fun _ => fun
  | [d1, d2] => { results := [.lit (.bool false)], args := [d1, d2] }
  | _ => none }
def ChunkCopiesWrongFalsely : Prop := chunkCopiesRow.holds Tryd.pinned (OpenSpec.ofChange chunkCopiesWrong)

/-- 'bedrocklaw07.ChunkOrder': WHATEVER THE INPUT: true; the input reads as it did. -/
def chunkOrderSpec : ChangeSpec := { name := "chunkOrder", fn := fun _ => fun
  | [d] => { results := [.lit (.bool true)], args := [d] }
  | _ => none }
def chunkOrderRow : OpenClaim := { program := "ytiochoppiohjnaadoor", sum := "76dda41024c7eb0991264cc6820a3e1219ed3785d7cea12ee2ccde36bb91f06d", func := "bedrock/bedrocklaw07.ChunkOrder", spec := "chunkOrder", unfollowed := true, recurses := true, named := ["bedrock/kind.rows"], apart := false, laid := [("bedrock/kind.rows", laid_bedrock_kind_rows)] }
def ChunkOrderSaid : Prop := chunkOrderRow.holds Tryd.pinned (OpenSpec.ofChange chunkOrderSpec)

/-- ITS FALSE NEIGHBOUR: 'it returns false'. Refute it at one input. -/
def chunkOrderWrong : ChangeSpec := { name := "chunkOrder", fn := fun _ => fun
  | [d] => { results := [.lit (.bool false)], args := [d] }
  | _ => none }
def ChunkOrderWrongFalsely : Prop := chunkOrderRow.holds Tryd.pinned (OpenSpec.ofChange chunkOrderWrong)

/- THE SECOND FORM. 'bulk': how many values and letters a reading holds, each counted each time it is reached (what is shared counts as often as it is met; a slice's spare places count too). A statement '..UptoSaid' is the law's where the arguments, and the package variables that the reading takes, are together of bulk at most 1048576: NARROWER than '..Said'. Prove '..Said' where nothing that the law and all that it calls make is longer than what came in: it says more and counts as full. Else prove '..UptoSaid'. A law counts once. -/
mutual
def uptoBulk {H : Type} : DataW H → Nat
  | .lit (.string bytes) => bytes.length + 1
  | .lit _ => 1
  | .nil => 1
  | .ptr d => uptoBulk d + 1
  | .slice elems spare => uptoBulkAll elems + uptoBulkAll spare + 1
  | .agg parts => uptoBulkAll parts + 1
  | .iface _ d => uptoBulk d + 1
  | .map entries => uptoBulkEntries entries + 1
  | .held _ => 1
def uptoBulkAll {H : Type} : List (DataW H) → Nat
  | [] => 0
  | d :: r => uptoBulk d + uptoBulkAll r
def uptoBulkEntries {H : Type} : List (Lit × DataW H) → Nat
  | [] => 0
  | x :: r => uptoBulkEntry x + uptoBulkEntries r
def uptoBulkEntry {H : Type} : Lit × DataW H → Nat
  | (.string bytes, d) => bytes.length + uptoBulk d + 1
  | (_, d) => uptoBulk d + 1
 end
def uptoSmall : (H : Type) → List (DataW H) → Bool := fun _ ds => decide (uptoBulkAll ds ≤ 1048576)
def OpenSpec.upto (s : _root_.Go.ChangeSpec) : _root_.Go.OpenSpec := { _root_.Go.OpenSpec.ofChange s with cond := some uptoSmall }

/-- 'bedrocklaw07.ChunkChecks', WHERE WHAT IT READS IS OF BULK AT MOST 1048576: true; the input reads as it did. -/
def chunkChecksUptoRow : OpenClaim := { program := "ytiochoppiohjnaadoor", sum := "76dda41024c7eb0991264cc6820a3e1219ed3785d7cea12ee2ccde36bb91f06d", func := "bedrock/bedrocklaw07.ChunkChecks", spec := "chunkChecks", unfollowed := true, recurses := true, named := ["bedrock/kind.rows"], apart := false, laid := [("bedrock/kind.rows", laid_bedrock_kind_rows)], narrowed := true }
def ChunkChecksUptoSaid : Prop := chunkChecksUptoRow.holds Tryd.pinned (OpenSpec.upto chunkChecksSpec)

/-- 'bedrocklaw07.ChunkSame', WHERE WHAT IT READS IS OF BULK AT MOST 1048576: true; the input reads as it did. -/
def chunkSameUptoRow : OpenClaim := { program := "ytiochoppiohjnaadoor", sum := "76dda41024c7eb0991264cc6820a3e1219ed3785d7cea12ee2ccde36bb91f06d", func := "bedrock/bedrocklaw07.ChunkSame", spec := "chunkSame", unfollowed := true, recurses := true, named := ["bedrock/kind.rows"], apart := false, laid := [("bedrock/kind.rows", laid_bedrock_kind_rows)], narrowed := true }
def ChunkSameUptoSaid : Prop := chunkSameUptoRow.holds Tryd.pinned (OpenSpec.upto chunkSameSpec)

/-- 'bedrocklaw07.ChunkTicks', WHERE WHAT IT READS IS OF BULK AT MOST 1048576: true; the input reads as it did. -/
def chunkTicksUptoRow : OpenClaim := { program := "ytiochoppiohjnaadoor", sum := "76dda41024c7eb0991264cc6820a3e1219ed3785d7cea12ee2ccde36bb91f06d", func := "bedrock/bedrocklaw07.ChunkTicks", spec := "chunkTicks", unfollowed := true, recurses := true, named := ["bedrock/kind.rows"], apart := false, laid := [("bedrock/kind.rows", laid_bedrock_kind_rows)], narrowed := true }
def ChunkTicksUptoSaid : Prop := chunkTicksUptoRow.holds Tryd.pinned (OpenSpec.upto chunkTicksSpec)

/-- 'bedrocklaw07.ChunkKnown', WHERE WHAT IT READS IS OF BULK AT MOST 1048576: true; the input reads as it did. -/
def chunkKnownUptoRow : OpenClaim := { program := "ytiochoppiohjnaadoor", sum := "76dda41024c7eb0991264cc6820a3e1219ed3785d7cea12ee2ccde36bb91f06d", func := "bedrock/bedrocklaw07.ChunkKnown", spec := "chunkKnown", unfollowed := true, recurses := true, named := ["bedrock/kind.rows"], apart := false, laid := [("bedrock/kind.rows", laid_bedrock_kind_rows)], narrowed := true }
def ChunkKnownUptoSaid : Prop := chunkKnownUptoRow.holds Tryd.pinned (OpenSpec.upto chunkKnownSpec)

/-- 'bedrocklaw07.ChunkCopies', WHERE WHAT IT READS IS OF BULK AT MOST 1048576: true; the input reads as it did. -/
def chunkCopiesUptoRow : OpenClaim := { program := "ytiochoppiohjnaadoor", sum := "76dda41024c7eb0991264cc6820a3e1219ed3785d7cea12ee2ccde36bb91f06d", func := "bedrock/bedrocklaw07.ChunkCopies", spec := "chunkCopies", unfollowed := true, recurses := true, named := ["bedrock/kind.rows"], apart := false, laid := [("bedrock/kind.rows", laid_bedrock_kind_rows)], narrowed := true }
def ChunkCopiesUptoSaid : Prop := chunkCopiesUptoRow.holds Tryd.pinned (OpenSpec.upto chunkCopiesSpec)

/-- 'bedrocklaw07.ChunkOrder', WHERE WHAT IT READS IS OF BULK AT MOST 1048576: true; the input reads as it did. -/
def chunkOrderUptoRow : OpenClaim := { program := "ytiochoppiohjnaadoor", sum := "76dda41024c7eb0991264cc6820a3e1219ed3785d7cea12ee2ccde36bb91f06d", func := "bedrock/bedrocklaw07.ChunkOrder", spec := "chunkOrder", unfollowed := true, recurses := true, named := ["bedrock/kind.rows"], apart := false, laid := [("bedrock/kind.rows", laid_bedrock_kind_rows)], narrowed := true }
def ChunkOrderUptoSaid : Prop := chunkOrderUptoRow.holds Tryd.pinned (OpenSpec.upto chunkOrderSpec)

end Rows
end Go.Proofs.YtiochoppiohjnaaDoor
