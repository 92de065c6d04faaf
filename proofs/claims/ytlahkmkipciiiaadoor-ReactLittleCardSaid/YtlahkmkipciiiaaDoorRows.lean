/-
  NARROWER THAN 'FOR EVERY INPUT', by the rows' own cells (each row's printed sentence says how): ReactNext: laid · ReactDelta: laid · ReactKnown: laid · ReactCounts: laid · ReactLittle: laid.
  DERIVED. THE GIVEN ROWS OF THIS SEAT. 5 by the template 'for every input the law returns true; each argument reads behind the call as it read before'; 0 by the template 'total and deterministic' (their statements: YtlahkmkipciiiaaDoorTotals.lean).
  GIVEN WITH THE SEED: the statements are not yours to turn. If you find one false, say at which input.
  Laid BY PROGRAM, IN A SANDBOX (cutbox-rows.mjs): the forced cells as the released guide's own fill.sh prints them over the translation cad7e60cedc9ed13… (all of the seat's roots in one cut). By AI agents, Wed Nov 11 2026. No macro, syntax, notation, axiom, sorry.
-/
import Derived.Test.YtlahkmkipciiiaaDoorChecked
import GoSem.Claim
import GoSem.ClaimJoined
import GoSem.ClaimMapViews
import Derived.JoinedTies
import Derived.KernelRfl
namespace Go.Proofs.YtlahkmkipciiiaaDoor
/- THE CELL 'sum', in the pinned program and in every row, IS THE sha256 OF THE DUMP (.gsa) THAT YtlahkmkipciiiaaDoorProg.lean LOADS. Nothing in Lean hashes anything: it is a label: what it is worth is what the hold of that sum in a sandbox is worth. -/
noncomputable def Tryd.pinned : Pinned := { name := "ytlahkmkipciiiaadoor", sum := "cad7e60cedc9ed133bb911efc056a4f2c657295a8be7468606f3806a5c47586e", checked := Tryd.checked }
namespace Rows
def none {H : Type} : Left H := { results := [], args := [] }

/- WHAT THE LISTED PACKAGE-LEVEL VARIABLES READ AS WHEN THE CALL BEGINS. Each datum BY PROGRAM (the guide's laid-datum.mjs) off the statement by which the dump's own 'gosem.cut.vars' lays the variable. In a bare row this is a premise. The card (YtlahkmkipciiiaaDoorCards.lean) ties it to the program's text. -/
def laid_bedrock_kind_rows {H : Type} : DataW H := .agg [.agg [.lit (.string [97, 105, 114]), .lit (.int .u8 0), .lit (.int .u8 0), .lit (.int .u8 13)], .agg [.lit (.string [98, 101, 100, 114, 111, 99, 107]), .lit (.int .u8 0), .lit (.int .u8 0), .lit (.int .u8 0)], .agg [.lit (.string [115, 116, 111, 110, 101]), .lit (.int .u8 0), .lit (.int .u8 0), .lit (.int .u8 2)], .agg [.lit (.string [115, 111, 105, 108]), .lit (.int .u8 0), .lit (.int .u8 0), .lit (.int .u8 2)], .agg [.lit (.string [115, 97, 110, 100]), .lit (.int .u8 0), .lit (.int .u8 0), .lit (.int .u8 18)], .agg [.lit (.string [103, 114, 97, 118, 101, 108]), .lit (.int .u8 0), .lit (.int .u8 0), .lit (.int .u8 18)], .agg [.lit (.string [119, 111, 111, 100]), .lit (.int .u8 0), .lit (.int .u8 0), .lit (.int .u8 34)], .agg [.lit (.string [108, 101, 97, 118, 101, 115]), .lit (.int .u8 0), .lit (.int .u8 0), .lit (.int .u8 34)], .agg [.lit (.string [97, 115, 104]), .lit (.int .u8 0), .lit (.int .u8 0), .lit (.int .u8 18)], .agg [.lit (.string [103, 108, 97, 115, 115]), .lit (.int .u8 0), .lit (.int .u8 0), .lit (.int .u8 3)], .agg [.lit (.string [109, 111, 118, 101, 114]), .lit (.int .u8 0), .lit (.int .u8 0), .lit (.int .u8 0)], .agg [.lit (.string [116, 111, 114, 99, 104]), .lit (.int .u8 1), .lit (.int .u8 15), .lit (.int .u8 13)], .agg [.lit (.string [112, 108, 97, 110, 116]), .lit (.int .u8 0), .lit (.int .u8 3), .lit (.int .u8 45)], .agg [.lit (.string [119, 97, 116, 101, 114]), .lit (.int .u8 0), .lit (.int .u8 7), .lit (.int .u8 5)], .agg [.lit (.string [102, 105, 114, 101]), .lit (.int .u8 0), .lit (.int .u8 1), .lit (.int .u8 13)]]

/-- 'bedrocklaw15.ReactNext': WHATEVER THE INPUT: true; the input reads as it did. -/
def reactNextSpec : ChangeSpec := { name := "reactNext", fn := fun _ => fun
  | [d1, d2] => { results := [.lit (.bool true)], args := [d1, d2] }
  | _ => none }
def reactNextRow : OpenClaim := { program := "ytlahkmkipciiiaadoor", sum := "cad7e60cedc9ed133bb911efc056a4f2c657295a8be7468606f3806a5c47586e", func := "bedrock/bedrocklaw15.ReactNext", spec := "reactNext", unfollowed := true, recurses := true, named := ["bedrock/kind.rows"], apart := false, laid := [("bedrock/kind.rows", laid_bedrock_kind_rows)] }
def ReactNextSaid : Prop := reactNextRow.holds Tryd.pinned (OpenSpec.ofChange reactNextSpec)

/-- ITS FALSE NEIGHBOUR: 'it returns false'. Refute it at one input. -/
def reactNextWrong : ChangeSpec := { name := "reactNext", fn := fun _ => fun
  | [d1, d2] => { results := [.lit (.bool false)], args := [d1, d2] }
  | _ => none }
def ReactNextWrongFalsely : Prop := reactNextRow.holds Tryd.pinned (OpenSpec.ofChange reactNextWrong)

/-- 'bedrocklaw15.ReactDelta': WHATEVER THE INPUT: true; the input reads as it did. -/
def reactDeltaSpec : ChangeSpec := { name := "reactDelta", fn := fun _ => fun
  | [d1, d2] => { results := [.lit (.bool true)], args := [d1, d2] }
  | _ => none }
def reactDeltaRow : OpenClaim := { program := "ytlahkmkipciiiaadoor", sum := "cad7e60cedc9ed133bb911efc056a4f2c657295a8be7468606f3806a5c47586e", func := "bedrock/bedrocklaw15.ReactDelta", spec := "reactDelta", unfollowed := true, recurses := true, named := ["bedrock/kind.rows"], apart := false, laid := [("bedrock/kind.rows", laid_bedrock_kind_rows)] }
def ReactDeltaSaid : Prop := reactDeltaRow.holds Tryd.pinned (OpenSpec.ofChange reactDeltaSpec)

/-- ITS FALSE NEIGHBOUR: 'it returns false'. Refute it at one input. -/
def reactDeltaWrong : ChangeSpec := { name := "reactDelta", fn := fun _ => fun
  | [d1, d2] => { results := [.lit (.bool false)], args := [d1, d2] }
  | _ => none }
def ReactDeltaWrongFalsely : Prop := reactDeltaRow.holds Tryd.pinned (OpenSpec.ofChange reactDeltaWrong)

/-- 'bedrocklaw15.ReactKnown': WHATEVER THE INPUT: true; the input reads as it did. -/
def reactKnownSpec : ChangeSpec := { name := "reactKnown", fn := fun _ => fun
  | [] => { results := [.lit (.bool true)], args := [] }
  | _ => none }
def reactKnownRow : OpenClaim := { program := "ytlahkmkipciiiaadoor", sum := "cad7e60cedc9ed133bb911efc056a4f2c657295a8be7468606f3806a5c47586e", func := "bedrock/bedrocklaw15.ReactKnown", spec := "reactKnown", unfollowed := true, recurses := true, named := ["bedrock/kind.rows"], apart := false, laid := [("bedrock/kind.rows", laid_bedrock_kind_rows)] }
def ReactKnownSaid : Prop := reactKnownRow.holds Tryd.pinned (OpenSpec.ofChange reactKnownSpec)

/-- ITS FALSE NEIGHBOUR: 'it returns false'. Refute it at one input. -/
def reactKnownWrong : ChangeSpec := { name := "reactKnown", fn := fun _ => fun
  | [] => { results := [.lit (.bool false)], args := [] }
  | _ => none }
def ReactKnownWrongFalsely : Prop := reactKnownRow.holds Tryd.pinned (OpenSpec.ofChange reactKnownWrong)

/-- 'bedrocklaw15.ReactCounts': WHATEVER THE INPUT: true; the input reads as it did. -/
def reactCountsSpec : ChangeSpec := { name := "reactCounts", fn := fun _ => fun
  | [d] => { results := [.lit (.bool true)], args := [d] }
  | _ => none }
def reactCountsRow : OpenClaim := { program := "ytlahkmkipciiiaadoor", sum := "cad7e60cedc9ed133bb911efc056a4f2c657295a8be7468606f3806a5c47586e", func := "bedrock/bedrocklaw15.ReactCounts", spec := "reactCounts", unfollowed := true, recurses := true, named := ["bedrock/kind.rows"], apart := false, laid := [("bedrock/kind.rows", laid_bedrock_kind_rows)] }
def ReactCountsSaid : Prop := reactCountsRow.holds Tryd.pinned (OpenSpec.ofChange reactCountsSpec)

/-- ITS FALSE NEIGHBOUR: 'it returns false'. Refute it at one input. -/
def reactCountsWrong : ChangeSpec := { name := "reactCounts", fn := fun _ => fun
  | [d] => { results := [.lit (.bool false)], args := [d] }
  | _ => none }
def ReactCountsWrongFalsely : Prop := reactCountsRow.holds Tryd.pinned (OpenSpec.ofChange reactCountsWrong)

/-- 'bedrocklaw15.ReactLittle': WHATEVER THE INPUT: true; the input reads as it did. -/
def reactLittleSpec : ChangeSpec := { name := "reactLittle", fn := fun _ => fun
  | [d1, d2, d3, d4] => { results := [.lit (.bool true)], args := [d1, d2, d3, d4] }
  | _ => none }
def reactLittleRow : OpenClaim := { program := "ytlahkmkipciiiaadoor", sum := "cad7e60cedc9ed133bb911efc056a4f2c657295a8be7468606f3806a5c47586e", func := "bedrock/bedrocklaw15.ReactLittle", spec := "reactLittle", unfollowed := true, recurses := true, named := ["bedrock/kind.rows"], apart := false, laid := [("bedrock/kind.rows", laid_bedrock_kind_rows)] }
def ReactLittleSaid : Prop := reactLittleRow.holds Tryd.pinned (OpenSpec.ofChange reactLittleSpec)

/-- ITS FALSE NEIGHBOUR: 'it returns false'. Refute it at one input. -/
def reactLittleWrong : ChangeSpec := { name := "reactLittle", fn := fun _ => fun
  | [d1, d2, d3, d4] => { results := [.lit (.bool false)], args := [d1, d2, d3, d4] }
  | _ => none }
def ReactLittleWrongFalsely : Prop := reactLittleRow.holds Tryd.pinned (OpenSpec.ofChange reactLittleWrong)

/- THE SECOND FORM. 'bulk': how many values and letters a reading holds, each counted each time it is reached (what is shared counts as often as it is met; a slice's spare places count too). A statement '..UptoSaid' is the law's where the arguments, and the package variables that the reading takes, are together of bulk at most 1048576: NARROWER than '..Said'. Prove '..Said' where nothing that the law and all that it calls make is longer than what came in: it says more and counts as full. Else prove '..UptoSaid'. A law counts once. -/
mutual
def uptoBulk {H : Type} : DataW H → Nat
  | .lit (.string bytes) => bytes.length + 1
  | .lit _ => 1
  | .nil => 1
  | .ptr d => uptoBulk d + 1
  | .slice elems spare => uptoBulkAll elems + uptoBulkAll spare + 1
  | .agg parts => uptoBulkAll parts + 1
  | .iface _ d => uptoBulk d + 1
  | .map entries => uptoBulkEntries entries + 1
  | .held _ => 1
def uptoBulkAll {H : Type} : List (DataW H) → Nat
  | [] => 0
  | d :: r => uptoBulk d + uptoBulkAll r
def uptoBulkEntries {H : Type} : List (Lit × DataW H) → Nat
  | [] => 0
  | x :: r => uptoBulkEntry x + uptoBulkEntries r
def uptoBulkEntry {H : Type} : Lit × DataW H → Nat
  | (.string bytes, d) => bytes.length + uptoBulk d + 1
  | (_, d) => uptoBulk d + 1
 end
def uptoSmall : (H : Type) → List (DataW H) → Bool := fun _ ds => decide (uptoBulkAll ds ≤ 1048576)
def OpenSpec.upto (s : _root_.Go.ChangeSpec) : _root_.Go.OpenSpec := { _root_.Go.OpenSpec.ofChange s with cond := some uptoSmall }

/-- 'bedrocklaw15.ReactNext', WHERE WHAT IT READS IS OF BULK AT MOST 1048576: true; the input reads as it did. -/
def reactNextUptoRow : OpenClaim := { program := "ytlahkmkipciiiaadoor", sum := "cad7e60cedc9ed133bb911efc056a4f2c657295a8be7468606f3806a5c47586e", func := "bedrock/bedrocklaw15.ReactNext", spec := "reactNext", unfollowed := true, recurses := true, named := ["bedrock/kind.rows"], apart := false, laid := [("bedrock/kind.rows", laid_bedrock_kind_rows)], narrowed := true }
def ReactNextUptoSaid : Prop := reactNextUptoRow.holds Tryd.pinned (OpenSpec.upto reactNextSpec)

/-- 'bedrocklaw15.ReactDelta', WHERE WHAT IT READS IS OF BULK AT MOST 1048576: true; the input reads as it did. -/
def reactDeltaUptoRow : OpenClaim := { program := "ytlahkmkipciiiaadoor", sum := "cad7e60cedc9ed133bb911efc056a4f2c657295a8be7468606f3806a5c47586e", func := "bedrock/bedrocklaw15.ReactDelta", spec := "reactDelta", unfollowed := true, recurses := true, named := ["bedrock/kind.rows"], apart := false, laid := [("bedrock/kind.rows", laid_bedrock_kind_rows)], narrowed := true }
def ReactDeltaUptoSaid : Prop := reactDeltaUptoRow.holds Tryd.pinned (OpenSpec.upto reactDeltaSpec)

/-- 'bedrocklaw15.ReactKnown', WHERE WHAT IT READS IS OF BULK AT MOST 1048576: true; the input reads as it did. -/
def reactKnownUptoRow : OpenClaim := { program := "ytlahkmkipciiiaadoor", sum := "cad7e60cedc9ed133bb911efc056a4f2c657295a8be7468606f3806a5c47586e", func := "bedrock/bedrocklaw15.ReactKnown", spec := "reactKnown", unfollowed := true, recurses := true, named := ["bedrock/kind.rows"], apart := false, laid := [("bedrock/kind.rows", laid_bedrock_kind_rows)], narrowed := true }
def ReactKnownUptoSaid : Prop := reactKnownUptoRow.holds Tryd.pinned (OpenSpec.upto reactKnownSpec)

/-- 'bedrocklaw15.ReactCounts', WHERE WHAT IT READS IS OF BULK AT MOST 1048576: true; the input reads as it did. -/
def reactCountsUptoRow : OpenClaim := { program := "ytlahkmkipciiiaadoor", sum := "cad7e60cedc9ed133bb911efc056a4f2c657295a8be7468606f3806a5c47586e", func := "bedrock/bedrocklaw15.ReactCounts", spec := "reactCounts", unfollowed := true, recurses := true, named := ["bedrock/kind.rows"], apart := false, laid := [("bedrock/kind.rows", laid_bedrock_kind_rows)], narrowed := true }
def ReactCountsUptoSaid : Prop := reactCountsUptoRow.holds Tryd.pinned (OpenSpec.upto reactCountsSpec)

/-- 'bedrocklaw15.ReactLittle', WHERE WHAT IT READS IS OF BULK AT MOST 1048576: true; the input reads as it did. -/
def reactLittleUptoRow : OpenClaim := { program := "ytlahkmkipciiiaadoor", sum := "cad7e60cedc9ed133bb911efc056a4f2c657295a8be7468606f3806a5c47586e", func := "bedrock/bedrocklaw15.ReactLittle", spec := "reactLittle", unfollowed := true, recurses := true, named := ["bedrock/kind.rows"], apart := false, laid := [("bedrock/kind.rows", laid_bedrock_kind_rows)], narrowed := true }
def ReactLittleUptoSaid : Prop := reactLittleUptoRow.holds Tryd.pinned (OpenSpec.upto reactLittleSpec)

end Rows
end Go.Proofs.YtlahkmkipciiiaaDoor
