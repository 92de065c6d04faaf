/-
  NARROWER THAN 'FOR EVERY INPUT', by the rows' own cells (each row's printed sentence says how): FallNext: laid · FallRows: laid · FallKnown: laid · FallSteps: laid · FallShort: laid.
  DERIVED. THE GIVEN ROWS OF THIS SEAT. 5 by the template 'for every input the law returns true; each argument reads behind the call as it read before'; 0 by the template 'total and deterministic' (their statements: YtlcnhommlcdilaaDoorTotals.lean).
  GIVEN WITH THE SEED: the statements are not yours to turn. If you find one false, say at which input.
  Laid BY PROGRAM, IN A SANDBOX (cutbox-rows.mjs): the forced cells as the released guide's own fill.sh prints them over the translation 6059c88db6244f6e… (all of the seat's roots in one cut). By AI agents, Wed Nov 11 2026. No macro, syntax, notation, axiom, sorry.
-/
import Derived.Test.YtlcnhommlcdilaaDoorChecked
import GoSem.Claim
import GoSem.ClaimJoined
import GoSem.ClaimMapViews
import Derived.JoinedTies
import Derived.KernelRfl
namespace Go.Proofs.YtlcnhommlcdilaaDoor
/- THE CELL 'sum', in the pinned program and in every row, IS THE sha256 OF THE DUMP (.gsa) THAT YtlcnhommlcdilaaDoorProg.lean LOADS. Nothing in Lean hashes anything: it is a label: what it is worth is what the hold of that sum in a sandbox is worth. -/
noncomputable def Tryd.pinned : Pinned := { name := "ytlcnhommlcdilaadoor", sum := "6059c88db6244f6e6ab3babd859175408db4fe45487c873449b564124a00799a", checked := Tryd.checked }
namespace Rows
def none {H : Type} : Left H := { results := [], args := [] }

/- WHAT THE LISTED PACKAGE-LEVEL VARIABLES READ AS WHEN THE CALL BEGINS. Each datum BY PROGRAM (the guide's laid-datum.mjs) off the statement by which the dump's own 'gosem.cut.vars' lays the variable. In a bare row this is a premise. The card (YtlcnhommlcdilaaDoorCards.lean) ties it to the program's text. -/
def laid_bedrock_kind_rows {H : Type} : DataW H := .agg [.agg [.lit (.string [97, 105, 114]), .lit (.int .u8 0), .lit (.int .u8 0), .lit (.int .u8 13)], .agg [.lit (.string [98, 101, 100, 114, 111, 99, 107]), .lit (.int .u8 0), .lit (.int .u8 0), .lit (.int .u8 0)], .agg [.lit (.string [115, 116, 111, 110, 101]), .lit (.int .u8 0), .lit (.int .u8 0), .lit (.int .u8 2)], .agg [.lit (.string [115, 111, 105, 108]), .lit (.int .u8 0), .lit (.int .u8 0), .lit (.int .u8 2)], .agg [.lit (.string [115, 97, 110, 100]), .lit (.int .u8 0), .lit (.int .u8 0), .lit (.int .u8 18)], .agg [.lit (.string [103, 114, 97, 118, 101, 108]), .lit (.int .u8 0), .lit (.int .u8 0), .lit (.int .u8 18)], .agg [.lit (.string [119, 111, 111, 100]), .lit (.int .u8 0), .lit (.int .u8 0), .lit (.int .u8 34)], .agg [.lit (.string [108, 101, 97, 118, 101, 115]), .lit (.int .u8 0), .lit (.int .u8 0), .lit (.int .u8 34)], .agg [.lit (.string [97, 115, 104]), .lit (.int .u8 0), .lit (.int .u8 0), .lit (.int .u8 18)], .agg [.lit (.string [103, 108, 97, 115, 115]), .lit (.int .u8 0), .lit (.int .u8 0), .lit (.int .u8 3)], .agg [.lit (.string [109, 111, 118, 101, 114]), .lit (.int .u8 0), .lit (.int .u8 0), .lit (.int .u8 0)], .agg [.lit (.string [116, 111, 114, 99, 104]), .lit (.int .u8 1), .lit (.int .u8 15), .lit (.int .u8 13)], .agg [.lit (.string [112, 108, 97, 110, 116]), .lit (.int .u8 0), .lit (.int .u8 3), .lit (.int .u8 45)], .agg [.lit (.string [119, 97, 116, 101, 114]), .lit (.int .u8 0), .lit (.int .u8 7), .lit (.int .u8 5)], .agg [.lit (.string [102, 105, 114, 101]), .lit (.int .u8 0), .lit (.int .u8 1), .lit (.int .u8 13)]]

/-- 'bedrocklaw13.FallNext': WHATEVER THE INPUT: true; the input reads as it did. -/
def fallNextSpec : ChangeSpec := { name := "fallNext", fn := fun _ => fun
  | [d] => { results := [.lit (.bool true)], args := [d] }
  | _ => none }
def fallNextRow : OpenClaim := { program := "ytlcnhommlcdilaadoor", sum := "6059c88db6244f6e6ab3babd859175408db4fe45487c873449b564124a00799a", func := "bedrock/bedrocklaw13.FallNext", spec := "fallNext", unfollowed := true, recurses := true, named := ["bedrock/kind.rows"], apart := false, laid := [("bedrock/kind.rows", laid_bedrock_kind_rows)] }
def FallNextSaid : Prop := fallNextRow.holds Tryd.pinned (OpenSpec.ofChange fallNextSpec)

/-- ITS FALSE NEIGHBOUR: 'it returns false'. Refute it at one input. -/
def fallNextWrong : ChangeSpec := { name := "fallNext", fn := fun _ => fun
  | [d] => { results := [.lit (.bool false)], args := [d] }
  | _ => none }
def FallNextWrongFalsely : Prop := fallNextRow.holds Tryd.pinned (OpenSpec.ofChange fallNextWrong)

/-- 'bedrocklaw13.FallRows': WHATEVER THE INPUT: true; the input reads as it did. -/
def fallRowsSpec : ChangeSpec := { name := "fallRows", fn := fun _ => fun
  | [d] => { results := [.lit (.bool true)], args := [d] }
  | _ => none }
def fallRowsRow : OpenClaim := { program := "ytlcnhommlcdilaadoor", sum := "6059c88db6244f6e6ab3babd859175408db4fe45487c873449b564124a00799a", func := "bedrock/bedrocklaw13.FallRows", spec := "fallRows", unfollowed := true, recurses := true, named := ["bedrock/kind.rows"], apart := false, laid := [("bedrock/kind.rows", laid_bedrock_kind_rows)] }
def FallRowsSaid : Prop := fallRowsRow.holds Tryd.pinned (OpenSpec.ofChange fallRowsSpec)

/-- ITS FALSE NEIGHBOUR: 'it returns false'. Refute it at one input. -/
def fallRowsWrong : ChangeSpec := { name := "fallRows", fn := fun _ => fun
  | [d] => { results := [.lit (.bool false)], args := [d] }
  | _ => none }
def FallRowsWrongFalsely : Prop := fallRowsRow.holds Tryd.pinned (OpenSpec.ofChange fallRowsWrong)

/-- 'bedrocklaw13.FallKnown': WHATEVER THE INPUT: true; the input reads as it did. -/
def fallKnownSpec : ChangeSpec := { name := "fallKnown", fn := fun _ => fun
  | [] => { results := [.lit (.bool true)], args := [] }
  | _ => none }
def fallKnownRow : OpenClaim := { program := "ytlcnhommlcdilaadoor", sum := "6059c88db6244f6e6ab3babd859175408db4fe45487c873449b564124a00799a", func := "bedrock/bedrocklaw13.FallKnown", spec := "fallKnown", unfollowed := true, recurses := true, named := ["bedrock/kind.rows"], apart := false, laid := [("bedrock/kind.rows", laid_bedrock_kind_rows)] }
def FallKnownSaid : Prop := fallKnownRow.holds Tryd.pinned (OpenSpec.ofChange fallKnownSpec)

/-- ITS FALSE NEIGHBOUR: 'it returns false'. Refute it at one input. -/
def fallKnownWrong : ChangeSpec := { name := "fallKnown", fn := fun _ => fun
  | [] => { results := [.lit (.bool false)], args := [] }
  | _ => none }
def FallKnownWrongFalsely : Prop := fallKnownRow.holds Tryd.pinned (OpenSpec.ofChange fallKnownWrong)

/-- 'bedrocklaw13.FallSteps': WHATEVER THE INPUT: true; the input reads as it did. -/
def fallStepsSpec : ChangeSpec := { name := "fallSteps", fn := fun _ => fun
  | [d] => { results := [.lit (.bool true)], args := [d] }
  | _ => none }
def fallStepsRow : OpenClaim := { program := "ytlcnhommlcdilaadoor", sum := "6059c88db6244f6e6ab3babd859175408db4fe45487c873449b564124a00799a", func := "bedrock/bedrocklaw13.FallSteps", spec := "fallSteps", unfollowed := true, recurses := true, named := ["bedrock/kind.rows"], apart := false, laid := [("bedrock/kind.rows", laid_bedrock_kind_rows)] }
def FallStepsSaid : Prop := fallStepsRow.holds Tryd.pinned (OpenSpec.ofChange fallStepsSpec)

/-- ITS FALSE NEIGHBOUR: 'it returns false'. Refute it at one input. -/
def fallStepsWrong : ChangeSpec := { name := "fallSteps", fn := fun _ => fun
  | [d] => { results := [.lit (.bool false)], args := [d] }
  | _ => none }
def FallStepsWrongFalsely : Prop := fallStepsRow.holds Tryd.pinned (OpenSpec.ofChange fallStepsWrong)

/-- 'bedrocklaw13.FallShort': WHATEVER THE INPUT: true; the input reads as it did. -/
def fallShortSpec : ChangeSpec := { name := "fallShort", fn := fun _ => fun
  | [d1, d2] => { results := [.lit (.bool true)], args := [d1, d2] }
  | _ => none }
def fallShortRow : OpenClaim := { program := "ytlcnhommlcdilaadoor", sum := "6059c88db6244f6e6ab3babd859175408db4fe45487c873449b564124a00799a", func := "bedrock/bedrocklaw13.FallShort", spec := "fallShort", unfollowed := true, recurses := true, named := ["bedrock/kind.rows"], apart := false, laid := [("bedrock/kind.rows", laid_bedrock_kind_rows)] }
def FallShortSaid : Prop := fallShortRow.holds Tryd.pinned (OpenSpec.ofChange fallShortSpec)

/-- ITS FALSE NEIGHBOUR: 'it returns false'. Refute it at one input. -/
def fallShortWrong : ChangeSpec := { name := "fallShort", fn := fun _ => fun
  | [d1, d2] => { results := [.lit (.bool false)], args := [d1, d2] }
  | _ => none }
def FallShortWrongFalsely : Prop := fallShortRow.holds Tryd.pinned (OpenSpec.ofChange fallShortWrong)

/- THE SECOND FORM. 'bulk': how many values and letters a reading holds, each counted each time it is reached (what is shared counts as often as it is met; a slice's spare places count too). A statement '..UptoSaid' is the law's where the arguments, and the package variables that the reading takes, are together of bulk at most 1048576: NARROWER than '..Said'. Prove '..Said' where nothing that the law and all that it calls make is longer than what came in: it says more and counts as full. Else prove '..UptoSaid'. A law counts once. -/
mutual
def uptoBulk {H : Type} : DataW H → Nat
  | .lit (.string bytes) => bytes.length + 1
  | .lit _ => 1
  | .nil => 1
  | .ptr d => uptoBulk d + 1
  | .slice elems spare => uptoBulkAll elems + uptoBulkAll spare + 1
  | .agg parts => uptoBulkAll parts + 1
  | .iface _ d => uptoBulk d + 1
  | .map entries => uptoBulkEntries entries + 1
  | .held _ => 1
def uptoBulkAll {H : Type} : List (DataW H) → Nat
  | [] => 0
  | d :: r => uptoBulk d + uptoBulkAll r
def uptoBulkEntries {H : Type} : List (Lit × DataW H) → Nat
  | [] => 0
  | x :: r => uptoBulkEntry x + uptoBulkEntries r
def uptoBulkEntry {H : Type} : Lit × DataW H → Nat
  | (.string bytes, d) => bytes.length + uptoBulk d + 1
  | (_, d) => uptoBulk d + 1
 end
def uptoSmall : (H : Type) → List (DataW H) → Bool := fun _ ds => decide (uptoBulkAll ds ≤ 1048576)
def OpenSpec.upto (s : _root_.Go.ChangeSpec) : _root_.Go.OpenSpec := { _root_.Go.OpenSpec.ofChange s with cond := some uptoSmall }

/-- 'bedrocklaw13.FallNext', WHERE WHAT IT READS IS OF BULK AT MOST 1048576: true; the input reads as it did. -/
def fallNextUptoRow : OpenClaim := { program := "ytlcnhommlcdilaadoor", sum := "6059c88db6244f6e6ab3babd859175408db4fe45487c873449b564124a00799a", func := "bedrock/bedrocklaw13.FallNext", spec := "fallNext", unfollowed := true, recurses := true, named := ["bedrock/kind.rows"], apart := false, laid := [("bedrock/kind.rows", laid_bedrock_kind_rows)], narrowed := true }
def FallNextUptoSaid : Prop := fallNextUptoRow.holds Tryd.pinned (OpenSpec.upto fallNextSpec)

/-- 'bedrocklaw13.FallRows', WHERE WHAT IT READS IS OF BULK AT MOST 1048576: true; the input reads as it did. -/
def fallRowsUptoRow : OpenClaim := { program := "ytlcnhommlcdilaadoor", sum := "6059c88db6244f6e6ab3babd859175408db4fe45487c873449b564124a00799a", func := "bedrock/bedrocklaw13.FallRows", spec := "fallRows", unfollowed := true, recurses := true, named := ["bedrock/kind.rows"], apart := false, laid := [("bedrock/kind.rows", laid_bedrock_kind_rows)], narrowed := true }
def FallRowsUptoSaid : Prop := fallRowsUptoRow.holds Tryd.pinned (OpenSpec.upto fallRowsSpec)

/-- 'bedrocklaw13.FallKnown', WHERE WHAT IT READS IS OF BULK AT MOST 1048576: true; the input reads as it did. -/
def fallKnownUptoRow : OpenClaim := { program := "ytlcnhommlcdilaadoor", sum := "6059c88db6244f6e6ab3babd859175408db4fe45487c873449b564124a00799a", func := "bedrock/bedrocklaw13.FallKnown", spec := "fallKnown", unfollowed := true, recurses := true, named := ["bedrock/kind.rows"], apart := false, laid := [("bedrock/kind.rows", laid_bedrock_kind_rows)], narrowed := true }
def FallKnownUptoSaid : Prop := fallKnownUptoRow.holds Tryd.pinned (OpenSpec.upto fallKnownSpec)

/-- 'bedrocklaw13.FallSteps', WHERE WHAT IT READS IS OF BULK AT MOST 1048576: true; the input reads as it did. -/
def fallStepsUptoRow : OpenClaim := { program := "ytlcnhommlcdilaadoor", sum := "6059c88db6244f6e6ab3babd859175408db4fe45487c873449b564124a00799a", func := "bedrock/bedrocklaw13.FallSteps", spec := "fallSteps", unfollowed := true, recurses := true, named := ["bedrock/kind.rows"], apart := false, laid := [("bedrock/kind.rows", laid_bedrock_kind_rows)], narrowed := true }
def FallStepsUptoSaid : Prop := fallStepsUptoRow.holds Tryd.pinned (OpenSpec.upto fallStepsSpec)

/-- 'bedrocklaw13.FallShort', WHERE WHAT IT READS IS OF BULK AT MOST 1048576: true; the input reads as it did. -/
def fallShortUptoRow : OpenClaim := { program := "ytlcnhommlcdilaadoor", sum := "6059c88db6244f6e6ab3babd859175408db4fe45487c873449b564124a00799a", func := "bedrock/bedrocklaw13.FallShort", spec := "fallShort", unfollowed := true, recurses := true, named := ["bedrock/kind.rows"], apart := false, laid := [("bedrock/kind.rows", laid_bedrock_kind_rows)], narrowed := true }
def FallShortUptoSaid : Prop := fallShortUptoRow.holds Tryd.pinned (OpenSpec.upto fallShortSpec)

end Rows
end Go.Proofs.YtlcnhommlcdilaaDoor
