/-
  NARROWER THAN 'FOR EVERY INPUT', by the rows' own cells (each row's printed sentence says how): FloodKeeps: laid · FloodKnown: laid · FloodBack: laid.
  DERIVED. THE GIVEN ROWS OF THIS SEAT. 3 by the template 'for every input the law returns true; each argument reads behind the call as it read before'; 0 by the template 'total and deterministic' (their statements: YtpimkdaikoclnaaDoorTotals.lean).
  GIVEN WITH THE SEED: the statements are not yours to turn. If you find one false, say at which input.
  Laid BY PROGRAM, IN A SANDBOX (cutbox-rows.mjs): the forced cells as the released guide's own fill.sh prints them over the translation 2b5bb9e66c285aad… (all of the seat's roots in one cut). By AI agents, Wed Nov 11 2026. No macro, syntax, notation, axiom, sorry.
-/
import Derived.Test.YtpimkdaikoclnaaDoorChecked
import GoSem.Claim
import GoSem.ClaimJoined
import GoSem.ClaimMapViews
import Derived.JoinedTies
import Derived.KernelRfl
namespace Go.Proofs.YtpimkdaikoclnaaDoor
/- THE CELL 'sum', in the pinned program and in every row, IS THE sha256 OF THE DUMP (.gsa) THAT YtpimkdaikoclnaaDoorProg.lean LOADS. Nothing in Lean hashes anything: it is a label: what it is worth is what the hold of that sum in a sandbox is worth. -/
noncomputable def Tryd.pinned : Pinned := { name := "ytpimkdaikoclnaadoor", sum := "2b5bb9e66c285aad4208f635e26a47d286782f0cc9c13365bbebcd7cea63aab5", checked := Tryd.checked }
namespace Rows
def none {H : Type} : Left H := { results := [], args := [] }

/- WHAT THE LISTED PACKAGE-LEVEL VARIABLES READ AS WHEN THE CALL BEGINS. Each datum BY PROGRAM (the guide's laid-datum.mjs) off the statement by which the dump's own 'gosem.cut.vars' lays the variable. In a bare row this is a premise. The card (YtpimkdaikoclnaaDoorCards.lean) ties it to the program's text. -/
def laid_bedrock_kind_rows {H : Type} : DataW H := .agg [.agg [.lit (.string [97, 105, 114]), .lit (.int .u8 0), .lit (.int .u8 0), .lit (.int .u8 13)], .agg [.lit (.string [98, 101, 100, 114, 111, 99, 107]), .lit (.int .u8 0), .lit (.int .u8 0), .lit (.int .u8 0)], .agg [.lit (.string [115, 116, 111, 110, 101]), .lit (.int .u8 0), .lit (.int .u8 0), .lit (.int .u8 2)], .agg [.lit (.string [115, 111, 105, 108]), .lit (.int .u8 0), .lit (.int .u8 0), .lit (.int .u8 2)], .agg [.lit (.string [115, 97, 110, 100]), .lit (.int .u8 0), .lit (.int .u8 0), .lit (.int .u8 18)], .agg [.lit (.string [103, 114, 97, 118, 101, 108]), .lit (.int .u8 0), .lit (.int .u8 0), .lit (.int .u8 18)], .agg [.lit (.string [119, 111, 111, 100]), .lit (.int .u8 0), .lit (.int .u8 0), .lit (.int .u8 34)], .agg [.lit (.string [108, 101, 97, 118, 101, 115]), .lit (.int .u8 0), .lit (.int .u8 0), .lit (.int .u8 34)], .agg [.lit (.string [97, 115, 104]), .lit (.int .u8 0), .lit (.int .u8 0), .lit (.int .u8 18)], .agg [.lit (.string [103, 108, 97, 115, 115]), .lit (.int .u8 0), .lit (.int .u8 0), .lit (.int .u8 3)], .agg [.lit (.string [109, 111, 118, 101, 114]), .lit (.int .u8 0), .lit (.int .u8 0), .lit (.int .u8 0)], .agg [.lit (.string [116, 111, 114, 99, 104]), .lit (.int .u8 1), .lit (.int .u8 15), .lit (.int .u8 13)], .agg [.lit (.string [112, 108, 97, 110, 116]), .lit (.int .u8 0), .lit (.int .u8 3), .lit (.int .u8 45)], .agg [.lit (.string [119, 97, 116, 101, 114]), .lit (.int .u8 0), .lit (.int .u8 7), .lit (.int .u8 5)], .agg [.lit (.string [102, 105, 114, 101]), .lit (.int .u8 0), .lit (.int .u8 1), .lit (.int .u8 13)]]

/-- 'bedrocklaw11.FloodKeeps': WHATEVER THE INPUT: true; the input reads as it did. -/
def floodKeepsSpec : ChangeSpec := { name := "floodKeeps", fn := fun _ => fun
  | [d1, d2] => { results := [.lit (.bool true)], args := [d1, d2] }
  | _ => none }
def floodKeepsRow : OpenClaim := { program := "ytpimkdaikoclnaadoor", sum := "2b5bb9e66c285aad4208f635e26a47d286782f0cc9c13365bbebcd7cea63aab5", func := "bedrock/bedrocklaw11.FloodKeeps", spec := "floodKeeps", unfollowed := true, recurses := true, named := ["bedrock/kind.rows"], plainKeys := false, apart := false, laid := [("bedrock/kind.rows", laid_bedrock_kind_rows)] }
def FloodKeepsSaid : Prop := floodKeepsRow.holds Tryd.pinned (OpenSpec.ofChange floodKeepsSpec)

/-- ITS FALSE NEIGHBOUR: 'it returns false'. Refute it at one input. -/
def floodKeepsWrong : ChangeSpec := { name := "floodKeeps", fn := fun _ => fun
  | [d1, d2] => { results := [.lit (.bool false)], args := [d1, d2] }
  | _ => none }
def FloodKeepsWrongFalsely : Prop := floodKeepsRow.holds Tryd.pinned (OpenSpec.ofChange floodKeepsWrong)

/-- 'bedrocklaw11.FloodKnown': WHATEVER THE INPUT: true; the input reads as it did. -/
def floodKnownSpec : ChangeSpec := { name := "floodKnown", fn := fun _ => fun
  | [] => { results := [.lit (.bool true)], args := [] }
  | _ => none }
def floodKnownRow : OpenClaim := { program := "ytpimkdaikoclnaadoor", sum := "2b5bb9e66c285aad4208f635e26a47d286782f0cc9c13365bbebcd7cea63aab5", func := "bedrock/bedrocklaw11.FloodKnown", spec := "floodKnown", unfollowed := true, recurses := true, named := ["bedrock/kind.rows"], plainKeys := false, apart := false, laid := [("bedrock/kind.rows", laid_bedrock_kind_rows)] }
def FloodKnownSaid : Prop := floodKnownRow.holds Tryd.pinned (OpenSpec.ofChange floodKnownSpec)

/-- ITS FALSE NEIGHBOUR: 'it returns false'. Refute it at one input. -/
def floodKnownWrong : ChangeSpec := { name := "floodKnown", fn := fun _ => fun
  | [] => { results := [.lit (.bool false)], args := [] }
  | _ => none }
def FloodKnownWrongFalsely : Prop := floodKnownRow.holds Tryd.pinned (OpenSpec.ofChange floodKnownWrong)

/-- 'bedrocklaw11.FloodBack': WHATEVER THE INPUT: true; the input reads as it did. -/
def floodBackSpec : ChangeSpec := { name := "floodBack", fn := fun _ => fun
  | [d1, d2] => { results := [.lit (.bool true)], args := [d1, d2] }
  | _ => none }
def floodBackRow : OpenClaim := { program := "ytpimkdaikoclnaadoor", sum := "2b5bb9e66c285aad4208f635e26a47d286782f0cc9c13365bbebcd7cea63aab5", func := "bedrock/bedrocklaw11.FloodBack", spec := "floodBack", unfollowed := true, recurses := true, named := ["bedrock/kind.rows"], plainKeys := false, apart := false, laid := [("bedrock/kind.rows", laid_bedrock_kind_rows)] }
def FloodBackSaid : Prop := floodBackRow.holds Tryd.pinned (OpenSpec.ofChange floodBackSpec)

/-- ITS FALSE NEIGHBOUR: 'it returns false'. Refute it at one input. -/
def floodBackWrong : ChangeSpec := { name := "floodBack", fn := fun _ => fun
  | [d1, d2] => { results := [.lit (.bool false)], args := [d1, d2] }
  | _ => none }
def FloodBackWrongFalsely : Prop := floodBackRow.holds Tryd.pinned (OpenSpec.ofChange floodBackWrong)

/- THE SECOND FORM. 'bulk': how many values and letters a reading holds, each counted each time it is reached (what is shared counts as often as it is met; a slice's spare places count too). A statement '..UptoSaid' is the law's where the arguments, and the package variables that the reading takes, are together of bulk at most 1048576: NARROWER than '..Said'. Prove '..Said' where nothing that the law and all that it calls make is longer than what came in: it says more and counts as full. Else prove '..UptoSaid'. A law counts once. -/
mutual
def uptoBulk {H : Type} : DataW H → Nat
  | .lit (.string bytes) => bytes.length + 1
  | .lit _ => 1
  | .nil => 1
  | .ptr d => uptoBulk d + 1
  | .slice elems spare => uptoBulkAll elems + uptoBulkAll spare + 1
  | .agg parts => uptoBulkAll parts + 1
  | .iface _ d => uptoBulk d + 1
  | .map entries => uptoBulkEntries entries + 1
  | .held _ => 1
def uptoBulkAll {H : Type} : List (DataW H) → Nat
  | [] => 0
  | d :: r => uptoBulk d + uptoBulkAll r
def uptoBulkEntries {H : Type} : List (Lit × DataW H) → Nat
  | [] => 0
  | x :: r => uptoBulkEntry x + uptoBulkEntries r
def uptoBulkEntry {H : Type} : Lit × DataW H → Nat
  | (.string bytes, d) => bytes.length + uptoBulk d + 1
  | (_, d) => uptoBulk d + 1
 end
def uptoSmall : (H : Type) → List (DataW H) → Bool := fun _ ds => decide (uptoBulkAll ds ≤ 1048576)
def OpenSpec.upto (s : _root_.Go.ChangeSpec) : _root_.Go.OpenSpec := { _root_.Go.OpenSpec.ofChange s with cond := some uptoSmall }

/-- 'bedrocklaw11.FloodKeeps', WHERE WHAT IT READS IS OF BULK AT MOST 1048576: true; the input reads as it did. -/
def floodKeepsUptoRow : OpenClaim := { program := "ytpimkdaikoclnaadoor", sum := "2b5bb9e66c285aad4208f635e26a47d286782f0cc9c13365bbebcd7cea63aab5", func := "bedrock/bedrocklaw11.FloodKeeps", spec := "floodKeeps", unfollowed := true, recurses := true, named := ["bedrock/kind.rows"], plainKeys := false, apart := false, laid := [("bedrock/kind.rows", laid_bedrock_kind_rows)], narrowed := true }
def FloodKeepsUptoSaid : Prop := floodKeepsUptoRow.holds Tryd.pinned (OpenSpec.upto floodKeepsSpec)

/-- 'bedrocklaw11.FloodKnown', WHERE WHAT IT READS IS OF BULK AT MOST 1048576: true; the input reads as it did. -/
def floodKnownUptoRow : OpenClaim := { program := "ytpimkdaikoclnaadoor", sum := "2b5bb9e66c285aad4208f635e26a47d286782f0cc9c13365bbebcd7cea63aab5", func := "bedrock/bedrocklaw11.FloodKnown", spec := "floodKnown", unfollowed := true, recurses := true, named := ["bedrock/kind.rows"], plainKeys := false, apart := false, laid := [("bedrock/kind.rows", laid_bedrock_kind_rows)], narrowed := true }
def FloodKnownUptoSaid : Prop := floodKnownUptoRow.holds Tryd.pinned (OpenSpec.upto floodKnownSpec)

/-- 'bedrocklaw11.FloodBack', WHERE WHAT IT READS IS OF BULK AT MOST 1048576: true; the input reads as it did. -/
def floodBackUptoRow : OpenClaim := { program := "ytpimkdaikoclnaadoor", sum := "2b5bb9e66c285aad4208f635e26a47d286782f0cc9c13365bbebcd7cea63aab5", func := "bedrock/bedrocklaw11.FloodBack", spec := "floodBack", unfollowed := true, recurses := true, named := ["bedrock/kind.rows"], plainKeys := false, apart := false, laid := [("bedrock/kind.rows", laid_bedrock_kind_rows)], narrowed := true }
def FloodBackUptoSaid : Prop := floodBackUptoRow.holds Tryd.pinned (OpenSpec.upto floodBackSpec)

end Rows
end Go.Proofs.YtpimkdaikoclnaaDoor
