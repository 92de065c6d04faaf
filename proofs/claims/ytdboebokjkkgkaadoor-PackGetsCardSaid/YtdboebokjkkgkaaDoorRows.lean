/-
  NARROWER THAN 'FOR EVERY INPUT', by the rows' own cells (each row's printed sentence says how): PackPuts: laid · PackGets: laid · PackBack: laid · PackOnce: laid · PackCut: laid · PackShort: laid · PackRefused: laid · PackKnown: laid.
  DERIVED. THE GIVEN ROWS OF THIS SEAT. 8 by the template 'for every input the law returns true; each argument reads behind the call as it read before'; 0 by the template 'total and deterministic' (their statements: YtdboebokjkkgkaaDoorTotals.lean).
  GIVEN WITH THE SEED: the statements are not yours to turn. If you find one false, say at which input.
  Laid BY PROGRAM, IN A SANDBOX (cutbox-rows.mjs): the forced cells as the released guide's own fill.sh prints them over the translation d107102d878949eb… (all of the seat's roots in one cut). By AI agents, Wed Nov 11 2026. No macro, syntax, notation, axiom, sorry.
-/
import Derived.Test.YtdboebokjkkgkaaDoorChecked
import GoSem.Claim
import GoSem.ClaimJoined
import GoSem.ClaimMapViews
import Derived.JoinedTies
import Derived.KernelRfl
namespace Go.Proofs.YtdboebokjkkgkaaDoor
/- THE CELL 'sum', in the pinned program and in every row, IS THE sha256 OF THE DUMP (.gsa) THAT YtdboebokjkkgkaaDoorProg.lean LOADS. Nothing in Lean hashes anything: it is a label: what it is worth is what the hold of that sum in a sandbox is worth. -/
noncomputable def Tryd.pinned : Pinned := { name := "ytdboebokjkkgkaadoor", sum := "d107102d878949eb8a3ca3147d788491e92710e99d7e1024cea534c5fc267e30", checked := Tryd.checked }
namespace Rows
def none {H : Type} : Left H := { results := [], args := [] }

/- WHAT THE LISTED PACKAGE-LEVEL VARIABLES READ AS WHEN THE CALL BEGINS. Each datum BY PROGRAM (the guide's laid-datum.mjs) off the statement by which the dump's own 'gosem.cut.vars' lays the variable. In a bare row this is a premise. The card (YtdboebokjkkgkaaDoorCards.lean) ties it to the program's text. -/
def laid_bedrock_kind_rows {H : Type} : DataW H := .agg [.agg [.lit (.string [97, 105, 114]), .lit (.int .u8 0), .lit (.int .u8 0), .lit (.int .u8 13)], .agg [.lit (.string [98, 101, 100, 114, 111, 99, 107]), .lit (.int .u8 0), .lit (.int .u8 0), .lit (.int .u8 0)], .agg [.lit (.string [115, 116, 111, 110, 101]), .lit (.int .u8 0), .lit (.int .u8 0), .lit (.int .u8 2)], .agg [.lit (.string [115, 111, 105, 108]), .lit (.int .u8 0), .lit (.int .u8 0), .lit (.int .u8 2)], .agg [.lit (.string [115, 97, 110, 100]), .lit (.int .u8 0), .lit (.int .u8 0), .lit (.int .u8 18)], .agg [.lit (.string [103, 114, 97, 118, 101, 108]), .lit (.int .u8 0), .lit (.int .u8 0), .lit (.int .u8 18)], .agg [.lit (.string [119, 111, 111, 100]), .lit (.int .u8 0), .lit (.int .u8 0), .lit (.int .u8 34)], .agg [.lit (.string [108, 101, 97, 118, 101, 115]), .lit (.int .u8 0), .lit (.int .u8 0), .lit (.int .u8 34)], .agg [.lit (.string [97, 115, 104]), .lit (.int .u8 0), .lit (.int .u8 0), .lit (.int .u8 18)], .agg [.lit (.string [103, 108, 97, 115, 115]), .lit (.int .u8 0), .lit (.int .u8 0), .lit (.int .u8 3)], .agg [.lit (.string [109, 111, 118, 101, 114]), .lit (.int .u8 0), .lit (.int .u8 0), .lit (.int .u8 0)], .agg [.lit (.string [116, 111, 114, 99, 104]), .lit (.int .u8 1), .lit (.int .u8 15), .lit (.int .u8 13)], .agg [.lit (.string [112, 108, 97, 110, 116]), .lit (.int .u8 0), .lit (.int .u8 3), .lit (.int .u8 45)], .agg [.lit (.string [119, 97, 116, 101, 114]), .lit (.int .u8 0), .lit (.int .u8 7), .lit (.int .u8 5)], .agg [.lit (.string [102, 105, 114, 101]), .lit (.int .u8 0), .lit (.int .u8 1), .lit (.int .u8 13)]]

/-- 'bedrocklaw06.PackPuts': WHATEVER THE INPUT: true; the input reads as it did. -/
def packPutsSpec : ChangeSpec := { name := "packPuts", fn := fun _ => fun
  | [d1, d2] => { results := [.lit (.bool true)], args := [d1, d2] }
  | _ => none }
def packPutsRow : OpenClaim := { program := "ytdboebokjkkgkaadoor", sum := "d107102d878949eb8a3ca3147d788491e92710e99d7e1024cea534c5fc267e30", func := "bedrock/bedrocklaw06.PackPuts", spec := "packPuts", unfollowed := true, recurses := true, named := ["bedrock/kind.rows"], plainKeys := false, apart := false, laid := [("bedrock/kind.rows", laid_bedrock_kind_rows)] }
def PackPutsSaid : Prop := packPutsRow.holds Tryd.pinned (OpenSpec.ofChange packPutsSpec)

/-- ITS FALSE NEIGHBOUR: 'it returns false'. Refute it at one input. -/
def packPutsWrong : ChangeSpec := { name := "packPuts", fn := fun _ => fun
  | [d1, d2] => { results := [.lit (.bool false)], args := [d1, d2] }
  | _ => none }
def PackPutsWrongFalsely : Prop := packPutsRow.holds Tryd.pinned (OpenSpec.ofChange packPutsWrong)

/-- 'bedrocklaw06.PackGets': WHATEVER THE INPUT: true; the input reads as it did. -/
def packGetsSpec : ChangeSpec := { name := "packGets", fn := fun _ => fun
  | [d] => { results := [.lit (.bool true)], args := [d] }
  | _ => none }
def packGetsRow : OpenClaim := { program := "ytdboebokjkkgkaadoor", sum := "d107102d878949eb8a3ca3147d788491e92710e99d7e1024cea534c5fc267e30", func := "bedrock/bedrocklaw06.PackGets", spec := "packGets", unfollowed := true, recurses := true, named := ["bedrock/kind.rows"], plainKeys := false, apart := false, laid := [("bedrock/kind.rows", laid_bedrock_kind_rows)] }
def PackGetsSaid : Prop := packGetsRow.holds Tryd.pinned (OpenSpec.ofChange packGetsSpec)

/-- ITS FALSE NEIGHBOUR: 'it returns false'. Refute it at one input. -/
def packGetsWrong : ChangeSpec := { name := "packGets", fn := fun _ => fun
  | [d] => { results := [.lit (.bool false)], args := [d] }
  | _ => none }
def PackGetsWrongFalsely : Prop := packGetsRow.holds Tryd.pinned (OpenSpec.ofChange packGetsWrong)

/-- 'bedrocklaw06.PackBack': WHATEVER THE INPUT: true; the input reads as it did. -/
def packBackSpec : ChangeSpec := { name := "packBack", fn := fun _ => fun
  | [d1, d2] => { results := [.lit (.bool true)], args := [d1, d2] }
  | _ => none }
def packBackRow : OpenClaim := { program := "ytdboebokjkkgkaadoor", sum := "d107102d878949eb8a3ca3147d788491e92710e99d7e1024cea534c5fc267e30", func := "bedrock/bedrocklaw06.PackBack", spec := "packBack", unfollowed := true, recurses := true, named := ["bedrock/kind.rows"], plainKeys := false, apart := false, laid := [("bedrock/kind.rows", laid_bedrock_kind_rows)] }
def PackBackSaid : Prop := packBackRow.holds Tryd.pinned (OpenSpec.ofChange packBackSpec)

/-- ITS FALSE NEIGHBOUR: 'it returns false'. Refute it at one input. -/
def packBackWrong : ChangeSpec := { name := "packBack", fn := fun _ => fun
  | [d1, d2] => { results := [.lit (.bool false)], args := [d1, d2] }
  | _ => none }
def PackBackWrongFalsely : Prop := packBackRow.holds Tryd.pinned (OpenSpec.ofChange packBackWrong)

/-- 'bedrocklaw06.PackOnce': WHATEVER THE INPUT: true; the input reads as it did. -/
def packOnceSpec : ChangeSpec := { name := "packOnce", fn := fun _ => fun
  | [d] => { results := [.lit (.bool true)], args := [d] }
  | _ => none }
def packOnceRow : OpenClaim := { program := "ytdboebokjkkgkaadoor", sum := "d107102d878949eb8a3ca3147d788491e92710e99d7e1024cea534c5fc267e30", func := "bedrock/bedrocklaw06.PackOnce", spec := "packOnce", unfollowed := true, recurses := true, named := ["bedrock/kind.rows"], plainKeys := false, apart := false, laid := [("bedrock/kind.rows", laid_bedrock_kind_rows)] }
def PackOnceSaid : Prop := packOnceRow.holds Tryd.pinned (OpenSpec.ofChange packOnceSpec)

/-- ITS FALSE NEIGHBOUR: 'it returns false'. Refute it at one input. -/
def packOnceWrong : ChangeSpec := { name := "packOnce", fn := fun _ => fun
  | [d] => { results := [.lit (.bool false)], args := [d] }
  | _ => none }
def PackOnceWrongFalsely : Prop := packOnceRow.holds Tryd.pinned (OpenSpec.ofChange packOnceWrong)

/-- 'bedrocklaw06.PackCut': WHATEVER THE INPUT: true; the input reads as it did. -/
def packCutSpec : ChangeSpec := { name := "packCut", fn := fun _ => fun
  | [d] => { results := [.lit (.bool true)], args := [d] }
  | _ => none }
def packCutRow : OpenClaim := { program := "ytdboebokjkkgkaadoor", sum := "d107102d878949eb8a3ca3147d788491e92710e99d7e1024cea534c5fc267e30", func := "bedrock/bedrocklaw06.PackCut", spec := "packCut", unfollowed := true, recurses := true, named := ["bedrock/kind.rows"], plainKeys := false, apart := false, laid := [("bedrock/kind.rows", laid_bedrock_kind_rows)] }
def PackCutSaid : Prop := packCutRow.holds Tryd.pinned (OpenSpec.ofChange packCutSpec)

/-- ITS FALSE NEIGHBOUR: 'it returns false'. Refute it at one input. -/
def packCutWrong : ChangeSpec := { name := "packCut", fn := fun _ => fun
  | [d] => { results := [.lit (.bool false)], args := [d] }
  | _ => none }
def PackCutWrongFalsely : Prop := packCutRow.holds Tryd.pinned (OpenSpec.ofChange packCutWrong)

/-- 'bedrocklaw06.PackShort': WHATEVER THE INPUT: true; the input reads as it did. -/
def packShortSpec : ChangeSpec := { name := "packShort", fn := fun _ => fun
  | [d1, d2] => { results := [.lit (.bool true)], args := [d1, d2] }
  | _ => none }
def packShortRow : OpenClaim := { program := "ytdboebokjkkgkaadoor", sum := "d107102d878949eb8a3ca3147d788491e92710e99d7e1024cea534c5fc267e30", func := "bedrock/bedrocklaw06.PackShort", spec := "packShort", unfollowed := true, recurses := true, named := ["bedrock/kind.rows"], plainKeys := false, apart := false, laid := [("bedrock/kind.rows", laid_bedrock_kind_rows)] }
def PackShortSaid : Prop := packShortRow.holds Tryd.pinned (OpenSpec.ofChange packShortSpec)

/-- ITS FALSE NEIGHBOUR: 'it returns false'. Refute it at one input. -/
def packShortWrong : ChangeSpec := { name := "packShort", fn := fun _ => fun
  | [d1, d2] => { results := [.lit (.bool false)], args := [d1, d2] }
  | _ => none }
def PackShortWrongFalsely : Prop := packShortRow.holds Tryd.pinned (OpenSpec.ofChange packShortWrong)

/-- 'bedrocklaw06.PackRefused': WHATEVER THE INPUT: true; the input reads as it did. -/
def packRefusedSpec : ChangeSpec := { name := "packRefused", fn := fun _ => fun
  | [d1, d2, d3] => { results := [.lit (.bool true)], args := [d1, d2, d3] }
  | _ => none }
def packRefusedRow : OpenClaim := { program := "ytdboebokjkkgkaadoor", sum := "d107102d878949eb8a3ca3147d788491e92710e99d7e1024cea534c5fc267e30", func := "bedrock/bedrocklaw06.PackRefused", spec := "packRefused", unfollowed := true, recurses := true, named := ["bedrock/kind.rows"], plainKeys := false, apart := false, laid := [("bedrock/kind.rows", laid_bedrock_kind_rows)] }
def PackRefusedSaid : Prop := packRefusedRow.holds Tryd.pinned (OpenSpec.ofChange packRefusedSpec)

/-- ITS FALSE NEIGHBOUR: 'it returns false'. Refute it at one input. -/
def packRefusedWrong : ChangeSpec := { name := "packRefused", fn := fun _ => fun
  | [d1, d2, d3] => { results := [.lit (.bool false)], args := [d1, d2, d3] }
  | _ => none }
def PackRefusedWrongFalsely : Prop := packRefusedRow.holds Tryd.pinned (OpenSpec.ofChange packRefusedWrong)

/-- 'bedrocklaw06.PackKnown': WHATEVER THE INPUT: true; the input reads as it did. -/
def packKnownSpec : ChangeSpec := { name := "packKnown", fn := fun _ => fun
  | [] => { results := [.lit (.bool true)], args := [] }
  | _ => none }
def packKnownRow : OpenClaim := { program := "ytdboebokjkkgkaadoor", sum := "d107102d878949eb8a3ca3147d788491e92710e99d7e1024cea534c5fc267e30", func := "bedrock/bedrocklaw06.PackKnown", spec := "packKnown", unfollowed := true, recurses := true, named := ["bedrock/kind.rows"], plainKeys := false, apart := false, laid := [("bedrock/kind.rows", laid_bedrock_kind_rows)] }
def PackKnownSaid : Prop := packKnownRow.holds Tryd.pinned (OpenSpec.ofChange packKnownSpec)

/-- ITS FALSE NEIGHBOUR: 'it returns false'. Refute it at one input. -/
def packKnownWrong : ChangeSpec := { name := "packKnown", fn := fun _ => fun
  | [] => { results := [.lit (.bool false)], args := [] }
  | _ => none }
def PackKnownWrongFalsely : Prop := packKnownRow.holds Tryd.pinned (OpenSpec.ofChange packKnownWrong)

/- THE SECOND FORM. 'bulk': how many values and letters a reading holds, each counted each time it is reached (what is shared counts as often as it is met; a slice's spare places count too). A statement '..UptoSaid' is the law's where the arguments, and the package variables that the reading takes, are together of bulk at most 1048576: NARROWER than '..Said'. Prove '..Said' where nothing that the law and all that it calls make is longer than what came in: it says more and counts as full. Else prove '..UptoSaid'. A law counts once. -/
mutual
def uptoBulk {H : Type} : DataW H → Nat
  | .lit (.string bytes) => bytes.length + 1
  | .lit _ => 1
  | .nil => 1
  | .ptr d => uptoBulk d + 1
  | .slice elems spare => uptoBulkAll elems + uptoBulkAll spare + 1
  | .agg parts => uptoBulkAll parts + 1
  | .iface _ d => uptoBulk d + 1
  | .map entries => uptoBulkEntries entries + 1
  | .held _ => 1
def uptoBulkAll {H : Type} : List (DataW H) → Nat
  | [] => 0
  | d :: r => uptoBulk d + uptoBulkAll r
def uptoBulkEntries {H : Type} : List (Lit × DataW H) → Nat
  | [] => 0
  | x :: r => uptoBulkEntry x + uptoBulkEntries r
def uptoBulkEntry {H : Type} : Lit × DataW H → Nat
  | (.string bytes, d) => bytes.length + uptoBulk d + 1
  | (_, d) => uptoBulk d + 1
 end
def uptoSmall : (H : Type) → List (DataW H) → Bool := fun _ ds => decide (uptoBulkAll ds ≤ 1048576)
def OpenSpec.upto (s : _root_.Go.ChangeSpec) : _root_.Go.OpenSpec := { _root_.Go.OpenSpec.ofChange s with cond := some uptoSmall }

/-- 'bedrocklaw06.PackPuts', WHERE WHAT IT READS IS OF BULK AT MOST 1048576: true; the input reads as it did. -/
def packPutsUptoRow : OpenClaim := { program := "ytdboebokjkkgkaadoor", sum := "d107102d878949eb8a3ca3147d788491e92710e99d7e1024cea534c5fc267e30", func := "bedrock/bedrocklaw06.PackPuts", spec := "packPuts", unfollowed := true, recurses := true, named := ["bedrock/kind.rows"], plainKeys := false, apart := false, laid := [("bedrock/kind.rows", laid_bedrock_kind_rows)], narrowed := true }
def PackPutsUptoSaid : Prop := packPutsUptoRow.holds Tryd.pinned (OpenSpec.upto packPutsSpec)

/-- 'bedrocklaw06.PackGets', WHERE WHAT IT READS IS OF BULK AT MOST 1048576: true; the input reads as it did. -/
def packGetsUptoRow : OpenClaim := { program := "ytdboebokjkkgkaadoor", sum := "d107102d878949eb8a3ca3147d788491e92710e99d7e1024cea534c5fc267e30", func := "bedrock/bedrocklaw06.PackGets", spec := "packGets", unfollowed := true, recurses := true, named := ["bedrock/kind.rows"], plainKeys := false, apart := false, laid := [("bedrock/kind.rows", laid_bedrock_kind_rows)], narrowed := true }
def PackGetsUptoSaid : Prop := packGetsUptoRow.holds Tryd.pinned (OpenSpec.upto packGetsSpec)

/-- 'bedrocklaw06.PackBack', WHERE WHAT IT READS IS OF BULK AT MOST 1048576: true; the input reads as it did. -/
def packBackUptoRow : OpenClaim := { program := "ytdboebokjkkgkaadoor", sum := "d107102d878949eb8a3ca3147d788491e92710e99d7e1024cea534c5fc267e30", func := "bedrock/bedrocklaw06.PackBack", spec := "packBack", unfollowed := true, recurses := true, named := ["bedrock/kind.rows"], plainKeys := false, apart := false, laid := [("bedrock/kind.rows", laid_bedrock_kind_rows)], narrowed := true }
def PackBackUptoSaid : Prop := packBackUptoRow.holds Tryd.pinned (OpenSpec.upto packBackSpec)

/-- 'bedrocklaw06.PackOnce', WHERE WHAT IT READS IS OF BULK AT MOST 1048576: true; the input reads as it did. -/
def packOnceUptoRow : OpenClaim := { program := "ytdboebokjkkgkaadoor", sum := "d107102d878949eb8a3ca3147d788491e92710e99d7e1024cea534c5fc267e30", func := "bedrock/bedrocklaw06.PackOnce", spec := "packOnce", unfollowed := true, recurses := true, named := ["bedrock/kind.rows"], plainKeys := false, apart := false, laid := [("bedrock/kind.rows", laid_bedrock_kind_rows)], narrowed := true }
def PackOnceUptoSaid : Prop := packOnceUptoRow.holds Tryd.pinned (OpenSpec.upto packOnceSpec)

/-- 'bedrocklaw06.PackCut', WHERE WHAT IT READS IS OF BULK AT MOST 1048576: true; the input reads as it did. -/
def packCutUptoRow : OpenClaim := { program := "ytdboebokjkkgkaadoor", sum := "d107102d878949eb8a3ca3147d788491e92710e99d7e1024cea534c5fc267e30", func := "bedrock/bedrocklaw06.PackCut", spec := "packCut", unfollowed := true, recurses := true, named := ["bedrock/kind.rows"], plainKeys := false, apart := false, laid := [("bedrock/kind.rows", laid_bedrock_kind_rows)], narrowed := true }
def PackCutUptoSaid : Prop := packCutUptoRow.holds Tryd.pinned (OpenSpec.upto packCutSpec)

/-- 'bedrocklaw06.PackShort', WHERE WHAT IT READS IS OF BULK AT MOST 1048576: true; the input reads as it did. -/
def packShortUptoRow : OpenClaim := { program := "ytdboebokjkkgkaadoor", sum := "d107102d878949eb8a3ca3147d788491e92710e99d7e1024cea534c5fc267e30", func := "bedrock/bedrocklaw06.PackShort", spec := "packShort", unfollowed := true, recurses := true, named := ["bedrock/kind.rows"], plainKeys := false, apart := false, laid := [("bedrock/kind.rows", laid_bedrock_kind_rows)], narrowed := true }
def PackShortUptoSaid : Prop := packShortUptoRow.holds Tryd.pinned (OpenSpec.upto packShortSpec)

/-- 'bedrocklaw06.PackRefused', WHERE WHAT IT READS IS OF BULK AT MOST 1048576: true; the input reads as it did. -/
def packRefusedUptoRow : OpenClaim := { program := "ytdboebokjkkgkaadoor", sum := "d107102d878949eb8a3ca3147d788491e92710e99d7e1024cea534c5fc267e30", func := "bedrock/bedrocklaw06.PackRefused", spec := "packRefused", unfollowed := true, recurses := true, named := ["bedrock/kind.rows"], plainKeys := false, apart := false, laid := [("bedrock/kind.rows", laid_bedrock_kind_rows)], narrowed := true }
def PackRefusedUptoSaid : Prop := packRefusedUptoRow.holds Tryd.pinned (OpenSpec.upto packRefusedSpec)

/-- 'bedrocklaw06.PackKnown', WHERE WHAT IT READS IS OF BULK AT MOST 1048576: true; the input reads as it did. -/
def packKnownUptoRow : OpenClaim := { program := "ytdboebokjkkgkaadoor", sum := "d107102d878949eb8a3ca3147d788491e92710e99d7e1024cea534c5fc267e30", func := "bedrock/bedrocklaw06.PackKnown", spec := "packKnown", unfollowed := true, recurses := true, named := ["bedrock/kind.rows"], plainKeys := false, apart := false, laid := [("bedrock/kind.rows", laid_bedrock_kind_rows)], narrowed := true }
def PackKnownUptoSaid : Prop := packKnownUptoRow.holds Tryd.pinned (OpenSpec.upto packKnownSpec)

end Rows
end Go.Proofs.YtdboebokjkkgkaaDoor
