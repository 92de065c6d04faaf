/-
  NARROWER THAN 'FOR EVERY INPUT', by the rows' own cells (each row's printed sentence says how): KindNames: laid · KindSorts: laid · KindCells: laid · KindKnown: laid · KindBack: laid · KindLaws: laid.
  DERIVED. THE GIVEN ROWS OF THIS SEAT. 6 by the template 'for every input the law returns true; each argument reads behind the call as it read before'; 0 by the template 'total and deterministic' (their statements: YtfhfmjfhceinmaaDoorTotals.lean).
  GIVEN WITH THE SEED: the statements are not yours to turn. If you find one false, say at which input.
  Laid BY PROGRAM, IN A SANDBOX (cutbox-rows.mjs): the forced cells as the released guide's own fill.sh prints them over the translation 87a3fe7b79483fc8… (all of the seat's roots in one cut). By AI agents, Wed Nov 11 2026. No macro, syntax, notation, axiom, sorry.
-/
import Derived.Test.YtfhfmjfhceinmaaDoorChecked
import GoSem.Claim
import GoSem.ClaimJoined
import GoSem.ClaimMapViews
import Derived.JoinedTies
import Derived.KernelRfl
namespace Go.Proofs.YtfhfmjfhceinmaaDoor
/- THE CELL 'sum', in the pinned program and in every row, IS THE sha256 OF THE DUMP (.gsa) THAT YtfhfmjfhceinmaaDoorProg.lean LOADS. Nothing in Lean hashes anything: it is a label: what it is worth is what the hold of that sum in a sandbox is worth. -/
noncomputable def Tryd.pinned : Pinned := { name := "ytfhfmjfhceinmaadoor", sum := "87a3fe7b79483fc82fffbc50fadd70aa171bc0d51e09d8f879a34abd39ce741d", checked := Tryd.checked }
namespace Rows
def none {H : Type} : Left H := { results := [], args := [] }

/- WHAT THE LISTED PACKAGE-LEVEL VARIABLES READ AS WHEN THE CALL BEGINS. Each datum BY PROGRAM (the guide's laid-datum.mjs) off the statement by which the dump's own 'gosem.cut.vars' lays the variable. In a bare row this is a premise. The card (YtfhfmjfhceinmaaDoorCards.lean) ties it to the program's text. -/
def laid_bedrock_kind_rows {H : Type} : DataW H := .agg [.agg [.lit (.string [97, 105, 114]), .lit (.int .u8 0), .lit (.int .u8 0), .lit (.int .u8 13)], .agg [.lit (.string [98, 101, 100, 114, 111, 99, 107]), .lit (.int .u8 0), .lit (.int .u8 0), .lit (.int .u8 0)], .agg [.lit (.string [115, 116, 111, 110, 101]), .lit (.int .u8 0), .lit (.int .u8 0), .lit (.int .u8 2)], .agg [.lit (.string [115, 111, 105, 108]), .lit (.int .u8 0), .lit (.int .u8 0), .lit (.int .u8 2)], .agg [.lit (.string [115, 97, 110, 100]), .lit (.int .u8 0), .lit (.int .u8 0), .lit (.int .u8 18)], .agg [.lit (.string [103, 114, 97, 118, 101, 108]), .lit (.int .u8 0), .lit (.int .u8 0), .lit (.int .u8 18)], .agg [.lit (.string [119, 111, 111, 100]), .lit (.int .u8 0), .lit (.int .u8 0), .lit (.int .u8 34)], .agg [.lit (.string [108, 101, 97, 118, 101, 115]), .lit (.int .u8 0), .lit (.int .u8 0), .lit (.int .u8 34)], .agg [.lit (.string [97, 115, 104]), .lit (.int .u8 0), .lit (.int .u8 0), .lit (.int .u8 18)], .agg [.lit (.string [103, 108, 97, 115, 115]), .lit (.int .u8 0), .lit (.int .u8 0), .lit (.int .u8 3)], .agg [.lit (.string [109, 111, 118, 101, 114]), .lit (.int .u8 0), .lit (.int .u8 0), .lit (.int .u8 0)], .agg [.lit (.string [116, 111, 114, 99, 104]), .lit (.int .u8 1), .lit (.int .u8 15), .lit (.int .u8 13)], .agg [.lit (.string [112, 108, 97, 110, 116]), .lit (.int .u8 0), .lit (.int .u8 3), .lit (.int .u8 45)], .agg [.lit (.string [119, 97, 116, 101, 114]), .lit (.int .u8 0), .lit (.int .u8 7), .lit (.int .u8 5)], .agg [.lit (.string [102, 105, 114, 101]), .lit (.int .u8 0), .lit (.int .u8 1), .lit (.int .u8 13)]]

/-- 'bedrocklaw01.KindNames': WHATEVER THE INPUT: true; the input reads as it did. -/
def kindNamesSpec : ChangeSpec := { name := "kindNames", fn := fun _ => fun
  | [d1, d2] => { results := [.lit (.bool true)], args := [d1, d2] }
  | _ => none }
def kindNamesRow : OpenClaim := { program := "ytfhfmjfhceinmaadoor", sum := "87a3fe7b79483fc82fffbc50fadd70aa171bc0d51e09d8f879a34abd39ce741d", func := "bedrock/bedrocklaw01.KindNames", spec := "kindNames", named := ["bedrock/kind.rows"], apart := false, laid := [("bedrock/kind.rows", laid_bedrock_kind_rows)] }
def KindNamesSaid : Prop := kindNamesRow.holds Tryd.pinned (OpenSpec.ofChange kindNamesSpec)

/-- ITS FALSE NEIGHBOUR: 'it returns false'. Refute it at one input. -/
def kindNamesWrong : ChangeSpec := { name := "kindNames", fn := fun _ => fun
  | [d1, d2] => { results := [.lit (.bool false)], args := [d1, d2] }
  | _ => none }
def KindNamesWrongFalsely : Prop := kindNamesRow.holds Tryd.pinned (OpenSpec.ofChange kindNamesWrong)

/-- 'bedrocklaw01.KindSorts': WHATEVER THE INPUT: true; the input reads as it did. -/
def kindSortsSpec : ChangeSpec := { name := "kindSorts", fn := fun _ => fun
  | [d] => { results := [.lit (.bool true)], args := [d] }
  | _ => none }
def kindSortsRow : OpenClaim := { program := "ytfhfmjfhceinmaadoor", sum := "87a3fe7b79483fc82fffbc50fadd70aa171bc0d51e09d8f879a34abd39ce741d", func := "bedrock/bedrocklaw01.KindSorts", spec := "kindSorts", named := ["bedrock/kind.rows"], apart := false, laid := [("bedrock/kind.rows", laid_bedrock_kind_rows)] }
def KindSortsSaid : Prop := kindSortsRow.holds Tryd.pinned (OpenSpec.ofChange kindSortsSpec)

/-- ITS FALSE NEIGHBOUR: 'it returns false'. Refute it at one input. -/
def kindSortsWrong : ChangeSpec := { name := "kindSorts", fn := fun _ => fun
  | [d] => { results := [.lit (.bool false)], args := [d] }
  | _ => none }
def KindSortsWrongFalsely : Prop := kindSortsRow.holds Tryd.pinned (OpenSpec.ofChange kindSortsWrong)

/-- 'bedrocklaw01.KindCells': WHATEVER THE INPUT: true; the input reads as it did. -/
def kindCellsSpec : ChangeSpec := { name := "kindCells", fn := fun _ => fun
  | [d] => { results := [.lit (.bool true)], args := [d] }
  | _ => none }
def kindCellsRow : OpenClaim := { program := "ytfhfmjfhceinmaadoor", sum := "87a3fe7b79483fc82fffbc50fadd70aa171bc0d51e09d8f879a34abd39ce741d", func := "bedrock/bedrocklaw01.KindCells", spec := "kindCells", named := ["bedrock/kind.rows"], apart := false, laid := [("bedrock/kind.rows", laid_bedrock_kind_rows)] }
def KindCellsSaid : Prop := kindCellsRow.holds Tryd.pinned (OpenSpec.ofChange kindCellsSpec)

/-- ITS FALSE NEIGHBOUR: 'it returns false'. Refute it at one input. -/
def kindCellsWrong : ChangeSpec := { name := "kindCells", fn := fun _ => fun
  | [d] => { results := [.lit (.bool false)], args := [d] }
  | _ => none }
def KindCellsWrongFalsely : Prop := kindCellsRow.holds Tryd.pinned (OpenSpec.ofChange kindCellsWrong)

/-- 'bedrocklaw01.KindKnown': WHATEVER THE INPUT: true; the input reads as it did. -/
def kindKnownSpec : ChangeSpec := { name := "kindKnown", fn := fun _ => fun
  | [] => { results := [.lit (.bool true)], args := [] }
  | _ => none }
def kindKnownRow : OpenClaim := { program := "ytfhfmjfhceinmaadoor", sum := "87a3fe7b79483fc82fffbc50fadd70aa171bc0d51e09d8f879a34abd39ce741d", func := "bedrock/bedrocklaw01.KindKnown", spec := "kindKnown", named := ["bedrock/kind.rows"], apart := false, laid := [("bedrock/kind.rows", laid_bedrock_kind_rows)] }
def KindKnownSaid : Prop := kindKnownRow.holds Tryd.pinned (OpenSpec.ofChange kindKnownSpec)

/-- ITS FALSE NEIGHBOUR: 'it returns false'. Refute it at one input. -/
def kindKnownWrong : ChangeSpec := { name := "kindKnown", fn := fun _ => fun
  | [] => { results := [.lit (.bool false)], args := [] }
  | _ => none }
def KindKnownWrongFalsely : Prop := kindKnownRow.holds Tryd.pinned (OpenSpec.ofChange kindKnownWrong)

/-- 'bedrocklaw01.KindBack': WHATEVER THE INPUT: true; the input reads as it did. -/
def kindBackSpec : ChangeSpec := { name := "kindBack", fn := fun _ => fun
  | [d1, d2] => { results := [.lit (.bool true)], args := [d1, d2] }
  | _ => none }
def kindBackRow : OpenClaim := { program := "ytfhfmjfhceinmaadoor", sum := "87a3fe7b79483fc82fffbc50fadd70aa171bc0d51e09d8f879a34abd39ce741d", func := "bedrock/bedrocklaw01.KindBack", spec := "kindBack", named := ["bedrock/kind.rows"], apart := false, laid := [("bedrock/kind.rows", laid_bedrock_kind_rows)] }
def KindBackSaid : Prop := kindBackRow.holds Tryd.pinned (OpenSpec.ofChange kindBackSpec)

/-- ITS FALSE NEIGHBOUR: 'it returns false'. Refute it at one input. -/
def kindBackWrong : ChangeSpec := { name := "kindBack", fn := fun _ => fun
  | [d1, d2] => { results := [.lit (.bool false)], args := [d1, d2] }
  | _ => none }
def KindBackWrongFalsely : Prop := kindBackRow.holds Tryd.pinned (OpenSpec.ofChange kindBackWrong)

/-- 'bedrocklaw01.KindLaws': WHATEVER THE INPUT: true; the input reads as it did. -/
def kindLawsSpec : ChangeSpec := { name := "kindLaws", fn := fun _ => fun
  | [d] => { results := [.lit (.bool true)], args := [d] }
  | _ => none }
def kindLawsRow : OpenClaim := { program := "ytfhfmjfhceinmaadoor", sum := "87a3fe7b79483fc82fffbc50fadd70aa171bc0d51e09d8f879a34abd39ce741d", func := "bedrock/bedrocklaw01.KindLaws", spec := "kindLaws", named := ["bedrock/kind.rows"], apart := false, laid := [("bedrock/kind.rows", laid_bedrock_kind_rows)] }
def KindLawsSaid : Prop := kindLawsRow.holds Tryd.pinned (OpenSpec.ofChange kindLawsSpec)

/-- ITS FALSE NEIGHBOUR: 'it returns false'. Refute it at one input. -/
def kindLawsWrong : ChangeSpec := { name := "kindLaws", fn := fun _ => fun
  | [d] => { results := [.lit (.bool false)], args := [d] }
  | _ => none }
def KindLawsWrongFalsely : Prop := kindLawsRow.holds Tryd.pinned (OpenSpec.ofChange kindLawsWrong)

/- THE SECOND FORM. 'bulk': how many values and letters a reading holds, each counted each time it is reached (what is shared counts as often as it is met; a slice's spare places count too). A statement '..UptoSaid' is the law's where the arguments, and the package variables that the reading takes, are together of bulk at most 1048576: NARROWER than '..Said'. Prove '..Said' where nothing that the law and all that it calls make is longer than what came in: it says more and counts as full. Else prove '..UptoSaid'. A law counts once. -/
mutual
def uptoBulk {H : Type} : DataW H → Nat
  | .lit (.string bytes) => bytes.length + 1
  | .lit _ => 1
  | .nil => 1
  | .ptr d => uptoBulk d + 1
  | .slice elems spare => uptoBulkAll elems + uptoBulkAll spare + 1
  | .agg parts => uptoBulkAll parts + 1
  | .iface _ d => uptoBulk d + 1
  | .map entries => uptoBulkEntries entries + 1
  | .held _ => 1
def uptoBulkAll {H : Type} : List (DataW H) → Nat
  | [] => 0
  | d :: r => uptoBulk d + uptoBulkAll r
def uptoBulkEntries {H : Type} : List (Lit × DataW H) → Nat
  | [] => 0
  | x :: r => uptoBulkEntry x + uptoBulkEntries r
def uptoBulkEntry {H : Type} : Lit × DataW H → Nat
  | (.string bytes, d) => bytes.length + uptoBulk d + 1
  | (_, d) => uptoBulk d + 1
 end
def uptoSmall : (H : Type) → List (DataW H) → Bool := fun _ ds => decide (uptoBulkAll ds ≤ 1048576)
def OpenSpec.upto (s : _root_.Go.ChangeSpec) : _root_.Go.OpenSpec := { _root_.Go.OpenSpec.ofChange s with cond := some uptoSmall }

/-- 'bedrocklaw01.KindNames', WHERE WHAT IT READS IS OF BULK AT MOST 1048576: true; the input reads as it did. -/
def kindNamesUptoRow : OpenClaim := { program := "ytfhfmjfhceinmaadoor", sum := "87a3fe7b79483fc82fffbc50fadd70aa171bc0d51e09d8f879a34abd39ce741d", func := "bedrock/bedrocklaw01.KindNames", spec := "kindNames", named := ["bedrock/kind.rows"], apart := false, laid := [("bedrock/kind.rows", laid_bedrock_kind_rows)], narrowed := true }
def KindNamesUptoSaid : Prop := kindNamesUptoRow.holds Tryd.pinned (OpenSpec.upto kindNamesSpec)

/-- 'bedrocklaw01.KindSorts', WHERE WHAT IT READS IS OF BULK AT MOST 1048576: true; the input reads as it did. -/
def kindSortsUptoRow : OpenClaim := { program := "ytfhfmjfhceinmaadoor", sum := "87a3fe7b79483fc82fffbc50fadd70aa171bc0d51e09d8f879a34abd39ce741d", func := "bedrock/bedrocklaw01.KindSorts", spec := "kindSorts", named := ["bedrock/kind.rows"], apart := false, laid := [("bedrock/kind.rows", laid_bedrock_kind_rows)], narrowed := true }
def KindSortsUptoSaid : Prop := kindSortsUptoRow.holds Tryd.pinned (OpenSpec.upto kindSortsSpec)

/-- 'bedrocklaw01.KindCells', WHERE WHAT IT READS IS OF BULK AT MOST 1048576: true; the input reads as it did. -/
def kindCellsUptoRow : OpenClaim := { program := "ytfhfmjfhceinmaadoor", sum := "87a3fe7b79483fc82fffbc50fadd70aa171bc0d51e09d8f879a34abd39ce741d", func := "bedrock/bedrocklaw01.KindCells", spec := "kindCells", named := ["bedrock/kind.rows"], apart := false, laid := [("bedrock/kind.rows", laid_bedrock_kind_rows)], narrowed := true }
def KindCellsUptoSaid : Prop := kindCellsUptoRow.holds Tryd.pinned (OpenSpec.upto kindCellsSpec)

/-- 'bedrocklaw01.KindKnown', WHERE WHAT IT READS IS OF BULK AT MOST 1048576: true; the input reads as it did. -/
def kindKnownUptoRow : OpenClaim := { program := "ytfhfmjfhceinmaadoor", sum := "87a3fe7b79483fc82fffbc50fadd70aa171bc0d51e09d8f879a34abd39ce741d", func := "bedrock/bedrocklaw01.KindKnown", spec := "kindKnown", named := ["bedrock/kind.rows"], apart := false, laid := [("bedrock/kind.rows", laid_bedrock_kind_rows)], narrowed := true }
def KindKnownUptoSaid : Prop := kindKnownUptoRow.holds Tryd.pinned (OpenSpec.upto kindKnownSpec)

/-- 'bedrocklaw01.KindBack', WHERE WHAT IT READS IS OF BULK AT MOST 1048576: true; the input reads as it did. -/
def kindBackUptoRow : OpenClaim := { program := "ytfhfmjfhceinmaadoor", sum := "87a3fe7b79483fc82fffbc50fadd70aa171bc0d51e09d8f879a34abd39ce741d", func := "bedrock/bedrocklaw01.KindBack", spec := "kindBack", named := ["bedrock/kind.rows"], apart := false, laid := [("bedrock/kind.rows", laid_bedrock_kind_rows)], narrowed := true }
def KindBackUptoSaid : Prop := kindBackUptoRow.holds Tryd.pinned (OpenSpec.upto kindBackSpec)

/-- 'bedrocklaw01.KindLaws', WHERE WHAT IT READS IS OF BULK AT MOST 1048576: true; the input reads as it did. -/
def kindLawsUptoRow : OpenClaim := { program := "ytfhfmjfhceinmaadoor", sum := "87a3fe7b79483fc82fffbc50fadd70aa171bc0d51e09d8f879a34abd39ce741d", func := "bedrock/bedrocklaw01.KindLaws", spec := "kindLaws", named := ["bedrock/kind.rows"], apart := false, laid := [("bedrock/kind.rows", laid_bedrock_kind_rows)], narrowed := true }
def KindLawsUptoSaid : Prop := kindLawsUptoRow.holds Tryd.pinned (OpenSpec.upto kindLawsSpec)

end Rows
end Go.Proofs.YtfhfmjfhceinmaaDoor
