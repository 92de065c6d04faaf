/-
  NARROWER THAN 'FOR EVERY INPUT', by the rows' own cells (each row's printed sentence says how): LandCells: laid · LandChunks: laid · LandSame: laid · LandFlat: laid · LandOther: laid · LandCounts: laid · LandKnown: laid.
  DERIVED. THE GIVEN ROWS OF THIS SEAT. 7 by the template 'for every input the law returns true; each argument reads behind the call as it read before'; 0 by the template 'total and deterministic' (their statements: YtjjnmkbjohiekaaDoorTotals.lean).
  GIVEN WITH THE SEED: the statements are not yours to turn. If you find one false, say at which input.
  Laid BY PROGRAM, IN A SANDBOX (cutbox-rows.mjs): the forced cells as the released guide's own fill.sh prints them over the translation 4df0436b1ce8e5fd… (all of the seat's roots in one cut). By AI agents, Wed Nov 11 2026. No macro, syntax, notation, axiom, sorry.
-/
import Derived.Test.YtjjnmkbjohiekaaDoorChecked
import GoSem.Claim
import GoSem.ClaimJoined
import GoSem.ClaimMapViews
import Derived.JoinedTies
import Derived.KernelRfl
namespace Go.Proofs.YtjjnmkbjohiekaaDoor
/- THE CELL 'sum', in the pinned program and in every row, IS THE sha256 OF THE DUMP (.gsa) THAT YtjjnmkbjohiekaaDoorProg.lean LOADS. Nothing in Lean hashes anything: it is a label: what it is worth is what the hold of that sum in a sandbox is worth. -/
noncomputable def Tryd.pinned : Pinned := { name := "ytjjnmkbjohiekaadoor", sum := "4df0436b1ce8e5fd74fe483d79fac275a5ea9bc1a18dd033c245b5234a8a7b0b", checked := Tryd.checked }
namespace Rows
def none {H : Type} : Left H := { results := [], args := [] }

/- WHAT THE LISTED PACKAGE-LEVEL VARIABLES READ AS WHEN THE CALL BEGINS. Each datum BY PROGRAM (the guide's laid-datum.mjs) off the statement by which the dump's own 'gosem.cut.vars' lays the variable. In a bare row this is a premise. The card (YtjjnmkbjohiekaaDoorCards.lean) ties it to the program's text. -/
def laid_bedrock_land_layers {H : Type} : DataW H := .agg [.lit (.int .u8 1), .lit (.int .u8 2), .lit (.int .u8 3), .lit (.int .u8 0)]
def laid_bedrock_kind_rows {H : Type} : DataW H := .agg [.agg [.lit (.string [97, 105, 114]), .lit (.int .u8 0), .lit (.int .u8 0), .lit (.int .u8 13)], .agg [.lit (.string [98, 101, 100, 114, 111, 99, 107]), .lit (.int .u8 0), .lit (.int .u8 0), .lit (.int .u8 0)], .agg [.lit (.string [115, 116, 111, 110, 101]), .lit (.int .u8 0), .lit (.int .u8 0), .lit (.int .u8 2)], .agg [.lit (.string [115, 111, 105, 108]), .lit (.int .u8 0), .lit (.int .u8 0), .lit (.int .u8 2)], .agg [.lit (.string [115, 97, 110, 100]), .lit (.int .u8 0), .lit (.int .u8 0), .lit (.int .u8 18)], .agg [.lit (.string [103, 114, 97, 118, 101, 108]), .lit (.int .u8 0), .lit (.int .u8 0), .lit (.int .u8 18)], .agg [.lit (.string [119, 111, 111, 100]), .lit (.int .u8 0), .lit (.int .u8 0), .lit (.int .u8 34)], .agg [.lit (.string [108, 101, 97, 118, 101, 115]), .lit (.int .u8 0), .lit (.int .u8 0), .lit (.int .u8 34)], .agg [.lit (.string [97, 115, 104]), .lit (.int .u8 0), .lit (.int .u8 0), .lit (.int .u8 18)], .agg [.lit (.string [103, 108, 97, 115, 115]), .lit (.int .u8 0), .lit (.int .u8 0), .lit (.int .u8 3)], .agg [.lit (.string [109, 111, 118, 101, 114]), .lit (.int .u8 0), .lit (.int .u8 0), .lit (.int .u8 0)], .agg [.lit (.string [116, 111, 114, 99, 104]), .lit (.int .u8 1), .lit (.int .u8 15), .lit (.int .u8 13)], .agg [.lit (.string [112, 108, 97, 110, 116]), .lit (.int .u8 0), .lit (.int .u8 3), .lit (.int .u8 45)], .agg [.lit (.string [119, 97, 116, 101, 114]), .lit (.int .u8 0), .lit (.int .u8 7), .lit (.int .u8 5)], .agg [.lit (.string [102, 105, 114, 101]), .lit (.int .u8 0), .lit (.int .u8 1), .lit (.int .u8 13)]]

/-- 'bedrocklaw08.LandCells': WHATEVER THE INPUT: true; the input reads as it did. -/
def landCellsSpec : ChangeSpec := { name := "landCells", fn := fun _ => fun
  | [d] => { results := [.lit (.bool true)], args := [d] }
  | _ => none }
def landCellsRow : OpenClaim := { program := "ytjjnmkbjohiekaadoor", sum := "4df0436b1ce8e5fd74fe483d79fac275a5ea9bc1a18dd033c245b5234a8a7b0b", func := "bedrock/bedrocklaw08.LandCells", spec := "landCells", named := ["bedrock/land.layers"], apart := false, laid := [("bedrock/land.layers", laid_bedrock_land_layers)] }
def LandCellsSaid : Prop := landCellsRow.holds Tryd.pinned (OpenSpec.ofChange landCellsSpec)

/-- ITS FALSE NEIGHBOUR: 'it returns false'. Refute it at one input. -/
def landCellsWrong : ChangeSpec := { name := "landCells", fn := fun _ => fun
  | [d] => { results := [.lit (.bool false)], args := [d] }
  | _ => none }
def LandCellsWrongFalsely : Prop := landCellsRow.holds Tryd.pinned (OpenSpec.ofChange landCellsWrong)

/-- 'bedrocklaw08.LandChunks': WHATEVER THE INPUT: true; the input reads as it did. -/
def landChunksSpec : ChangeSpec := { name := "landChunks", fn := fun _ => fun
  | [d] => { results := [.lit (.bool true)], args := [d] }
  | _ => none }
def landChunksRow : OpenClaim := { program := "ytjjnmkbjohiekaadoor", sum := "4df0436b1ce8e5fd74fe483d79fac275a5ea9bc1a18dd033c245b5234a8a7b0b", func := "bedrock/bedrocklaw08.LandChunks", spec := "landChunks", named := ["bedrock/land.layers", "bedrock/kind.rows"], apart := false, laid := [("bedrock/kind.rows", laid_bedrock_kind_rows), ("bedrock/land.layers", laid_bedrock_land_layers)] }
def LandChunksSaid : Prop := landChunksRow.holds Tryd.pinned (OpenSpec.ofChange landChunksSpec)

/-- ITS FALSE NEIGHBOUR: 'it returns false'. Refute it at one input. -/
def landChunksWrong : ChangeSpec := { name := "landChunks", fn := fun _ => fun
  | [d] => { results := [.lit (.bool false)], args := [d] }
  | _ => none }
def LandChunksWrongFalsely : Prop := landChunksRow.holds Tryd.pinned (OpenSpec.ofChange landChunksWrong)

/-- 'bedrocklaw08.LandSame': WHATEVER THE INPUT: true; the input reads as it did. -/
def landSameSpec : ChangeSpec := { name := "landSame", fn := fun _ => fun
  | [d1, d2] => { results := [.lit (.bool true)], args := [d1, d2] }
  | _ => none }
def landSameRow : OpenClaim := { program := "ytjjnmkbjohiekaadoor", sum := "4df0436b1ce8e5fd74fe483d79fac275a5ea9bc1a18dd033c245b5234a8a7b0b", func := "bedrock/bedrocklaw08.LandSame", spec := "landSame", named := ["bedrock/land.layers", "bedrock/kind.rows"], apart := false, laid := [("bedrock/kind.rows", laid_bedrock_kind_rows), ("bedrock/land.layers", laid_bedrock_land_layers)] }
def LandSameSaid : Prop := landSameRow.holds Tryd.pinned (OpenSpec.ofChange landSameSpec)

/-- ITS FALSE NEIGHBOUR: 'it returns false'. Refute it at one input. -/
def landSameWrong : ChangeSpec := { name := "landSame", fn := fun _ => fun
  | [d1, d2] => { results := [.lit (.bool false)], args := [d1, d2] }
  | _ => none }
def LandSameWrongFalsely : Prop := landSameRow.holds Tryd.pinned (OpenSpec.ofChange landSameWrong)

/-- 'bedrocklaw08.LandFlat': WHATEVER THE INPUT: true; the input reads as it did. -/
def landFlatSpec : ChangeSpec := { name := "landFlat", fn := fun _ => fun
  | [d1, d2, d3] => { results := [.lit (.bool true)], args := [d1, d2, d3] }
  | _ => none }
def landFlatRow : OpenClaim := { program := "ytjjnmkbjohiekaadoor", sum := "4df0436b1ce8e5fd74fe483d79fac275a5ea9bc1a18dd033c245b5234a8a7b0b", func := "bedrock/bedrocklaw08.LandFlat", spec := "landFlat", named := ["bedrock/land.layers"], apart := false, laid := [("bedrock/land.layers", laid_bedrock_land_layers)] }
def LandFlatSaid : Prop := landFlatRow.holds Tryd.pinned (OpenSpec.ofChange landFlatSpec)

/-- ITS FALSE NEIGHBOUR: 'it returns false'. Refute it at one input. -/
def landFlatWrong : ChangeSpec := { name := "landFlat", fn := fun _ => fun
  | [d1, d2, d3] => { results := [.lit (.bool false)], args := [d1, d2, d3] }
  | _ => none }
def LandFlatWrongFalsely : Prop := landFlatRow.holds Tryd.pinned (OpenSpec.ofChange landFlatWrong)

/-- 'bedrocklaw08.LandOther': WHATEVER THE INPUT: true; the input reads as it did. -/
def landOtherSpec : ChangeSpec := { name := "landOther", fn := fun _ => fun
  | [d1, d2] => { results := [.lit (.bool true)], args := [d1, d2] }
  | _ => none }
def landOtherRow : OpenClaim := { program := "ytjjnmkbjohiekaadoor", sum := "4df0436b1ce8e5fd74fe483d79fac275a5ea9bc1a18dd033c245b5234a8a7b0b", func := "bedrock/bedrocklaw08.LandOther", spec := "landOther", named := ["bedrock/land.layers"], apart := false, laid := [("bedrock/land.layers", laid_bedrock_land_layers)] }
def LandOtherSaid : Prop := landOtherRow.holds Tryd.pinned (OpenSpec.ofChange landOtherSpec)

/-- ITS FALSE NEIGHBOUR: 'it returns false'. Refute it at one input. -/
def landOtherWrong : ChangeSpec := { name := "landOther", fn := fun _ => fun
  | [d1, d2] => { results := [.lit (.bool false)], args := [d1, d2] }
  | _ => none }
def LandOtherWrongFalsely : Prop := landOtherRow.holds Tryd.pinned (OpenSpec.ofChange landOtherWrong)

/-- 'bedrocklaw08.LandCounts': WHATEVER THE INPUT: true; the input reads as it did. -/
def landCountsSpec : ChangeSpec := { name := "landCounts", fn := fun _ => fun
  | [d] => { results := [.lit (.bool true)], args := [d] }
  | _ => none }
def landCountsRow : OpenClaim := { program := "ytjjnmkbjohiekaadoor", sum := "4df0436b1ce8e5fd74fe483d79fac275a5ea9bc1a18dd033c245b5234a8a7b0b", func := "bedrock/bedrocklaw08.LandCounts", spec := "landCounts", named := ["bedrock/land.layers", "bedrock/kind.rows"], apart := false, laid := [("bedrock/kind.rows", laid_bedrock_kind_rows), ("bedrock/land.layers", laid_bedrock_land_layers)] }
def LandCountsSaid : Prop := landCountsRow.holds Tryd.pinned (OpenSpec.ofChange landCountsSpec)

/-- ITS FALSE NEIGHBOUR: 'it returns false'. Refute it at one input. -/
def landCountsWrong : ChangeSpec := { name := "landCounts", fn := fun _ => fun
  | [d] => { results := [.lit (.bool false)], args := [d] }
  | _ => none }
def LandCountsWrongFalsely : Prop := landCountsRow.holds Tryd.pinned (OpenSpec.ofChange landCountsWrong)

/-- 'bedrocklaw08.LandKnown': WHATEVER THE INPUT: true; the input reads as it did. -/
def landKnownSpec : ChangeSpec := { name := "landKnown", fn := fun _ => fun
  | [] => { results := [.lit (.bool true)], args := [] }
  | _ => none }
def landKnownRow : OpenClaim := { program := "ytjjnmkbjohiekaadoor", sum := "4df0436b1ce8e5fd74fe483d79fac275a5ea9bc1a18dd033c245b5234a8a7b0b", func := "bedrock/bedrocklaw08.LandKnown", spec := "landKnown", unfollowed := true, recurses := true, named := ["bedrock/land.layers", "bedrock/kind.rows"], apart := false, laid := [("bedrock/kind.rows", laid_bedrock_kind_rows), ("bedrock/land.layers", laid_bedrock_land_layers)] }
def LandKnownSaid : Prop := landKnownRow.holds Tryd.pinned (OpenSpec.ofChange landKnownSpec)

/-- ITS FALSE NEIGHBOUR: 'it returns false'. Refute it at one input. -/
def landKnownWrong : ChangeSpec := { name := "landKnown", fn := fun _ => fun
  | [] => { results := [.lit (.bool false)], args := [] }
  | _ => none }
def LandKnownWrongFalsely : Prop := landKnownRow.holds Tryd.pinned (OpenSpec.ofChange landKnownWrong)

/- THE SECOND FORM. 'bulk': how many values and letters a reading holds, each counted each time it is reached (what is shared counts as often as it is met; a slice's spare places count too). A statement '..UptoSaid' is the law's where the arguments, and the package variables that the reading takes, are together of bulk at most 1048576: NARROWER than '..Said'. Prove '..Said' where nothing that the law and all that it calls make is longer than what came in: it says more and counts as full. Else prove '..UptoSaid'. A law counts once. -/
mutual
def uptoBulk {H : Type} : DataW H → Nat
  | .lit (.string bytes) => bytes.length + 1
  | .lit _ => 1
  | .nil => 1
  | .ptr d => uptoBulk d + 1
  | .slice elems spare => uptoBulkAll elems + uptoBulkAll spare + 1
  | .agg parts => uptoBulkAll parts + 1
  | .iface _ d => uptoBulk d + 1
  | .map entries => uptoBulkEntries entries + 1
  | .held _ => 1
def uptoBulkAll {H : Type} : List (DataW H) → Nat
  | [] => 0
  | d :: r => uptoBulk d + uptoBulkAll r
def uptoBulkEntries {H : Type} : List (Lit × DataW H) → Nat
  | [] => 0
  | x :: r => uptoBulkEntry x + uptoBulkEntries r
def uptoBulkEntry {H : Type} : Lit × DataW H → Nat
  | (.string bytes, d) => bytes.length + uptoBulk d + 1
  | (_, d) => uptoBulk d + 1
 end
def uptoSmall : (H : Type) → List (DataW H) → Bool := fun _ ds => decide (uptoBulkAll ds ≤ 1048576)
def OpenSpec.upto (s : _root_.Go.ChangeSpec) : _root_.Go.OpenSpec := { _root_.Go.OpenSpec.ofChange s with cond := some uptoSmall }

/-- 'bedrocklaw08.LandCells', WHERE WHAT IT READS IS OF BULK AT MOST 1048576: true; the input reads as it did. -/
def landCellsUptoRow : OpenClaim := { program := "ytjjnmkbjohiekaadoor", sum := "4df0436b1ce8e5fd74fe483d79fac275a5ea9bc1a18dd033c245b5234a8a7b0b", func := "bedrock/bedrocklaw08.LandCells", spec := "landCells", named := ["bedrock/land.layers"], apart := false, laid := [("bedrock/land.layers", laid_bedrock_land_layers)], narrowed := true }
def LandCellsUptoSaid : Prop := landCellsUptoRow.holds Tryd.pinned (OpenSpec.upto landCellsSpec)

/-- 'bedrocklaw08.LandChunks', WHERE WHAT IT READS IS OF BULK AT MOST 1048576: true; the input reads as it did. -/
def landChunksUptoRow : OpenClaim := { program := "ytjjnmkbjohiekaadoor", sum := "4df0436b1ce8e5fd74fe483d79fac275a5ea9bc1a18dd033c245b5234a8a7b0b", func := "bedrock/bedrocklaw08.LandChunks", spec := "landChunks", named := ["bedrock/land.layers", "bedrock/kind.rows"], apart := false, laid := [("bedrock/kind.rows", laid_bedrock_kind_rows), ("bedrock/land.layers", laid_bedrock_land_layers)], narrowed := true }
def LandChunksUptoSaid : Prop := landChunksUptoRow.holds Tryd.pinned (OpenSpec.upto landChunksSpec)

/-- 'bedrocklaw08.LandSame', WHERE WHAT IT READS IS OF BULK AT MOST 1048576: true; the input reads as it did. -/
def landSameUptoRow : OpenClaim := { program := "ytjjnmkbjohiekaadoor", sum := "4df0436b1ce8e5fd74fe483d79fac275a5ea9bc1a18dd033c245b5234a8a7b0b", func := "bedrock/bedrocklaw08.LandSame", spec := "landSame", named := ["bedrock/land.layers", "bedrock/kind.rows"], apart := false, laid := [("bedrock/kind.rows", laid_bedrock_kind_rows), ("bedrock/land.layers", laid_bedrock_land_layers)], narrowed := true }
def LandSameUptoSaid : Prop := landSameUptoRow.holds Tryd.pinned (OpenSpec.upto landSameSpec)

/-- 'bedrocklaw08.LandFlat', WHERE WHAT IT READS IS OF BULK AT MOST 1048576: true; the input reads as it did. -/
def landFlatUptoRow : OpenClaim := { program := "ytjjnmkbjohiekaadoor", sum := "4df0436b1ce8e5fd74fe483d79fac275a5ea9bc1a18dd033c245b5234a8a7b0b", func := "bedrock/bedrocklaw08.LandFlat", spec := "landFlat", named := ["bedrock/land.layers"], apart := false, laid := [("bedrock/land.layers", laid_bedrock_land_layers)], narrowed := true }
def LandFlatUptoSaid : Prop := landFlatUptoRow.holds Tryd.pinned (OpenSpec.upto landFlatSpec)

/-- 'bedrocklaw08.LandOther', WHERE WHAT IT READS IS OF BULK AT MOST 1048576: true; the input reads as it did. -/
def landOtherUptoRow : OpenClaim := { program := "ytjjnmkbjohiekaadoor", sum := "4df0436b1ce8e5fd74fe483d79fac275a5ea9bc1a18dd033c245b5234a8a7b0b", func := "bedrock/bedrocklaw08.LandOther", spec := "landOther", named := ["bedrock/land.layers"], apart := false, laid := [("bedrock/land.layers", laid_bedrock_land_layers)], narrowed := true }
def LandOtherUptoSaid : Prop := landOtherUptoRow.holds Tryd.pinned (OpenSpec.upto landOtherSpec)

/-- 'bedrocklaw08.LandCounts', WHERE WHAT IT READS IS OF BULK AT MOST 1048576: true; the input reads as it did. -/
def landCountsUptoRow : OpenClaim := { program := "ytjjnmkbjohiekaadoor", sum := "4df0436b1ce8e5fd74fe483d79fac275a5ea9bc1a18dd033c245b5234a8a7b0b", func := "bedrock/bedrocklaw08.LandCounts", spec := "landCounts", named := ["bedrock/land.layers", "bedrock/kind.rows"], apart := false, laid := [("bedrock/kind.rows", laid_bedrock_kind_rows), ("bedrock/land.layers", laid_bedrock_land_layers)], narrowed := true }
def LandCountsUptoSaid : Prop := landCountsUptoRow.holds Tryd.pinned (OpenSpec.upto landCountsSpec)

/-- 'bedrocklaw08.LandKnown', WHERE WHAT IT READS IS OF BULK AT MOST 1048576: true; the input reads as it did. -/
def landKnownUptoRow : OpenClaim := { program := "ytjjnmkbjohiekaadoor", sum := "4df0436b1ce8e5fd74fe483d79fac275a5ea9bc1a18dd033c245b5234a8a7b0b", func := "bedrock/bedrocklaw08.LandKnown", spec := "landKnown", unfollowed := true, recurses := true, named := ["bedrock/land.layers", "bedrock/kind.rows"], apart := false, laid := [("bedrock/kind.rows", laid_bedrock_kind_rows), ("bedrock/land.layers", laid_bedrock_land_layers)], narrowed := true }
def LandKnownUptoSaid : Prop := landKnownUptoRow.holds Tryd.pinned (OpenSpec.upto landKnownSpec)

end Rows
end Go.Proofs.YtjjnmkbjohiekaaDoor
