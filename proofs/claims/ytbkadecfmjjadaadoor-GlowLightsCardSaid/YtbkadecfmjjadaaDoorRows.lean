/-
  NARROWER THAN 'FOR EVERY INPUT', by the rows' own cells (each row's printed sentence says how): GlowLights: laid · GlowSteps: laid · GlowNear: laid · GlowTorch: laid · GlowStone: laid · GlowLamp: laid · GlowTurned: laid · GlowLand: laid · GlowKnown: laid.
  DERIVED. THE GIVEN ROWS OF THIS SEAT. 9 by the template 'for every input the law returns true; each argument reads behind the call as it read before'; 0 by the template 'total and deterministic' (their statements: YtbkadecfmjjadaaDoorTotals.lean).
  GIVEN WITH THE SEED: the statements are not yours to turn. If you find one false, say at which input.
  Laid BY PROGRAM, IN A SANDBOX (cutbox-rows.mjs): the forced cells as the released guide's own fill.sh prints them over the translation 421aa93e6098f3c5… (all of the seat's roots in one cut). By AI agents, Wed Nov 11 2026. No macro, syntax, notation, axiom, sorry.
-/
import Derived.Test.YtbkadecfmjjadaaDoorChecked
import GoSem.Claim
import GoSem.ClaimJoined
import GoSem.ClaimMapViews
import Derived.JoinedTies
import Derived.KernelRfl
namespace Go.Proofs.YtbkadecfmjjadaaDoor
/- THE CELL 'sum', in the pinned program and in every row, IS THE sha256 OF THE DUMP (.gsa) THAT YtbkadecfmjjadaaDoorProg.lean LOADS. Nothing in Lean hashes anything: it is a label: what it is worth is what the hold of that sum in a sandbox is worth. -/
noncomputable def Tryd.pinned : Pinned := { name := "ytbkadecfmjjadaadoor", sum := "421aa93e6098f3c5fcf664344d04157f9c34aed868f49bd8323b0280436e1fd6", checked := Tryd.checked }
namespace Rows
def none {H : Type} : Left H := { results := [], args := [] }

/- WHAT THE LISTED PACKAGE-LEVEL VARIABLES READ AS WHEN THE CALL BEGINS. Each datum BY PROGRAM (the guide's laid-datum.mjs) off the statement by which the dump's own 'gosem.cut.vars' lays the variable. In a bare row this is a premise. The card (YtbkadecfmjjadaaDoorCards.lean) ties it to the program's text. -/
def laid_bedrock_kind_rows {H : Type} : DataW H := .agg [.agg [.lit (.string [97, 105, 114]), .lit (.int .u8 0), .lit (.int .u8 0), .lit (.int .u8 13)], .agg [.lit (.string [98, 101, 100, 114, 111, 99, 107]), .lit (.int .u8 0), .lit (.int .u8 0), .lit (.int .u8 0)], .agg [.lit (.string [115, 116, 111, 110, 101]), .lit (.int .u8 0), .lit (.int .u8 0), .lit (.int .u8 2)], .agg [.lit (.string [115, 111, 105, 108]), .lit (.int .u8 0), .lit (.int .u8 0), .lit (.int .u8 2)], .agg [.lit (.string [115, 97, 110, 100]), .lit (.int .u8 0), .lit (.int .u8 0), .lit (.int .u8 18)], .agg [.lit (.string [103, 114, 97, 118, 101, 108]), .lit (.int .u8 0), .lit (.int .u8 0), .lit (.int .u8 18)], .agg [.lit (.string [119, 111, 111, 100]), .lit (.int .u8 0), .lit (.int .u8 0), .lit (.int .u8 34)], .agg [.lit (.string [108, 101, 97, 118, 101, 115]), .lit (.int .u8 0), .lit (.int .u8 0), .lit (.int .u8 34)], .agg [.lit (.string [97, 115, 104]), .lit (.int .u8 0), .lit (.int .u8 0), .lit (.int .u8 18)], .agg [.lit (.string [103, 108, 97, 115, 115]), .lit (.int .u8 0), .lit (.int .u8 0), .lit (.int .u8 3)], .agg [.lit (.string [109, 111, 118, 101, 114]), .lit (.int .u8 0), .lit (.int .u8 0), .lit (.int .u8 0)], .agg [.lit (.string [116, 111, 114, 99, 104]), .lit (.int .u8 1), .lit (.int .u8 15), .lit (.int .u8 13)], .agg [.lit (.string [112, 108, 97, 110, 116]), .lit (.int .u8 0), .lit (.int .u8 3), .lit (.int .u8 45)], .agg [.lit (.string [119, 97, 116, 101, 114]), .lit (.int .u8 0), .lit (.int .u8 7), .lit (.int .u8 5)], .agg [.lit (.string [102, 105, 114, 101]), .lit (.int .u8 0), .lit (.int .u8 1), .lit (.int .u8 13)]]
def laid_bedrock_land_layers {H : Type} : DataW H := .agg [.lit (.int .u8 1), .lit (.int .u8 2), .lit (.int .u8 3), .lit (.int .u8 0)]

/-- 'bedrocklaw10.GlowLights': WHATEVER THE INPUT: true; the input reads as it did. -/
def glowLightsSpec : ChangeSpec := { name := "glowLights", fn := fun _ => fun
  | [d] => { results := [.lit (.bool true)], args := [d] }
  | _ => none }
def glowLightsRow : OpenClaim := { program := "ytbkadecfmjjadaadoor", sum := "421aa93e6098f3c5fcf664344d04157f9c34aed868f49bd8323b0280436e1fd6", func := "bedrock/bedrocklaw10.GlowLights", spec := "glowLights", unfollowed := true, recurses := true, named := ["bedrock/kind.rows"], apart := false, laid := [("bedrock/kind.rows", laid_bedrock_kind_rows)] }
def GlowLightsSaid : Prop := glowLightsRow.holds Tryd.pinned (OpenSpec.ofChange glowLightsSpec)

/-- ITS FALSE NEIGHBOUR: 'it returns false'. Refute it at one input. -/
def glowLightsWrong : ChangeSpec := { name := "glowLights", fn := fun _ => fun
  | [d] => { results := [.lit (.bool false)], args := [d] }
  | _ => none }
def GlowLightsWrongFalsely : Prop := glowLightsRow.holds Tryd.pinned (OpenSpec.ofChange glowLightsWrong)

/-- 'bedrocklaw10.GlowSteps': WHATEVER THE INPUT: true; the input reads as it did. -/
def glowStepsSpec : ChangeSpec := { name := "glowSteps", fn := fun _ => fun
  | [d] => { results := [.lit (.bool true)], args := [d] }
  | _ => none }
def glowStepsRow : OpenClaim := { program := "ytbkadecfmjjadaadoor", sum := "421aa93e6098f3c5fcf664344d04157f9c34aed868f49bd8323b0280436e1fd6", func := "bedrock/bedrocklaw10.GlowSteps", spec := "glowSteps", unfollowed := true, recurses := true, named := ["bedrock/kind.rows"], apart := false, laid := [("bedrock/kind.rows", laid_bedrock_kind_rows)] }
def GlowStepsSaid : Prop := glowStepsRow.holds Tryd.pinned (OpenSpec.ofChange glowStepsSpec)

/-- ITS FALSE NEIGHBOUR: 'it returns false'. Refute it at one input. -/
def glowStepsWrong : ChangeSpec := { name := "glowSteps", fn := fun _ => fun
  | [d] => { results := [.lit (.bool false)], args := [d] }
  | _ => none }
def GlowStepsWrongFalsely : Prop := glowStepsRow.holds Tryd.pinned (OpenSpec.ofChange glowStepsWrong)

/-- 'bedrocklaw10.GlowNear': WHATEVER THE INPUT: true; the input reads as it did. -/
def glowNearSpec : ChangeSpec := { name := "glowNear", fn := fun _ => fun
  | [d] => { results := [.lit (.bool true)], args := [d] }
  | _ => none }
def glowNearRow : OpenClaim := { program := "ytbkadecfmjjadaadoor", sum := "421aa93e6098f3c5fcf664344d04157f9c34aed868f49bd8323b0280436e1fd6", func := "bedrock/bedrocklaw10.GlowNear", spec := "glowNear", unfollowed := true, recurses := true, named := ["bedrock/kind.rows"], apart := false, laid := [("bedrock/kind.rows", laid_bedrock_kind_rows)] }
def GlowNearSaid : Prop := glowNearRow.holds Tryd.pinned (OpenSpec.ofChange glowNearSpec)

/-- ITS FALSE NEIGHBOUR: 'it returns false'. Refute it at one input. -/
def glowNearWrong : ChangeSpec := { name := "glowNear", fn := fun _ => fun
  | [d] => { results := [.lit (.bool false)], args := [d] }
  | _ => none }
def GlowNearWrongFalsely : Prop := glowNearRow.holds Tryd.pinned (OpenSpec.ofChange glowNearWrong)

/-- 'bedrocklaw10.GlowTorch': WHATEVER THE INPUT: true; the input reads as it did. -/
def glowTorchSpec : ChangeSpec := { name := "glowTorch", fn := fun _ => fun
  | [d1, d2, d3] => { results := [.lit (.bool true)], args := [d1, d2, d3] }
  | _ => none }
def glowTorchRow : OpenClaim := { program := "ytbkadecfmjjadaadoor", sum := "421aa93e6098f3c5fcf664344d04157f9c34aed868f49bd8323b0280436e1fd6", func := "bedrock/bedrocklaw10.GlowTorch", spec := "glowTorch", unfollowed := true, recurses := true, named := ["bedrock/kind.rows"], apart := false, laid := [("bedrock/kind.rows", laid_bedrock_kind_rows)] }
def GlowTorchSaid : Prop := glowTorchRow.holds Tryd.pinned (OpenSpec.ofChange glowTorchSpec)

/-- ITS FALSE NEIGHBOUR: 'it returns false'. Refute it at one input. -/
def glowTorchWrong : ChangeSpec := { name := "glowTorch", fn := fun _ => fun
  | [d1, d2, d3] => { results := [.lit (.bool false)], args := [d1, d2, d3] }
  | _ => none }
def GlowTorchWrongFalsely : Prop := glowTorchRow.holds Tryd.pinned (OpenSpec.ofChange glowTorchWrong)

/-- 'bedrocklaw10.GlowStone': WHATEVER THE INPUT: true; the input reads as it did. -/
def glowStoneSpec : ChangeSpec := { name := "glowStone", fn := fun _ => fun
  | [d1, d2] => { results := [.lit (.bool true)], args := [d1, d2] }
  | _ => none }
def glowStoneRow : OpenClaim := { program := "ytbkadecfmjjadaadoor", sum := "421aa93e6098f3c5fcf664344d04157f9c34aed868f49bd8323b0280436e1fd6", func := "bedrock/bedrocklaw10.GlowStone", spec := "glowStone", unfollowed := true, recurses := true, named := ["bedrock/kind.rows"], apart := false, laid := [("bedrock/kind.rows", laid_bedrock_kind_rows)] }
def GlowStoneSaid : Prop := glowStoneRow.holds Tryd.pinned (OpenSpec.ofChange glowStoneSpec)

/-- ITS FALSE NEIGHBOUR: 'it returns false'. Refute it at one input. -/
def glowStoneWrong : ChangeSpec := { name := "glowStone", fn := fun _ => fun
  | [d1, d2] => { results := [.lit (.bool false)], args := [d1, d2] }
  | _ => none }
def GlowStoneWrongFalsely : Prop := glowStoneRow.holds Tryd.pinned (OpenSpec.ofChange glowStoneWrong)

/-- 'bedrocklaw10.GlowLamp': WHATEVER THE INPUT: true; the input reads as it did. -/
def glowLampSpec : ChangeSpec := { name := "glowLamp", fn := fun _ => fun
  | [d1, d2] => { results := [.lit (.bool true)], args := [d1, d2] }
  | _ => none }
def glowLampRow : OpenClaim := { program := "ytbkadecfmjjadaadoor", sum := "421aa93e6098f3c5fcf664344d04157f9c34aed868f49bd8323b0280436e1fd6", func := "bedrock/bedrocklaw10.GlowLamp", spec := "glowLamp", unfollowed := true, recurses := true, named := ["bedrock/kind.rows"], apart := false, laid := [("bedrock/kind.rows", laid_bedrock_kind_rows)] }
def GlowLampSaid : Prop := glowLampRow.holds Tryd.pinned (OpenSpec.ofChange glowLampSpec)

/-- ITS FALSE NEIGHBOUR: 'it returns false'. Refute it at one input. -/
def glowLampWrong : ChangeSpec := { name := "glowLamp", fn := fun _ => fun
  | [d1, d2] => { results := [.lit (.bool false)], args := [d1, d2] }
  | _ => none }
def GlowLampWrongFalsely : Prop := glowLampRow.holds Tryd.pinned (OpenSpec.ofChange glowLampWrong)

/-- 'bedrocklaw10.GlowTurned': WHATEVER THE INPUT: true; the input reads as it did. -/
def glowTurnedSpec : ChangeSpec := { name := "glowTurned", fn := fun _ => fun
  | [d] => { results := [.lit (.bool true)], args := [d] }
  | _ => none }
def glowTurnedRow : OpenClaim := { program := "ytbkadecfmjjadaadoor", sum := "421aa93e6098f3c5fcf664344d04157f9c34aed868f49bd8323b0280436e1fd6", func := "bedrock/bedrocklaw10.GlowTurned", spec := "glowTurned", unfollowed := true, recurses := true, named := ["bedrock/kind.rows"], apart := false, laid := [("bedrock/kind.rows", laid_bedrock_kind_rows)] }
def GlowTurnedSaid : Prop := glowTurnedRow.holds Tryd.pinned (OpenSpec.ofChange glowTurnedSpec)

/-- ITS FALSE NEIGHBOUR: 'it returns false'. Refute it at one input. -/
def glowTurnedWrong : ChangeSpec := { name := "glowTurned", fn := fun _ => fun
  | [d] => { results := [.lit (.bool false)], args := [d] }
  | _ => none }
def GlowTurnedWrongFalsely : Prop := glowTurnedRow.holds Tryd.pinned (OpenSpec.ofChange glowTurnedWrong)

/-- 'bedrocklaw10.GlowLand': WHATEVER THE INPUT: true; the input reads as it did. -/
def glowLandSpec : ChangeSpec := { name := "glowLand", fn := fun _ => fun
  | [d1, d2, d3] => { results := [.lit (.bool true)], args := [d1, d2, d3] }
  | _ => none }
def glowLandRow : OpenClaim := { program := "ytbkadecfmjjadaadoor", sum := "421aa93e6098f3c5fcf664344d04157f9c34aed868f49bd8323b0280436e1fd6", func := "bedrock/bedrocklaw10.GlowLand", spec := "glowLand", unfollowed := true, recurses := true, named := ["bedrock/land.layers", "bedrock/kind.rows"], apart := false, laid := [("bedrock/kind.rows", laid_bedrock_kind_rows), ("bedrock/land.layers", laid_bedrock_land_layers)] }
def GlowLandSaid : Prop := glowLandRow.holds Tryd.pinned (OpenSpec.ofChange glowLandSpec)

/-- ITS FALSE NEIGHBOUR: 'it returns false'. Refute it at one input. -/
def glowLandWrong : ChangeSpec := { name := "glowLand", fn := fun _ => fun
  | [d1, d2, d3] => { results := [.lit (.bool false)], args := [d1, d2, d3] }
  | _ => none }
def GlowLandWrongFalsely : Prop := glowLandRow.holds Tryd.pinned (OpenSpec.ofChange glowLandWrong)

/-- 'bedrocklaw10.GlowKnown': WHATEVER THE INPUT: true; the input reads as it did. -/
def glowKnownSpec : ChangeSpec := { name := "glowKnown", fn := fun _ => fun
  | [] => { results := [.lit (.bool true)], args := [] }
  | _ => none }
def glowKnownRow : OpenClaim := { program := "ytbkadecfmjjadaadoor", sum := "421aa93e6098f3c5fcf664344d04157f9c34aed868f49bd8323b0280436e1fd6", func := "bedrock/bedrocklaw10.GlowKnown", spec := "glowKnown", unfollowed := true, recurses := true, named := ["bedrock/kind.rows"], apart := false, laid := [("bedrock/kind.rows", laid_bedrock_kind_rows)] }
def GlowKnownSaid : Prop := glowKnownRow.holds Tryd.pinned (OpenSpec.ofChange glowKnownSpec)

/-- ITS FALSE NEIGHBOUR: 'it returns false'. Refute it at one input. -/
def glowKnownWrong : ChangeSpec := { name := "glowKnown", fn := fun _ => fun
  | [] => { results := [.lit (.bool false)], args := [] }
  | _ => none }
def GlowKnownWrongFalsely : Prop := glowKnownRow.holds Tryd.pinned (OpenSpec.ofChange glowKnownWrong)

/- THE SECOND FORM. 'bulk': how many values and letters a reading holds, each counted each time it is reached (what is shared counts as often as it is met; a slice's spare places count too). A statement '..UptoSaid' is the law's where the arguments, and the package variables that the reading takes, are together of bulk at most 1048576: NARROWER than '..Said'. Prove '..Said' where nothing that the law and all that it calls make is longer than what came in: it says more and counts as full. Else prove '..UptoSaid'. A law counts once. -/
mutual
def uptoBulk {H : Type} : DataW H → Nat
  | .lit (.string bytes) => bytes.length + 1
  | .lit _ => 1
  | .nil => 1
  | .ptr d => uptoBulk d + 1
  | .slice elems spare => uptoBulkAll elems + uptoBulkAll spare + 1
  | .agg parts => uptoBulkAll parts + 1
  | .iface _ d => uptoBulk d + 1
  | .map entries => uptoBulkEntries entries + 1
  | .held _ => 1
def uptoBulkAll {H : Type} : List (DataW H) → Nat
  | [] => 0
  | d :: r => uptoBulk d + uptoBulkAll r
def uptoBulkEntries {H : Type} : List (Lit × DataW H) → Nat
  | [] => 0
  | x :: r => uptoBulkEntry x + uptoBulkEntries r
def uptoBulkEntry {H : Type} : Lit × DataW H → Nat
  | (.string bytes, d) => bytes.length + uptoBulk d + 1
  | (_, d) => uptoBulk d + 1
 end
def uptoSmall : (H : Type) → List (DataW H) → Bool := fun _ ds => decide (uptoBulkAll ds ≤ 1048576)
def OpenSpec.upto (s : _root_.Go.ChangeSpec) : _root_.Go.OpenSpec := { _root_.Go.OpenSpec.ofChange s with cond := some uptoSmall }

/-- 'bedrocklaw10.GlowLights', WHERE WHAT IT READS IS OF BULK AT MOST 1048576: true; the input reads as it did. -/
def glowLightsUptoRow : OpenClaim := { program := "ytbkadecfmjjadaadoor", sum := "421aa93e6098f3c5fcf664344d04157f9c34aed868f49bd8323b0280436e1fd6", func := "bedrock/bedrocklaw10.GlowLights", spec := "glowLights", unfollowed := true, recurses := true, named := ["bedrock/kind.rows"], apart := false, laid := [("bedrock/kind.rows", laid_bedrock_kind_rows)], narrowed := true }
def GlowLightsUptoSaid : Prop := glowLightsUptoRow.holds Tryd.pinned (OpenSpec.upto glowLightsSpec)

/-- 'bedrocklaw10.GlowSteps', WHERE WHAT IT READS IS OF BULK AT MOST 1048576: true; the input reads as it did. -/
def glowStepsUptoRow : OpenClaim := { program := "ytbkadecfmjjadaadoor", sum := "421aa93e6098f3c5fcf664344d04157f9c34aed868f49bd8323b0280436e1fd6", func := "bedrock/bedrocklaw10.GlowSteps", spec := "glowSteps", unfollowed := true, recurses := true, named := ["bedrock/kind.rows"], apart := false, laid := [("bedrock/kind.rows", laid_bedrock_kind_rows)], narrowed := true }
def GlowStepsUptoSaid : Prop := glowStepsUptoRow.holds Tryd.pinned (OpenSpec.upto glowStepsSpec)

/-- 'bedrocklaw10.GlowNear', WHERE WHAT IT READS IS OF BULK AT MOST 1048576: true; the input reads as it did. -/
def glowNearUptoRow : OpenClaim := { program := "ytbkadecfmjjadaadoor", sum := "421aa93e6098f3c5fcf664344d04157f9c34aed868f49bd8323b0280436e1fd6", func := "bedrock/bedrocklaw10.GlowNear", spec := "glowNear", unfollowed := true, recurses := true, named := ["bedrock/kind.rows"], apart := false, laid := [("bedrock/kind.rows", laid_bedrock_kind_rows)], narrowed := true }
def GlowNearUptoSaid : Prop := glowNearUptoRow.holds Tryd.pinned (OpenSpec.upto glowNearSpec)

/-- 'bedrocklaw10.GlowTorch', WHERE WHAT IT READS IS OF BULK AT MOST 1048576: true; the input reads as it did. -/
def glowTorchUptoRow : OpenClaim := { program := "ytbkadecfmjjadaadoor", sum := "421aa93e6098f3c5fcf664344d04157f9c34aed868f49bd8323b0280436e1fd6", func := "bedrock/bedrocklaw10.GlowTorch", spec := "glowTorch", unfollowed := true, recurses := true, named := ["bedrock/kind.rows"], apart := false, laid := [("bedrock/kind.rows", laid_bedrock_kind_rows)], narrowed := true }
def GlowTorchUptoSaid : Prop := glowTorchUptoRow.holds Tryd.pinned (OpenSpec.upto glowTorchSpec)

/-- 'bedrocklaw10.GlowStone', WHERE WHAT IT READS IS OF BULK AT MOST 1048576: true; the input reads as it did. -/
def glowStoneUptoRow : OpenClaim := { program := "ytbkadecfmjjadaadoor", sum := "421aa93e6098f3c5fcf664344d04157f9c34aed868f49bd8323b0280436e1fd6", func := "bedrock/bedrocklaw10.GlowStone", spec := "glowStone", unfollowed := true, recurses := true, named := ["bedrock/kind.rows"], apart := false, laid := [("bedrock/kind.rows", laid_bedrock_kind_rows)], narrowed := true }
def GlowStoneUptoSaid : Prop := glowStoneUptoRow.holds Tryd.pinned (OpenSpec.upto glowStoneSpec)

/-- 'bedrocklaw10.GlowLamp', WHERE WHAT IT READS IS OF BULK AT MOST 1048576: true; the input reads as it did. -/
def glowLampUptoRow : OpenClaim := { program := "ytbkadecfmjjadaadoor", sum := "421aa93e6098f3c5fcf664344d04157f9c34aed868f49bd8323b0280436e1fd6", func := "bedrock/bedrocklaw10.GlowLamp", spec := "glowLamp", unfollowed := true, recurses := true, named := ["bedrock/kind.rows"], apart := false, laid := [("bedrock/kind.rows", laid_bedrock_kind_rows)], narrowed := true }
def GlowLampUptoSaid : Prop := glowLampUptoRow.holds Tryd.pinned (OpenSpec.upto glowLampSpec)

/-- 'bedrocklaw10.GlowTurned', WHERE WHAT IT READS IS OF BULK AT MOST 1048576: true; the input reads as it did. -/
def glowTurnedUptoRow : OpenClaim := { program := "ytbkadecfmjjadaadoor", sum := "421aa93e6098f3c5fcf664344d04157f9c34aed868f49bd8323b0280436e1fd6", func := "bedrock/bedrocklaw10.GlowTurned", spec := "glowTurned", unfollowed := true, recurses := true, named := ["bedrock/kind.rows"], apart := false, laid := [("bedrock/kind.rows", laid_bedrock_kind_rows)], narrowed := true }
def GlowTurnedUptoSaid : Prop := glowTurnedUptoRow.holds Tryd.pinned (OpenSpec.upto glowTurnedSpec)

/-- 'bedrocklaw10.GlowLand', WHERE WHAT IT READS IS OF BULK AT MOST 1048576: true; the input reads as it did. -/
def glowLandUptoRow : OpenClaim := { program := "ytbkadecfmjjadaadoor", sum := "421aa93e6098f3c5fcf664344d04157f9c34aed868f49bd8323b0280436e1fd6", func := "bedrock/bedrocklaw10.GlowLand", spec := "glowLand", unfollowed := true, recurses := true, named := ["bedrock/land.layers", "bedrock/kind.rows"], apart := false, laid := [("bedrock/kind.rows", laid_bedrock_kind_rows), ("bedrock/land.layers", laid_bedrock_land_layers)], narrowed := true }
def GlowLandUptoSaid : Prop := glowLandUptoRow.holds Tryd.pinned (OpenSpec.upto glowLandSpec)

/-- 'bedrocklaw10.GlowKnown', WHERE WHAT IT READS IS OF BULK AT MOST 1048576: true; the input reads as it did. -/
def glowKnownUptoRow : OpenClaim := { program := "ytbkadecfmjjadaadoor", sum := "421aa93e6098f3c5fcf664344d04157f9c34aed868f49bd8323b0280436e1fd6", func := "bedrock/bedrocklaw10.GlowKnown", spec := "glowKnown", unfollowed := true, recurses := true, named := ["bedrock/kind.rows"], apart := false, laid := [("bedrock/kind.rows", laid_bedrock_kind_rows)], narrowed := true }
def GlowKnownUptoSaid : Prop := glowKnownUptoRow.holds Tryd.pinned (OpenSpec.upto glowKnownSpec)

end Rows
end Go.Proofs.YtbkadecfmjjadaaDoor
