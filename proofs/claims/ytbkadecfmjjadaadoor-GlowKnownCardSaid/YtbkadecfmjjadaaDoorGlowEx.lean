/-
  The chapter's three boxes of light, reckoned; rows of cells that are made.
-/
import Derived.Test.YtbkadecfmjjadaaDoorGlowWorks
namespace Go.Proofs.YtbkadecfmjjadaaDoor
open Go.RowKit
set_option linter.unusedVariables false
set_option linter.unusedSimpArgs false
namespace GlowW
open BlkP RowG KindP KindW
theorem ex0_is : lightA 1 3 1 [(0, 0), (0, 0), (0, 0)] = [(15, 0), (15, 0), (15, 0)] := by decide +kernel
theorem ex2_is : lightA 3 2 1 [(0, 0), (0, 0), (2, 0), (2, 0), (0, 0), (0, 0)] = [(14, 0), (15, 0), (0, 0), (0, 0), (15, 0), (15, 0)] := by decide +kernel
theorem ex3_is : lightA 4 2 1 [(11, 3), (0, 0), (0, 0), (0, 0), (2, 0), (2, 0), (2, 0), (2, 0)] = [(0, 3), (0, 2), (0, 1), (0, 0), (0, 0), (0, 0), (0, 0), (0, 0)] := by decide +kernel
end GlowW
end Go.Proofs.YtbkadecfmjjadaaDoor
