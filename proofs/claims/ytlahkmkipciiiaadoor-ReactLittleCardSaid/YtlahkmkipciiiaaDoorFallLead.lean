/-
  leading: how many stand at a row's beginning of which a function holds: of yields, of movable.
-/
import Derived.Test.YtlahkmkipciiiaaDoorFallMem
namespace Go.Proofs.YtlahkmkipciiiaaDoor
open Go.RowKit
set_option linter.unusedVariables false
set_option linter.unusedSimpArgs false
namespace FallW
open BlkP RowG FrS PushG CellsW NearW
open FallP hiding Cl
end FallW
end Go.Proofs.YtlahkmkipciiiaaDoor
