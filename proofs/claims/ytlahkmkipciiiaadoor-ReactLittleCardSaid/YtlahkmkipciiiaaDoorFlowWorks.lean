/-
  works: a source over Air; same: are two deeds the same?
-/
import Derived.Test.YtlahkmkipciiiaaDoorFlowNx
namespace Go.Proofs.YtlahkmkipciiiaaDoor
open Go.RowKit
set_option linter.unusedVariables false
set_option linter.unusedSimpArgs false
namespace FlowW
open BlkP RowG FrS PushG FlowP
def src0 : Nr := {nz with s := (13, 0)}
theorem deed_src : deed src0 = [(6, (13, 1))] := by decide
end FlowW
end Go.Proofs.YtlahkmkipciiiaaDoor
