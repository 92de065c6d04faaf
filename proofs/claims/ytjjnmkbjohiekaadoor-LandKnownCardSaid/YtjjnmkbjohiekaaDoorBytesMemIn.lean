/-
  Bytes in memory, within a fence (a row with a record, a loop's round): the operations on slices of bytes, as laws for the fenced walk.
-/
import Derived.OwnWalkIn
import Derived.TacticsInMore
import Derived.Maps.OwnIn
import Derived.RangeFuncBox
import Derived.Test.YtjjnmkbjohiekaaDoorBytesMem
namespace Go.Proofs.YtjjnmkbjohiekaaDoor
open Go.RowKit
set_option linter.unusedVariables false
set_option linter.unusedSimpArgs false
namespace BytesW

/-- Succeeds, and does nothing, where the operation at hand writes slot t. -/
theorem gi_slot (t : Tmp) {F : Fence} {n : Nat} {P : Program} {w : World} {ops : Array Oper} {rest : List Oper} {a : Act} {Q : Exit → Act → World → Prop} {op : Op} {ty : TypeId} {pos : String} {af : _} {g : _} (h : wpListIn F n P ops Q ((⟨some t, op, ty, pos, af, g⟩ : Oper) :: rest) a w) : wpListIn F n P ops Q ((⟨some t, op, ty, pos, af, g⟩ : Oper) :: rest) a w := h

section
variable {F : Fence} {nF : Nat} {w : World} {ops : Array Oper} {rest : List Oper} {o : Oper} {a : Act} {Q : Exit → Act → World → Prop}
end
end BytesW
end Go.Proofs.YtjjnmkbjohiekaaDoor
