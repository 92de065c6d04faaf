/-
  The listed variables of stage 20's cards (the library's tables for UTF-8, which no walk reads): the witness's heap.
-/
import Derived.Test.YtjcmpcdalghniaaDoorCards
import Derived.Test.YtjcmpcdalghniaaDoorTie
import Derived.OpenShut
import Derived.Lay
import Derived.LaidSub
import Derived.Test.YtjcmpcdalghniaaDoorRows
import Derived.SevenTiedAt
namespace Go.Proofs.YtjcmpcdalghniaaDoor
open Go.RowKit
namespace SecW
theorem own : ownKnob Tryd.prog.godebug = none := by kernel_rfl
theorem laidOut : laidOutB Tryd.prog = true := by kernel_rfl
/-- A heap that is laid out as listed meets the condition. -/
theorem door_sectorPlays (os : Os) (args : Array Value) : laidMetH Tryd.prog Rows.sectorPlaysRow.laid ((World.laidAll Tryd.prog os Rows.sectorPlaysRow.laid).forCall (fun _ _ => 0) ⟨#[], args, []⟩).memory := by
  rw [MakeChecks.laidMetH_plain _ _ _ (by kernel_rfl)]
  exact laidMet_laidAll _ (by kernel_rfl) (by kernel_rfl)
/-- A heap that is laid out as listed meets the condition. -/
theorem door_sectorCuts (os : Os) (args : Array Value) : laidMetH Tryd.prog Rows.sectorCutsRow.laid ((World.laidAll Tryd.prog os Rows.sectorCutsRow.laid).forCall (fun _ _ => 0) ⟨#[], args, []⟩).memory := by
  rw [MakeChecks.laidMetH_plain _ _ _ (by kernel_rfl)]
  exact laidMet_laidAll _ (by kernel_rfl) (by kernel_rfl)
/-- A heap that is laid out as listed meets the condition. -/
theorem door_sectorLast (os : Os) (args : Array Value) : laidMetH Tryd.prog Rows.sectorLastRow.laid ((World.laidAll Tryd.prog os Rows.sectorLastRow.laid).forCall (fun _ _ => 0) ⟨#[], args, []⟩).memory := by
  rw [MakeChecks.laidMetH_plain _ _ _ (by kernel_rfl)]
  exact laidMet_laidAll _ (by kernel_rfl) (by kernel_rfl)
/-- A heap that is laid out as listed meets the condition. -/
theorem door_sectorApart (os : Os) (args : Array Value) : laidMetH Tryd.prog Rows.sectorApartRow.laid ((World.laidAll Tryd.prog os Rows.sectorApartRow.laid).forCall (fun _ _ => 0) ⟨#[], args, []⟩).memory := by
  rw [MakeChecks.laidMetH_plain _ _ _ (by kernel_rfl)]
  exact laidMet_laidAll _ (by kernel_rfl) (by kernel_rfl)
/-- A heap that is laid out as listed meets the condition. -/
theorem door_sectorRefused (os : Os) (args : Array Value) : laidMetH Tryd.prog Rows.sectorRefusedRow.laid ((World.laidAll Tryd.prog os Rows.sectorRefusedRow.laid).forCall (fun _ _ => 0) ⟨#[], args, []⟩).memory := by
  rw [MakeChecks.laidMetH_plain _ _ _ (by kernel_rfl)]
  exact laidMet_laidAll _ (by kernel_rfl) (by kernel_rfl)
/-- A heap that is laid out as listed meets the condition. -/
theorem door_sectorKnown (os : Os) (args : Array Value) : laidMetH Tryd.prog Rows.sectorKnownRow.laid ((World.laidAll Tryd.prog os Rows.sectorKnownRow.laid).forCall (fun _ _ => 0) ⟨#[], args, []⟩).memory := by
  rw [MakeChecks.laidMetH_plain _ _ _ (by kernel_rfl)]
  exact laidMet_laidAll _ (by kernel_rfl) (by kernel_rfl)
end SecW
end Go.Proofs.YtjcmpcdalghniaaDoor
