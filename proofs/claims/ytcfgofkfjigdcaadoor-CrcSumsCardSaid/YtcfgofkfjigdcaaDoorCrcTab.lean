/-
  The table of package crc, out of what the rows list: where the variable reads as listed, its cells are known.
-/
import Derived.Test.YtcfgofkfjigdcaaDoorTie
import Derived.Test.YtcfgofkfjigdcaaDoorCrcSmall
import Derived.ProofKit
import Derived.LaidMore
import Derived.OpenShut
import Derived.Lib.LaidTab
namespace Go.Proofs.YtcfgofkfjigdcaaDoor
open Go.ChangeShapes Go.WideShapes Go.ChangeAt Go.RowKit
set_option maxRecDepth 100000
namespace CrcW
open CrcP
/-- The variable's name. -/
def tabName : String := (Rows.crcKnownRow.laid.map (·.1)).headD default
theorem gTab : Tryd.prog.globalNamed tabName = some 0 := by kernel_rfl
theorem tTab : (Tryd.prog.globals[0]?).map (·.type) = some 36 := by kernel_rfl
theorem data_eq : (Rows.laid_bedrock_crc_halves : DataW Unit) = Lib.tabData .u32 ((List.range 16).map hv) := by kernel_rfl
theorem tab_of_parts {W : World} {g0 : Nat} {t0 : TypeId} {cs0 : Array Value} {f0 : Nat} {p0 : List MemPlace} (hg0 : Tryd.prog.globalNamed tabName = some g0) (ht0 : (Tryd.prog.globals[g0]?).map (·.type) = some t0) (hv0 : W.var? Tryd.prog tabName = some cs0) (hd0 : DataW.trod (fun _ => ()) Tryd.prog W 0 (fun _ => true) false f0 t0 cs0.toList = some (Rows.laid_bedrock_crc_halves, p0)) : Tab W := by
  obtain rfl := Option.some.inj (gTab.symm.trans hg0)
  obtain rfl := Option.some.inj (tTab.symm.trans ht0)
  rw [data_eq] at hd0
  have hcs := Lib.cells_of_tab Tryd.underlying36 Tryd.underlying23 (by kernel_rfl) (by kernel_rfl) hd0
  have at_ : ∀ k, k < 16 → cs0[k]? = some (.int .u32 (hv k)) := by
    intro k hk
    rw [← Array.getElem?_toList, hcs]
    simp [hk]
  have cell := World.var?_cell hg0 hv0
  refine ⟨fun k hk => (cell _).trans (at_ k hk), ?_⟩
  exact World.block_lt_of_cell? W ⟨0, 0, none⟩ ((cell 0).trans (at_ 0 (by decide)))
theorem tab_of_laid {W : World} (h : laidMetH Tryd.prog Rows.crcKnownRow.laid W) : Tab W := by
  rw [MakeChecks.laidMetH_plain _ _ _ (by kernel_rfl)] at h
  obtain ⟨ps, ⟨g0, t0, cs0, f0, p0, q0, hg0, ht0, hv0, hd0, _, _⟩, _, _⟩ := h
  exact tab_of_parts hg0 ht0 hv0 hd0
/-- The door's own heap meets the condition. -/
theorem door_met (os : Os) (args : Array Value) : laidMetH Tryd.prog Rows.crcKnownRow.laid ((World.doorLaid Tryd.prog 400 os).forCall (fun _ _ => 0) ⟨#[], args, []⟩).memory :=
  laidMetH_of_parts3 (fuel := 8) (laidMet_of_run' 8 (by kernel_rfl) (by kernel_rfl)) (by kernel_rfl) (by kernel_rfl)
end CrcW
end Go.Proofs.YtcfgofkfjigdcaaDoor
