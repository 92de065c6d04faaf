/-
  The listed variables of stage 21's cards: package crc's table is known where it reads as listed; the witness's heap.
-/
import Derived.Test.YtknckaegpdganaaDoorCards
import Derived.Test.YtknckaegpdganaaDoorTie
import Derived.Test.YtknckaegpdganaaDoorCrcSmall
import Derived.ProofKit
import Derived.LaidMore
import Derived.OpenShut
import Derived.Lay
import Derived.LaidSub
import Derived.Lib.LaidTab
import Derived.Test.YtknckaegpdganaaDoorRows
import Derived.SevenTiedAt
namespace Go.Proofs.YtknckaegpdganaaDoor
-- mine: whole_c same_c awake_c take_c step_c back_c
open Go.ChangeShapes Go.WideShapes Go.ChangeAt Go.RowKit
set_option maxRecDepth 100000
namespace JouW
open CrcP CrcW
theorem own : ownKnob Tryd.prog.godebug = none := by kernel_rfl
theorem laidOut : laidOutB Tryd.prog = true := by kernel_rfl
/-- The variable's name. -/
def tabName : String := (Rows.journalPutsRow.laid.map (·.1)).headD default
theorem gTab : Tryd.prog.globalNamed tabName = some 1 := by kernel_rfl
theorem tTab : (Tryd.prog.globals[1]?).map (·.type) = some 157 := by kernel_rfl
theorem data_eq : (Rows.laid_bedrock_crc_halves : DataW Unit) = Lib.tabData .u32 ((List.range 16).map hv) := by kernel_rfl
theorem tab_of_parts {W : World} {g0 : Nat} {t0 : TypeId} {cs0 : Array Value} {f0 : Nat} {p0 : List MemPlace} (hg0 : Tryd.prog.globalNamed tabName = some g0) (ht0 : (Tryd.prog.globals[g0]?).map (·.type) = some t0) (hv0 : W.var? Tryd.prog tabName = some cs0) (hd0 : DataW.trod (fun _ => ()) Tryd.prog W 0 (fun _ => true) false f0 t0 cs0.toList = some (Rows.laid_bedrock_crc_halves, p0)) : Tab W := by
  obtain rfl := Option.some.inj (gTab.symm.trans hg0)
  obtain rfl := Option.some.inj (tTab.symm.trans ht0)
  rw [data_eq] at hd0
  have hcs := Lib.cells_of_tab Tryd.underlying157 Tryd.underlying110 (by kernel_rfl) (by kernel_rfl) hd0
  have at_ : ∀ k, k < 16 → cs0[k]? = some (.int .u32 (hv k)) := by
    intro k hk
    rw [← Array.getElem?_toList, hcs]
    simp [hk]
  have cell := World.var?_cell hg0 hv0
  refine ⟨fun k hk => (cell _).trans (at_ k hk), ?_⟩
  exact World.block_lt_of_cell? W ⟨1, 0, none⟩ ((cell 0).trans (at_ 0 (by decide)))
theorem tab_of_Puts {W : World} (h : laidMetH Tryd.prog Rows.journalPutsRow.laid W) : Tab W := by
  rw [MakeChecks.laidMetH_plain _ _ _ (by kernel_rfl)] at h
  obtain ⟨ps, ⟨g0, t0, cs0, f0, p0, q0, hg0, ht0, hv0, hd0, _, _⟩, _⟩ := h
  exact tab_of_parts hg0 ht0 hv0 hd0
/-- A heap that is laid out as listed meets the condition. -/
theorem door_journalPuts (os : Os) (args : Array Value) : laidMetH Tryd.prog Rows.journalPutsRow.laid ((World.laidAll Tryd.prog os Rows.journalPutsRow.laid).forCall (fun _ _ => 0) ⟨#[], args, []⟩).memory := by
  rw [MakeChecks.laidMetH_plain _ _ _ (by kernel_rfl)]
  exact laidMet_laidAll _ (by kernel_rfl) (by kernel_rfl)
theorem tab_of_Known {W : World} (h : laidMetH Tryd.prog Rows.journalKnownRow.laid W) : Tab W := by
  rw [MakeChecks.laidMetH_plain _ _ _ (by kernel_rfl)] at h
  obtain ⟨ps, ⟨g0, t0, cs0, f0, p0, q0, hg0, ht0, hv0, hd0, _, _⟩, _⟩ := h
  exact tab_of_parts hg0 ht0 hv0 hd0
/-- A heap that is laid out as listed meets the condition. -/
theorem door_journalKnown (os : Os) (args : Array Value) : laidMetH Tryd.prog Rows.journalKnownRow.laid ((World.laidAll Tryd.prog os Rows.journalKnownRow.laid).forCall (fun _ _ => 0) ⟨#[], args, []⟩).memory := by
  rw [MakeChecks.laidMetH_plain _ _ _ (by kernel_rfl)]
  exact laidMet_laidAll _ (by kernel_rfl) (by kernel_rfl)
theorem tab_of_Whole {W : World} (h : laidMetH Tryd.prog Rows.journalWholeRow.laid W) : Tab W := by
  rw [MakeChecks.laidMetH_plain _ _ _ (by kernel_rfl)] at h
  obtain ⟨ps, ⟨g0, t0, cs0, f0, p0, q0, hg0, ht0, hv0, hd0, _, _⟩, _⟩ := h
  exact tab_of_parts hg0 ht0 hv0 hd0
/-- A heap that is laid out as listed meets the condition. -/
theorem door_journalWhole (os : Os) (args : Array Value) : laidMetH Tryd.prog Rows.journalWholeRow.laid ((World.laidAll Tryd.prog os Rows.journalWholeRow.laid).forCall (fun _ _ => 0) ⟨#[], args, []⟩).memory := by
  rw [MakeChecks.laidMetH_plain _ _ _ (by kernel_rfl)]
  exact laidMet_laidAll _ (by kernel_rfl) (by kernel_rfl)
end JouW
end Go.Proofs.YtknckaegpdganaaDoor
