/-
  The listed variables of stage 22's cards: math/bits' table and package crc's are known where they read as listed; the witness's heap.
-/
import Derived.Test.YtbnkaeigabifhaaDoorCards
import Derived.Test.YtbnkaeigabifhaaDoorTie
import Derived.Test.YtbnkaeigabifhaaDoorFreeBits
import Derived.ProofKit
import Derived.LaidMore
import Derived.OpenShut
import Derived.Lay
import Derived.LaidSub
import Derived.Lib.LaidTab
import Derived.Test.YtbnkaeigabifhaaDoorRows
import Derived.SevenTiedAt
namespace Go.Proofs.YtbnkaeigabifhaaDoor
-- mine: whole_c same_c awake_c take_c step_c back_c Made number_c next_c fixed_c clone_c int_c end_c put_c
open Go.ChangeShapes Go.WideShapes Go.ChangeAt Go.RowKit
set_option maxRecDepth 100000
namespace FreW
open CrcP CrcW
theorem own : ownKnob Tryd.prog.godebug = none := by kernel_rfl
theorem laidOut : laidOutB Tryd.prog = true := by kernel_rfl
/-- The variables' names. -/
def tabName : String := (Rows.freemapHomesRow.laid.map (·.1)).headD default
def tabNameZ : String := (Rows.freemapLeastRow.laid.map (·.1)).headD default
theorem gTab : Tryd.prog.globalNamed tabName = some 1 := by kernel_rfl
theorem tTab : (Tryd.prog.globals[1]?).map (·.type) = some 81 := by kernel_rfl
theorem data_eq : (Rows.laid_bedrock_crc_halves : DataW Unit) = Lib.tabData .u32 ((List.range 16).map hv) := by kernel_rfl
theorem tab_of_parts {W : World} {g0 : Nat} {t0 : TypeId} {cs0 : Array Value} {f0 : Nat} {p0 : List MemPlace} (hg0 : Tryd.prog.globalNamed tabName = some g0) (ht0 : (Tryd.prog.globals[g0]?).map (·.type) = some t0) (hv0 : W.var? Tryd.prog tabName = some cs0) (hd0 : DataW.trod (fun _ => ()) Tryd.prog W 0 (fun _ => true) false f0 t0 cs0.toList = some (Rows.laid_bedrock_crc_halves, p0)) : Tab W := by
  obtain rfl := Option.some.inj (gTab.symm.trans hg0)
  obtain rfl := Option.some.inj (tTab.symm.trans ht0)
  rw [data_eq] at hd0
  have hcs := Lib.cells_of_tab Tryd.underlying81 Tryd.underlying67 (by kernel_rfl) (by kernel_rfl) hd0
  have at_ : ∀ k, k < 16 → cs0[k]? = some (.int .u32 (hv k)) := by
    intro k hk
    rw [← Array.getElem?_toList, hcs]
    simp [hk]
  have cell := World.var?_cell hg0 hv0
  refine ⟨fun k hk => (cell _).trans (at_ k hk), ?_⟩
  exact World.block_lt_of_cell? W ⟨1, 0, none⟩ ((cell 0).trans (at_ 0 (by decide)))
theorem gTabZ : Tryd.prog.globalNamed tabNameZ = some 0 := by kernel_rfl
theorem tTabZ : (Tryd.prog.globals[0]?).map (·.type) = some 74 := by kernel_rfl
theorem data_eqZ : (Rows.laid_math_bits_deBruijn64tab : DataW Unit) = Lib.tabData .u8 ((List.range 64).map fun j => ((Lib.deBruijn64tab.getD j 0 : Nat) : Int)) := by kernel_rfl
theorem tabZ_of_parts {W : World} {g0 : Nat} {t0 : TypeId} {cs0 : Array Value} {f0 : Nat} {p0 : List MemPlace} (hg0 : Tryd.prog.globalNamed tabNameZ = some g0) (ht0 : (Tryd.prog.globals[g0]?).map (·.type) = some t0) (hv0 : W.var? Tryd.prog tabNameZ = some cs0) (hd0 : DataW.trod (fun _ => ()) Tryd.prog W 0 (fun _ => true) false f0 t0 cs0.toList = some (Rows.laid_math_bits_deBruijn64tab, p0)) : TabZ W := by
  obtain rfl := Option.some.inj (gTabZ.symm.trans hg0)
  obtain rfl := Option.some.inj (tTabZ.symm.trans ht0)
  rw [data_eqZ] at hd0
  have hcs := Lib.cells_of_tab Tryd.underlying74 Tryd.underlying5 (by kernel_rfl) (by kernel_rfl) hd0
  have at_ : ∀ k, k < 64 → cs0[k]? = some (.int .u8 ((Lib.deBruijn64tab.getD k 0 : Nat) : Int)) := by
    intro k hk
    rw [← Array.getElem?_toList, hcs]
    simp [hk]
  have cell := World.var?_cell hg0 hv0
  refine ⟨fun k hk => (cell _).trans (at_ k hk), ?_⟩
  exact World.block_lt_of_cell? W ⟨0, 0, none⟩ ((cell 0).trans (at_ 0 (by decide)))
theorem tab_of_Plays {W : World} (h : laidMetH Tryd.prog Rows.freemapPlaysRow.laid W) : TabZ W := by
  rw [MakeChecks.laidMetH_plain _ _ _ (by kernel_rfl)] at h
  obtain ⟨ps, ⟨g0, t0, cs0, f0, p0, q0, hg0, ht0, hv0, hd0, _, _⟩, _⟩ := h
  exact tabZ_of_parts hg0 ht0 hv0 hd0
/-- A heap that is laid out as listed meets the condition. -/
theorem door_Plays (os : Os) (args : Array Value) : laidMetH Tryd.prog Rows.freemapPlaysRow.laid ((World.laidAll Tryd.prog os Rows.freemapPlaysRow.laid).forCall (fun _ _ => 0) ⟨#[], args, []⟩).memory := by
  rw [MakeChecks.laidMetH_plain _ _ _ (by kernel_rfl)]
  exact laidMet_laidAll _ (by kernel_rfl) (by kernel_rfl)
theorem tab_of_Least {W : World} (h : laidMetH Tryd.prog Rows.freemapLeastRow.laid W) : TabZ W := by
  rw [MakeChecks.laidMetH_plain _ _ _ (by kernel_rfl)] at h
  obtain ⟨ps, ⟨g0, t0, cs0, f0, p0, q0, hg0, ht0, hv0, hd0, _, _⟩, _⟩ := h
  exact tabZ_of_parts hg0 ht0 hv0 hd0
/-- A heap that is laid out as listed meets the condition. -/
theorem door_Least (os : Os) (args : Array Value) : laidMetH Tryd.prog Rows.freemapLeastRow.laid ((World.laidAll Tryd.prog os Rows.freemapLeastRow.laid).forCall (fun _ _ => 0) ⟨#[], args, []⟩).memory := by
  rw [MakeChecks.laidMetH_plain _ _ _ (by kernel_rfl)]
  exact laidMet_laidAll _ (by kernel_rfl) (by kernel_rfl)
theorem tab_of_Adds {W : World} (h : laidMetH Tryd.prog Rows.freemapAddsRow.laid W) : TabZ W := by
  rw [MakeChecks.laidMetH_plain _ _ _ (by kernel_rfl)] at h
  obtain ⟨ps, ⟨g0, t0, cs0, f0, p0, q0, hg0, ht0, hv0, hd0, _, _⟩, _⟩ := h
  exact tabZ_of_parts hg0 ht0 hv0 hd0
/-- A heap that is laid out as listed meets the condition. -/
theorem door_Adds (os : Os) (args : Array Value) : laidMetH Tryd.prog Rows.freemapAddsRow.laid ((World.laidAll Tryd.prog os Rows.freemapAddsRow.laid).forCall (fun _ _ => 0) ⟨#[], args, []⟩).memory := by
  rw [MakeChecks.laidMetH_plain _ _ _ (by kernel_rfl)]
  exact laidMet_laidAll _ (by kernel_rfl) (by kernel_rfl)
theorem tab_of_Homes {W : World} (h : laidMetH Tryd.prog Rows.freemapHomesRow.laid W) : Tab W ∧ TabZ W := by
  rw [MakeChecks.laidMetH_plain _ _ _ (by kernel_rfl)] at h
  obtain ⟨ps, ⟨g0, t0, cs0, f0, p0, q0, hg0, ht0, hv0, hd0, ⟨g1, t1, cs1, f1, p1, q1, hg1, ht1, hv1, hd1, _, _⟩, _⟩, _, _⟩ := h
  exact ⟨tab_of_parts hg0 ht0 hv0 hd0, tabZ_of_parts hg1 ht1 hv1 hd1⟩
/-- A heap that is laid out as listed meets the condition. -/
theorem door_Homes (os : Os) (args : Array Value) : laidMetH Tryd.prog Rows.freemapHomesRow.laid ((World.laidAll Tryd.prog os Rows.freemapHomesRow.laid).forCall (fun _ _ => 0) ⟨#[], args, []⟩).memory := by
  rw [MakeChecks.laidMetH_plain _ _ _ (by kernel_rfl)]
  exact laidMet_laidAll _ (by kernel_rfl) (by kernel_rfl)
theorem tab_of_Leads {W : World} (h : laidMetH Tryd.prog Rows.freemapLeadsRow.laid W) : Tab W ∧ TabZ W := by
  rw [MakeChecks.laidMetH_plain _ _ _ (by kernel_rfl)] at h
  obtain ⟨ps, ⟨g0, t0, cs0, f0, p0, q0, hg0, ht0, hv0, hd0, ⟨g1, t1, cs1, f1, p1, q1, hg1, ht1, hv1, hd1, _, _⟩, _⟩, _, _⟩ := h
  exact ⟨tab_of_parts hg0 ht0 hv0 hd0, tabZ_of_parts hg1 ht1 hv1 hd1⟩
/-- A heap that is laid out as listed meets the condition. -/
theorem door_Leads (os : Os) (args : Array Value) : laidMetH Tryd.prog Rows.freemapLeadsRow.laid ((World.laidAll Tryd.prog os Rows.freemapLeadsRow.laid).forCall (fun _ _ => 0) ⟨#[], args, []⟩).memory := by
  rw [MakeChecks.laidMetH_plain _ _ _ (by kernel_rfl)]
  exact laidMet_laidAll _ (by kernel_rfl) (by kernel_rfl)
theorem tab_of_Back {W : World} (h : laidMetH Tryd.prog Rows.freemapBackRow.laid W) : Tab W ∧ TabZ W := by
  rw [MakeChecks.laidMetH_plain _ _ _ (by kernel_rfl)] at h
  obtain ⟨ps, ⟨g0, t0, cs0, f0, p0, q0, hg0, ht0, hv0, hd0, ⟨g1, t1, cs1, f1, p1, q1, hg1, ht1, hv1, hd1, _, _⟩, _⟩, _, _⟩ := h
  exact ⟨tab_of_parts hg0 ht0 hv0 hd0, tabZ_of_parts hg1 ht1 hv1 hd1⟩
/-- A heap that is laid out as listed meets the condition. -/
theorem door_Back (os : Os) (args : Array Value) : laidMetH Tryd.prog Rows.freemapBackRow.laid ((World.laidAll Tryd.prog os Rows.freemapBackRow.laid).forCall (fun _ _ => 0) ⟨#[], args, []⟩).memory := by
  rw [MakeChecks.laidMetH_plain _ _ _ (by kernel_rfl)]
  exact laidMet_laidAll _ (by kernel_rfl) (by kernel_rfl)
theorem tab_of_Turned {W : World} (h : laidMetH Tryd.prog Rows.freemapTurnedRow.laid W) : Tab W ∧ TabZ W := by
  rw [MakeChecks.laidMetH_plain _ _ _ (by kernel_rfl)] at h
  obtain ⟨ps, ⟨g0, t0, cs0, f0, p0, q0, hg0, ht0, hv0, hd0, ⟨g1, t1, cs1, f1, p1, q1, hg1, ht1, hv1, hd1, _, _⟩, _⟩, _, _⟩ := h
  exact ⟨tab_of_parts hg0 ht0 hv0 hd0, tabZ_of_parts hg1 ht1 hv1 hd1⟩
/-- A heap that is laid out as listed meets the condition. -/
theorem door_Turned (os : Os) (args : Array Value) : laidMetH Tryd.prog Rows.freemapTurnedRow.laid ((World.laidAll Tryd.prog os Rows.freemapTurnedRow.laid).forCall (fun _ _ => 0) ⟨#[], args, []⟩).memory := by
  rw [MakeChecks.laidMetH_plain _ _ _ (by kernel_rfl)]
  exact laidMet_laidAll _ (by kernel_rfl) (by kernel_rfl)
theorem tab_of_Known {W : World} (h : laidMetH Tryd.prog Rows.freemapKnownRow.laid W) : Tab W ∧ TabZ W := by
  rw [MakeChecks.laidMetH_plain _ _ _ (by kernel_rfl)] at h
  obtain ⟨ps, ⟨g0, t0, cs0, f0, p0, q0, hg0, ht0, hv0, hd0, ⟨g1, t1, cs1, f1, p1, q1, hg1, ht1, hv1, hd1, _, _⟩, _⟩, _, _⟩ := h
  exact ⟨tab_of_parts hg0 ht0 hv0 hd0, tabZ_of_parts hg1 ht1 hv1 hd1⟩
/-- A heap that is laid out as listed meets the condition. -/
theorem door_Known (os : Os) (args : Array Value) : laidMetH Tryd.prog Rows.freemapKnownRow.laid ((World.laidAll Tryd.prog os Rows.freemapKnownRow.laid).forCall (fun _ _ => 0) ⟨#[], args, []⟩).memory := by
  rw [MakeChecks.laidMetH_plain _ _ _ (by kernel_rfl)]
  exact laidMet_laidAll _ (by kernel_rfl) (by kernel_rfl)
end FreW
end Go.Proofs.YtbnkaeigabifhaaDoor
